/-
  An iterator is gone over, with no call in its midst.
-/
import Derived.Test.YtofiidfnjgoenaaRounds
import Derived.Test.YtofiidfnjgoenaaNoPanic
import Derived.Test.YtofiidfnjgoenaaLawOrder
import Derived.Deep.DeepCutAuto
namespace Go.Proofs.Ytofiidfnjgoenaa
open Go Go.RowKit Go.Shelf
attribute [local go_sem] Oper.semAt_some ext_cell
theorem fn_nil (f : Fn) (a b : Array Value) (w : World) : (binOp .eql 35 (.func f a b) .nilFunc).run Try.prog w = .ok (.bool false) w := by kernel_rfl
attribute [local go_sem] fn_nil

/-- The boxes of over: the script's world, which set, the step. -/
structure OB (X wb : Nat) (k : Bool) (os : Array Value) (W : World) : Prop where
  w : Boxed W X 30 (.pointer (some ⟨wb, 0, none⟩))
  k : Boxed W (X + 1) 3 (.int .i64 (kN k : Int))
  o : W.heap[X + 1 + 1]? = some (.cells os 47 (0, 0))
theorem OB.kept {X wb : Nat} {k : Bool} {os : Array Value} {W W' : World} (h : OB X wb k os W) (hb : Below W.heap.size W W') : OB X wb k os W' := ⟨boxed_kept h.w hb, boxed_kept h.k hb, (hb.block _ (lt_of_heap h.o)).trans h.o⟩

set_option maxRecDepth 100000 in
set_option maxHeartbeats 1600000 in
theorem over0_in (n : Nat) (hn : 3 ≤ n) {w : World} {wb : Nat} {s : St} (h : WS w wb s) (heq : s.R = s.L) (k : Bool) (ab : Nat) (hB : Boxed w ab 23 (s.mv k)) (o0 o1 o2 lv tn o6 : Int) (wl : (Lit.int .i64 lv).wf = true) :
    CallsIn Fence.wide n Try.prog 28 #[.pointer (some ⟨wb, 0, none⟩), .int .i64 (kN k : Int), .func (.func 26) #[] #[.pointer (some ⟨ab, 0, none⟩)], .agg #[.int .i64 o0, .int .i64 o1, .int .i64 o2, .int .i64 lv, .int .i64 tn, .int .i64 0, .int .i64 o6]] w
      fun e W' => e = .returned (.bool true) ∧ Below w.heap.size w W' := by
  have h1 : 1 ≤ n := by omega
  have h2 : 1 ≤ n - 1 - 1 := by omega
  have hfn : ∀ f, Fence.wide.fn f := fun _ => trivial
  have H : Hid (WS w wb s) := h
  have HB : Hid (Boxed w ab 23 (s.mv k)) := hB
  have HPT : Hid (s.R k = s.L k) := (show s.R k = s.L k from by rw [heq])
  have kl := kN_lt k
  have i0 : (0 : Int) ≤ (kN k : Int) := by omega
  have i1 : (kN k : Int) < 2 := by omega
  clear h hB heq
  refine callsIn_of_wp_marks Try.func28 rfl trivial ?_ rfl
  simp only [Try.ntmps28, List.size_toArray, List.length_cons, List.length_nil, Nat.reduceAdd, Nat.reduceSub, Array.replicate_succ, Array.replicate_zero, List.push_toArray, List.append_toArray, List.nil_append, List.cons_append]
  refine wpIn_wide.2 (Code.wp_mono noPanicF_imp ?_)
  go_wp2
  obtain ⟨os, hos⟩ : ∃ os : Array Value, #[Value.int .i64 o0, .int .i64 o1, .int .i64 o2, .int .i64 lv, .int .i64 tn, .int .i64 0, .int .i64 o6] = os := ⟨_, rfl⟩
  have V1 := Boxed.new w 30 (.pointer (some ⟨wb, 0, none⟩))
  have V2 := Boxed.new (w.alloc (.cells #[.pointer (some ⟨wb, 0, none⟩)] 30)) 3 (.int .i64 (kN k : Int))
  have V3 := World.alloc_heap_new ((w.alloc (.cells #[.pointer (some ⟨wb, 0, none⟩)] 30)).alloc (.cells #[.int .i64 (kN k : Int)] 3)) (.cells os 47)
  have V4 := Boxed.new (((w.alloc (.cells #[.pointer (some ⟨wb, 0, none⟩)] 30)).alloc (.cells #[.int .i64 (kN k : Int)] 3)).alloc (.cells os 47)) 4 (.bool false)
  have hV : Below w.heap.size w ((((w.alloc (.cells #[.pointer (some ⟨wb, 0, none⟩)] 30)).alloc (.cells #[.int .i64 (kN k : Int)] 3)).alloc (.cells os 47)).alloc (.cells #[.bool false] 4)) := ((((Below.refl _ _).alloc (Nat.le_refl _) _).alloc (by simp) _).alloc (by simp; omega) _).alloc (by simp; omega) _
  have hVs : ((((w.alloc (.cells #[.pointer (some ⟨wb, 0, none⟩)] 30)).alloc (.cells #[.int .i64 (kN k : Int)] 3)).alloc (.cells os 47)).alloc (.cells #[.bool false] 4)).heap.size = w.heap.size + 1 + 1 + 1 + 1 := by simp
  simp only [World.size_alloc] at V2 V3 V4
  have OB0 : OB w.heap.size wb k os ((((w.alloc (.cells #[.pointer (some ⟨wb, 0, none⟩)] 30)).alloc (.cells #[.int .i64 (kN k : Int)] 3)).alloc (.cells os 47)).alloc (.cells #[.bool false] 4)) :=
    ⟨((V1.alloc _).alloc _).alloc _, (V2.alloc _).alloc _, (Below.heap_alloc _ _ _ (by simp)).trans V3⟩
  rw [hos]
  generalize ((((w.alloc (.cells #[.pointer (some ⟨wb, 0, none⟩)] 30)).alloc (.cells #[.int .i64 (kN k : Int)] 3)).alloc (.cells os 47)).alloc (.cells #[.bool false] 4)) = V at V4 hV hVs OB0 ⊢
  have HOB : Hid (OB w.heap.size wb k os V) := OB0
  have HBR : Hid (Boxed V (w.heap.size + 1 + 1 + 1) 4 (.bool false)) := V4
  have SV : Hid (WS V wb s) := H.out.kept hV
  have HV : Hid (Below w.heap.size w V) := hV
  have HOS : Hid (#[Value.int .i64 o0, .int .i64 o1, .int .i64 o2, .int .i64 lv, .int .i64 tn, .int .i64 0, .int .i64 o6] = os) := hos
  obtain ⟨q, cap, hq⟩ := (SV.out.r k).ho.slice
  have c1 := HOB.out.w.cell
  have c2 := HOB.out.k.cell
  have c3 := SV.out.cr k
  have c4 := (SV.out.r k).cell1
  rw [hq] at c4
  have l1 := HOB.out.w.lt
  have l2 := HOB.out.k.lt
  have l3 := lt_of_heap SV.out.hb
  have l4 := (SV.out.r k).ltb
  have OV : Hid (OwnI V 0 (.slice q (s.R k).length cap) (s.R k)) := (show OwnI V 0 (.slice q (s.R k).length cap) (s.R k) from by rw [← hq]; exact (SV.out.r k).ho)
  have hrl := (SV.out.r k).hl
  have d1 := (World.cell?_of_block (a := ⟨w.heap.size, 0, none⟩) (Below.heap_alloc V (.cells #[.slice none 0 0] 41) _ l1)).trans c1
  have d2 := (World.cell?_of_block (a := ⟨w.heap.size + 1, 0, none⟩) (Below.heap_alloc V (.cells #[.slice none 0 0] 41) _ l2)).trans c2
  have d3 := (World.cell?_of_block (a := ⟨wb, 2 + kN k, none⟩) (Below.heap_alloc V (.cells #[.slice none 0 0] 41) _ l3)).trans c3
  have d4 := (World.cell?_of_block (a := ⟨s.rb k, 1, none⟩) (Below.heap_alloc V (.cells #[.slice none 0 0] 41) _ l4)).trans c4
  have HVs : Hid (V.heap.size = w.heap.size + 1 + 1 + 1 + 1) := hVs
  clear hos hq V1 V2 V3 V4 hV OB0 hVs
  go_cut [9] from 15 to 24 (fun c wx => ∃ Bw v', c = .pointer (some ⟨Bw, 0, none⟩) ∧ Boxed wx Bw 41 v' ∧ OwnI wx V.heap.size v' (s.L k) ∧ V.heap.size ≤ Bw ∧ Below V.heap.size V wx)
  case first =>
    go_region_law (first | (refine step_append_clone rfl _ rfl (.slice q (s.R k).length cap) (s.R k) (by simp [Act.eval]) (w := (V.alloc (.cells #[.slice none 0 0] 41)).drew) (World.ownsRow.alloc OV.out _) hrl ?_; intro v' w2 hown hgrow; obtain ⟨q2, cap2, rfl⟩ := hown.slice; have O2 : Hid (OwnI w2 V.heap.size (.slice q2 (s.R k).length cap2) (s.R k)) := hown.base (by simp); have B2 : Hid (Below V.heap.size V w2) := ((Below.refl _ _).alloc (Nat.le_refl _) _).drew.trans ((below_of_grown hgrow).mono (by simp)); have X2 : Hid (Boxed w2 V.heap.size 41 (.slice none 0 0)) := boxed_kept (show Boxed (V.alloc (.cells #[.slice none 0 0] 41)).drew V.heap.size 41 (.slice none 0 0) from Boxed.new V _ _) (below_of_grown hgrow); clear hown hgrow; have x2 := X2.out.cell; have y2 := X2.out.frozen) | (refine step_append_clone rfl _ rfl (.slice q (s.R k).length cap) (s.R k) (by simp [Act.eval]) (w := V.drew) OV.out hrl ?_; intro v' w2 hown hgrow; obtain ⟨q2, cap2, rfl⟩ := hown.slice; have O2 : Hid (OwnI w2 V.heap.size (.slice q2 (s.R k).length cap2) (s.R k)) := hown; have B2 : Hid (Below V.heap.size V w2) := (Below.refl _ _).drew.trans (below_of_grown hgrow); clear hown hgrow))
    all_goals go_wp2_with fail
    all_goals go_meet
    all_goals first
      | exact ⟨w2.heap.size, _, rfl, Boxed.new w2 _ _, by rw [← HPT.out]; exact World.ownsRow.alloc O2.out _, B2.out.size, B2.out.alloc B2.out.size _⟩
      | exact ⟨V.heap.size, _, rfl, boxed_set X2.out _, by rw [← HPT.out]; exact O2.out.setBox X2.out (by decide), Nat.le_refl _, B2.out.setCell (Nat.le_refl _) _⟩
  case rest =>
    obtain ⟨Bw, v', rfl, hbw, how, hle, hbl⟩ := hcut
    have hlL : (s.L k).length ≤ 100000 := by rw [← HPT.out]; exact hrl
    clear c1 c2 c3 c4 d1 d2 d3 d4 l3 l4 OV hrl
    go_wp2
    have bN := Boxed.new wc 3 (.int .i64 0)
    have hV0 : Below wc.heap.size wc (wc.alloc (.cells #[.int .i64 0] 3)) := (Below.refl _ _).alloc (Nat.le_refl _) _
    have hsz : (wc.alloc (.cells #[.int .i64 0] 3)).heap.size = wc.heap.size + 1 := by simp
    generalize wc.alloc (.cells #[.int .i64 0] 3) = Y at bN hV0 hsz ⊢
    have BY : Below V.heap.size V Y := hbl.trans (hV0.mono hbl.size)
    have SY : Hid (WS Y wb s) := SV.out.kept BY
    have bA : Boxed Y ab 23 (s.mv k) := boxed_kept HB.out (HV.out.trans (BY.mono HV.out.size))
    have hs1 : Bw < wc.heap.size := hbw.lt
    have hs2 : w.heap.size + 1 + 1 + 1 + 1 ≤ wc.heap.size := by rw [← HVs.out]; exact hbl.size
    have hs3 : w.heap.size + 1 + 1 + 1 + 1 ≤ Bw := by rw [← HVs.out]; exact hle
    have BF : Hid (Below w.heap.size w Y) := HV.out.trans (BY.mono HV.out.size)
    have XW : Hid (∀ W, Below wc.heap.size Y W → OB w.heap.size wb k os W ∧ Boxed W (w.heap.size + 1 + 1 + 1) 4 (.bool false) ∧ Boxed W Bw 41 v' ∧ OwnI W V.heap.size v' (s.L k)) := fun W hW =>
      have hh : Below wc.heap.size wc W := hV0.trans hW
      have h2 : Below V.heap.size V W := hbl.trans (hh.mono hbl.size)
      ⟨HOB.out.kept h2, boxed_kept HBR.out h2, boxed_kept hbw hh, how.kept hh⟩
    obtain ⟨q', cap', rfl⟩ := how.slice
    clear hbw how hle hbl hV0 BY
    refine (wpIn_wide (n := n)).1 ?_
    refine all_range hn 11 26 ab (s.b k) (s.o k) (s.p k) (s.room k) (s.L k) rfl rfl bA (SY.out.m k)
      (fun pre W => Boxed W wc.heap.size 3 (.int .i64 pre.length) ∧ Below wc.heap.size Y W)
      (fun c pre W => pre <+: s.L k → c = .ret ∧ Boxed W (w.heap.size + 1 + 1 + 1) 4 (.bool true) ∧ Below w.heap.size w W)
      (OwnFrom.and (fun pre W W' row hs hg hr => cells_kept hg hr hs) (ownFrom_below (by omega) (by omega)))
      (fun c pre W W' row hs hg hr hp => ⟨(hs hp).1, cells_kept hg hr (hs hp).2.1, ownFrom_below (β := List Int) (n₀ := w.heap.size) (w₀ := w) (Nat.le_refl _) (by omega) pre W W' row (hs hp).2.2 hg hr⟩)
      ⟨bN, Below.refl _ _⟩ ?_ ?_ ?_ ?_
    · intro l x W K hK
      gi_wp2
      exact hK
    · rintro l pre x W ⟨hbx, hbe⟩ hlt
      obtain ⟨xb, xr, xw, xo⟩ := XW.out W hbe
      obtain ⟨y, hy⟩ : ∃ y, (s.L k)[pre.length]? = some y := ⟨_, List.getElem?_eq_getElem hlt⟩
      obtain ⟨g, cg, e, hg1, hg2, hcy⟩ := xo.cell hy
      cases e
      have c1 := hbx.cell
      have f1 := hbx.frozen
      have c2 := xw.cell
      have c3 := xr.cell
      have f3 := xr.frozen
      have c4 : W.cell? ⟨w.heap.size + 1 + 1, 5, none⟩ = some (.int .i64 0) := by rw [← HOS.out] at xb; simp [World.cell?, xb.o]
      have c5 : W.cell? ⟨w.heap.size + 1 + 1, 3, none⟩ = some (.int .i64 lv) := by rw [← HOS.out] at xb; simp [World.cell?, xb.o]
      have HX : Hid (Boxed W wc.heap.size 3 (.int .i64 pre.length)) := hbx
      have HXR : Hid (Boxed W (w.heap.size + 1 + 1 + 1) 4 (.bool false)) := xr
      have HY : Hid ((s.L k)[pre.length]? = some y) := hy
      have HBE : Hid (Below wc.heap.size Y W) := hbe
      have HOW : Hid (W.heap[w.heap.size + 1 + 1]? = some (.cells #[.int .i64 o0, .int .i64 o1, .int .i64 o2, .int .i64 lv, .int .i64 tn, .int .i64 0, .int .i64 o6] 47 (0, 0))) := (show _ from by rw [HOS.out]; exact xb.o)
      clear hbx hy xo xw xr xb hbe
      have i0 : (0 : Int) ≤ (pre.length : Int) := by omega
      have i1 : (pre.length : Int) < ((s.L k).length : Int) := by omega
      simp only [roundAct, List.setIfInBounds_toArray, List.set_cons_succ, List.set_cons_zero]
      by_cases hxy : x = y
      · have hxe : (x != y) = false := by simp [hxy]
        have hwr : IntKind.i64.wrap ((pre.length : Int) + 1) = (pre.length : Int) + 1 := by rw [IntKind.wrap_i64]; omega
        have l1 := HX.out.lt
        have l4 : w.heap.size + 1 + 1 < W.heap.size := lt_of_heap HOW.out
        gi_wp2
        refine wpIn_region_ext (by kernel_rfl) (by kernel_rfl) (by kernel_rfl) (fun ⟨_, _, h⟩ => h) ?_
        repeat (go_big_quiet_step (first | exact rfl))
        refine wpQuiet_nil ?_
        intro w5 hw
        have hb5 := ext_of hw
        clear hw
        have HX5 : Hid (Boxed w5 wc.heap.size 3 (.int .i64 pre.length)) := boxed_kept HX.out hb5
        have HXR5 : Hid (Boxed w5 (w.heap.size + 1 + 1 + 1) 4 (.bool false)) := boxed_kept HXR.out hb5
        have HOW5 : Hid (w5.heap[w.heap.size + 1 + 1]? = some (.cells #[.int .i64 o0, .int .i64 o1, .int .i64 o2, .int .i64 lv, .int .i64 tn, .int .i64 0, .int .i64 o6] 47 (0, 0))) := (hb5.block _ l4).trans HOW.out
        have HB5 : Hid (Below W.heap.size W w5) := hb5
        clear c1 f1 c2 c3 f3 c4 c5 hcy hb5
        have c1 := HX5.out.cell
        have f1 := HX5.out.frozen
        gi_wp2
        have HX6 : Hid (Boxed (w5.setCell ⟨wc.heap.size, 0, none⟩ (.int .i64 ((pre.length : Int) + 1))) wc.heap.size 3 (.int .i64 ((pre.length : Int) + 1))) := HX5.out.set _
        have HXR6 : Hid (Boxed (w5.setCell ⟨wc.heap.size, 0, none⟩ (.int .i64 ((pre.length : Int) + 1))) (w.heap.size + 1 + 1 + 1) 4 (.bool false)) := boxed_same HXR5.out (Below.heap_setCell _ _ _ _ (by simp; omega))
        have HOW6 : Hid ((w5.setCell ⟨wc.heap.size, 0, none⟩ (.int .i64 ((pre.length : Int) + 1))).heap[w.heap.size + 1 + 1]? = some (.cells #[.int .i64 o0, .int .i64 o1, .int .i64 o2, .int .i64 lv, .int .i64 tn, .int .i64 0, .int .i64 o6] 47 (0, 0))) := (Below.heap_setCell _ _ _ _ (by simp; omega)).trans HOW5.out
        have HF6 : Hid (Fr (fun j => j = wc.heap.size) W (w5.setCell ⟨wc.heap.size, 0, none⟩ (.int .i64 ((pre.length : Int) + 1)))) := Fr.setCell (S := fun j => j = wc.heap.size) (p := ⟨wc.heap.size, 0, none⟩) (Fr.of_below HB5.out) rfl _
        generalize w5.setCell ⟨wc.heap.size, 0, none⟩ (.int .i64 ((pre.length : Int) + 1)) = w6 at HX6 HXR6 HOW6 HF6 ⊢
        clear c1 f1 l1 l4 HX5 HXR5 HOW5 HB5 w5
        have c1 := HX6.out.cell
        have l1 := HX6.out.lt
        have l4 : w.heap.size + 1 + 1 < w6.heap.size := lt_of_heap HOW6.out
        have c5 : w6.cell? ⟨w.heap.size + 1 + 1, 3, none⟩ = some (.int .i64 lv) := by simp [World.cell?, HOW6.out]
        refine wpIn_region_ext (by kernel_rfl) (by kernel_rfl) (by kernel_rfl) (fun ⟨_, _, h⟩ => h) ?_
        repeat (go_big_quiet_step (first | exact rfl | (go_at_call 14; with_reducible exact ext_call_same (pick_i lv 9 (by decide) (by decide) wl _))))
        refine wpQuiet_nil ?_
        intro w7 hw
        have hb7 := ext_of hw
        clear hw
        have HX7 : Hid (Boxed w7 wc.heap.size 3 (.int .i64 ((pre.length : Int) + 1))) := boxed_kept HX6.out hb7
        have HXR7 : Hid (Boxed w7 (w.heap.size + 1 + 1 + 1) 4 (.bool false)) := boxed_kept HXR6.out hb7
        have HF7 : Hid (Fr (fun j => j = wc.heap.size) W w7) := HF6.out.trans (Fr.of_below hb7)
        have HB7 : Hid (Below wc.heap.size Y w7) := HBE.out.trans (HF7.out.below (Nat.le_trans (by omega) HBE.out.size) (fun j hj => by omega))
        clear c1 c5 l1 l4 hb7 HX6 HXR6 HOW6 HF6
        have c3 := HXR7.out.cell
        have f3 := HXR7.out.frozen
        gi_wp2
        · have hF8 : Fr (fun j => j = wc.heap.size ∨ j = w.heap.size + 1 + 1 + 1) W (w7.setCell ⟨w.heap.size + 1 + 1 + 1, 0, none⟩ (.bool true)) := Fr.setCell (S := fun j => j = wc.heap.size ∨ j = w.heap.size + 1 + 1 + 1) (p := ⟨w.heap.size + 1 + 1 + 1, 0, none⟩) (HF7.out.mono (fun _ => Or.inl)) (Or.inr rfl) _
          exact ⟨hF8.keepsFrom (fun j hj => by omega), fun _ => ⟨rfl, HXR7.out.set _, (BF.out.trans (HB7.out.mono (by omega))).setCell (by simp; omega) _⟩⟩
        · exact ⟨HF7.out.keepsFrom (fun j hj => by omega), HF7.out.ckeep (fun j hj => by omega), by simpa using HX7.out, HB7.out⟩
      · have hxe : (x != y) = true := by simp [hxy]
        have HNP : Hid (¬ pre ++ [x] <+: s.L k) := fun q => hxy (prefix_at q HY.out)
        gi_wp2
        have hFr : Fr (fun j => j = w.heap.size + 1 + 1 + 1) W (W.setCell ⟨w.heap.size + 1 + 1 + 1, 0, none⟩ (.bool false)) := Fr.setCell (S := fun j => j = w.heap.size + 1 + 1 + 1) (p := ⟨w.heap.size + 1 + 1 + 1, 0, none⟩) (Fr.refl _ _) rfl _
        exact ⟨hFr.keepsFrom (fun j hj => by omega), fun q => absurd q HNP.out⟩
    · rintro D W hD ⟨hbx, hbe⟩ hK
      obtain ⟨xb, xr, xw, _⟩ := XW.out W hbe
      simp only [behindAct]
      have c1 := hbx.cell
      have c2 := xw.cell
      have c3 := xr.cell
      have f3 := xr.frozen
      have HB2 : Hid (Below w.heap.size w (W.setCell ⟨w.heap.size + 1 + 1 + 1, 0, none⟩ (.bool true))) := (BF.out.trans (hbe.mono (by omega))).setCell (by simp; omega) _
      have HK : Hid ((W.setCell ⟨w.heap.size + 1 + 1 + 1, 0, none⟩ (.bool true)).heap[D]? = some (.deferred (some []))) := (Below.heap_setCell _ _ _ _ (by simp; omega)).trans hK
      have HR2 : Hid (Boxed (W.setCell ⟨w.heap.size + 1 + 1 + 1, 0, none⟩ (.bool true)) (w.heap.size + 1 + 1 + 1) 4 (.bool true)) := xr.set _
      clear hbx xr xw hK xb
      go_wp2
      refine ⟨by simp, .inl ⟨_, _, rfl, run_takeDeferred HK.out, ?_⟩⟩
      have cr := (boxed_same (W' := (W.setCell ⟨w.heap.size + 1 + 1 + 1, 0, none⟩ (.bool true)).putObj D (.deferred none)) HR2.out (World.putObj_heap_other (by omega))).cell
      exact ⟨.bool true, by simp [results, Try.results28, go_sem, cr], rfl, HB2.out.trans (belowK_b (w := w) (Nat.le_refl _) _ D _ _ (by omega) HK.out rfl rfl)⟩
    · rintro D c pre W hD hp h hK
      obtain ⟨rfl, hbr, hbe⟩ := h hp
      have HK : Hid (W.heap[D]? = some (.deferred (some []))) := hK
      simp only [behindAct]
      refine (wpIn_wide (n := n)).2 ?_
      go_wp2
      refine ⟨by simp, .inl ⟨_, _, rfl, run_takeDeferred HK.out, ?_⟩⟩
      have cr := (boxed_same (W' := W.putObj D (.deferred none)) hbr (World.putObj_heap_other (by omega))).cell
      exact ⟨.bool true, by simp [results, Try.results28, go_sem, cr], rfl, hbe.trans (belowK_b (w := w) (Nat.le_refl _) _ D _ _ (by omega) HK.out rfl rfl)⟩
end Go.Proofs.Ytofiidfnjgoenaa
