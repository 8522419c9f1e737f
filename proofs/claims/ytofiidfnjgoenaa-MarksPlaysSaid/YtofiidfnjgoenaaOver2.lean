/-
  An iterator is gone over, whatever is called in its midst.
-/
import Derived.Test.YtofiidfnjgoenaaMid
namespace Go.Proofs.Ytofiidfnjgoenaa
open Go Go.RowKit Go.Shelf
attribute [local go_sem] Oper.semAt_some ext_cell
attribute [local go_sem] fn_nil

/-- over's own variables, in the midst of the loop. -/
structure Ob (X wb Bn Bw D : Nat) (k : Bool) (os : Array Value) (m : Nat) (v : Value) (L : List Int) (W : World) : Prop where
  ob : OB X wb k os W
  br : Boxed W (X + 1 + 1 + 1) 4 (.bool false)
  bn : Boxed W Bn 3 (.int .i64 m)
  bw : Boxed W Bw 41 v
  row : OwnI W D v L
theorem Ob.kept {X wb Bn Bw D : Nat} {k : Bool} {os : Array Value} {m : Nat} {v : Value} {L : List Int} {W W' : World} (h : Ob X wb Bn Bw D k os m v L W) (hb : Below W.heap.size W W') : Ob X wb Bn Bw D k os m v L W' :=
  ⟨h.ob.kept hb, boxed_kept h.br hb, boxed_kept h.bn hb, boxed_kept h.bw hb, h.row.kept hb⟩
theorem Ob.fr {X wb Bn Bw D : Nat} {k : Bool} {os : Array Value} {m : Nat} {v : Value} {L : List Int} {W W' : World} {S : Nat → Prop} (h : Ob X wb Bn Bw D k os m v L W) (hf : Fr S W W') (hs : ∀ j, S j → j < X) (hn : X ≤ Bn) (hw : X ≤ Bw) (hd : X ≤ D) : Ob X wb Bn Bw D k os m v L W' :=
  have N : ∀ {j}, X ≤ j → ¬ S j := fun hj q => by have := hs _ q; omega
  ⟨⟨boxed_fr h.ob.w hf (N (Nat.le_refl _)), boxed_fr h.ob.k hf (N (by omega)), (hf.block _ (lt_of_heap h.ob.o) (N (by omega))).trans h.ob.o⟩, boxed_fr h.br hf (N (by omega)), boxed_fr h.bn hf (N hn), boxed_fr h.bw hf (N hw), h.row.fr hf (fun g hg => N (Nat.le_trans hd (h.row.lt g hg).1))⟩
theorem Ob.grown {X wb Bn Bw D B : Nat} {k : Bool} {os : Array Value} {m : Nat} {v : Value} {L : List Int} {W W' : World} {row : Option Nat} (h : Ob X wb Bn Bw D k os m v L W) (hg : W.grownBy W' row) (hr : ∀ r, row = some r → B ≤ r ∧ ∃ o : Obj, W.heap[r]? = some o ∧ o.isCells = false) : Ob X wb Bn Bw D k os m v L W' :=
  ⟨⟨cells_kept hg hr h.ob.w, cells_kept hg hr h.ob.k, cells_kept hg hr h.ob.o⟩, cells_kept hg hr h.br, cells_kept hg hr h.bn, cells_kept hg hr h.bw, h.row.fr ((Fr.refl (fun j => row = some j) _).grown hg (fun k e => e)) (fun g q e => by
    obtain ⟨c, hc⟩ := h.row.heap q
    obtain ⟨_, o, ho, hq⟩ := hr _ e
    rw [hc] at ho
    injection ho with ho
    subst ho
    simp [Obj.isCells] at hq)⟩
theorem Ob.next {X wb Bn Bw D : Nat} {k : Bool} {os : Array Value} {m : Nat} {v : Value} {L : List Int} {W : World} (h : Ob X wb Bn Bw D k os m v L W) (hn : X + 1 + 1 + 1 < Bn) (hw : Bw ≠ Bn) (hv : v.ownBlock ≠ some Bn) : Ob X wb Bn Bw D k os (m + 1) v L (W.setCell ⟨Bn, 0, none⟩ (.int .i64 ((m : Int) + 1))) :=
  have hf : Fr (fun j => j = Bn) W (W.setCell ⟨Bn, 0, none⟩ (.int .i64 ((m : Int) + 1))) := Fr.setCell (S := fun j => j = Bn) (p := ⟨Bn, 0, none⟩) (Fr.refl _ _) rfl _
  ⟨⟨boxed_fr h.ob.w hf (by omega), boxed_fr h.ob.k hf (by omega), (hf.block _ (lt_of_heap h.ob.o) (by omega)).trans h.ob.o⟩, boxed_fr h.br hf (by omega), by have := h.bn.set (.int .i64 ((m : Int) + 1)); simpa using this, boxed_fr h.bw hf hw, h.row.fr hf (fun g hg e => hv (by rw [hg, e]))⟩

theorem Nx.sep {n X B wb : Nat} {s s' : St} (h : Nx n s s') (hf : ∀ j, s.foot wb j → j < X) (h1 : X ≤ B) (h2 : B < n) : (∀ k, s'.o k ≠ B ∧ s'.p k ≠ B) ∧ ∀ k, (s'.v k).ownBlock ≠ some B := by
  refine ⟨fun k => ⟨fun e => ?_, fun e => ?_⟩, fun k e => ?_⟩
  · have := hf B (.inr (.inl ⟨k, .inr (.inl (by rw [← e, h.o]))⟩)); omega
  · have := hf B (.inr (.inl ⟨k, .inr (.inr (by rw [← e, h.p]))⟩)); omega
  · rcases h.v k with q | q | ⟨g, hg, q⟩
    · have := hf B (.inr (.inr (.inr (.inl ⟨k, by rw [← q, e]⟩)))); omega
    · rw [q] at e; cases e
    · rw [q] at e; injection e with e; omega

set_option linter.unusedSimpArgs false in
set_option maxRecDepth 100000 in
set_option maxHeartbeats 3200000 in
theorem over_in (n : Nat) (hn : 3 ≤ n) {w : World} {wb : Nat} {s : St} (h : WS w wb s) (heq : s.R = s.L) (hvl : s.vs.length ≤ 9000) (k : Bool) (ab : Nat) (hB : Boxed w ab 23 (s.mv k)) (o0 o1 o2 lv tn ii o6 : Int) (wl : (Lit.int .i64 lv).wf = true) (wt : (Lit.int .i64 tn).wf = true) :
    CallsIn Fence.wide n Try.prog 28 #[.pointer (some ⟨wb, 0, none⟩), .int .i64 (kN k : Int), .func (.func 26) #[] #[.pointer (some ⟨ab, 0, none⟩)], .agg #[.int .i64 o0, .int .i64 o1, .int .i64 o2, .int .i64 lv, .int .i64 tn, .int .i64 ii, .int .i64 o6]] w
      fun e W' => e = .returned (.bool true) ∧ ∃ s', WS W' wb s' ∧ s'.R = s'.L ∧ Nx w.heap.size s s' ∧ Fr (s.foot wb) w W' := by
  have h1 : 1 ≤ n := by omega
  have h2 : 1 ≤ n - 1 - 1 := by omega
  have hfn : ∀ f, Fence.wide.fn f := fun _ => trivial
  have H : Hid (WS w wb s) := h
  have HB : Hid (Boxed w ab 23 (s.mv k)) := hB
  have HEQ : Hid (s.R = s.L) := heq
  have HPT : Hid (s.R k = s.L k) := (show s.R k = s.L k from by rw [heq])
  have kl := kN_lt k
  have i0 : (0 : Int) ≤ (kN k : Int) := by omega
  have i1 : (kN k : Int) < 2 := by omega
  clear h hB heq
  refine callsIn_of_wp_marks Try.func28 rfl trivial ?_ rfl
  simp only [Try.ntmps28, List.size_toArray, List.length_cons, List.length_nil, Nat.reduceAdd, Nat.reduceSub, Array.replicate_succ, Array.replicate_zero, List.push_toArray, List.append_toArray, List.nil_append, List.cons_append]
  refine wpIn_wide.2 (Code.wp_mono noPanicF_imp ?_)
  go_wp2
  obtain ⟨os, hos⟩ : ∃ os : Array Value, #[Value.int .i64 o0, .int .i64 o1, .int .i64 o2, .int .i64 lv, .int .i64 tn, .int .i64 ii, .int .i64 o6] = os := ⟨_, rfl⟩
  have V1 := Boxed.new w 30 (.pointer (some ⟨wb, 0, none⟩))
  have V2 := Boxed.new (w.alloc (.cells #[.pointer (some ⟨wb, 0, none⟩)] 30)) 3 (.int .i64 (kN k : Int))
  have V3 := World.alloc_heap_new ((w.alloc (.cells #[.pointer (some ⟨wb, 0, none⟩)] 30)).alloc (.cells #[.int .i64 (kN k : Int)] 3)) (.cells os 47)
  have V4 := Boxed.new (((w.alloc (.cells #[.pointer (some ⟨wb, 0, none⟩)] 30)).alloc (.cells #[.int .i64 (kN k : Int)] 3)).alloc (.cells os 47)) 4 (.bool false)
  have hV : Below w.heap.size w ((((w.alloc (.cells #[.pointer (some ⟨wb, 0, none⟩)] 30)).alloc (.cells #[.int .i64 (kN k : Int)] 3)).alloc (.cells os 47)).alloc (.cells #[.bool false] 4)) := ((((Below.refl _ _).alloc (Nat.le_refl _) _).alloc (by simp) _).alloc (by simp; omega) _).alloc (by simp; omega) _
  have hVs : ((((w.alloc (.cells #[.pointer (some ⟨wb, 0, none⟩)] 30)).alloc (.cells #[.int .i64 (kN k : Int)] 3)).alloc (.cells os 47)).alloc (.cells #[.bool false] 4)).heap.size = w.heap.size + 1 + 1 + 1 + 1 := by simp
  simp only [World.size_alloc] at V2 V3 V4
  have OB0 : OB w.heap.size wb k os ((((w.alloc (.cells #[.pointer (some ⟨wb, 0, none⟩)] 30)).alloc (.cells #[.int .i64 (kN k : Int)] 3)).alloc (.cells os 47)).alloc (.cells #[.bool false] 4)) :=
    ⟨((V1.alloc _).alloc _).alloc _, (V2.alloc _).alloc _, (Below.heap_alloc _ _ _ (by simp)).trans V3⟩
  rw [hos]
  generalize ((((w.alloc (.cells #[.pointer (some ⟨wb, 0, none⟩)] 30)).alloc (.cells #[.int .i64 (kN k : Int)] 3)).alloc (.cells os 47)).alloc (.cells #[.bool false] 4)) = V at V4 hV hVs OB0 ⊢
  have HOB : Hid (OB w.heap.size wb k os V) := OB0
  have HBR : Hid (Boxed V (w.heap.size + 1 + 1 + 1) 4 (.bool false)) := V4
  have SV : Hid (WS V wb s) := H.out.kept hV
  have HV : Hid (Below w.heap.size w V) := hV
  have HOS : Hid (#[Value.int .i64 o0, .int .i64 o1, .int .i64 o2, .int .i64 lv, .int .i64 tn, .int .i64 ii, .int .i64 o6] = os) := hos
  obtain ⟨q, cap, hq⟩ := (SV.out.r k).ho.slice
  have c1 := HOB.out.w.cell
  have c2 := HOB.out.k.cell
  have c3 := SV.out.cr k
  have c4 := (SV.out.r k).cell1
  rw [hq] at c4
  have l1 := HOB.out.w.lt
  have l2 := HOB.out.k.lt
  have l3 := lt_of_heap SV.out.hb
  have l4 := (SV.out.r k).ltb
  have OV : Hid (OwnI V 0 (.slice q (s.R k).length cap) (s.R k)) := (show OwnI V 0 (.slice q (s.R k).length cap) (s.R k) from by rw [← hq]; exact (SV.out.r k).ho)
  have hrl := (SV.out.r k).hl
  have d1 := (World.cell?_of_block (a := ⟨w.heap.size, 0, none⟩) (Below.heap_alloc V (.cells #[.slice none 0 0] 41) _ l1)).trans c1
  have d2 := (World.cell?_of_block (a := ⟨w.heap.size + 1, 0, none⟩) (Below.heap_alloc V (.cells #[.slice none 0 0] 41) _ l2)).trans c2
  have d3 := (World.cell?_of_block (a := ⟨wb, 2 + kN k, none⟩) (Below.heap_alloc V (.cells #[.slice none 0 0] 41) _ l3)).trans c3
  have d4 := (World.cell?_of_block (a := ⟨s.rb k, 1, none⟩) (Below.heap_alloc V (.cells #[.slice none 0 0] 41) _ l4)).trans c4
  have HVs : Hid (V.heap.size = w.heap.size + 1 + 1 + 1 + 1) := hVs
  clear hos hq V1 V2 V3 V4 hV OB0 hVs
  go_cut [9] from 15 to 24 (fun c wx => ∃ Bw v', c = .pointer (some ⟨Bw, 0, none⟩) ∧ Boxed wx Bw 41 v' ∧ OwnI wx V.heap.size v' (s.L k) ∧ V.heap.size ≤ Bw ∧ Below V.heap.size V wx)
  case first =>
    go_region_law (first | (refine step_append_clone rfl _ rfl (.slice q (s.R k).length cap) (s.R k) (by simp [Act.eval]) (w := (V.alloc (.cells #[.slice none 0 0] 41)).drew) (World.ownsRow.alloc OV.out _) hrl ?_; intro v' w2 hown hgrow; obtain ⟨q2, cap2, rfl⟩ := hown.slice; have O2 : Hid (OwnI w2 V.heap.size (.slice q2 (s.R k).length cap2) (s.R k)) := hown.base (by simp); have B2 : Hid (Below V.heap.size V w2) := ((Below.refl _ _).alloc (Nat.le_refl _) _).drew.trans ((below_of_grown hgrow).mono (by simp)); have X2 : Hid (Boxed w2 V.heap.size 41 (.slice none 0 0)) := boxed_kept (show Boxed (V.alloc (.cells #[.slice none 0 0] 41)).drew V.heap.size 41 (.slice none 0 0) from Boxed.new V _ _) (below_of_grown hgrow); clear hown hgrow; have x2 := X2.out.cell; have y2 := X2.out.frozen) | (refine step_append_clone rfl _ rfl (.slice q (s.R k).length cap) (s.R k) (by simp [Act.eval]) (w := V.drew) OV.out hrl ?_; intro v' w2 hown hgrow; obtain ⟨q2, cap2, rfl⟩ := hown.slice; have O2 : Hid (OwnI w2 V.heap.size (.slice q2 (s.R k).length cap2) (s.R k)) := hown; have B2 : Hid (Below V.heap.size V w2) := (Below.refl _ _).drew.trans (below_of_grown hgrow); clear hown hgrow))
    all_goals go_wp2_with fail
    all_goals go_meet
    all_goals first
      | exact ⟨w2.heap.size, _, rfl, Boxed.new w2 _ _, by rw [← HPT.out]; exact World.ownsRow.alloc O2.out _, B2.out.size, B2.out.alloc B2.out.size _⟩
      | exact ⟨V.heap.size, _, rfl, boxed_set X2.out _, by rw [← HPT.out]; exact O2.out.setBox X2.out (by decide), Nat.le_refl _, B2.out.setCell (Nat.le_refl _) _⟩
  case rest =>
    obtain ⟨Bw, v', rfl, hbw, how, hle, hbl⟩ := hcut
    have hlL : (s.L k).length ≤ 100000 := by rw [← HPT.out]; exact hrl
    clear c1 c2 c3 c4 d1 d2 d3 d4 l3 l4 OV hrl
    go_wp2
    have bN := Boxed.new wc 3 (.int .i64 0)
    have hV0 : Below wc.heap.size wc (wc.alloc (.cells #[.int .i64 0] 3)) := (Below.refl _ _).alloc (Nat.le_refl _) _
    have hsz : (wc.alloc (.cells #[.int .i64 0] 3)).heap.size = wc.heap.size + 1 := by simp
    generalize wc.alloc (.cells #[.int .i64 0] 3) = Y at bN hV0 hsz ⊢
    have BY : Below V.heap.size V Y := hbl.trans (hV0.mono hbl.size)
    have SY : Hid (WS Y wb s) := SV.out.kept BY
    have bA : Boxed Y ab 23 (s.mv k) := boxed_kept HB.out (HV.out.trans (BY.mono HV.out.size))
    have hs1 : Bw < wc.heap.size := hbw.lt
    have hs2 : w.heap.size + 1 + 1 + 1 + 1 ≤ wc.heap.size := by rw [← HVs.out]; exact hbl.size
    have hs3 : w.heap.size + 1 + 1 + 1 + 1 ≤ Bw := by rw [← HVs.out]; exact hle
    have BF : Hid (Below w.heap.size w Y) := HV.out.trans (BY.mono HV.out.size)
    have HFL : Hid (∀ j, s.foot wb j → j < w.heap.size) := fun j hj => H.out.foot_lt hj
    have hown : ∀ g, v'.ownBlock = some g → g < wc.heap.size := fun g hg => (how.lt g hg).2
    have O0 : Ob w.heap.size wb wc.heap.size Bw V.heap.size k os 0 v' (s.L k) Y := ⟨HOB.out.kept BY, boxed_kept HBR.out BY, bN, boxed_kept hbw hV0, how.kept hV0⟩
    obtain ⟨q', cap', rfl⟩ := how.slice
    have HOWN : Hid (∀ g, (Value.slice q' (s.L k).length cap').ownBlock = some g → g < wc.heap.size) := hown
    have hVl : w.heap.size ≤ V.heap.size := by rw [HVs.out]; omega
    clear hbw how hle hbl hV0 BY hown bN
    refine (wpIn_wide (n := n)).1 ?_
    refine all_range hn 11 26 ab (s.b k) (s.o k) (s.p k) (s.room k) (s.L k) rfl rfl bA (SY.out.m k)
      (fun pre W => Ob w.heap.size wb wc.heap.size Bw V.heap.size k os pre.length (.slice q' (s.L k).length cap') (s.L k) W ∧ Now W wb Y.heap.size s ((pre.length : Int) ≤ pk tn 4) ∧ Fr (fun j => s.foot wb j ∨ j = wc.heap.size) Y W)
      (fun c pre W => pre <+: s.L k → c = .ret ∧ Boxed W (w.heap.size + 1 + 1 + 1) 4 (.bool true) ∧ Now W wb Y.heap.size s False ∧ Fr (s.foot wb) w W)
      (fun pre W W' row hs hg hr => ⟨hs.1.grown hg hr, hs.2.1.imp (fun s' q => ⟨q.1.grown hg hr, q.2⟩), hs.2.2.grownN hg (fun r e => (hr r e).1)⟩)
      (fun c pre W W' row hs hg hr hp => ⟨(hs hp).1, cells_kept hg hr (hs hp).2.1, (hs hp).2.2.1.imp (fun s' q => ⟨q.1.grown hg hr, q.2⟩), (hs hp).2.2.2.grownN hg (fun r e => by have := (hr r e).1; omega)⟩)
      ⟨O0, ⟨s, SY.out, HEQ.out, Nx.refl _ _, fun _ => rfl⟩, Fr.refl _ _⟩ ?_ ?_ ?_ ?_
    · intro l x W K hK
      gi_wp2
      exact hK
    · rintro l pre x W ⟨ho, hnow, hfy⟩ hlt
      obtain ⟨y, hy⟩ : ∃ y, (s.L k)[pre.length]? = some y := ⟨_, List.getElem?_eq_getElem hlt⟩
      obtain ⟨g, cg, e, hg1, hg2, hcy⟩ := ho.row.cell hy
      cases e
      have HO : Hid (Ob w.heap.size wb wc.heap.size Bw V.heap.size k os pre.length (.slice (some ⟨g, 0, none⟩) (s.L k).length cap') (s.L k) W) := ho
      have HNW : Hid (Now W wb Y.heap.size s ((pre.length : Int) ≤ pk tn 4)) := hnow
      have HFY : Hid (Fr (fun j => s.foot wb j ∨ j = wc.heap.size) Y W) := hfy
      have HY : Hid ((s.L k)[pre.length]? = some y) := hy
      have c1 := ho.bn.cell
      have f1 := ho.bn.frozen
      have c2 := ho.bw.cell
      have c3 := ho.br.cell
      have f3 := ho.br.frozen
      have xb := ho.ob
      rw [← HOS.out] at xb
      have c4 : W.cell? ⟨w.heap.size + 1 + 1, 5, none⟩ = some (.int .i64 ii) := by simp [World.cell?, xb.o]
      have c5 : W.cell? ⟨w.heap.size + 1 + 1, 3, none⟩ = some (.int .i64 lv) := by simp [World.cell?, xb.o]
      have c6 : W.cell? ⟨w.heap.size + 1 + 1, 4, none⟩ = some (.int .i64 tn) := by simp [World.cell?, xb.o]
      have l1 := ho.bn.lt
      have l4 : w.heap.size + 1 + 1 < W.heap.size := lt_of_heap xb.o
      clear ho hnow hfy hy xb
      have i0 : (0 : Int) ≤ (pre.length : Int) := by omega
      have i1 : (pre.length : Int) < ((s.L k).length : Int) := by omega
      simp only [roundAct, List.setIfInBounds_toArray, List.set_cons_succ, List.set_cons_zero]
      by_cases hxy : x = y
      · have hxe : (x != y) = false := by simp [hxy]
        have hwr : IntKind.i64.wrap ((pre.length : Int) + 1) = (pre.length : Int) + 1 := by rw [IntKind.wrap_i64]; omega
        by_cases hii : ii = 0
        · subst hii
          gi_wp2
          refine wpIn_region_ext (by kernel_rfl) (by kernel_rfl) (by kernel_rfl) (fun ⟨_, _, h⟩ => h) ?_
          repeat (go_big_quiet_step (first | exact rfl | (go_at_call 14; with_reducible exact ext_call_same (pick_i tn 4 (by decide) (by decide) wt _))))
          refine wpQuiet_nil ?_
          intro w5 hw
          have hb5 := ext_of hw
          clear hw
          have O5 : Hid (Ob w.heap.size wb wc.heap.size Bw V.heap.size k os pre.length (.slice (some ⟨g, 0, none⟩) (s.L k).length cap') (s.L k) w5) := HO.out.kept hb5
          have N5 : Hid (Now w5 wb Y.heap.size s ((pre.length : Int) + 1 ≤ pk tn 4)) := HNW.out.imp (fun s' q => ⟨q.1.kept hb5, q.2.1, q.2.2.1, fun c => q.2.2.2 (by omega)⟩)
          have F5 : Hid (Fr (fun j => s.foot wb j ∨ j = wc.heap.size) W w5) := Fr.of_below hb5
          clear c1 f1 c2 c3 f3 c4 c5 c6 hcy hb5
          have c1 := O5.out.bn.cell
          have f1 := O5.out.bn.frozen
          gi_wp2
          have O6 : Hid (Ob w.heap.size wb wc.heap.size Bw V.heap.size k os (pre.length + 1) (.slice (some ⟨g, 0, none⟩) (s.L k).length cap') (s.L k) (w5.setCell ⟨wc.heap.size, 0, none⟩ (.int .i64 ((pre.length : Int) + 1)))) := O5.out.next (by omega) (by omega) (fun e => by have := HOWN.out _ e; omega)
          have N6 : Hid (Now (w5.setCell ⟨wc.heap.size, 0, none⟩ (.int .i64 ((pre.length : Int) + 1))) wb Y.heap.size s ((pre.length : Int) + 1 ≤ pk tn 4)) := N5.out.imp (fun s' q => ⟨q.1.setInt O5.out.bn (by omega) (q.2.2.1.sep HFL.out (B := wc.heap.size) (by omega) (by omega)).1 (q.2.2.1.sep HFL.out (B := wc.heap.size) (by omega) (by omega)).2 _, q.2⟩)
          have F6 : Hid (Fr (fun j => s.foot wb j ∨ j = wc.heap.size) W (w5.setCell ⟨wc.heap.size, 0, none⟩ (.int .i64 ((pre.length : Int) + 1)))) := Fr.setCell (S := fun j => s.foot wb j ∨ j = wc.heap.size) (p := ⟨wc.heap.size, 0, none⟩) F5.out (Or.inr rfl) _
          generalize w5.setCell ⟨wc.heap.size, 0, none⟩ (.int .i64 ((pre.length : Int) + 1)) = w6 at O6 N6 F6 ⊢
          clear c1 f1 O5 N5 F5
          have c1 : w6.cell? ⟨wc.heap.size, 0, none⟩ = some (.int .i64 ((pre.length : Int) + 1)) := by simpa using O6.out.bn.cell
          have l1 := O6.out.bn.lt
          have l4 : w.heap.size + 1 + 1 < w6.heap.size := lt_of_heap O6.out.ob.o
          have c5 : w6.cell? ⟨w.heap.size + 1 + 1, 3, none⟩ = some (.int .i64 lv) := by have xb := O6.out.ob; rw [← HOS.out] at xb; simp [World.cell?, xb.o]
          refine wpIn_region_ext (by kernel_rfl) (by kernel_rfl) (by kernel_rfl) (fun ⟨_, _, h⟩ => h) ?_
          repeat (go_big_quiet_step (first | exact rfl | (go_at_call 14; with_reducible exact ext_call_same (pick_i lv 9 (by decide) (by decide) wl _))))
          refine wpQuiet_nil ?_
          intro w7 hw
          have hb7 := ext_of hw
          clear hw
          have O7 : Hid (Ob w.heap.size wb wc.heap.size Bw V.heap.size k os (pre.length + 1) (.slice (some ⟨g, 0, none⟩) (s.L k).length cap') (s.L k) w7) := O6.out.kept hb7
          have N7 : Hid (Now w7 wb Y.heap.size s ((pre.length : Int) + 1 ≤ pk tn 4)) := N6.out.imp (fun s' q => ⟨q.1.kept hb7, q.2⟩)
          have F7 : Hid (Fr (fun j => s.foot wb j ∨ j = wc.heap.size) W w7) := F6.out.trans (Fr.of_below hb7)
          clear c1 c5 l1 l4 hb7 O6 N6 F6
          have c3 := O7.out.br.cell
          have f3 := O7.out.br.frozen
          have hF0 : ∀ j, (s.foot wb j ∨ j = wc.heap.size) → j < Y.heap.size := fun j hj => by rcases hj with hj | hj; (have := HFL.out j hj; omega); omega
          gi_wp2
          · have hF8 : Fr (fun j => (s.foot wb j ∨ j = wc.heap.size) ∨ j = w.heap.size + 1 + 1 + 1) W (w7.setCell ⟨w.heap.size + 1 + 1 + 1, 0, none⟩ (.bool true)) := Fr.setCell (S := fun j => (s.foot wb j ∨ j = wc.heap.size) ∨ j = w.heap.size + 1 + 1 + 1) (p := ⟨w.heap.size + 1 + 1 + 1, 0, none⟩) (F7.out.mono (fun _ => Or.inl)) (Or.inr rfl) _
            refine ⟨hF8.keepsFrom (fun j hj => ?_), fun _ => ⟨rfl, O7.out.br.set _, N7.out.imp (fun s' q => ⟨q.1.setBool O7.out.br _, q.2.1, q.2.2.1, False.elim⟩), (Fr.then (Fr.of_below BF.out) (HFY.out.trans F7.out) (fun i hi q => q.resolve_right (by omega))).then (Fr.setCell (S := fun j => j = w.heap.size + 1 + 1 + 1) (p := ⟨w.heap.size + 1 + 1 + 1, 0, none⟩) (Fr.refl _ _) rfl _) (fun i hi q => by omega)⟩⟩
            rcases hj with hj | hj
            · exact hF0 j hj
            · omega
          · exact ⟨F7.out.keepsFrom hF0, F7.out.ckeep hF0, by simpa using O7.out, by simpa using N7.out, HFY.out.trans F7.out⟩
        have hie : (ii != 0) = true := by simp [hii]
        by_cases hpt : (pre.length : Int) = pk tn 4
        · have HPP : Hid ((pre.length : Int) = pk tn 4) := hpt
          have hpe : ((pre.length : Int) == pk tn 4) = true := by simp [hpt]
          clear hpt hii
          gi_wp2
          refine wpIn_region_ext (by kernel_rfl) (by kernel_rfl) (by kernel_rfl) (fun ⟨_, _, h⟩ => h) ?_
          repeat (go_big_quiet_step (first | exact rfl | (go_at_call 14; with_reducible exact ext_call_same (pick_i tn 4 (by decide) (by decide) wt _))))
          refine wpQuiet_nil ?_
          intro w4 hw
          have hb4 := ext_of hw
          clear hw
          obtain ⟨s0, hws0, _, _, hsame0⟩ := HNW.out
          have e0 : s0 = s := hsame0 (by have := HPP.out; omega)
          subst e0
          have O4 : Hid (Ob w.heap.size wb wc.heap.size Bw V.heap.size k os pre.length (.slice (some ⟨g, 0, none⟩) (s0.L k).length cap') (s0.L k) w4) := HO.out.kept hb4
          have S4 : Hid (WS w4 wb s0) := hws0.kept hb4
          have B4 : Hid (Below W.heap.size W w4) := hb4
          clear c1 f1 c2 c3 f3 c4 c5 c6 hcy hb4 hws0 hsame0
          have c1 := O4.out.bn.cell
          have f1 := O4.out.bn.frozen
          have c2 := O4.out.ob.w.cell
          have c3 := O4.out.ob.k.cell
          have c4 : w4.cell? ⟨w.heap.size + 1 + 1, 5, none⟩ = some (.int .i64 ii) := by have xb := O4.out.ob; rw [← HOS.out] at xb; simp [World.cell?, xb.o]
          have c5 : w4.cell? ⟨w.heap.size + 1 + 1, 3, none⟩ = some (.int .i64 lv) := by have xb := O4.out.ob; rw [← HOS.out] at xb; simp [World.cell?, xb.o]
          have c6 : w4.cell? ⟨w.heap.size + 1 + 1, 6, none⟩ = some (.int .i64 o6) := by have xb := O4.out.ob; rw [← HOS.out] at xb; simp [World.cell?, xb.o]
          have hYs : Y.heap.size ≤ w4.heap.size := Nat.le_trans HFY.out.size B4.out.size
          by_cases h5 : ii = 5
          · subst h5
            clear c6
            gi_wp2
            have cm := S4.out.cm k
            have lw := O4.out.ob.w.lt
            have lk := O4.out.ob.k.lt
            have lo := lt_of_heap O4.out.ob.o
            have lb := lt_of_heap S4.out.hb
            refine wpIn_region_held (S := fun w' => Below w4.heap.size w4 w') (by kernel_rfl) (by kernel_rfl) (fun ⟨_, _, h⟩ => h) ((Below.refl _ _).drew) (fun hHeld => ?_)
            have QC : Hid (∀ w', Below w4.heap.size w4 w' → w'.cell? ⟨w.heap.size, 0, none⟩ = some (.pointer (some ⟨wb, 0, none⟩)) ∧ w'.cell? ⟨w.heap.size + 1, 0, none⟩ = some (.int .i64 (kN k : Int)) ∧ w'.cell? ⟨wb, kN k, none⟩ = some (.pointer (some ⟨s0.b k, 0, none⟩)) ∧ w'.cell? ⟨w.heap.size + 1 + 1, 3, none⟩ = some (.int .i64 lv)) := fun w' hb => ⟨(hb.cell (p := ⟨w.heap.size, 0, none⟩) lw).trans c2, (hb.cell (p := ⟨w.heap.size + 1, 0, none⟩) lk).trans c3, (hb.cell (p := ⟨wb, kN k, none⟩) lb).trans cm, (hb.cell (p := ⟨w.heap.size + 1 + 1, 3, none⟩) lo).trans c5⟩
            refine wpAnyH_take (i := 0) (oi := _) (v := ?_) rfl (by kernel_rfl) (by kernel_rfl) (by kernel_rfl) (fun _ _ _ h => h) (Or.inl ⟨by rfl, ?_⟩) (by assumption) ?_
            rotate_left
            · intro wz hSw; obtain ⟨q1, q2, q3, q4⟩ := QC.out wz hSw; clear hSw; go_simp; try with_reducible rfl
            simp only [Act.put, List.setIfInBounds_toArray, List.set_cons_zero, List.set_cons_succ]
            refine wpAnyH_take (i := 1) (oi := _) (v := ?_) rfl (by kernel_rfl) (by kernel_rfl) (by kernel_rfl) (fun _ _ _ h => h) (Or.inl ⟨by rfl, ?_⟩) (by assumption) ?_
            rotate_left
            · intro wz hSw; obtain ⟨q1, q2, q3, q4⟩ := QC.out wz hSw; clear hSw; go_simp; try with_reducible rfl
            simp only [Act.put, List.setIfInBounds_toArray, List.set_cons_zero, List.set_cons_succ]
            refine wpAnyH_take (i := 2) (oi := _) (v := ?_) rfl (by kernel_rfl) (by kernel_rfl) (by kernel_rfl) (fun _ _ _ h => h) (Or.inl ⟨by rfl, ?_⟩) (by assumption) ?_
            rotate_left
            · intro wz hSw; obtain ⟨q1, q2, q3, q4⟩ := QC.out wz hSw; clear hSw; go_simp; try with_reducible rfl
            simp only [Act.put, List.setIfInBounds_toArray, List.set_cons_zero, List.set_cons_succ]
            refine wpAnyH_take (i := 3) (oi := _) (v := ?_) rfl (by kernel_rfl) (by kernel_rfl) (by kernel_rfl) (fun _ _ _ h => h) (Or.inl ⟨by rfl, ?_⟩) (by assumption) ?_
            rotate_left
            · intro wz hSw; obtain ⟨q1, q2, q3, q4⟩ := QC.out wz hSw; clear hSw; go_simp; try with_reducible rfl
            simp only [Act.put, List.setIfInBounds_toArray, List.set_cons_zero, List.set_cons_succ]
            refine wpAnyH_take (i := 4) (oi := _) (v := ?_) rfl (by kernel_rfl) (by kernel_rfl) (by kernel_rfl) (fun _ _ _ h => h) (Or.inl ⟨by rfl, ?_⟩) (by assumption) ?_
            rotate_left
            · intro wz hSw; obtain ⟨q1, q2, q3, q4⟩ := QC.out wz hSw; clear hSw; go_simp; try with_reducible rfl
            simp only [Act.put, List.setIfInBounds_toArray, List.set_cons_zero, List.set_cons_succ]
            refine wpAnyH_take (i := 5) (oi := _) (v := ?_) rfl (by kernel_rfl) (by kernel_rfl) (by kernel_rfl) (fun _ _ _ h => h) (Or.inl ⟨by rfl, ?_⟩) (by assumption) ?_
            rotate_left
            · intro wz hSw; obtain ⟨q1, q2, q3, q4⟩ := QC.out wz hSw; clear hSw; go_simp; try with_reducible rfl
            simp only [Act.put, List.setIfInBounds_toArray, List.set_cons_zero, List.set_cons_succ]
            refine wpAnyH_take (i := 6) (oi := _) (v := ?_) rfl (by kernel_rfl) (by kernel_rfl) (by kernel_rfl) (fun _ _ _ h => h) (Or.inl ⟨by rfl, ?_⟩) (by assumption) ?_
            rotate_left
            · intro wz hSw; obtain ⟨q1, q2, q3, q4⟩ := QC.out wz hSw; clear hSw; go_simp; try with_reducible rfl
            simp only [Act.put, List.setIfInBounds_toArray, List.set_cons_zero, List.set_cons_succ]
            refine wpAnyH_take (i := 7) (oi := _) (v := ?_) rfl (by kernel_rfl) (by kernel_rfl) (by kernel_rfl) (fun _ _ _ h => h) (Or.inl ⟨by rfl, ?_⟩) (by assumption) ?_
            rotate_left
            · intro wz hSw; obtain ⟨q1, q2, q3, q4⟩ := QC.out wz hSw; clear hSw; go_simp; try with_reducible rfl
            simp only [Act.put, List.setIfInBounds_toArray, List.set_cons_zero, List.set_cons_succ]
            refine wpAnyH_take (i := 9) (oi := _) (v := ?_) rfl (by kernel_rfl) (by kernel_rfl) (by kernel_rfl) (fun _ _ _ h => h) (Or.inl ⟨by rfl, ?_⟩) (by assumption) ?_
            rotate_left
            · intro wz hSw; obtain ⟨q1, q2, q3, q4⟩ := QC.out wz hSw; clear hSw; go_simp; try with_reducible rfl
            simp only [Act.put, List.setIfInBounds_toArray, List.set_cons_zero, List.set_cons_succ]
            refine wpAnyH_take (i := 10) (oi := _) (v := ?_) rfl (by kernel_rfl) (by kernel_rfl) (by kernel_rfl) (fun _ _ _ h => h) (Or.inl ⟨by rfl, ?_⟩) (by assumption) ?_
            rotate_left
            · intro wz hSw; obtain ⟨q1, q2, q3, q4⟩ := QC.out wz hSw; clear hSw; go_simp; try with_reducible rfl
            simp only [Act.put, List.setIfInBounds_toArray, List.set_cons_zero, List.set_cons_succ]
            refine wpAnyH_take (i := 11) (oi := _) (v := ?_) rfl (by kernel_rfl) (by kernel_rfl) (by kernel_rfl) (fun _ _ _ h => h) (Or.inl ⟨by rfl, ?_⟩) (by assumption) ?_
            rotate_left
            · intro wz hSw; obtain ⟨q1, q2, q3, q4⟩ := QC.out wz hSw; clear hSw; go_simp; try with_reducible rfl
            simp only [Act.put, List.setIfInBounds_toArray, List.set_cons_zero, List.set_cons_succ]
            refine wpAnyH_ready (rs := [8]) (by kernel_rfl) (by simp) ?_
            refine AllReadyH.cons rfl (fun K hK => ?_) AllReadyH.nil
            go_simp
            go_wp2_with (go_at_call 15; refine (all_c (s0.b k) _).mono ?_; rintro e w9 ⟨rfl, h9⟩; subst w9)
            refine hK.out _ _ ((Below.refl _ _).alloc (Nat.le_refl _) _).drew (fun hHeld2 => ?_)
            clear hK K
            have SA : Hid (WS (w4.alloc (.cells #[.pointer (some ⟨s0.b k, 0, none⟩)] 23)).drew wb s0) := S4.out.kept hHeld2
            have BA : Hid (Boxed (w4.alloc (.cells #[.pointer (some ⟨s0.b k, 0, none⟩)] 23)).drew w4.heap.size 23 (s0.mv k)) := Boxed.new w4 _ _
            refine wpAnyH_ready (rs := [12]) (by kernel_rfl) (by simp) ?_
            refine AllReadyH.cons rfl (fun K hK => ?_) AllReadyH.nil
            go_simp
            go_wp2_with (go_at_call 28; refine (over0_c SA.out HEQ.out k w4.heap.size BA.out 0 0 0 lv 0 0 wl).mono ?_; rintro e w5 ⟨rfl, hb9⟩)
            have hb5 : Below w4.heap.size w4 w5 := hHeld2.trans (hb9.mono (by simp))
            refine hK.out _ _ hb5 (fun hHeld3 => ?_)
            clear hK K
            refine wpAnyH_ready (rs := [13]) (by kernel_rfl) (by simp) ?_
            refine AllReadyH.cons rfl (fun K hK => ?_) AllReadyH.nil
            go_simp
            refine hK.out _ _ hb5 (fun hHeld4 => ?_)
            clear hK K
            refine wpAnyH_done (by kernel_rfl) ?_ _
            have O5 : Hid (Ob w.heap.size wb wc.heap.size Bw V.heap.size k os pre.length (.slice (some ⟨g, 0, none⟩) (s0.L k).length cap') (s0.L k) w5) := O4.out.kept hb5
            have N5 : Hid (Now w5 wb Y.heap.size s0 ((pre.length : Int) + 1 ≤ pk tn 4)) := (show _ from ⟨s0, S4.out.kept hb5, HEQ.out, Nx.refl _ _, fun _ => rfl⟩)
            have F5 : Hid (Fr (fun j => s0.foot wb j ∨ j = wc.heap.size) W w5) := (Fr.of_below B4.out).trans (Fr.of_below hb5)
            clear c1 f1 c2 c3 c4 c5 hb5 hHeld hHeld2 hHeld3 hHeld4 SA BA QC cm lw lk lo lb hb9
            have c1 := O5.out.bn.cell
            have f1 := O5.out.bn.frozen
            gi_wp2
            have O6 : Hid (Ob w.heap.size wb wc.heap.size Bw V.heap.size k os (pre.length + 1) (.slice (some ⟨g, 0, none⟩) (s0.L k).length cap') (s0.L k) (w5.setCell ⟨wc.heap.size, 0, none⟩ (.int .i64 ((pre.length : Int) + 1)))) := O5.out.next (by omega) (by omega) (fun e => by have := HOWN.out _ e; omega)
            have N6 : Hid (Now (w5.setCell ⟨wc.heap.size, 0, none⟩ (.int .i64 ((pre.length : Int) + 1))) wb Y.heap.size s0 ((pre.length : Int) + 1 ≤ pk tn 4)) := N5.out.imp (fun s' q => ⟨q.1.setInt O5.out.bn (by omega) (q.2.2.1.sep HFL.out (B := wc.heap.size) (by omega) (by omega)).1 (q.2.2.1.sep HFL.out (B := wc.heap.size) (by omega) (by omega)).2 _, q.2⟩)
            have F6 : Hid (Fr (fun j => s0.foot wb j ∨ j = wc.heap.size) W (w5.setCell ⟨wc.heap.size, 0, none⟩ (.int .i64 ((pre.length : Int) + 1)))) := Fr.setCell (S := fun j => s0.foot wb j ∨ j = wc.heap.size) (p := ⟨wc.heap.size, 0, none⟩) F5.out (Or.inr rfl) _
            generalize w5.setCell ⟨wc.heap.size, 0, none⟩ (.int .i64 ((pre.length : Int) + 1)) = w6 at O6 N6 F6 ⊢
            clear c1 f1 O5 N5 F5
            have c1 : w6.cell? ⟨wc.heap.size, 0, none⟩ = some (.int .i64 ((pre.length : Int) + 1)) := by simpa using O6.out.bn.cell
            have l1 := O6.out.bn.lt
            have l4 : w.heap.size + 1 + 1 < w6.heap.size := lt_of_heap O6.out.ob.o
            have c5 : w6.cell? ⟨w.heap.size + 1 + 1, 3, none⟩ = some (.int .i64 lv) := by have xb := O6.out.ob; rw [← HOS.out] at xb; simp [World.cell?, xb.o]
            refine wpIn_region_ext (by kernel_rfl) (by kernel_rfl) (by kernel_rfl) (fun ⟨_, _, h⟩ => h) ?_
            repeat (go_big_quiet_step (first | exact rfl | (go_at_call 14; with_reducible exact ext_call_same (pick_i lv 9 (by decide) (by decide) wl _))))
            refine wpQuiet_nil ?_
            intro w7 hw
            have hb7 := ext_of hw
            clear hw
            have O7 : Hid (Ob w.heap.size wb wc.heap.size Bw V.heap.size k os (pre.length + 1) (.slice (some ⟨g, 0, none⟩) (s0.L k).length cap') (s0.L k) w7) := O6.out.kept hb7
            have N7 : Hid (Now w7 wb Y.heap.size s0 ((pre.length : Int) + 1 ≤ pk tn 4)) := N6.out.imp (fun s' q => ⟨q.1.kept hb7, q.2⟩)
            have F7 : Hid (Fr (fun j => s0.foot wb j ∨ j = wc.heap.size) W w7) := F6.out.trans (Fr.of_below hb7)
            clear c1 c5 l1 l4 hb7 O6 N6 F6
            have c3 := O7.out.br.cell
            have f3 := O7.out.br.frozen
            have hF0 : ∀ j, (s0.foot wb j ∨ j = wc.heap.size) → j < Y.heap.size := fun j hj => by rcases hj with hj | hj; (have := HFL.out j hj; omega); omega
            gi_wp2
            · have hF8 : Fr (fun j => (s0.foot wb j ∨ j = wc.heap.size) ∨ j = w.heap.size + 1 + 1 + 1) W (w7.setCell ⟨w.heap.size + 1 + 1 + 1, 0, none⟩ (.bool true)) := Fr.setCell (S := fun j => (s0.foot wb j ∨ j = wc.heap.size) ∨ j = w.heap.size + 1 + 1 + 1) (p := ⟨w.heap.size + 1 + 1 + 1, 0, none⟩) (F7.out.mono (fun _ => Or.inl)) (Or.inr rfl) _
              refine ⟨hF8.keepsFrom (fun j hj => ?_), fun _ => ⟨rfl, O7.out.br.set _, N7.out.imp (fun s' q => ⟨q.1.setBool O7.out.br _, q.2.1, q.2.2.1, False.elim⟩), (Fr.then (Fr.of_below BF.out) (HFY.out.trans F7.out) (fun i hi q => q.resolve_right (by omega))).then (Fr.setCell (S := fun j => j = w.heap.size + 1 + 1 + 1) (p := ⟨w.heap.size + 1 + 1 + 1, 0, none⟩) (Fr.refl _ _) rfl _) (fun i hi q => by omega)⟩⟩
              rcases hj with hj | hj
              · exact hF0 j hj
              · omega
            · exact ⟨F7.out.keepsFrom hF0, F7.out.ckeep hF0, by simpa using O7.out, by simpa using N7.out, HFY.out.trans F7.out⟩
          · have hi5 : (ii == 5) = false := by simp [h5]
            clear h5
            gi_wp2_with (gi_at_call 31; refine (CallsIn.inRound l (callsIn_wide.2 (does_c S4.out HEQ.out hvl k ii o6))).mono ?_; rintro e w5 ⟨rfl, s8, hws8, hrl8, hnx8, hfr8⟩; have O5 : Hid (Ob w.heap.size wb wc.heap.size Bw V.heap.size k os pre.length (.slice (some ⟨g, 0, none⟩) (s0.L k).length cap') (s0.L k) w5) := O4.out.fr hfr8 HFL.out (by omega) (by omega) hVl; have N5 : Hid (Now w5 wb Y.heap.size s0 ((pre.length : Int) + 1 ≤ pk tn 4)) := (show _ from ⟨s8, hws8, hrl8, hnx8.down hYs, fun c => by have := HPP.out; omega⟩); have F5 : Hid (Fr (fun j => s0.foot wb j ∨ j = wc.heap.size) W w5) := (Fr.of_below B4.out).trans (hfr8.mono (fun _ => Or.inl)); clear c1 f1 c2 c3 c4 c5 c6 hws8 hrl8 hnx8 hfr8; have c1 := O5.out.bn.cell; have f1 := O5.out.bn.frozen)
            have O6 : Hid (Ob w.heap.size wb wc.heap.size Bw V.heap.size k os (pre.length + 1) (.slice (some ⟨g, 0, none⟩) (s0.L k).length cap') (s0.L k) (w5.setCell ⟨wc.heap.size, 0, none⟩ (.int .i64 ((pre.length : Int) + 1)))) := O5.out.next (by omega) (by omega) (fun e => by have := HOWN.out _ e; omega)
            have N6 : Hid (Now (w5.setCell ⟨wc.heap.size, 0, none⟩ (.int .i64 ((pre.length : Int) + 1))) wb Y.heap.size s0 ((pre.length : Int) + 1 ≤ pk tn 4)) := N5.out.imp (fun s' q => ⟨q.1.setInt O5.out.bn (by omega) (q.2.2.1.sep HFL.out (B := wc.heap.size) (by omega) (by omega)).1 (q.2.2.1.sep HFL.out (B := wc.heap.size) (by omega) (by omega)).2 _, q.2⟩)
            have F6 : Hid (Fr (fun j => s0.foot wb j ∨ j = wc.heap.size) W (w5.setCell ⟨wc.heap.size, 0, none⟩ (.int .i64 ((pre.length : Int) + 1)))) := Fr.setCell (S := fun j => s0.foot wb j ∨ j = wc.heap.size) (p := ⟨wc.heap.size, 0, none⟩) F5.out (Or.inr rfl) _
            generalize w5.setCell ⟨wc.heap.size, 0, none⟩ (.int .i64 ((pre.length : Int) + 1)) = w6 at O6 N6 F6 ⊢
            clear c1 f1 O5 N5 F5
            have c1 : w6.cell? ⟨wc.heap.size, 0, none⟩ = some (.int .i64 ((pre.length : Int) + 1)) := by simpa using O6.out.bn.cell
            have l1 := O6.out.bn.lt
            have l4 : w.heap.size + 1 + 1 < w6.heap.size := lt_of_heap O6.out.ob.o
            have c5 : w6.cell? ⟨w.heap.size + 1 + 1, 3, none⟩ = some (.int .i64 lv) := by have xb := O6.out.ob; rw [← HOS.out] at xb; simp [World.cell?, xb.o]
            refine wpIn_region_ext (by kernel_rfl) (by kernel_rfl) (by kernel_rfl) (fun ⟨_, _, h⟩ => h) ?_
            repeat (go_big_quiet_step (first | exact rfl | (go_at_call 14; with_reducible exact ext_call_same (pick_i lv 9 (by decide) (by decide) wl _))))
            refine wpQuiet_nil ?_
            intro w7 hw
            have hb7 := ext_of hw
            clear hw
            have O7 : Hid (Ob w.heap.size wb wc.heap.size Bw V.heap.size k os (pre.length + 1) (.slice (some ⟨g, 0, none⟩) (s0.L k).length cap') (s0.L k) w7) := O6.out.kept hb7
            have N7 : Hid (Now w7 wb Y.heap.size s0 ((pre.length : Int) + 1 ≤ pk tn 4)) := N6.out.imp (fun s' q => ⟨q.1.kept hb7, q.2⟩)
            have F7 : Hid (Fr (fun j => s0.foot wb j ∨ j = wc.heap.size) W w7) := F6.out.trans (Fr.of_below hb7)
            clear c1 c5 l1 l4 hb7 O6 N6 F6
            have c3 := O7.out.br.cell
            have f3 := O7.out.br.frozen
            have hF0 : ∀ j, (s0.foot wb j ∨ j = wc.heap.size) → j < Y.heap.size := fun j hj => by rcases hj with hj | hj; (have := HFL.out j hj; omega); omega
            gi_wp2
            · have hF8 : Fr (fun j => (s0.foot wb j ∨ j = wc.heap.size) ∨ j = w.heap.size + 1 + 1 + 1) W (w7.setCell ⟨w.heap.size + 1 + 1 + 1, 0, none⟩ (.bool true)) := Fr.setCell (S := fun j => (s0.foot wb j ∨ j = wc.heap.size) ∨ j = w.heap.size + 1 + 1 + 1) (p := ⟨w.heap.size + 1 + 1 + 1, 0, none⟩) (F7.out.mono (fun _ => Or.inl)) (Or.inr rfl) _
              refine ⟨hF8.keepsFrom (fun j hj => ?_), fun _ => ⟨rfl, O7.out.br.set _, N7.out.imp (fun s' q => ⟨q.1.setBool O7.out.br _, q.2.1, q.2.2.1, False.elim⟩), (Fr.then (Fr.of_below BF.out) (HFY.out.trans F7.out) (fun i hi q => q.resolve_right (by omega))).then (Fr.setCell (S := fun j => j = w.heap.size + 1 + 1 + 1) (p := ⟨w.heap.size + 1 + 1 + 1, 0, none⟩) (Fr.refl _ _) rfl _) (fun i hi q => by omega)⟩⟩
              rcases hj with hj | hj
              · exact hF0 j hj
              · omega
            · exact ⟨F7.out.keepsFrom hF0, F7.out.ckeep hF0, by simpa using O7.out, by simpa using N7.out, HFY.out.trans F7.out⟩
        · have hpe : ((pre.length : Int) == pk tn 4) = false := by simp [hpt]
          clear hpt hii
          gi_wp2
          refine wpIn_region_ext (by kernel_rfl) (by kernel_rfl) (by kernel_rfl) (fun ⟨_, _, h⟩ => h) ?_
          repeat (go_big_quiet_step (first | exact rfl | (go_at_call 14; with_reducible exact ext_call_same (pick_i tn 4 (by decide) (by decide) wt _))))
          refine wpQuiet_nil ?_
          intro w5 hw
          have hb5 := ext_of hw
          clear hw
          have O5 : Hid (Ob w.heap.size wb wc.heap.size Bw V.heap.size k os pre.length (.slice (some ⟨g, 0, none⟩) (s.L k).length cap') (s.L k) w5) := HO.out.kept hb5
          have N5 : Hid (Now w5 wb Y.heap.size s ((pre.length : Int) + 1 ≤ pk tn 4)) := HNW.out.imp (fun s' q => ⟨q.1.kept hb5, q.2.1, q.2.2.1, fun c => q.2.2.2 (by omega)⟩)
          have F5 : Hid (Fr (fun j => s.foot wb j ∨ j = wc.heap.size) W w5) := Fr.of_below hb5
          clear c1 f1 c2 c3 f3 c4 c5 c6 hcy hb5
          have c1 := O5.out.bn.cell
          have f1 := O5.out.bn.frozen
          gi_wp2
          have O6 : Hid (Ob w.heap.size wb wc.heap.size Bw V.heap.size k os (pre.length + 1) (.slice (some ⟨g, 0, none⟩) (s.L k).length cap') (s.L k) (w5.setCell ⟨wc.heap.size, 0, none⟩ (.int .i64 ((pre.length : Int) + 1)))) := O5.out.next (by omega) (by omega) (fun e => by have := HOWN.out _ e; omega)
          have N6 : Hid (Now (w5.setCell ⟨wc.heap.size, 0, none⟩ (.int .i64 ((pre.length : Int) + 1))) wb Y.heap.size s ((pre.length : Int) + 1 ≤ pk tn 4)) := N5.out.imp (fun s' q => ⟨q.1.setInt O5.out.bn (by omega) (q.2.2.1.sep HFL.out (B := wc.heap.size) (by omega) (by omega)).1 (q.2.2.1.sep HFL.out (B := wc.heap.size) (by omega) (by omega)).2 _, q.2⟩)
          have F6 : Hid (Fr (fun j => s.foot wb j ∨ j = wc.heap.size) W (w5.setCell ⟨wc.heap.size, 0, none⟩ (.int .i64 ((pre.length : Int) + 1)))) := Fr.setCell (S := fun j => s.foot wb j ∨ j = wc.heap.size) (p := ⟨wc.heap.size, 0, none⟩) F5.out (Or.inr rfl) _
          generalize w5.setCell ⟨wc.heap.size, 0, none⟩ (.int .i64 ((pre.length : Int) + 1)) = w6 at O6 N6 F6 ⊢
          clear c1 f1 O5 N5 F5
          have c1 : w6.cell? ⟨wc.heap.size, 0, none⟩ = some (.int .i64 ((pre.length : Int) + 1)) := by simpa using O6.out.bn.cell
          have l1 := O6.out.bn.lt
          have l4 : w.heap.size + 1 + 1 < w6.heap.size := lt_of_heap O6.out.ob.o
          have c5 : w6.cell? ⟨w.heap.size + 1 + 1, 3, none⟩ = some (.int .i64 lv) := by have xb := O6.out.ob; rw [← HOS.out] at xb; simp [World.cell?, xb.o]
          refine wpIn_region_ext (by kernel_rfl) (by kernel_rfl) (by kernel_rfl) (fun ⟨_, _, h⟩ => h) ?_
          repeat (go_big_quiet_step (first | exact rfl | (go_at_call 14; with_reducible exact ext_call_same (pick_i lv 9 (by decide) (by decide) wl _))))
          refine wpQuiet_nil ?_
          intro w7 hw
          have hb7 := ext_of hw
          clear hw
          have O7 : Hid (Ob w.heap.size wb wc.heap.size Bw V.heap.size k os (pre.length + 1) (.slice (some ⟨g, 0, none⟩) (s.L k).length cap') (s.L k) w7) := O6.out.kept hb7
          have N7 : Hid (Now w7 wb Y.heap.size s ((pre.length : Int) + 1 ≤ pk tn 4)) := N6.out.imp (fun s' q => ⟨q.1.kept hb7, q.2⟩)
          have F7 : Hid (Fr (fun j => s.foot wb j ∨ j = wc.heap.size) W w7) := F6.out.trans (Fr.of_below hb7)
          clear c1 c5 l1 l4 hb7 O6 N6 F6
          have c3 := O7.out.br.cell
          have f3 := O7.out.br.frozen
          have hF0 : ∀ j, (s.foot wb j ∨ j = wc.heap.size) → j < Y.heap.size := fun j hj => by rcases hj with hj | hj; (have := HFL.out j hj; omega); omega
          gi_wp2
          · have hF8 : Fr (fun j => (s.foot wb j ∨ j = wc.heap.size) ∨ j = w.heap.size + 1 + 1 + 1) W (w7.setCell ⟨w.heap.size + 1 + 1 + 1, 0, none⟩ (.bool true)) := Fr.setCell (S := fun j => (s.foot wb j ∨ j = wc.heap.size) ∨ j = w.heap.size + 1 + 1 + 1) (p := ⟨w.heap.size + 1 + 1 + 1, 0, none⟩) (F7.out.mono (fun _ => Or.inl)) (Or.inr rfl) _
            refine ⟨hF8.keepsFrom (fun j hj => ?_), fun _ => ⟨rfl, O7.out.br.set _, N7.out.imp (fun s' q => ⟨q.1.setBool O7.out.br _, q.2.1, q.2.2.1, False.elim⟩), (Fr.then (Fr.of_below BF.out) (HFY.out.trans F7.out) (fun i hi q => q.resolve_right (by omega))).then (Fr.setCell (S := fun j => j = w.heap.size + 1 + 1 + 1) (p := ⟨w.heap.size + 1 + 1 + 1, 0, none⟩) (Fr.refl _ _) rfl _) (fun i hi q => by omega)⟩⟩
            rcases hj with hj | hj
            · exact hF0 j hj
            · omega
          · exact ⟨F7.out.keepsFrom hF0, F7.out.ckeep hF0, by simpa using O7.out, by simpa using N7.out, HFY.out.trans F7.out⟩
      · have hxe : (x != y) = true := by simp [hxy]
        have HNP : Hid (¬ pre ++ [x] <+: s.L k) := fun q => hxy (prefix_at q HY.out)
        gi_wp2
        have hFr : Fr (fun j => j = w.heap.size + 1 + 1 + 1) W (W.setCell ⟨w.heap.size + 1 + 1 + 1, 0, none⟩ (.bool false)) := Fr.setCell (S := fun j => j = w.heap.size + 1 + 1 + 1) (p := ⟨w.heap.size + 1 + 1 + 1, 0, none⟩) (Fr.refl _ _) rfl _
        exact ⟨hFr.keepsFrom (fun j hj => by omega), fun q => absurd q HNP.out⟩
    · rintro D W hD ⟨ho, ⟨s', hws, hrl, hnx, _⟩, hfy⟩ hK
      simp only [behindAct]
      have c1 := ho.bn.cell
      have c2 := ho.bw.cell
      have c3 := ho.br.cell
      have f3 := ho.br.frozen
      have HF2 : Hid (Fr (s.foot wb) w (W.setCell ⟨w.heap.size + 1 + 1 + 1, 0, none⟩ (.bool true))) := (Fr.then (Fr.of_below BF.out) hfy (fun i hi q => q.resolve_right (by omega))).then (Fr.setCell (S := fun j => j = w.heap.size + 1 + 1 + 1) (p := ⟨w.heap.size + 1 + 1 + 1, 0, none⟩) (Fr.refl _ _) rfl _) (fun i hi q => by omega)
      have HK : Hid ((W.setCell ⟨w.heap.size + 1 + 1 + 1, 0, none⟩ (.bool true)).heap[D]? = some (.deferred (some []))) := (Below.heap_setCell _ _ _ _ (by simp; omega)).trans hK
      have HR2 : Hid (Boxed (W.setCell ⟨w.heap.size + 1 + 1 + 1, 0, none⟩ (.bool true)) (w.heap.size + 1 + 1 + 1) 4 (.bool true)) := ho.br.set _
      have HW2 : Hid (WS (W.setCell ⟨w.heap.size + 1 + 1 + 1, 0, none⟩ (.bool true)) wb s') := hws.setBool ho.br _
      have HN2 : Hid (s'.R = s'.L ∧ Nx w.heap.size s s') := (show _ from ⟨hrl, hnx.down (by omega)⟩)
      clear ho hws hrl hnx hfy hK
      go_wp2
      refine ⟨by simp, .inl ⟨_, _, rfl, run_takeDeferred HK.out, ?_⟩⟩
      have cr := (boxed_same (W' := (W.setCell ⟨w.heap.size + 1 + 1 + 1, 0, none⟩ (.bool true)).putObj D (.deferred none)) HR2.out (World.putObj_heap_other (by omega))).cell
      exact ⟨.bool true, by simp [results, Try.results28, go_sem, cr], rfl, s', HW2.out.grown (B := 0) (grown_put _ D _) (fun r e => by cases e; exact ⟨Nat.zero_le _, _, HK.out, rfl⟩), HN2.out.1, HN2.out.2, HF2.out.grownN (grown_put _ D _) (fun r e => by cases e; omega)⟩
    · rintro D c pre W hD hp h hK
      obtain ⟨rfl, hbr, ⟨s', hws, hrl, hnx, _⟩, hfw⟩ := h hp
      have HK : Hid (W.heap[D]? = some (.deferred (some []))) := hK
      simp only [behindAct]
      refine (wpIn_wide (n := n)).2 ?_
      go_wp2
      refine ⟨by simp, .inl ⟨_, _, rfl, run_takeDeferred HK.out, ?_⟩⟩
      have cr := (boxed_same (W' := W.putObj D (.deferred none)) hbr (World.putObj_heap_other (by omega))).cell
      exact ⟨.bool true, by simp [results, Try.results28, go_sem, cr], rfl, s', hws.grown (B := 0) (grown_put _ D _) (fun r e => by cases e; exact ⟨Nat.zero_le _, _, HK.out, rfl⟩), hrl, hnx.down (by omega), hfw.grownN (grown_put _ D _) (fun r e => by cases e; omega)⟩
end Go.Proofs.Ytofiidfnjgoenaa
