/-
  The law MarksOrder, walked: All tells the numbers in the order in which they came first, each once.
-/
import Derived.Test.YtofiidfnjgoenaaOwn
import Derived.Deep.RegionWith
import Derived.Deep.DeepCutAuto
namespace Go.Proofs.Ytofiidfnjgoenaa
open Go Go.RowKit Go.Shelf
attribute [local go_sem] Oper.semAt_some ext_cell

theorem foldL_len (r : Nat) : ∀ (l L : List Int), (l.foldl (putL r) L).length ≤ L.length + l.length
  | [], L => by simp
  | x :: l, L => by
    have h1 := foldL_len r l (putL r L x)
    have h2 : (putL r L x).length ≤ L.length + 1 := by unfold putL; split <;> simp
    simp only [List.foldl_cons, List.length_cons]
    omega
theorem fillL_len (r : Nat) (l : List Int) : (fillL r l).length ≤ l.length := by simpa [fillL] using foldL_len r l []
theorem prefix_at {pre F : List Int} {x y : Int} (h : pre ++ [x] <+: F) (hy : F[pre.length]? = some y) : x = y := by
  obtain ⟨t, rfl⟩ := h
  simp at hy
  exact hy
theorem fill_new {r : Nat} {l : List Int} {x : Int} (h : (0 ≤ x ∧ x < r) ∧ x ∉ l) : fillL r (l ++ [x]) = fillL r l ++ [x] := by
  rw [fillL_snoc]
  exact if_pos ⟨h.1.1, h.1.2, fun q => h.2 ((mem_fillL l).1 q).1⟩
theorem fill_old {r : Nat} {l : List Int} {x : Int} {m : Nat} (h : ¬ ((0 ≤ x ∧ x < r) ∧ x ∉ l.take m)) : fillL r (l ++ [x]) = fillL r l := by
  rw [fillL_snoc]
  refine if_neg fun q => h ⟨⟨q.1, q.2.1⟩, fun hm => q.2.2 ((mem_fillL l).2 ⟨List.mem_of_mem_take hm, q.1, q.2.1⟩)⟩

set_option maxRecDepth 100000 in
set_option maxHeartbeats 4000000 in
theorem order_in (n : Nat) (hn : 3 ≤ n) (room : Int) (wf : (Lit.int .i64 room).wf = true) (zs : List Int) (v : Value) (w : World) (hz : ArgI w v zs) :
    CallsIn Fence.wide n Try.prog 7 #[.int .i64 room, v] w fun e W' => e = .returned (.bool true) ∧ Below w.heap.size w W' := by
  have h1 : 1 ≤ n := by omega
  have h2 : 1 ≤ n - 1 - 1 := by omega
  have hfn : ∀ f, Fence.wide.fn f := fun _ => trivial
  have HZ : Hid (ArgI w v zs) := hz
  obtain ⟨q, cap, rfl, hlen, hcell⟩ := hz.slice
  have HC : Hid (∀ (i : Nat) (x : Int), zs[i]? = some x → ∃ g off, q = some ⟨g, off, none⟩ ∧ g < w.heap.size ∧ w.cell? ⟨g, off + i, none⟩ = some (.int .i64 x)) := hcell
  clear hcell
  clear hz
  unfold maxLen at hlen
  obtain ⟨r, hr0⟩ : ∃ r : Nat, pk room (100001 : Nat) = r := ⟨(pk room (100001 : Nat)).toNat, by have := (pk_range (c := room) (n := 100001) (by decide)).1; omega⟩
  have hr : r ≤ 100000 := by have := (pk_range (c := room) (n := 100001) (by decide)).2; omega
  have HR : Hid (pk room 100001 = r) := hr0
  clear hr0
  obtain ⟨i0', hi, hz0, hz1, hz2⟩ := info_parts size_int
  refine callsIn_of_wp_marks Try.func7 rfl trivial ?_ rfl
  simp only [Try.ntmps7, List.size_toArray, List.length_cons, List.length_nil, Nat.reduceAdd, Nat.reduceSub, Array.replicate_succ, Array.replicate_zero, List.push_toArray, List.append_toArray, List.nil_append, List.cons_append]
  refine wpIn_wide.2 ?_
  go_wp2_with first | (go_at_call 9; refine (known_c _).mono ?_; rintro e w0 ⟨rfl, hb⟩; have B0 : Hid (Below w.heap.size w w0) := ((Below.refl _ w).alloc (Nat.le_refl _) _).trans (hb.mono (by simp)); have X0 : Hid (Boxed w0 w.heap.size 4 (.bool false)) := boxed_kept (Boxed.new w 4 (.bool false)) hb; clear hb) | (go_at_call 14; refine (pick_c room 100001 (by decide) (by decide) wf _).mono ?_; rw [show pk room (100001 : Nat) = r from HR.out]; rintro e w5 ⟨rfl, h5⟩; subst w5) | (go_at_call 22; refine (filled_c r hr zs _ _ (HZ.out.below B0.out rfl)).mono ?_; rintro e w1 ⟨b, o, p, rfl, hm, hnw, hb⟩; have M1 : Hid (MAt w1 b o p r (fillL r (zs.take 300))) := hm; have N1 : Hid (New3 w0.heap.size b o p) := hnw; have B1 : Hid (Below w.heap.size w w1) := chain B0.out hb (Nat.le_refl _); have X1 : Hid (Boxed w1 w.heap.size 4 (.bool false)) := boxed_kept X0.out hb; clear hm hnw hb)
  go_loopw [8] (fun i wr => ∃ (k : Nat) (u : Value), k ≤ zs.length ∧ k ≤ 300 ∧ i = .int .i64 k ∧ Boxed wr w1.heap.size 41 u ∧ OwnI wr w1.heap.size u (fillL r (zs.take k)) ∧ Below w1.heap.size w1 wr) (fun i _ => zs.length - (intOf i).toNat)
  case atStart => exact ⟨0, .slice none 0 0, Nat.zero_le _, Nat.zero_le _, rfl, Boxed.new w1 _ _, OwnI.nil _ _, (Below.refl _ _).alloc (Nat.le_refl _) _⟩
  case round =>
    obtain ⟨k, u, hk, hk3, rfl, hbx, hown, hb⟩ := hrel
    have X : Hid (Boxed wr w1.heap.size 41 u) := hbx
    have O : Hid (OwnI wr w1.heap.size u (fillL r (zs.take k))) := hown
    have B : Hid (Below w1.heap.size w1 wr) := hb
    clear hbx hown hb
    by_cases hgo : k < zs.length ∧ k < 300
    · obtain ⟨hlt, h3⟩ := hgo
      have HX : Hid (zs.take (k + 1) = zs.take k ++ [zs[k]]) := take_next zs k hlt
      obtain ⟨g, off, rfl, hg, hc⟩ := HC.out k _ (List.getElem?_eq_getElem hlt)
      have BW : Hid (Below w.heap.size w wr) := chain B1.out (B.out.mono (Nat.le_refl _)) (Nat.le_refl _)
      have hc' := (BW.out.cell (p := ⟨g, off + k, none⟩) hg).trans hc
      have hgr : g < wr.heap.size := Nat.lt_of_lt_of_le hg BW.out.size
      have HZK : Hid (zs[k]? = some zs[k]) := List.getElem?_eq_getElem hlt
      generalize zs[k] = x at hc' HX HZK
      clear hc
      have i0 : (0 : Int) ≤ (k : Int) := by omega
      have i1 : (k : Int) < (zs.length : Int) := by omega
      have i3 : (k : Int) < 300 := by omega
      go_upto_region 10 with fail
      go_cut [9] from 35 to 47 (fun f wx => f = .bool (decide (0 ≤ x ∧ x < r)) ∧ wx = wr)
      case first =>
        go_wp2_with fail
        all_goals go_meet
        all_goals first | exact ⟨by rw [decide_eq_false (by omega)], rfl⟩ | exact ⟨by congr 1; exact decide_eq_decide.2 (by omega), rfl⟩
      case rest =>
        obtain ⟨rfl, rfl⟩ := hcut
        go_wp2
        go_loopw [9, 10] (fun f j wx => ∃ m : Nat, m ≤ k ∧ j = .int .i64 m ∧ f = .bool (decide ((0 ≤ x ∧ x < r) ∧ x ∉ zs.take m)) ∧ Below wc.heap.size wc wx) (fun _ j _ => k - (intOf j).toNat)
        case atStart => exact ⟨0, Nat.zero_le _, rfl, by simp, Below.refl _ _⟩
        case round =>
          obtain ⟨m, hm, rfl, hf0, hbm⟩ := hrel
          have BM : Hid (Below wc.heap.size wc wr) := hbm
          have cx := (hbm.cell (p := ⟨g, off + k, none⟩) hgr).trans hc'
          have hgr2 : g < wr.heap.size := Nat.lt_of_lt_of_le hgr hbm.size
          obtain ⟨f, hf⟩ : ∃ f, decide ((0 ≤ x ∧ x < r) ∧ x ∉ zs.take m) = f := ⟨_, rfl⟩
          rw [hf] at hf0
          subst hf0
          clear hbm
          cases f with
          | true =>
            have HF : Hid ((0 ≤ x ∧ x < r) ∧ x ∉ zs.take m) := (show (0 ≤ x ∧ x < r) ∧ x ∉ zs.take m from of_decide_eq_true hf)
            clear hf
            by_cases hmk : m < k
            · have hml : m < zs.length := by omega
              obtain ⟨g', off', e, hg', hcm⟩ := HC.out m _ (List.getElem?_eq_getElem hml)
              cases e
              have cm := ((chain BW.out BM.out (Nat.le_refl _)).cell (p := ⟨g, off + m, none⟩) hg).trans hcm
              have HY : Hid (zs.take (m + 1) = zs.take m ++ [zs[m]]) := take_next zs m hml
              generalize zs[m] = y at cm HY
              clear hcm
              have j0 : (0 : Int) ≤ (m : Int) := by omega
              have j1 : (m : Int) < (zs.length : Int) := by omega
              have j2 : (m : Int) < (k : Int) := by omega
              by_cases hyx : y = x
              · have HYX : Hid (y = x) := hyx
                go_wp2
                refine wp_region_ext (by kernel_rfl) (by kernel_rfl) ?_
                repeat (go_big_quiet_step (first | exact rfl))
                refine wpQuiet_nil ?_
                intro w5 hw
                have hb5 := ext_of hw
                clear hw
                go_wp2
                go_roundw
                case rel =>
                  refine ⟨m + 1, by omega, by go_num, ?_, BM.out.trans (hb5.mono BM.out.size)⟩
                  rw [HY.out, decide_eq_false (fun q => q.2 (by simp [HYX.out]))]
                case measure => simp [intOf]; omega
              · have HYX : Hid (¬ y = x) := hyx
                go_wp2
                refine wp_region_ext (by kernel_rfl) (by kernel_rfl) ?_
                repeat (go_big_quiet_step (first | exact rfl))
                refine wpQuiet_nil ?_
                intro w5 hw
                have hb5 := ext_of hw
                clear hw
                go_wp2
                go_roundw
                case rel =>
                  refine ⟨m + 1, by omega, by go_num, ?_, BM.out.trans (hb5.mono BM.out.size)⟩
                  have hne : (y != x) = true := (by simp; exact HYX.out)
                  rw [hne, HY.out, decide_eq_true (show (0 ≤ x ∧ x < (r : Int)) ∧ x ∉ zs.take m ++ [y] from ⟨HF.out.1, fun q => by
                    rcases List.mem_append.1 q with q | q
                    · exact HF.out.2 q
                    · exact HYX.out (List.mem_singleton.1 q).symm⟩)]
                case measure => simp [intOf]; omega
            · obtain rfl : m = k := by omega
              have HN : Hid (fillL r (zs.take (m + 1)) = fillL r (zs.take m) ++ [x]) := (show _ from by rw [HX.out]; exact fill_new HF.out)
              have X3 : Hid (Boxed wr w1.heap.size 41 u) := boxed_kept X.out BM.out
              have O3 : Hid (OwnI wr w1.heap.size u (fillL r (zs.take m))) := O.out.kept BM.out
              have B3 : Hid (Below w1.heap.size w1 wr) := chain B.out BM.out (Nat.le_refl _)
              obtain ⟨q', cap', rfl⟩ := O3.out.slice
              have c3 := X3.out.cell
              have f3 := X3.out.frozen
              have hfl : (fillL r (zs.take m)).length ≤ 300 := Nat.le_trans (fillL_len r _) (by simp; omega)
              have s3 := B3.out.size
              have e3 := (X3.out.alloc (.cells #[.int .i64 x] 3)).cell
              have e4 := (X3.out.alloc (.cells #[.int .i64 x] 3)).frozen
              go_wp2
              first | go_region_law (refine step_append_own rfl _ _ 41 rfl w1.heap.size 3 i0' (.int .i64 0) 1 8 und_ints hi hz0 hz1 hz2 rfl (by decide) _ _ _ (by simp [Act.eval]) (World.ownsRow.alloc O3.out (.cells #[.int .i64 x] 3)).drew ⟨wr.heap.size, 0, none⟩ 1 1 [.int .i64 x] (by simp [Act.eval]) rfl (cell_one_new _ _ _) (by simp [Value.oneCell']) (by unfold maxLen; omega) (by omega) (by simp; omega) ?_; intro v' w6 hown' hgrow; obtain ⟨g6, cap6, rfl⟩ := ownsRow_succ hown'; have X6 : Hid (Boxed w6 w1.heap.size 41 (.slice q' (fillL r (zs.take m)).length cap')) := Boxed.kept (show Boxed (wr.alloc (.cells #[.int .i64 x] 3)).drew w1.heap.size 41 _ from X3.out.alloc (.cells #[.int .i64 x] 3)) hgrow (Ne.symm (O3.out.not_box X3.out (by decide))); have B6 : Hid (Below w1.heap.size w1 w6) := ((B3.out.alloc B3.out.size _).drew).grown hgrow (by simp; omega) (fun j hj => (O3.out.lt j hj).1); clear hgrow; have c6 := X6.out.cell; have f6 := X6.out.frozen) | fail
              all_goals go_wp2
              all_goals
                refine ⟨⟨m + 1, .slice (some ⟨g6, 0, none⟩) ((fillL r (zs.take m)).length + 1) cap6, by omega, by omega, by go_num, ?_, ?_, B6.out.setCell (by simp) _⟩, by simp [intOf]; omega⟩
                · exact X6.out.set _
                · rw [HN.out]
                  refine OwnI.setBox ?_ X6.out (by decide)
                  unfold OwnI
                  rw [List.length_append, ints_append]
                  exact hown'
          | false =>
            have HF : Hid (¬ ((0 ≤ x ∧ x < r) ∧ x ∉ zs.take m)) := (show ¬ _ from of_decide_eq_false hf)
            have HN : Hid (fillL r (zs.take (k + 1)) = fillL r (zs.take k)) := (show _ from by rw [HX.out]; exact fill_old (m := m) (by rw [List.take_take, Nat.min_eq_left hm]; exact HF.out))
            clear hf
            by_cases hmk : m < k
            · have j2 : (m : Int) < (k : Int) := by omega
              go_wp2
              go_roundw
              case rel => exact ⟨k + 1, u, by omega, by omega, by go_num, boxed_kept X.out BM.out, by rw [HN.out]; exact O.out.kept BM.out, chain B.out BM.out (Nat.le_refl _)⟩
              case measure => simp [intOf]; omega
            · have j2 : ¬ ((m : Int) < (k : Int)) := by omega
              go_wp2
              go_roundw
              case rel => exact ⟨k + 1, u, by omega, by omega, by go_num, boxed_kept X.out BM.out, by rw [HN.out]; exact O.out.kept BM.out, chain B.out BM.out (Nat.le_refl _)⟩
              case measure => simp [intOf]; omega
    · have HE : Hid (zs.take k = zs.take 300) := (show zs.take k = zs.take 300 from by
        rcases Nat.lt_or_ge k zs.length with h | h
        · rw [show k = 300 by omega]
        · rw [List.take_of_length_le (by omega), List.take_of_length_le (by omega)])
      rw [HE.out] at O
      obtain ⟨q', cap', rfl⟩ := O.out.slice
      obtain ⟨F, hF⟩ : ∃ F, fillL r (zs.take 300) = F := ⟨_, rfl⟩
      rw [hF] at O M1 X
      have hFl : F.length ≤ 300 := by rw [← hF]; exact Nat.le_trans (fillL_len r _) (by simp; omega)
      clear hF HE
      have hq : ((k : Int) < (zs.length : Int) ∧ ¬ (k : Int) < 300) ∨ ¬ ((k : Int) < (zs.length : Int)) := by omega
      clear hgo
      have sz := B.out.size
      rcases hq with ⟨j1, j2⟩ | j1
      all_goals
        go_wp2_with (go_at_call 15; refine (all_c b _).mono ?_; rintro e w7 ⟨rfl, h7⟩; subst w7)
        have bN := (Boxed.new wr 3 (.int .i64 0)).alloc (.cells #[.pointer (some ⟨b, 0, none⟩)] 23)
        have bA := Boxed.new (wr.alloc (.cells #[.int .i64 0] 3)) 23 (.pointer (some ⟨b, 0, none⟩))
        have hV0 : Below wr.heap.size wr ((wr.alloc (.cells #[.int .i64 0] 3)).alloc (.cells #[.pointer (some ⟨b, 0, none⟩)] 23)) := ((Below.refl _ _).alloc (Nat.le_refl _) _).alloc (by simp) _
        have hVs : ((wr.alloc (.cells #[.int .i64 0] 3)).alloc (.cells #[.pointer (some ⟨b, 0, none⟩)] 23)).heap.size = wr.heap.size + 1 + 1 := by simp
        simp only [World.size_alloc] at bA
        obtain ⟨V, hV⟩ : ∃ V, ((wr.alloc (.cells #[.int .i64 0] 3)).alloc (.cells #[.pointer (some ⟨b, 0, none⟩)] 23)) = V := ⟨_, rfl⟩
        rw [hV] at bN bA hV0 hVs ⊢
        clear hV
        have hM : MAt V b o p r F := (M1.out.below B.out M1.out.ltb M1.out.lto M1.out.ltp).kept hV0
        have hXr : Boxed wr w.heap.size 4 (.bool false) := boxed_same X1.out (B.out.block _ X1.out.lt)
        have XW : Hid (∀ W, Below wr.heap.size V W → Boxed W w.heap.size 4 (.bool false) ∧ Boxed W w1.heap.size 41 (.slice q' F.length cap') ∧ OwnI W w1.heap.size (.slice q' F.length cap') F) := fun W hW =>
          have hh : Below wr.heap.size wr W := hV0.trans hW
          ⟨boxed_kept hXr hh, boxed_kept X.out hh, O.out.kept hh⟩
        have hs1 : w.heap.size < wr.heap.size := hXr.lt
        have hs2 : w1.heap.size < wr.heap.size := X.out.lt
        have BF : Hid (Below w.heap.size w V) := (chain B1.out (B.out.mono (Nat.le_refl _)) (Nat.le_refl _)).trans (hV0.mono (by omega))
        clear hXr
        refine (wpIn_wide (n := n)).1 ?_
        refine all_range hn 12 75 (wr.heap.size + 1) b o p r F rfl rfl bA hM
          (fun pre W => Boxed W wr.heap.size 3 (.int .i64 pre.length) ∧ Below wr.heap.size V W)
          (fun _ pre _ => ¬ pre <+: F)
          (OwnFrom.and (fun pre W W' row hs hg hr => cells_kept hg hr hs) (ownFrom_below (by omega) (by omega)))
          (fun _ _ _ _ _ hs _ _ => hs)
          ⟨bN, Below.refl _ _⟩ ?_ ?_ ?_ ?_
        · intro l x W K hK
          gi_wp2
          exact hK
        · rintro l pre x W ⟨hbx, hbe⟩ hlt
          obtain ⟨xr, xw, xo⟩ := XW.out W hbe
          obtain ⟨y, hy⟩ : ∃ y, F[pre.length]? = some y := ⟨_, List.getElem?_eq_getElem hlt⟩
          obtain ⟨g, cg, e, hg1, hg2, hcy⟩ := xo.cell hy
          cases e
          have c1 := hbx.cell
          have f1 := hbx.frozen
          have c2 := xw.cell
          have c3 := xr.cell
          have f3 := xr.frozen
          have HX : Hid (Boxed W wr.heap.size 3 (.int .i64 pre.length)) := hbx
          have HY : Hid (F[pre.length]? = some y) := hy
          clear hbx hy xo xw xr
          have i0 : (0 : Int) ≤ (pre.length : Int) := by omega
          have i1 : (pre.length : Int) < (F.length : Int) := by omega
          simp only [roundAct, List.setIfInBounds_toArray, List.set_cons_succ, List.set_cons_zero]
          by_cases hxy : x = y
          · have hxe : (x != y) = false := by simp [hxy]
            have hwr : IntKind.i64.wrap ((pre.length : Int) + 1) = (pre.length : Int) + 1 := by rw [IntKind.wrap_i64]; omega
            gi_wp2
            have hFr : Fr (fun j => j = wr.heap.size) W (W.setCell ⟨wr.heap.size, 0, none⟩ (.int .i64 ((pre.length : Int) + 1))) := Fr.setCell (S := fun j => j = wr.heap.size) (p := ⟨wr.heap.size, 0, none⟩) (Fr.refl _ _) rfl _
            refine ⟨hFr.keepsFrom (fun j hj => by omega), hFr.ckeep (fun j hj => by omega), ?_, hbe.setCell (by simp) _⟩
            have := HX.out.set (.int .i64 ((pre.length : Int) + 1))
            simpa using this
          · have hxe : (x != y) = true := by simp [hxy]
            have HNP : Hid (¬ pre ++ [x] <+: F) := fun q => hxy (prefix_at q HY.out)
            gi_wp2
            have hFr : Fr (fun j => j = w.heap.size) W (W.setCell ⟨w.heap.size, 0, none⟩ (.bool false)) := Fr.setCell (S := fun j => j = w.heap.size) (p := ⟨w.heap.size, 0, none⟩) (Fr.refl _ _) rfl _
            exact ⟨hFr.keepsFrom (fun j hj => by omega), HNP.out⟩
        · rintro D W hD ⟨hbx, hbe⟩ hK
          obtain ⟨xr, xw, _⟩ := XW.out W hbe
          simp only [behindAct]
          have c1 := hbx.cell
          have c2 := xw.cell
          have c3 := xr.cell
          have f3 := xr.frozen
          have HB : Hid (Below w.heap.size w (W.setCell ⟨w.heap.size, 0, none⟩ (.bool true))) := (BF.out.trans (hbe.mono (by omega))).setCell (by simp) _
          have HK : Hid ((W.setCell ⟨w.heap.size, 0, none⟩ (.bool true)).heap[D]? = some (.deferred (some []))) := (Below.heap_setCell _ _ _ _ (by simp; omega)).trans hK
          have HR2 : Hid (Boxed (W.setCell ⟨w.heap.size, 0, none⟩ (.bool true)) w.heap.size 4 (.bool true)) := xr.set _
          clear hbx xr xw hK
          go_wp2
          refine ⟨by simp, .inl ⟨_, _, rfl, run_takeDeferred HK.out, ?_⟩⟩
          have cr := (boxed_same (W' := (W.setCell ⟨w.heap.size, 0, none⟩ (.bool true)).putObj D (.deferred none)) HR2.out (World.putObj_heap_other (by omega))).cell
          exact ⟨.bool true, by simp [results, Try.results7, go_sem, cr], rfl, HB.out.trans (belowK_b (w := w) (Nat.le_refl _) _ D _ _ (by omega) HK.out rfl rfl)⟩
        · rintro D c pre W hD hp h hK
          exact absurd hp h

theorem law_order (room : Int) (wf : (Lit.int .i64 room).wf = true) (zs : List Int) (v : Value) (w : World) (hz : ArgI w v zs) :
    Calls Try.prog 7 #[.int .i64 room, v] w fun e W' => e = .returned (.bool true) ∧ Below w.heap.size w W' := callsIn_wide.1 (order_in 3 (Nat.le_refl _) room wf zs v w hz)
end Go.Proofs.Ytofiidfnjgoenaa
