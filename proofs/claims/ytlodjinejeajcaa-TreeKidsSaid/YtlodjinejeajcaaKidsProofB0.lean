/-
  A right tree without groups: its Kids are right by themselves. kids: each Kid is right by itself, and its Kids are. A tree, as it comes in.
-/
import Derived.Test.YtlodjinejeajcaaC14
import Derived.Test.YtlodjinejeajcaaC17
import Derived.Test.YtlodjinejeajcaaC1
import Derived.Test.YtlodjinejeajcaaC0
import Derived.Deep.Slices
import Derived.Deep.SlicePairs
import Derived.ChangeSame
import Derived.SizedLaws
namespace Go.Proofs.Ytlodjinejeajcaa
open Go Go.RowKit

theorem right_all {c f : Bool} : ∀ (L : List El) (ah gr : Nat), rightM c f ah gr L = 0 → ∀ pre x post, L = pre ++ x :: post → lookM c f x.1 x.2 (ah + pre.length) (gr + grpM pre) = 0
  | [], _, _, _, pre, x, post, h => by cases pre <;> cases h
  | y :: L, ah, gr, hr, pre, x, post, h => by
    unfold rightM at hr
    by_cases hy : lookM c f y.1 y.2 ah gr = 0
    · rw [if_neg (by simpa using hy)] at hr
      cases pre with
      | nil =>
        simp at h
        obtain ⟨rfl, rfl⟩ := h
        simpa [grpM] using hy
      | cons z pre =>
        simp at h
        obtain ⟨rfl, rfl⟩ := h
        have := right_all (pre ++ x :: post) (ah + 1) (gr + (if y.2.f.k = 7 then 1 else 0)) hr pre x post rfl
        simp only [List.length_cons, grpM]
        rw [show ah + (pre.length + 1) = ah + 1 + pre.length by omega, show gr + ((if y.2.f.k = 7 then 1 else 0) + grpM pre) = gr + (if y.2.f.k = 7 then 1 else 0) + grpM pre by omega]
        exact this
    · rw [if_pos hy] at hr
      exact absurd hr hy
theorem all_right {c f : Bool} : ∀ (L : List El) (ah gr : Nat), (∀ pre x post, L = pre ++ x :: post → lookM c f x.1 x.2 (ah + pre.length) (gr + grpM pre) = 0) → rightM c f ah gr L = 0
  | [], _, _, _ => rfl
  | y :: L, ah, gr, h => by
    unfold rightM
    have hy := h [] y L rfl
    simp only [List.length_nil, Nat.add_zero, grpM] at hy
    rw [if_neg (by simpa using hy)]
    refine all_right L (ah + 1) (gr + (if y.2.f.k = 7 then 1 else 0)) fun pre x post e => ?_
    have := h (y :: pre) x post (by rw [e]; rfl)
    simp only [List.length_cons, grpM] at this
    rw [show ah + 1 + pre.length = ah + (pre.length + 1) by omega, show gr + (if y.2.f.k = 7 then 1 else 0) + grpM pre = gr + ((if y.2.f.k = 7 then 1 else 0) + grpM pre) by omega]
    exact this
theorem pps_way {ks : List Tr} (s : Way) (h : ∀ t ∈ ks, ∀ p, pp (p ++ s) t = (pp p t).map fun z => (z.1 ++ s, z.2)) (par : Tr) (p : Way) (i : Nat) : pps par (p ++ s) i ks = (pps par p i ks).map fun z => (z.1 ++ s, z.2) := by
  induction ks generalizing i with
  | nil => rw [pps_nil, pps_nil]; rfl
  | cons t ts ih => rw [pps_cons, pps_cons, List.map_append, ← ih (fun u hu => h u (List.mem_cons_of_mem _ hu)), ← h t (List.mem_cons_self ..)]; rfl
theorem pp_way (s : Way) (t : Tr) : ∀ p, pp (p ++ s) t = (pp p t).map fun z => (z.1 ++ s, z.2) := by
  refine Tr.ind (P := fun t => ∀ p, pp (p ++ s) t = (pp p t).map fun z => (z.1 ++ s, z.2)) (fun t ih p => ?_) t
  rw [pp_eq, pp_eq, List.map_cons, pps_way s ih]
/-- Where a Kid's nodes stand. -/
theorem pps_split {par : Tr} {p : Way} {ks : List Tr} {i : Nat} {u : Tr} (h : ks[i]? = some u) : ∃ a b, pps par p 0 ks = a ++ pp ((par, i) :: p) u ++ b := by
  have e : ks = ks.take i ++ u :: ks.drop (i + 1) := by
    have hi := (List.getElem?_eq_some_iff.1 h).1
    have := List.take_append_drop i ks
    rw [List.drop_eq_getElem_cons hi, (List.getElem?_eq_some_iff.1 h).2] at this
    exact this.symm
  have hl : (ks.take i).length = i := by rw [List.length_take]; have := (List.getElem?_eq_some_iff.1 h).1; omega
  refine ⟨pps par p 0 (ks.take i), pps par p (i + 1) (ks.drop (i + 1)), ?_⟩
  have := pps_append par p (ks.take i) (u :: ks.drop (i + 1)) 0
  rw [← e, hl, pps_cons, Nat.zero_add] at this
  rw [this, List.append_assoc]
theorem grpM_map (s : Way) (l : List El) : grpM (l.map fun z => (z.1 ++ s, z.2)) = grpM l := by
  induction l with
  | nil => rfl
  | cons x l ih => simp only [List.map_cons, grpM, ih]
theorem stand_kind {pk seen k : Int} {kl : Nat} (h : standB pk seen kl k = true) : kindB k = true := by
  have ht : thingB k = true → kindB k = true := by
    intro z
    simp [thingB] at z
    simp [kindB]
    omega
  unfold standB at h
  split at h
  · simp at h
    rcases h with (z | z) | z
    · exact ht z
    · obtain ⟨rfl, -⟩ := z; rfl
    · obtain ⟨rfl, -⟩ := z; rfl
  · split at h
    · exact ht h
    · split at h
      · simp at h; exact h.1
      · exact h
theorem right_len {c f : Bool} {L : List El} (hr : rightM c f 0 0 L = 0) : L.length ≤ 2000 := by
  rcases Nat.lt_or_ge 2000 L.length with h | h
  · exfalso
    have e : L = L.take 2000 ++ L[2000] :: L.drop 2001 := by
      have := List.take_append_drop 2000 L
      rw [List.drop_eq_getElem_cons h] at this
      exact this.symm
    have := right_all L 0 0 hr _ _ _ e
    rw [show 0 + (L.take 2000).length = 2000 by rw [List.length_take]; omega] at this
    unfold lookM at this
    rw [if_pos rfl] at this
    cases this
  · exact h
theorem kid_right {c f : Bool} {t u : Tr} (hu : u ∈ t.ks) (hr : rightM c f 0 0 (pp [] t) = 0) (hg : grpM (pp [] t) = 0) : rightM c f 0 0 (pp [] u) = 0 ∧ grpM (pp [] u) = 0 := by
  obtain ⟨i, hi, hui⟩ := List.getElem_of_mem hu
  have hgi : t.ks[i]? = some u := by rw [List.getElem?_eq_getElem hi, hui]
  obtain ⟨a, b, hab⟩ := pps_split (par := t) (p := []) hgi
  have hw : pp [(t, i)] u = (pp [] u).map fun z => (z.1 ++ [(t, i)], z.2) := pp_way [(t, i)] u []
  rw [hw] at hab
  have hL : pp [] t = (([], t) :: a) ++ ((pp [] u).map fun z => (z.1 ++ [(t, i)], z.2)) ++ b := by rw [pp_eq, hab]; simp
  have hgs : grpM (([], t) :: a) = 0 ∧ grpM (pp [] u) = 0 := by
    rw [hL, grpM_append, grpM_append, grpM_map] at hg
    omega
  refine ⟨all_right _ 0 0 fun pre x post e => ?_, hgs.2⟩
  have h1 := right_all _ 0 0 hr ((([], t) :: a) ++ pre.map fun z => (z.1 ++ [(t, i)], z.2)) (x.1 ++ [(t, i)], x.2) ((post.map fun z => (z.1 ++ [(t, i)], z.2)) ++ b) (by rw [hL, e]; simp)
  have hg2 : grpM pre = 0 ∧ x.2.f.k ≠ 7 := by
    have := hgs.2
    rw [e, grpM_append] at this
    simp only [grpM] at this
    refine ⟨by omega, fun z => ?_⟩
    rw [if_pos z] at this
    omega
  have e1 : grpM ((([], t) :: a) ++ pre.map fun z => (z.1 ++ [(t, i)], z.2)) = 0 := by rw [grpM_append, grpM_map, hgs.1, hg2.1]
  rw [e1, Nat.zero_add, Nat.zero_add] at h1
  rw [hg2.1, Nat.zero_add, Nat.add_zero]
  unfold lookM at h1 ⊢
  simp only [List.length_append, List.length_cons, List.length_nil, List.length_map] at h1
  have hlen := right_len hr
  have hpl : pre.length < 2000 := by
    rw [hL, e] at hlen
    simp at hlen
    omega
  rw [if_neg (by omega)]
  split at h1
  · cases h1
  · split at h1
    · cases h1
    · split at h1
      · cases h1
      · rename_i n1 n2 n3
        have n3' := Classical.not_not.1 n3
        split at h1
        · cases h1
        · split at h1
          · cases h1
          · rename_i n4 n5
            rw [if_neg (by omega), if_neg, if_neg (fun z => hg2.2 z.1), if_neg (fun z => ?_)]
            · have hf := n3'.2.1
              unfold fieldsM at hf
              rw [if_neg (by omega), if_neg (by omega), if_pos z.1] at hf
              exact n5 ⟨z.1, fun q => by have := q.2; omega⟩
            · refine fun q => q ⟨?_, n3'.2⟩
              have hst := n3'.1
              cases hx : x.1 with
              | nil =>
                rw [hx] at hst
                exact stand_kind hst
              | cons y ys =>
                rw [hx] at hst
                exact hst
end Go.Proofs.Ytlodjinejeajcaa
namespace Go.Proofs.Ytlodjinejeajcaa
open Go Go.RowKit
attribute [local go_sem] ext_cell

set_option maxRecDepth 100000 in
set_option maxHeartbeats 4000000 in
theorem kids_c : ∀ (m : Nat) (t : Tr) (c f : Bool) (w : World), t.sz ≤ m → TA w t → rightM c f 0 0 (pp [] t) = 0 → grpM (pp [] t) = 0 →
    Calls Try.prog 15 #[.agg #[.int .i64 t.f.k, .int .i64 t.f.n, .int .i64 t.f.mn, .int .i64 t.f.mx, .slice t.f.rq t.f.rs.length t.f.rc, .slice t.f.kq t.f.kl t.f.kc], .agg #[.bool c, .bool f]] w fun e w' => e = .returned (.bool true) ∧ Below w.heap.size w w' := by
  intro m
  induction m with
  | zero => intro t c f w hm; exact absurd (sz_pos t) (by omega)
  | succ m ih =>
    intro t c f w hm hta hr hg
    have IH := hide ih
    have HM := hide hm
    have HTA := hide hta
    have HR := hide hr
    have HG := hide hg
    have HKL := hide hta.node.kl
    obtain ⟨q, cap, e, hml, -, hx⟩ := hta.node.k.slice
    injection e with e1 e2 e3
    subst e1
    clear e2 e3
    have hml' : t.ks.length ≤ 9223372036854775807 := hml
    have HX := hide hx
    have B1 : Hid (Below w.heap.size w ((w.alloc (.cells #[.int .i64 t.f.k, .int .i64 t.f.n, .int .i64 t.f.mn, .int .i64 t.f.mx, .slice t.f.rq t.f.rs.length t.f.rc, .slice t.f.kq t.f.kl t.f.kc] 25)).alloc (.cells #[.bool c, .bool f] 27))) := ((Below.refl _ _).alloc (Nat.le_refl _) _).alloc (by simp) _
    have N1 : Hid (BoxN ((w.alloc (.cells #[.int .i64 t.f.k, .int .i64 t.f.n, .int .i64 t.f.mn, .int .i64 t.f.mx, .slice t.f.rq t.f.rs.length t.f.rc, .slice t.f.kq t.f.kl t.f.kc] 25)).alloc (.cells #[.bool c, .bool f] 27)) w.heap.size t.f) := (Below.heap_alloc _ _ _ (by simp)).trans (alloc_new w _)
    have M1 : Hid (((w.alloc (.cells #[.int .i64 t.f.k, .int .i64 t.f.n, .int .i64 t.f.mn, .int .i64 t.f.mx, .slice t.f.rq t.f.rs.length t.f.rc, .slice t.f.kq t.f.kl t.f.kc] 25)).alloc (.cells #[.bool c, .bool f] 27)).heap[w.heap.size + 1]? = some (.cells #[.bool c, .bool f] 27 (0, 0))) := (by
      have := alloc_new (w.alloc (.cells #[.int .i64 t.f.k, .int .i64 t.f.n, .int .i64 t.f.mn, .int .i64 t.f.mx, .slice t.f.rq t.f.rs.length t.f.rc, .slice t.f.kq t.f.kl t.f.kc] 25)) (.cells #[.bool c, .bool f] 27)
      rwa [World.size_alloc] at this)
    clear ih hm hta hr hg hx hml
    go_enter Try.func15, Try.ntmps15
    go_upto_region 1 with fail
    generalize ((w.alloc (.cells #[.int .i64 t.f.k, .int .i64 t.f.n, .int .i64 t.f.mn, .int .i64 t.f.mx, .slice t.f.rq t.f.rs.length t.f.rc, .slice t.f.kq t.f.kl t.f.kc] 25)).alloc (.cells #[.bool c, .bool f] 27)) = W1 at B1 N1 M1 ⊢
    generalize w.heap.size + 1 = bm at M1 ⊢
    go_upto_region 2 with fail
    go_loopw [5] (fun i wr => ∃ j : Nat, j ≤ t.ks.length ∧ i = .int .i64 (j : Int) ∧ Below W1.heap.size W1 wr) (fun i _ => t.ks.length - (intOf i).toNat)
    case atStart => exact ⟨0, Nat.zero_le _, rfl, Below.refl _ _⟩
    case round =>
      obtain ⟨j, hj, rfl, hb⟩ := hrel
      have HB := hide hb
      have N2 : Hid (BoxN wr w.heap.size t.f) := (hb.block _ (lt_of_heap N1.out)).trans N1.out
      have M2 : Hid (wr.heap[bm]? = some (.cells #[.bool c, .bool f] 27 (0, 0))) := (hb.block _ (lt_of_heap M1.out)).trans M1.out
      have n5 : wr.cell? ⟨w.heap.size, 5, none⟩ = some (.slice t.f.kq t.f.kl t.f.kc) := N2.out.six.2.2.2.2.2
      have m0 : wr.cell? ⟨bm, 0, none⟩ = some (.bool c) := cell_row M2.out (i := 0) rfl
      have m1 : wr.cell? ⟨bm, 1, none⟩ = some (.bool f) := cell_row M2.out (i := 1) rfl
      rw [HKL.out] at n5
      have ln := lt_of_heap N2.out
      have lm := lt_of_heap M2.out
      clear hb
      by_cases hjl : j < t.ks.length
      · have i0 : (j : Int) < (t.ks.length : Int) := by omega
        obtain ⟨u, hu⟩ : ∃ u, t.ks[j]? = some u := ⟨_, List.getElem?_eq_getElem hjl⟩
        obtain ⟨g, off, hq, hgl, six⟩ := HX.out j u hu
        have hin : u ∈ t.ks := List.mem_of_getElem? hu
        have BW : Below w.heap.size w wr := chain B1.out HB.out (Nat.le_refl _)
        obtain ⟨c0, c1, c2, c3, c4, c5⟩ := six.ck (CK.of_below BW) hgl
        have lg : g < wr.heap.size := Nat.lt_of_lt_of_le hgl BW.size
        have TU := hide ((HTA.out.kid hin).kept BW)
        obtain ⟨ru, gu⟩ := kid_right hin HR.out HG.out
        have RU : Hid (∀ z : Ext wr, Calls Try.prog 10 #[.agg #[.int .i64 u.f.k, .int .i64 u.f.n, .int .i64 u.f.mn, .int .i64 u.f.mx, .slice u.f.rq u.f.rs.length u.f.rc, .slice u.f.kq u.f.kl u.f.kc], .agg #[.bool c, .bool f]] z.val fun e w'' => e = .returned (.int .i64 0) ∧ ∃ y : Ext wr, w'' = y.val) := fun z => ext_call ((right8_c c f (TU.out.kept (ext_below z))).mono fun e w' ⟨h1, h2⟩ => ⟨by rw [h1, ru], h2⟩)
        have KU : Hid (∀ W : World, TA W u → ∀ z : Ext W, Calls Try.prog 15 #[.agg #[.int .i64 u.f.k, .int .i64 u.f.n, .int .i64 u.f.mn, .int .i64 u.f.mx, .slice u.f.rq u.f.rs.length u.f.rc, .slice u.f.kq u.f.kl u.f.kc], .agg #[.bool c, .bool f]] z.val fun e w'' => e = .returned (.bool true) ∧ ∃ y : Ext W, w'' = y.val) := fun W hW z => ext_call (IH.out u c f z.val (by have := sz_kid hin; have := HM.out; omega) (hW.kept (ext_below z)) ru gu)
        rw [hq] at n5
        clear six hu hin ru gu BW
        go_upto_region 4 with fail
        refine wp_region_ext (by kernel_rfl) (by kernel_rfl) ?_
        repeat (go_big_quiet_step (first | exact rfl | (go_at_call 10; with_reducible exact RU.out _)))
        refine wpQuiet_nil ?_
        intro w4 hw
        have hb4 := ext_of hw
        have B4 : Hid (Below W1.heap.size W1 w4) := chain HB.out hb4 (Nat.le_refl _)
        have T4 := hide (TU.out.kept hb4)
        have p5 := (hb4.cell (p := ⟨w.heap.size, 5, none⟩) ln).trans n5
        have q0 := (hb4.cell (p := ⟨bm, 0, none⟩) lm).trans m0
        have q1 := (hb4.cell (p := ⟨bm, 1, none⟩) lm).trans m1
        have d0 := (hb4.cell (p := ⟨g, off + j * 6, none⟩) lg).trans c0
        have d1 := (hb4.cell (p := ⟨g, off + j * 6 + 1, none⟩) lg).trans c1
        have d2 := (hb4.cell (p := ⟨g, off + j * 6 + 2, none⟩) lg).trans c2
        have d3 := (hb4.cell (p := ⟨g, off + j * 6 + 3, none⟩) lg).trans c3
        have d4 := (hb4.cell (p := ⟨g, off + j * 6 + 4, none⟩) lg).trans c4
        have d5 := (hb4.cell (p := ⟨g, off + j * 6 + 5, none⟩) lg).trans c5
        have ln4 := Nat.lt_of_lt_of_le ln hb4.size
        have lm4 := Nat.lt_of_lt_of_le lm hb4.size
        have lg4 := Nat.lt_of_lt_of_le lg hb4.size
        clear hw hb4 n5 m0 m1 c0 c1 c2 c3 c4 c5 ln lm lg RU TU
        go_upto_region 6 with fail
        refine wp_region_ext (by kernel_rfl) (by kernel_rfl) ?_
        repeat (go_big_quiet_step (first | exact rfl | (go_at_call 15; with_reducible exact KU.out _ T4.out _)))
        refine wpQuiet_nil ?_
        intro w6 hw
        have B6 : Hid (Below W1.heap.size W1 w6) := chain B4.out (ext_of hw) (Nat.le_refl _)
        clear hw p5 q0 q1 d0 d1 d2 d3 d4 d5 ln4 lm4 lg4
        go_wp2
        go_roundw
        case rel => exact ⟨j + 1, by omega, by go_num, B6.out⟩
        case measure => simp only [intOf]; omega
      · have i0 : ¬ (j : Int) < (t.ks.length : Int) := by omega
        go_wp2
        go_ret
        exact ⟨rfl, chain B1.out HB.out (Nat.le_refl _)⟩

set_option maxRecDepth 100000 in
set_option maxHeartbeats 4000000 in
theorem law_kids {w : World} {t : Tr} (c f : Bool) (hta : TA w t) :
    Calls Try.prog 4 #[.agg #[.int .i64 t.f.k, .int .i64 t.f.n, .int .i64 t.f.mn, .int .i64 t.f.mx, .slice t.f.rq t.f.rs.length t.f.rc, .slice t.f.kq t.f.kl t.f.kc], .agg #[.bool c, .bool f]] w fun e w' => e = .returned (.bool true) ∧ Below w.heap.size w w' := by
  have HTA := hide hta
  have B1 : Hid (Below w.heap.size w ((w.alloc (.cells #[.int .i64 t.f.k, .int .i64 t.f.n, .int .i64 t.f.mn, .int .i64 t.f.mx, .slice t.f.rq t.f.rs.length t.f.rc, .slice t.f.kq t.f.kl t.f.kc] 25)).alloc (.cells #[.bool c, .bool f] 27))) := ((Below.refl _ _).alloc (Nat.le_refl _) _).alloc (by simp) _
  have N1 : Hid (BoxN ((w.alloc (.cells #[.int .i64 t.f.k, .int .i64 t.f.n, .int .i64 t.f.mn, .int .i64 t.f.mx, .slice t.f.rq t.f.rs.length t.f.rc, .slice t.f.kq t.f.kl t.f.kc] 25)).alloc (.cells #[.bool c, .bool f] 27)) w.heap.size t.f) := (Below.heap_alloc _ _ _ (by simp)).trans (alloc_new w _)
  have M1 : Hid (((w.alloc (.cells #[.int .i64 t.f.k, .int .i64 t.f.n, .int .i64 t.f.mn, .int .i64 t.f.mx, .slice t.f.rq t.f.rs.length t.f.rc, .slice t.f.kq t.f.kl t.f.kc] 25)).alloc (.cells #[.bool c, .bool f] 27)).heap[w.heap.size + 1]? = some (.cells #[.bool c, .bool f] 27 (0, 0))) := (by
    have := alloc_new (w.alloc (.cells #[.int .i64 t.f.k, .int .i64 t.f.n, .int .i64 t.f.mn, .int .i64 t.f.mx, .slice t.f.rq t.f.rs.length t.f.rc, .slice t.f.kq t.f.kl t.f.kc] 25)) (.cells #[.bool c, .bool f] 27)
    rwa [World.size_alloc] at this)
  clear hta
  have RT : Hid (∀ W : World, TA W t → Calls Try.prog 10 #[.agg #[.int .i64 t.f.k, .int .i64 t.f.n, .int .i64 t.f.mn, .int .i64 t.f.mx, .slice t.f.rq t.f.rs.length t.f.rc, .slice t.f.kq t.f.kl t.f.kc], .agg #[.bool c, .bool f]] W fun e w' => e = .returned (.int .i64 (rightM c f 0 0 (pp [] t))) ∧ Below W.heap.size W w') := fun W hW => right8_c c f hW
  have GP : Hid (∀ W : World, TA W t → Calls Try.prog 14 #[.agg #[.int .i64 t.f.k, .int .i64 t.f.n, .int .i64 t.f.mn, .int .i64 t.f.mx, .slice t.f.rq t.f.rs.length t.f.rc, .slice t.f.kq t.f.kl t.f.kc]] W fun e w' => e = .returned (.int .i64 ((if 2000 < (pp [] t).length then 0 else grpM (pp [] t) : Nat) : Int)) ∧ Below W.heap.size W w') := fun W hW => groups_c hW
  obtain ⟨r, hr⟩ : ∃ r, rightM c f 0 0 (pp [] t) = r := ⟨_, rfl⟩
  obtain ⟨g, hg⟩ : ∃ g, (if 2000 < (pp [] t).length then 0 else grpM (pp [] t) : Nat) = g := ⟨_, rfl⟩
  rw [hr] at RT
  rw [hg] at GP
  have HR := hide hr
  have HG := hide hg
  clear hr hg
  by_cases hr0 : r = 0
  · have e0 : (r != 0) = false := by simpa using hr0
    by_cases hg0 : g = 0
    · have e1 : ¬ (0 : Int) < (g : Int) := by omega
      have hr1 : rightM c f 0 0 (pp [] t) = 0 := HR.out.trans hr0
      have hl := right_len hr1
      have hg1 : grpM (pp [] t) = 0 := by have := HG.out; rw [if_neg (by omega)] at this; omega
      have KD : Hid (∀ W : World, TA W t → Calls Try.prog 15 #[.agg #[.int .i64 t.f.k, .int .i64 t.f.n, .int .i64 t.f.mn, .int .i64 t.f.mx, .slice t.f.rq t.f.rs.length t.f.rc, .slice t.f.kq t.f.kl t.f.kc], .agg #[.bool c, .bool f]] W fun e w' => e = .returned (.bool true) ∧ Below W.heap.size W w') := fun W hW => kids_c t.sz t c f W (Nat.le_refl _) hW hr1 hg1
      clear hr0 hg0 hr1 hg1 hl
      go_enter Try.func4, Try.ntmps4
      go_wp2_with first | (go_at_call 15; (with_reducible refine (KD.out _ X7.out.2.2.1).mono ?_); rintro e w8 ⟨rfl, a4⟩; have X8 : Hid (BoxN w8 w.heap.size t.f ∧ w8.heap[w.heap.size + 1]? = some (.cells #[.bool c, .bool f] 27 (0, 0)) ∧ TA w8 t ∧ Below w.heap.size w w8) := ⟨(a4.block _ (lt_of_heap X7.out.1)).trans X7.out.1, (a4.block _ (lt_of_heap X7.out.2.1)).trans X7.out.2.1, X7.out.2.2.1.kept a4, chain X7.out.2.2.2 a4 (Nat.le_refl _)⟩; clear a4) | (go_at_call 14; (with_reducible refine (GP.out _ X6.out.2.2.1).mono ?_); rintro e w7 ⟨rfl, a4⟩; have X7 : Hid (BoxN w7 w.heap.size t.f ∧ w7.heap[w.heap.size + 1]? = some (.cells #[.bool c, .bool f] 27 (0, 0)) ∧ TA w7 t ∧ Below w.heap.size w w7) := ⟨(a4.block _ (lt_of_heap X6.out.1)).trans X6.out.1, (a4.block _ (lt_of_heap X6.out.2.1)).trans X6.out.2.1, X6.out.2.2.1.kept a4, chain X6.out.2.2.2 a4 (Nat.le_refl _)⟩; clear a4; obtain ⟨h0, h1, h2, h3, h4, h5⟩ := X7.out.1.six; simp only [Nat.zero_add] at h1 h2 h3 h4 h5; have hm0 := cell_row X7.out.2.1 (i := 0) rfl; have hm1 := cell_row X7.out.2.1 (i := 1) rfl) | (go_at_call 10; (with_reducible refine (RT.out _ X5.out.2.2.1).mono ?_); rintro e w6 ⟨rfl, a4⟩; have X6 : Hid (BoxN w6 w.heap.size t.f ∧ w6.heap[w.heap.size + 1]? = some (.cells #[.bool c, .bool f] 27 (0, 0)) ∧ TA w6 t ∧ Below w.heap.size w w6) := ⟨(a4.block _ (lt_of_heap X5.out.1)).trans X5.out.1, (a4.block _ (lt_of_heap X5.out.2.1)).trans X5.out.2.1, X5.out.2.2.1.kept a4, chain X5.out.2.2.2 a4 (Nat.le_refl _)⟩; clear a4; obtain ⟨k0, k1, k2, k3, k4, k5⟩ := X6.out.1.six; simp only [Nat.zero_add] at k1 k2 k3 k4 k5; have km0 := cell_row X6.out.2.1 (i := 0) rfl; have km1 := cell_row X6.out.2.1 (i := 1) rfl) | (go_at_call 9; (with_reducible refine (examples8_c _).mono ?_); rintro e w5 ⟨rfl, a4⟩; have X5 : Hid (BoxN w5 w.heap.size t.f ∧ w5.heap[w.heap.size + 1]? = some (.cells #[.bool c, .bool f] 27 (0, 0)) ∧ TA w5 t ∧ Below w.heap.size w w5) := ⟨(a4.block _ (lt_of_heap N1.out)).trans N1.out, (a4.block _ (lt_of_heap M1.out)).trans M1.out, (HTA.out.kept B1.out).kept a4, chain B1.out a4 (Nat.le_refl _)⟩; clear a4; obtain ⟨p0, p1, p2, p3, p4, p5⟩ := X5.out.1.six; simp only [Nat.zero_add] at p1 p2 p3 p4 p5; have pm0 := cell_row X5.out.2.1 (i := 0) rfl; have pm1 := cell_row X5.out.2.1 (i := 1) rfl)
      go_ret
      exact ⟨rfl, X8.out.2.2.2⟩
    · have e1 : (0 : Int) < (g : Int) := by omega
      clear hr0 hg0
      go_enter Try.func4, Try.ntmps4
      go_wp2_with first | (go_at_call 15; (with_reducible refine (KD.out _ X7.out.2.2.1).mono ?_); rintro e w8 ⟨rfl, a4⟩; have X8 : Hid (BoxN w8 w.heap.size t.f ∧ w8.heap[w.heap.size + 1]? = some (.cells #[.bool c, .bool f] 27 (0, 0)) ∧ TA w8 t ∧ Below w.heap.size w w8) := ⟨(a4.block _ (lt_of_heap X7.out.1)).trans X7.out.1, (a4.block _ (lt_of_heap X7.out.2.1)).trans X7.out.2.1, X7.out.2.2.1.kept a4, chain X7.out.2.2.2 a4 (Nat.le_refl _)⟩; clear a4) | (go_at_call 14; (with_reducible refine (GP.out _ X6.out.2.2.1).mono ?_); rintro e w7 ⟨rfl, a4⟩; have X7 : Hid (BoxN w7 w.heap.size t.f ∧ w7.heap[w.heap.size + 1]? = some (.cells #[.bool c, .bool f] 27 (0, 0)) ∧ TA w7 t ∧ Below w.heap.size w w7) := ⟨(a4.block _ (lt_of_heap X6.out.1)).trans X6.out.1, (a4.block _ (lt_of_heap X6.out.2.1)).trans X6.out.2.1, X6.out.2.2.1.kept a4, chain X6.out.2.2.2 a4 (Nat.le_refl _)⟩; clear a4; obtain ⟨h0, h1, h2, h3, h4, h5⟩ := X7.out.1.six; simp only [Nat.zero_add] at h1 h2 h3 h4 h5; have hm0 := cell_row X7.out.2.1 (i := 0) rfl; have hm1 := cell_row X7.out.2.1 (i := 1) rfl) | (go_at_call 10; (with_reducible refine (RT.out _ X5.out.2.2.1).mono ?_); rintro e w6 ⟨rfl, a4⟩; have X6 : Hid (BoxN w6 w.heap.size t.f ∧ w6.heap[w.heap.size + 1]? = some (.cells #[.bool c, .bool f] 27 (0, 0)) ∧ TA w6 t ∧ Below w.heap.size w w6) := ⟨(a4.block _ (lt_of_heap X5.out.1)).trans X5.out.1, (a4.block _ (lt_of_heap X5.out.2.1)).trans X5.out.2.1, X5.out.2.2.1.kept a4, chain X5.out.2.2.2 a4 (Nat.le_refl _)⟩; clear a4; obtain ⟨k0, k1, k2, k3, k4, k5⟩ := X6.out.1.six; simp only [Nat.zero_add] at k1 k2 k3 k4 k5; have km0 := cell_row X6.out.2.1 (i := 0) rfl; have km1 := cell_row X6.out.2.1 (i := 1) rfl) | (go_at_call 9; (with_reducible refine (examples8_c _).mono ?_); rintro e w5 ⟨rfl, a4⟩; have X5 : Hid (BoxN w5 w.heap.size t.f ∧ w5.heap[w.heap.size + 1]? = some (.cells #[.bool c, .bool f] 27 (0, 0)) ∧ TA w5 t ∧ Below w.heap.size w w5) := ⟨(a4.block _ (lt_of_heap N1.out)).trans N1.out, (a4.block _ (lt_of_heap M1.out)).trans M1.out, (HTA.out.kept B1.out).kept a4, chain B1.out a4 (Nat.le_refl _)⟩; clear a4; obtain ⟨p0, p1, p2, p3, p4, p5⟩ := X5.out.1.six; simp only [Nat.zero_add] at p1 p2 p3 p4 p5; have pm0 := cell_row X5.out.2.1 (i := 0) rfl; have pm1 := cell_row X5.out.2.1 (i := 1) rfl)
      go_ret
      exact ⟨rfl, X7.out.2.2.2⟩
  · have e0 : (r != 0) = true := by simpa using hr0
    clear hr0
    go_enter Try.func4, Try.ntmps4
    go_wp2_with first | (go_at_call 15; (with_reducible refine (KD.out _ X7.out.2.2.1).mono ?_); rintro e w8 ⟨rfl, a4⟩; have X8 : Hid (BoxN w8 w.heap.size t.f ∧ w8.heap[w.heap.size + 1]? = some (.cells #[.bool c, .bool f] 27 (0, 0)) ∧ TA w8 t ∧ Below w.heap.size w w8) := ⟨(a4.block _ (lt_of_heap X7.out.1)).trans X7.out.1, (a4.block _ (lt_of_heap X7.out.2.1)).trans X7.out.2.1, X7.out.2.2.1.kept a4, chain X7.out.2.2.2 a4 (Nat.le_refl _)⟩; clear a4) | (go_at_call 14; (with_reducible refine (GP.out _ X6.out.2.2.1).mono ?_); rintro e w7 ⟨rfl, a4⟩; have X7 : Hid (BoxN w7 w.heap.size t.f ∧ w7.heap[w.heap.size + 1]? = some (.cells #[.bool c, .bool f] 27 (0, 0)) ∧ TA w7 t ∧ Below w.heap.size w w7) := ⟨(a4.block _ (lt_of_heap X6.out.1)).trans X6.out.1, (a4.block _ (lt_of_heap X6.out.2.1)).trans X6.out.2.1, X6.out.2.2.1.kept a4, chain X6.out.2.2.2 a4 (Nat.le_refl _)⟩; clear a4; obtain ⟨h0, h1, h2, h3, h4, h5⟩ := X7.out.1.six; simp only [Nat.zero_add] at h1 h2 h3 h4 h5; have hm0 := cell_row X7.out.2.1 (i := 0) rfl; have hm1 := cell_row X7.out.2.1 (i := 1) rfl) | (go_at_call 10; (with_reducible refine (RT.out _ X5.out.2.2.1).mono ?_); rintro e w6 ⟨rfl, a4⟩; have X6 : Hid (BoxN w6 w.heap.size t.f ∧ w6.heap[w.heap.size + 1]? = some (.cells #[.bool c, .bool f] 27 (0, 0)) ∧ TA w6 t ∧ Below w.heap.size w w6) := ⟨(a4.block _ (lt_of_heap X5.out.1)).trans X5.out.1, (a4.block _ (lt_of_heap X5.out.2.1)).trans X5.out.2.1, X5.out.2.2.1.kept a4, chain X5.out.2.2.2 a4 (Nat.le_refl _)⟩; clear a4; obtain ⟨k0, k1, k2, k3, k4, k5⟩ := X6.out.1.six; simp only [Nat.zero_add] at k1 k2 k3 k4 k5; have km0 := cell_row X6.out.2.1 (i := 0) rfl; have km1 := cell_row X6.out.2.1 (i := 1) rfl) | (go_at_call 9; (with_reducible refine (examples8_c _).mono ?_); rintro e w5 ⟨rfl, a4⟩; have X5 : Hid (BoxN w5 w.heap.size t.f ∧ w5.heap[w.heap.size + 1]? = some (.cells #[.bool c, .bool f] 27 (0, 0)) ∧ TA w5 t ∧ Below w.heap.size w w5) := ⟨(a4.block _ (lt_of_heap N1.out)).trans N1.out, (a4.block _ (lt_of_heap M1.out)).trans M1.out, (HTA.out.kept B1.out).kept a4, chain B1.out a4 (Nat.le_refl _)⟩; clear a4; obtain ⟨p0, p1, p2, p3, p4, p5⟩ := X5.out.1.six; simp only [Nat.zero_add] at p1 p2 p3 p4 p5; have pm0 := cell_row X5.out.2.1 (i := 0) rfl; have pm1 := cell_row X5.out.2.1 (i := 1) rfl)
    go_ret
    exact ⟨rfl, X6.out.2.2.2⟩
end Go.Proofs.Ytlodjinejeajcaa
namespace Go.Proofs.Ytlodjinejeajcaa
open Go Go.ChangeShapes Go.WideShapes Go.ChangeAt Go.RowKit

theorem cells_node : Try.prog.cellsOf 25 = 6 := by kernel_rfl
theorem cells_rng : Try.prog.cellsOf 72 = 2 := by kernel_rfl
theorem cells_rngs : Try.prog.cellsOf 22 = 1 := by kernel_rfl
theorem cells_nods : Try.prog.cellsOf 23 = 1 := by kernel_rfl
theorem bytes_rng : Try.prog.bytesOf 72 = 16 := by kernel_rfl
theorem weights_all {H : Type} {P : Program} {e : TypeId} {d : DataW H} {n : Nat} : ∀ {l : List (DataW H)}, d ∈ l → n ∈ d.weights P e → n ∈ DataW.weightsAll P e l
  | [], h, _ => by cases h
  | x :: r, h, hn => by
    simp only [DataW.weightsAll, List.mem_append]
    rcases List.mem_cons.1 h with rfl | h
    · exact .inl hn
    · exact .inr (weights_all h hn)
theorem cell_blk {w : World} {g o : Nat} {v : Value} (h : w.cell? ⟨g, o, none⟩ = some v) : g < w.heap.size := by
  rcases Nat.lt_or_ge g w.heap.size with h' | h'
  · exact h'
  · have : w.heap[g]? = none := Array.getElem?_eq_none h'
    simp [World.cell?, this] at h
theorem add_none {a : Addr} {W : World} {v : Value} (h : W.cell? (a.add 0) = some v) : ∃ b off, a = ⟨b, off, none⟩ := by
  obtain ⟨b, off, spot⟩ := a
  cases spot with
  | none => exact ⟨b, off, rfl⟩
  | some k =>
    exfalso
    unfold Addr.add World.cell? at h
    simp at h
    split at h <;> simp_all

set_option maxRecDepth 100000 in
theorem open_rngs {H : Type} {enc : TypeId × Value → H} {W : World} {fuel : Nat} {v : Value} {x : DataW H × List MemPlace} (hf : DataW.trod enc Try.prog W 0 (fun _ => true) true fuel 22 [v] = some x) (hw : ∀ n ∈ x.1.weights Try.prog 22, n ≤ reachBytes) :
    ∃ (rs : List (Int × Int)) (q : Option Addr) (c : Nat), v = .slice q rs.length c ∧ ArgR W v rs ∧ Fit rs ∧ rs.length + 3 ≤ 8796093022208 := by
  rcases Deep.open_slice_pairs Try.underlying22 Try.underlying72 cells_rng rfl rfl cells_int cells_int hf with ⟨h1, h2⟩ | ⟨a, len, cap, m, n, V0, V1, D0, D1, P0, P1, h1, _, hlc, hcap, hm, h2, hx⟩
  · cases h1
    exact ⟨[], none, 0, rfl, .inl ⟨none, 0, rfl, rfl, fun _ => rfl⟩, fit_nil, by simp⟩
  · cases h1
    rw [if_pos rfl] at hm
    subst hm
    by_cases hc : m = 0
    · have hl : len = 0 := by omega
      subst hc hl
      exact ⟨[], some a, 0, rfl, .inl ⟨some a, 0, rfl, rfl, fun q => (by cases q)⟩, fit_nil, by simp⟩
    · have hp : ∀ i, i < m → ∃ q : Int × Int, V0 i = .int .i64 q.1 ∧ V1 i = .int .i64 q.2 ∧ (Lit.int .i64 q.1).wf = true ∧ (Lit.int .i64 q.2).wf = true := fun i hi => by
        obtain ⟨_, _, g0, g1⟩ := hx i hi
        obtain ⟨x0, e0, _, w0⟩ := DataW.trod_int Try.underlying3 g0
        obtain ⟨x1, e1, _, w1⟩ := DataW.trod_int Try.underlying3 g1
        exact ⟨(x0, x1), by simpa using e0, by simpa using e1, w0, w1⟩
      obtain ⟨q, hq⟩ := Deep.choose_lt hp
      have c0 := (hx 0 (by omega)).1
      obtain ⟨b, off, rfl⟩ := add_none (by simpa using c0)
      have hadd : ∀ j, (⟨b, off, none⟩ : Addr).add j = ⟨b, off + j, none⟩ := fun j => by unfold Addr.add; split <;> simp_all
      have hb : b < W.heap.size := by rw [hadd] at c0; exact cell_blk c0
      refine ⟨(List.range len).map q, some ⟨b, off, none⟩, m, by simp, .inr ⟨b, off, m, by simp, hb, by simpa using hlc, hcap, fun i r hi' => ?_⟩, fun r hr => ?_, ?_⟩
      · have hil : i < len := by have := (List.getElem?_eq_some_iff.1 hi').1; simpa using this
        have hqi : q i = r := by simpa [hil] using hi'
        obtain ⟨k0, k1, _, _⟩ := hx i (by omega)
        rw [hadd, Nat.mul_comm] at k0
        rw [hadd, Nat.mul_comm, ← Nat.add_assoc] at k1
        obtain ⟨r0, r1, _, _⟩ := hq i (by omega)
        rw [hqi] at r0 r1
        exact ⟨by rw [k0, r0], by rw [k1, r1]⟩
      · obtain ⟨i, hi, rfl⟩ := List.mem_map.1 hr
        have hil : i < len := List.mem_range.1 hi
        obtain ⟨_, _, w0, w1⟩ := hq i (by omega)
        exact ⟨wf_range w0, wf_range w1⟩
      · obtain ⟨es, sp, e1, e2⟩ : ∃ es sp, x.1 = .slice es sp ∧ es.length = len := ⟨_, _, congrArg Prod.fst h2, by simp⟩
        have h3 := hw ((es.length + sp.length) * Try.prog.bytesOf 72) (by rw [e1]; simp [DataW.weights, Try.underlying22])
        rw [bytes_rng] at h3
        have r : reachBytes = 140737488351232 := by decide
        simp
        omega

set_option maxRecDepth 100000 in
set_option maxHeartbeats 2000000 in
theorem open_nodeF {H : Type} {enc : TypeId × Value → H} {W : World} : ∀ (fuel : Nat) (cs : List Value) (x : DataW H × List MemPlace), DataW.trod enc Try.prog W 0 (fun _ => true) true fuel 25 cs = some x → (∀ n ∈ x.1.weights Try.prog 25, n ≤ reachBytes) →
    ∃ t : Tr, TA W t ∧ cs = [.int .i64 t.f.k, .int .i64 t.f.n, .int .i64 t.f.mn, .int .i64 t.f.mx, .slice t.f.rq t.f.rs.length t.f.rc, .slice t.f.kq t.f.kl t.f.kc] := by
  intro fuel
  induction fuel using Nat.strongRecOn with
  | ind fuel ih =>
    intro cs x hf hw
    obtain ⟨xs, k, hk, hxy, hcl, hxl, hfs⟩ := DataW.trod_struct Try.underlying25 hf
    have hD : x.1 = .agg (xs.map (·.1)) := (congrArg Prod.fst hxy)
    rw [hD] at hw
    simp only [DataW.weights, Try.underlying25] at hw
    rw [cells_node] at hcl
    clear hD hxy hf
    match xs, hxl, cs, hcl, hfs, hw with
    | [y0, y1, y2, y3, y4, y5], _, [v0, v1, v2, v3, v4, v5], _, hf, hwi =>
      have F0 := hf 0 _ rfl
      have F1 := hf 1 _ rfl
      have F2 := hf 2 _ rfl
      have F3 := hf 3 _ rfl
      have F4 := hf 4 _ rfl
      have F5 := hf 5 _ rfl
      simp [cells_int, cells_rngs, cells_nods] at F0 F1 F2 F3 F4 F5
      obtain ⟨x0, e0, _, w0⟩ := DataW.trod_int Try.underlying3 F0
      obtain ⟨x1, e1, _, w1⟩ := DataW.trod_int Try.underlying3 F1
      obtain ⟨x2, e2, _, w2⟩ := DataW.trod_int Try.underlying3 F2
      obtain ⟨x3, e3, _, w3⟩ := DataW.trod_int Try.underlying3 F3
      obtain ⟨rs, q, c, rfl, hr, hfit, hlen⟩ := open_rngs F4 (fun n hn => hwi n (DataW.weights_mem_each (j := 4) (t := 22) rfl rfl n hn))
      cases e0; cases e1; cases e2; cases e3
      have hwk := fun n hn => hwi n (DataW.weights_mem_each (j := 5) (t := 23) (d := y5.1) rfl rfl n hn)
      rcases DataW.trod_slice Try.underlying23 F5 with ⟨h1, h2⟩ | ⟨a, len, cap, elems, rest, n, hn, h1, h2, _, hlc, hcap, hel, hx, -, -⟩
      · cases h1
        exact ⟨.mk ⟨x0, x1, x2, x3, rs, q, c, none, 0, 0⟩ [], (every_eq _).2 ⟨⟨hr, .inl ⟨none, 0, rfl, rfl, fun _ => rfl⟩, hfit, hlen⟩, (everyL_iff _).2 fun u hu => by cases hu⟩, rfl⟩
      · cases h1
        by_cases hl : len = 0
        · subst hl
          exact ⟨.mk ⟨x0, x1, x2, x3, rs, q, c, some a, 0, cap⟩ [], (every_eq _).2 ⟨⟨hr, .inl ⟨some a, cap, rfl, rfl, fun z => by cases z⟩, hfit, hlen⟩, (everyL_iff _).2 fun u hu => by cases hu⟩, rfl⟩
        · have each : ∀ i, i < len → ∃ t : Tr, TA W t ∧ ∀ j v, [Value.int .i64 t.f.k, .int .i64 t.f.n, .int .i64 t.f.mn, .int .i64 t.f.mx, .slice t.f.rq t.f.rs.length t.f.rc, .slice t.f.kq t.f.kl t.f.kc][j]? = some v → W.cell? (a.add (i * 6 + j)) = some v := by
            intro i hi
            have hxi := hx i hi
            rw [List.getElem?_eq_getElem (by omega)] at hxi
            obtain ⟨cs', g1, g2⟩ := Option.bind_eq_some_iff.1 hxi
            rw [cells_node] at g1
            obtain ⟨_, hlc', hcell⟩ := World.cells?_some g1
            obtain ⟨t, ht, hcs⟩ := ih n (by omega) cs' _ g2 (fun m hm => hwk m (by
              rw [show y5.1 = .slice (elems.map (·.1)) (rest.map (·.1)) from congrArg Prod.fst h2]
              simp only [DataW.weights, Try.underlying23, List.mem_cons, List.mem_append]
              exact .inr (.inl (weights_all (List.mem_map.2 ⟨_, List.getElem_mem _, rfl⟩) hm))))
            refine ⟨t, ht, fun j v hj => ?_⟩
            have hj6 : j < 6 := by have := (List.getElem?_eq_some_iff.1 hj).1; simpa using this
            have := hcell j (by omega)
            rw [Deep.add_add] at this
            rw [this, hcs]
            exact hj
          have : Inhabited Tr := ⟨.mk ⟨0, 0, 0, 0, [], none, 0, none, 0, 0⟩ []⟩
          obtain ⟨tt, htt⟩ := Deep.choose_lt each
          have c0 := (htt 0 (by omega)).2 0 _ rfl
          obtain ⟨b, off, rfl⟩ := add_none (by simpa using c0)
          have hadd : ∀ j, (⟨b, off, none⟩ : Addr).add j = ⟨b, off + j, none⟩ := fun j => by unfold Addr.add; split <;> simp_all
          have hb : b < W.heap.size := by rw [hadd] at c0; exact cell_blk c0
          refine ⟨.mk ⟨x0, x1, x2, x3, rs, q, c, some ⟨b, off, none⟩, len, cap⟩ ((List.range len).map tt), (every_eq _).2 ⟨⟨hr, .inr ⟨b, off, cap, by simp [Tr.f, Tr.ks], hb, by simpa [Tr.ks] using hlc, hcap, fun i t hi => ?_⟩, hfit, hlen⟩, (everyL_iff _).2 fun u hu => ?_⟩, rfl⟩
          · have hi' : ((List.range len).map tt)[i]? = some t := hi
            have hil : i < len := by have := (List.getElem?_eq_some_iff.1 hi').1; simpa using this
            have hqi : tt i = t := by simpa [hil] using hi'
            have hh := (htt i hil).2
            rw [hqi] at hh
            simp only [hadd, ← Nat.add_assoc] at hh
            exact ⟨hh 0 _ rfl, hh 1 _ rfl, hh 2 _ rfl, hh 3 _ rfl, hh 4 _ rfl, hh 5 _ rfl⟩
          · have hu' : u ∈ (List.range len).map tt := hu
            obtain ⟨i, hi, rfl⟩ := List.mem_map.1 hu'
            exact (htt i (List.mem_range.1 hi)).1
theorem cells_mode8 : Try.prog.cellsOf 27 = 2 := by kernel_rfl
theorem cells_bool8 : Try.prog.cellsOf 4 = 1 := by kernel_rfl
set_option maxRecDepth 100000 in
theorem open_node {H : Type} {enc : TypeId × Value → H} {W : World} {base : Nat} {v : Value} {d : DataW H} {p : List MemPlace} (hok : Value.okWide Try.prog W .any base 25 v)
    (h : DataW.Trod enc Try.prog W 0 (fun _ => true) true 25 v d p) (hw : ∀ n ∈ d.weights Try.prog 25, n ≤ reachBytes) : ∃ t : Tr, TA W t ∧ v = .agg #[.int .i64 t.f.k, .int .i64 t.f.n, .int .i64 t.f.mn, .int .i64 t.f.mx, .slice t.f.rq t.f.rs.length t.f.rc, .slice t.f.kq t.f.kl t.f.kc] := by
  obtain ⟨cs, rfl, hsz⟩ := okWide_struct Try.underlying25 hok
  obtain ⟨fuel, hf⟩ := h
  obtain ⟨t, ht, hcs⟩ := open_nodeF fuel _ _ hf hw
  refine ⟨t, ht, ?_⟩
  obtain ⟨l⟩ := cs
  simp [Value.cells] at hcs
  rw [hcs]
set_option maxRecDepth 100000 in
theorem open_mode8 {H : Type} {enc : TypeId × Value → H} {W : World} {base : Nat} {v : Value} {d : DataW H} {p : List MemPlace} (hok : Value.okWide Try.prog W .any base 27 v)
    (h : DataW.Trod enc Try.prog W 0 (fun _ => true) true 27 v d p) : ∃ c f : Bool, v = .agg #[.bool c, .bool f] := by
  obtain ⟨cs, rfl, hsz⟩ := okWide_struct Try.underlying27 hok
  obtain ⟨fuel, hf⟩ := h
  obtain ⟨xs, k, hk, hxy, hcl, hxl, hfs⟩ := DataW.trod_struct Try.underlying27 hf
  rw [cells_mode8] at hcl
  obtain ⟨l⟩ := cs
  simp [Value.cells] at hcl hfs
  match xs, hxl, l, hcl, hfs with
  | [y0, y1], _, [c0, c1], _, hf =>
    have F0 := hf 0 _ rfl
    have F1 := hf 1 _ rfl
    simp [cells_bool8] at F0 F1
    obtain ⟨b0, e0, -⟩ := DataW.trod_bool Try.underlying4 F0
    obtain ⟨b1, e1, -⟩ := DataW.trod_bool Try.underlying4 F1
    cases e0; cases e1
    exact ⟨b0, b1, rfl⟩
end Go.Proofs.Ytlodjinejeajcaa
