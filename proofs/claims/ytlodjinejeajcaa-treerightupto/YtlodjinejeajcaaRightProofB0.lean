/-
  A right tree without groups: its Kids are right by themselves. A tree laid out, as mathematics: its nodes in their order, each with what the document's list says of it. The document's Right against the program's, as mathematics: where a node's part of the list ends; which groups are around a node. The document's table against the program's.
-/
import Derived.Test.YtlodjinejeajcaaC14
import Derived.Test.YtlodjinejeajcaaC2
namespace Go.Proofs.Ytlodjinejeajcaa
open Go Go.RowKit

theorem right_all {c f : Bool} : ∀ (L : List El) (ah gr : Nat), rightM c f ah gr L = 0 → ∀ pre x post, L = pre ++ x :: post → lookM c f x.1 x.2 (ah + pre.length) (gr + grpM pre) = 0
  | [], _, _, _, pre, x, post, h => by cases pre <;> cases h
  | y :: L, ah, gr, hr, pre, x, post, h => by
    unfold rightM at hr
    by_cases hy : lookM c f y.1 y.2 ah gr = 0
    · rw [if_neg (by simpa using hy)] at hr
      cases pre with
      | nil =>
        simp at h
        obtain ⟨rfl, rfl⟩ := h
        simpa [grpM] using hy
      | cons z pre =>
        simp at h
        obtain ⟨rfl, rfl⟩ := h
        have := right_all (pre ++ x :: post) (ah + 1) (gr + (if y.2.f.k = 7 then 1 else 0)) hr pre x post rfl
        simp only [List.length_cons, grpM]
        rw [show ah + (pre.length + 1) = ah + 1 + pre.length by omega, show gr + ((if y.2.f.k = 7 then 1 else 0) + grpM pre) = gr + (if y.2.f.k = 7 then 1 else 0) + grpM pre by omega]
        exact this
    · rw [if_pos hy] at hr
      exact absurd hr hy
theorem all_right {c f : Bool} : ∀ (L : List El) (ah gr : Nat), (∀ pre x post, L = pre ++ x :: post → lookM c f x.1 x.2 (ah + pre.length) (gr + grpM pre) = 0) → rightM c f ah gr L = 0
  | [], _, _, _ => rfl
  | y :: L, ah, gr, h => by
    unfold rightM
    have hy := h [] y L rfl
    simp only [List.length_nil, Nat.add_zero, grpM] at hy
    rw [if_neg (by simpa using hy)]
    refine all_right L (ah + 1) (gr + (if y.2.f.k = 7 then 1 else 0)) fun pre x post e => ?_
    have := h (y :: pre) x post (by rw [e]; rfl)
    simp only [List.length_cons, grpM] at this
    rw [show ah + 1 + pre.length = ah + (pre.length + 1) by omega, show gr + (if y.2.f.k = 7 then 1 else 0) + grpM pre = gr + ((if y.2.f.k = 7 then 1 else 0) + grpM pre) by omega]
    exact this
theorem pps_way {ks : List Tr} (s : Way) (h : ∀ t ∈ ks, ∀ p, pp (p ++ s) t = (pp p t).map fun z => (z.1 ++ s, z.2)) (par : Tr) (p : Way) (i : Nat) : pps par (p ++ s) i ks = (pps par p i ks).map fun z => (z.1 ++ s, z.2) := by
  induction ks generalizing i with
  | nil => rw [pps_nil, pps_nil]; rfl
  | cons t ts ih => rw [pps_cons, pps_cons, List.map_append, ← ih (fun u hu => h u (List.mem_cons_of_mem _ hu)), ← h t (List.mem_cons_self ..)]; rfl
theorem pp_way (s : Way) (t : Tr) : ∀ p, pp (p ++ s) t = (pp p t).map fun z => (z.1 ++ s, z.2) := by
  refine Tr.ind (P := fun t => ∀ p, pp (p ++ s) t = (pp p t).map fun z => (z.1 ++ s, z.2)) (fun t ih p => ?_) t
  rw [pp_eq, pp_eq, List.map_cons, pps_way s ih]
/-- Where a Kid's nodes stand. -/
theorem pps_split {par : Tr} {p : Way} {ks : List Tr} {i : Nat} {u : Tr} (h : ks[i]? = some u) : ∃ a b, pps par p 0 ks = a ++ pp ((par, i) :: p) u ++ b := by
  have e : ks = ks.take i ++ u :: ks.drop (i + 1) := by
    have hi := (List.getElem?_eq_some_iff.1 h).1
    have := List.take_append_drop i ks
    rw [List.drop_eq_getElem_cons hi, (List.getElem?_eq_some_iff.1 h).2] at this
    exact this.symm
  have hl : (ks.take i).length = i := by rw [List.length_take]; have := (List.getElem?_eq_some_iff.1 h).1; omega
  refine ⟨pps par p 0 (ks.take i), pps par p (i + 1) (ks.drop (i + 1)), ?_⟩
  have := pps_append par p (ks.take i) (u :: ks.drop (i + 1)) 0
  rw [← e, hl, pps_cons, Nat.zero_add] at this
  rw [this, List.append_assoc]
theorem grpM_map (s : Way) (l : List El) : grpM (l.map fun z => (z.1 ++ s, z.2)) = grpM l := by
  induction l with
  | nil => rfl
  | cons x l ih => simp only [List.map_cons, grpM, ih]
theorem stand_kind {pk seen k : Int} {kl : Nat} (h : standB pk seen kl k = true) : kindB k = true := by
  have ht : thingB k = true → kindB k = true := by
    intro z
    simp [thingB] at z
    simp [kindB]
    omega
  unfold standB at h
  split at h
  · simp at h
    rcases h with (z | z) | z
    · exact ht z
    · obtain ⟨rfl, -⟩ := z; rfl
    · obtain ⟨rfl, -⟩ := z; rfl
  · split at h
    · exact ht h
    · split at h
      · simp at h; exact h.1
      · exact h
theorem right_len {c f : Bool} {L : List El} (hr : rightM c f 0 0 L = 0) : L.length ≤ 2000 := by
  rcases Nat.lt_or_ge 2000 L.length with h | h
  · exfalso
    have e : L = L.take 2000 ++ L[2000] :: L.drop 2001 := by
      have := List.take_append_drop 2000 L
      rw [List.drop_eq_getElem_cons h] at this
      exact this.symm
    have := right_all L 0 0 hr _ _ _ e
    rw [show 0 + (L.take 2000).length = 2000 by rw [List.length_take]; omega] at this
    unfold lookM at this
    rw [if_pos rfl] at this
    cases this
  · exact h
theorem kid_right {c f : Bool} {t u : Tr} (hu : u ∈ t.ks) (hr : rightM c f 0 0 (pp [] t) = 0) (hg : grpM (pp [] t) = 0) : rightM c f 0 0 (pp [] u) = 0 ∧ grpM (pp [] u) = 0 := by
  obtain ⟨i, hi, hui⟩ := List.getElem_of_mem hu
  have hgi : t.ks[i]? = some u := by rw [List.getElem?_eq_getElem hi, hui]
  obtain ⟨a, b, hab⟩ := pps_split (par := t) (p := []) hgi
  have hw : pp [(t, i)] u = (pp [] u).map fun z => (z.1 ++ [(t, i)], z.2) := pp_way [(t, i)] u []
  rw [hw] at hab
  have hL : pp [] t = (([], t) :: a) ++ ((pp [] u).map fun z => (z.1 ++ [(t, i)], z.2)) ++ b := by rw [pp_eq, hab]; simp
  have hgs : grpM (([], t) :: a) = 0 ∧ grpM (pp [] u) = 0 := by
    rw [hL, grpM_append, grpM_append, grpM_map] at hg
    omega
  refine ⟨all_right _ 0 0 fun pre x post e => ?_, hgs.2⟩
  have h1 := right_all _ 0 0 hr ((([], t) :: a) ++ pre.map fun z => (z.1 ++ [(t, i)], z.2)) (x.1 ++ [(t, i)], x.2) ((post.map fun z => (z.1 ++ [(t, i)], z.2)) ++ b) (by rw [hL, e]; simp)
  have hg2 : grpM pre = 0 ∧ x.2.f.k ≠ 7 := by
    have := hgs.2
    rw [e, grpM_append] at this
    simp only [grpM] at this
    refine ⟨by omega, fun z => ?_⟩
    rw [if_pos z] at this
    omega
  have e1 : grpM ((([], t) :: a) ++ pre.map fun z => (z.1 ++ [(t, i)], z.2)) = 0 := by rw [grpM_append, grpM_map, hgs.1, hg2.1]
  rw [e1, Nat.zero_add, Nat.zero_add] at h1
  rw [hg2.1, Nat.zero_add, Nat.add_zero]
  unfold lookM at h1 ⊢
  simp only [List.length_append, List.length_cons, List.length_nil, List.length_map] at h1
  have hlen := right_len hr
  have hpl : pre.length < 2000 := by
    rw [hL, e] at hlen
    simp at hlen
    omega
  rw [if_neg (by omega)]
  split at h1
  · cases h1
  · split at h1
    · cases h1
    · split at h1
      · cases h1
      · rename_i n1 n2 n3
        have n3' := Classical.not_not.1 n3
        split at h1
        · cases h1
        · split at h1
          · cases h1
          · rename_i n4 n5
            rw [if_neg (by omega), if_neg, if_neg (fun z => hg2.2 z.1), if_neg (fun z => ?_)]
            · have hf := n3'.2.1
              unfold fieldsM at hf
              rw [if_neg (by omega), if_neg (by omega), if_pos z.1] at hf
              exact n5 ⟨z.1, fun q => by have := q.2; omega⟩
            · refine fun q => q ⟨?_, n3'.2⟩
              have hst := n3'.1
              cases hx : x.1 with
              | nil =>
                rw [hx] at hst
                exact stand_kind hst
              | cons y ys =>
                rw [hx] at hst
                exact hst
end Go.Proofs.Ytlodjinejeajcaa
namespace Go.Proofs.Ytlodjinejeajcaa
open Go Go.RowKit

abbrev Zl := El × Nat
def arP : Way → Int | [] => 0 | (par, _) :: _ => par.f.k
def fiP : Way → Bool | [] => true | (_, i) :: _ => (i : Int) == 0
def laP : Way → Bool | [] => true | (par, i) :: _ => (i : Int) == (par.ks.length : Int) - 1
def brP : Way → Bool | [] => true | (par, _) :: r => if par.f.k = 7 ∨ par.f.k = 6 then true else if par.f.k = 5 then brP r else false
/-- A place's twelve cells. -/
def zc (z : Zl) : List Value := z.1.2.f.cells ++ [.int .i64 ((z.1.1.length : Int) + 1), .int .i64 (arP z.1.1), .bool (fiP z.1.1), .bool (laP z.1.1), .bool (brP z.1.1), .int .i64 (z.2 : Int)]
theorem zc_len (z : Zl) : (zc z).length = 12 := by simp [zc, Fl.cells]
def cellsZ (l : List Zl) : List Value := l.flatMap zc
theorem cellsZ_cons (z : Zl) (l : List Zl) : cellsZ (z :: l) = zc z ++ cellsZ l := by simp [cellsZ]
theorem cellsZ_append (a b : List Zl) : cellsZ (a ++ b) = cellsZ a ++ cellsZ b := by simp [cellsZ]
theorem cellsZ_length (l : List Zl) : (cellsZ l).length = l.length * 12 := by
  induction l with
  | nil => rfl
  | cons z l ih => rw [cellsZ_cons, List.length_append, ih, zc_len, List.length_cons]; omega
theorem cellsZ_get : ∀ (l : List Zl) (i j : Nat) (z : Zl), l[i]? = some z → j < 12 → (cellsZ l)[i * 12 + j]? = (zc z)[j]?
  | y :: l, 0, j, z, h, hj => by
    simp at h
    subst h
    rw [cellsZ_cons, Nat.zero_mul, Nat.zero_add, List.getElem?_append_left (by rw [zc_len]; exact hj)]
  | y :: l, i + 1, j, z, h, hj => by
    have ih := cellsZ_get l i j z (by simpa using h) hj
    rw [cellsZ_cons, List.getElem?_append_right (by rw [zc_len]; omega), ← ih, zc_len]
    congr 1
    omega
theorem cellsZ_set : ∀ (l : List Zl) (i : Nat) (x : El) (a b : Nat), l[i]? = some (x, a) → (cellsZ l).set (i * 12 + 11) (.int .i64 (b : Int)) = cellsZ (l.set i (x, b))
  | y :: l, 0, x, a, b, h => by
    simp at h
    subst h
    rw [List.set_cons_zero, cellsZ_cons, cellsZ_cons, Nat.zero_mul, Nat.zero_add, List.set_append_left _ _ (by rw [zc_len]; omega)]
    congr 1
  | y :: l, i + 1, x, a, b, h => by
    have ih := cellsZ_set l i x a b (by simpa using h)
    rw [List.set_cons_succ, cellsZ_cons, cellsZ_cons, List.set_append_right _ _ (by rw [zc_len]; omega), ← ih, zc_len]
    congr 2
    omega
/-- The nodes behind a place, each with where it ends. -/
def tl (most : Nat) : Nat → List El → List Zl
  | _, [] => []
  | k, x :: r => (x, min (k + x.2.sz) most) :: tl most (k + 1) r
theorem tl_append (most : Nat) : ∀ (a b : List El) (k : Nat), tl most k (a ++ b) = tl most k a ++ tl most (k + a.length) b
  | [], b, k => rfl
  | x :: a, b, k => by
    rw [List.cons_append, tl, tl, tl_append most a b (k + 1), List.cons_append, List.length_cons]
    congr 3
    omega
theorem tl_length (most : Nat) : ∀ (a : List El) (k : Nat), (tl most k a).length = a.length
  | [], k => rfl
  | x :: a, k => by rw [tl, List.length_cons, tl_length most a, List.length_cons]
theorem tl_map (most : Nat) : ∀ (a : List El) (k : Nat), (tl most k a).map (·.1) = a
  | [], k => rfl
  | x :: a, k => by rw [tl, List.map_cons, tl_map most a]
/-- What lay makes of a list. -/
def layS (most : Nat) (E : List Zl) (x : El) : List Zl := E ++ (tl most E.length (pp x.1 x.2)).take (most - E.length)
/-- How lay's loop stands. -/
def layI (most : Nat) (E : List Zl) (p : Way) (t : Tr) (j : Nat) : List Zl := E ++ (((p, t), 0) :: tl most (E.length + 1) (pps t p 0 (t.ks.take j))).take (most - E.length)
theorem layI_nil {most : Nat} {E : List Zl} {p : Way} {t : Tr} (h : E.length < most) : layI most E p t 0 = E ++ [((p, t), 0)] := by
  unfold layI
  rw [List.take_zero, pps_nil]
  congr 1
  rw [show most - E.length = (most - E.length - 1) + 1 by omega, List.take_succ_cons]
  simp [tl]
theorem layI_len {most : Nat} {E : List Zl} {p : Way} {t : Tr} {j : Nat} (h : E.length < most) : E.length < (layI most E p t j).length ∧ (layI most E p t j).length ≤ most ∧ (layI most E p t j).length = E.length + min (most - E.length) (1 + (pps t p 0 (t.ks.take j)).length) := by
  have : (layI most E p t j).length = E.length + min (most - E.length) (1 + (pps t p 0 (t.ks.take j)).length) := by
    unfold layI
    rw [List.length_append, List.length_take, List.length_cons, tl_length]
    congr 2
    omega
  refine ⟨?_, ?_, this⟩
  · rw [this]; omega
  · rw [this]; omega
theorem layI_head {most : Nat} {E : List Zl} {p : Way} {t : Tr} {j : Nat} (h : E.length < most) : (layI most E p t j)[E.length]? = some ((p, t), 0) := by
  unfold layI
  rw [List.getElem?_append_right (Nat.le_refl _), Nat.sub_self, show most - E.length = (most - E.length - 1) + 1 by omega, List.take_succ_cons]
  rfl
theorem take_next8 (most : Nat) (E : List Zl) (z : Zl) (A B : List El) (hf : E.length + (1 + A.length) < most) :
    (E ++ (z :: tl most (E.length + 1) A)) ++ (tl most (E.length + (1 + A.length)) B).take (most - (E.length + (1 + A.length))) = E ++ (z :: tl most (E.length + 1) (A ++ B)).take (most - E.length) := by
  rw [tl_append, List.append_assoc, ← List.cons_append]
  congr 1
  have hl : (z :: tl most (E.length + 1) A).length = 1 + A.length := by rw [List.length_cons, tl_length]; omega
  have h1 : ((z :: tl most (E.length + 1) A) ++ tl most (E.length + 1 + A.length) B).take (most - E.length) = (z :: tl most (E.length + 1) A) ++ (tl most (E.length + 1 + A.length) B).take (most - E.length - (1 + A.length)) := by
    rw [List.take_append, List.take_of_length_le (by rw [hl]; omega), hl]
  rw [h1, show E.length + 1 + A.length = E.length + (1 + A.length) by omega, show most - E.length - (1 + A.length) = most - (E.length + (1 + A.length)) by omega]
theorem layI_next {most : Nat} {E : List Zl} {p : Way} {t u : Tr} {j : Nat} (h : E.length < most) (hu : t.ks[j]? = some u) (hl : (layI most E p t j).length < most) : layS most (layI most E p t j) ((t, j) :: p, u) = layI most E p t (j + 1) := by
  have hlen := (layI_len (p := p) (t := t) (j := j) h).2.2
  have e1 : layI most E p t j = E ++ (((p, t), 0) :: tl most (E.length + 1) (pps t p 0 (t.ks.take j))) := by
    unfold layI
    rw [List.take_of_length_le (by rw [List.length_cons, tl_length]; omega)]
  have hfull : (layI most E p t j).length = E.length + (1 + (pps t p 0 (t.ks.take j)).length) := by omega
  have e2 : layI most E p t (j + 1) = E ++ (((p, t), 0) :: tl most (E.length + 1) (pps t p 0 (t.ks.take j) ++ pp ((t, j) :: p) u)).take (most - E.length) := by
    unfold layI
    rw [pps_take hu]
  rw [e2]
  unfold layS
  rw [hfull, ← take_next8 most E _ _ _ (by omega), ← e1]
theorem layI_full {most : Nat} {E : List Zl} {p : Way} {t : Tr} {j : Nat} (h : E.length < most) (hl : ¬ (layI most E p t j).length < most) : layI most E p t j = layI most E p t t.ks.length := by
  have hlen := layI_len (p := p) (t := t) (j := j) h
  have hbig : most - E.length ≤ 1 + (pps t p 0 (t.ks.take j)).length := by omega
  unfold layI
  congr 1
  have hp : pps t p 0 (t.ks.take j) <+: pps t p 0 (t.ks.take t.ks.length) := by
    rw [List.take_length]
    exact pps_pre j
  obtain ⟨r, hr⟩ := hp
  rw [← hr, tl_append, ← List.cons_append, List.take_append_of_le_length (by rw [List.length_cons, tl_length]; omega)]
theorem layI_end {most : Nat} {E : List Zl} {p : Way} {t : Tr} (h : E.length < most) : (layI most E p t t.ks.length).set E.length ((p, t), (layI most E p t t.ks.length).length) = layS most E (p, t) := by
  have hlen := (layI_len (p := p) (t := t) (j := t.ks.length) h).2.2
  have hsz : 1 + (pps t p 0 (t.ks.take t.ks.length)).length = t.sz := by
    have := pp_len t p
    rw [pp_eq, List.length_cons] at this
    rw [List.take_length]
    omega
  rw [hlen, hsz]
  unfold layI layS
  rw [List.set_append_right _ _ (Nat.le_refl _), Nat.sub_self, show most - E.length = (most - E.length - 1) + 1 by omega, List.take_succ_cons, List.set_cons_zero]
  congr 1
  show _ = (tl most E.length (pp p t)).take _
  rw [pp_eq, tl, List.take_succ_cons, List.take_length]
  congr 2
  show _ = min (E.length + t.sz) most
  omega
end Go.Proofs.Ytlodjinejeajcaa
namespace Go.Proofs.Ytlodjinejeajcaa
open Go Go.RowKit

/-- From a node on the list goes on with its own nodes. -/
theorem seg (t : Tr) : ∀ (p : Way) (j : Nat) (x : El), (pp p t)[j]? = some x → ∃ rest, (pp p t).drop j = pp x.1 x.2 ++ rest := by
  refine Tr.ind (P := fun t => ∀ (p : Way) (j : Nat) (x : El), (pp p t)[j]? = some x → ∃ rest, (pp p t).drop j = pp x.1 x.2 ++ rest) (fun t ih p j x h => ?_) t
  cases j with
  | zero =>
    rw [pp_eq] at h
    simp at h
    subst h
    exact ⟨[], by simp⟩
  | succ j =>
    rw [pp_eq] at h ⊢
    rw [List.getElem?_cons_succ] at h
    rw [List.drop_succ_cons]
    have key : ∀ (ks : List Tr) (i j : Nat), (∀ u ∈ ks, u ∈ t.ks) → (pps t p i ks)[j]? = some x → ∃ rest, (pps t p i ks).drop j = pp x.1 x.2 ++ rest := by
      intro ks
      induction ks with
      | nil => intro i j _ h; rw [pps_nil] at h; simp at h
      | cons u ks ihk =>
        intro i j hm h
        rw [pps_cons] at h ⊢
        by_cases hj : j < (pp ((t, i) :: p) u).length
        · rw [List.getElem?_append_left hj] at h
          obtain ⟨rest, hr⟩ := ih u (hm u List.mem_cons_self) _ _ _ h
          refine ⟨rest ++ pps t p (i + 1) ks, ?_⟩
          rw [List.drop_append_of_le_length (by omega), hr, List.append_assoc]
        · rw [List.getElem?_append_right (by omega)] at h
          obtain ⟨rest, hr⟩ := ihk (i + 1) _ (fun v hv => hm v (List.mem_cons_of_mem _ hv)) h
          refine ⟨rest, ?_⟩
          rw [List.drop_append, List.drop_eq_nil_of_le (by omega), List.nil_append, hr]
    exact key t.ks 0 j (fun _ h => h) h
theorem seg_len {t : Tr} {p : Way} {j : Nat} {x : El} (h : (pp p t)[j]? = some x) : j + x.2.sz ≤ t.sz := by
  obtain ⟨rest, hr⟩ := seg t p j x h
  have := congrArg List.length hr
  rw [List.length_drop, List.length_append, pp_len, pp_len] at this
  have hj := (List.getElem?_eq_some_iff.1 h).1
  rw [pp_len] at hj
  omega
/-- The node around a node. -/
theorem anc (t : Tr) : ∀ (p : Way) (i : Nat) (x : El) (par : Tr) (k : Nat) (r : Way), (pp p t)[i]? = some x → x.1 = (par, k) :: r → i = 0 ∨ ∃ j, j < i ∧ (pp p t)[j]? = some (r, par) ∧ i < j + par.sz := by
  refine Tr.ind (P := fun t => ∀ (p : Way) (i : Nat) (x : El) (par : Tr) (k : Nat) (r : Way), (pp p t)[i]? = some x → x.1 = (par, k) :: r → i = 0 ∨ ∃ j, j < i ∧ (pp p t)[j]? = some (r, par) ∧ i < j + par.sz) (fun t ih p i x par k r h hx => ?_) t
  cases i with
  | zero => exact .inl rfl
  | succ i =>
    refine .inr ?_
    have hil := (List.getElem?_eq_some_iff.1 h).1
    rw [pp_len] at hil
    rw [pp_eq] at h ⊢
    rw [List.getElem?_cons_succ] at h
    have key : ∀ (ks : List Tr) (m i : Nat), (∀ u ∈ ks, u ∈ t.ks) → (pps t p m ks)[i]? = some x → (par = t ∧ r = p) ∨ ∃ j, j < i ∧ (pps t p m ks)[j]? = some (r, par) ∧ i < j + par.sz := by
      intro ks
      induction ks with
      | nil => intro m i _ h; rw [pps_nil] at h; simp at h
      | cons u ks ihk =>
        intro m i hm h
        rw [pps_cons] at h ⊢
        by_cases hi : i < (pp ((t, m) :: p) u).length
        · rw [List.getElem?_append_left hi] at h
          rcases ih u (hm u List.mem_cons_self) _ _ _ _ _ _ h hx with rfl | ⟨j, h1, h2, h3⟩
          · rw [pp_eq] at h
            simp at h
            subst h
            injection hx with e1 e2
            injection e1 with e1 _
            exact .inl ⟨e1.symm, e2.symm⟩
          · exact .inr ⟨j, h1, by rw [List.getElem?_append_left (by omega)]; exact h2, h3⟩
        · rw [List.getElem?_append_right (by omega)] at h
          rcases ihk (m + 1) _ (fun v hv => hm v (List.mem_cons_of_mem _ hv)) h with e | ⟨j, h1, h2, h3⟩
          · exact .inl e
          · exact .inr ⟨j + (pp ((t, m) :: p) u).length, by omega, by rw [List.getElem?_append_right (by omega), Nat.add_sub_cancel]; exact h2, by omega⟩
    rcases key t.ks 0 i (fun _ h => h) h with ⟨rfl, rfl⟩ | ⟨j, h1, h2, h3⟩
    · exact ⟨0, by omega, rfl, by omega⟩
    · exact ⟨j + 1, by omega, by rw [List.getElem?_cons_succ]; exact h2, by omega⟩
/-- All nodes around a node stand ahead of it, and it is within their parts. -/
theorem ancs {t : Tr} : ∀ (s : Way) (i : Nat) (x : El) (par : Tr) (k : Nat) (r : Way), (pp [] t)[i]? = some x → x.1 = s ++ (par, k) :: r → ∃ j, j < i ∧ (pp [] t)[j]? = some (r, par) ∧ i < j + par.sz
  | [], i, x, par, k, r, h, hx => by
    rcases anc t [] i x par k r h hx with rfl | q
    · rw [pp_eq] at h
      simp at h
      subst h
      cases hx
    · exact q
  | (a, b) :: s, i, x, par, k, r, h, hx => by
    have h0 : i ≠ 0 := fun e => by
      subst e
      rw [pp_eq] at h
      simp at h
      subst h
      cases hx
    rcases anc t [] i x a b (s ++ (par, k) :: r) h hx with rfl | ⟨j1, h1, h2, h3⟩
    · exact absurd rfl h0
    · obtain ⟨j, h4, h5, h6⟩ := ancs s j1 _ par k r h2 rfl
      refine ⟨j, by omega, h5, ?_⟩
      obtain ⟨rest, hr⟩ := seg t [] j _ h5
      have h7 : (pp r par)[j1 - j]? = some (s ++ (par, k) :: r, a) := by
        have e : ((pp [] t).drop j)[j1 - j]? = some (s ++ (par, k) :: r, a) := by rw [List.getElem?_drop, show j + (j1 - j) = j1 by omega]; exact h2
        rw [hr, List.getElem?_append_left (by rw [pp_len]; show j1 - j < par.sz; omega)] at e
        exact e
      have := seg_len h7
      simp only at this
      omega
/-- A node within a node's part has it around it. -/
theorem within {t : Tr} {i j : Nat} {x y : El} (hx : (pp [] t)[i]? = some x) (hy : (pp [] t)[j]? = some y) (h1 : j < i) (h2 : i < j + y.2.sz) : ∃ s k, x.1 = s ++ (y.2, k) :: y.1 := by
  obtain ⟨rest, hr⟩ := seg t [] j y hy
  have e : ((pp [] t).drop j)[i - j]? = some x := by rw [List.getElem?_drop, show j + (i - j) = i by omega]; exact hx
  rw [hr, List.getElem?_append_left (by rw [pp_len]; omega), pp_eq, show i - j = (i - j - 1) + 1 by omega, List.getElem?_cons_succ] at e
  have hm := List.mem_of_getElem? e
  have : ∀ (ks : List Tr) (m : Nat), x ∈ pps y.2 y.1 m ks → ∃ s k, x.1 = s ++ (y.2, k) :: y.1 := by
    intro ks
    induction ks with
    | nil => intro m h; rw [pps_nil] at h; cases h
    | cons u ks ih =>
      intro m h
      rw [pps_cons] at h
      rcases List.mem_append.1 h with h | h
      · have hw := pp_way ((y.2, m) :: y.1) u []
        rw [List.nil_append] at hw
        rw [hw] at h
        obtain ⟨z, -, rfl⟩ := List.mem_map.1 h
        exact ⟨z.1, m, rfl⟩
      · exact ih (m + 1) h
  exact this _ _ hm
/-- Where the groups stand. -/
def gpos : Nat → List El → List Nat
  | _, [] => []
  | k, x :: r => if x.2.f.k = 7 then k :: gpos (k + 1) r else gpos (k + 1) r
theorem gpos_append : ∀ (k : Nat) (a b : List El), gpos k (a ++ b) = gpos k a ++ gpos (k + a.length) b
  | k, [], b => by simp [gpos]
  | k, x :: a, b => by
    rw [List.cons_append, gpos, gpos, gpos_append (k + 1) a b, List.length_cons, show k + 1 + a.length = k + (a.length + 1) by omega]
    split <;> rfl
theorem gpos_len : ∀ (k : Nat) (a : List El), (gpos k a).length = grpM a
  | k, [] => rfl
  | k, x :: a => by
    rw [gpos]
    simp only [grpM]
    split
    · rw [List.length_cons, gpos_len (k + 1) a]; omega
    · rw [gpos_len (k + 1) a]; omega
theorem gpos_snoc (a : List El) (x : El) : gpos 0 (a ++ [x]) = gpos 0 a ++ (if x.2.f.k = 7 then [a.length] else []) := by
  rw [gpos_append, Nat.zero_add]
  congr 1
theorem gpos_at {a : List El} {j : Nat} {y : El} (h : a[j]? = some y) (hk : y.2.f.k = 7) : (gpos 0 a)[grpM (a.take j)]? = some j := by
  have hj := (List.getElem?_eq_some_iff.1 h).1
  have e : a = a.take j ++ y :: a.drop (j + 1) := by
    have := List.take_append_drop j a
    rw [List.drop_eq_getElem_cons hj, (List.getElem?_eq_some_iff.1 h).2] at this
    exact this.symm
  have hl : (a.take j).length = j := by rw [List.length_take]; omega
  conv => lhs; arg 1; rw [e]
  rw [gpos_append, ← gpos_len 0 (a.take j), List.getElem?_append_right (Nat.le_refl _), Nat.sub_self, gpos, if_pos hk, hl, Nat.zero_add]
  rfl
theorem gpos_get : ∀ (a : List El) (k m j : Nat), (gpos k a)[m]? = some j → k ≤ j ∧ ∃ y, a[j - k]? = some y ∧ y.2.f.k = 7 ∧ grpM (a.take (j - k)) = m
  | [], k, m, j, h => by simp [gpos] at h
  | x :: a, k, m, j, h => by
    rw [gpos] at h
    by_cases hk : x.2.f.k = 7
    · rw [if_pos hk] at h
      cases m with
      | zero =>
        simp at h
        subst h
        refine ⟨Nat.le_refl _, x, ?_, hk, ?_⟩
        · rw [Nat.sub_self]; rfl
        · rw [Nat.sub_self]; rfl
      | succ m =>
        rw [List.getElem?_cons_succ] at h
        obtain ⟨h1, y, h2, h3, h4⟩ := gpos_get a (k + 1) m j h
        refine ⟨by omega, y, ?_, h3, ?_⟩
        · rw [show j - k = (j - (k + 1)) + 1 by omega, List.getElem?_cons_succ]; exact h2
        · rw [show j - k = (j - (k + 1)) + 1 by omega, List.take_succ_cons, grpM, if_pos hk, h4]; omega
    · rw [if_neg hk] at h
      obtain ⟨h1, y, h2, h3, h4⟩ := gpos_get a (k + 1) m j h
      refine ⟨by omega, y, ?_, h3, ?_⟩
      · rw [show j - k = (j - (k + 1)) + 1 by omega, List.getElem?_cons_succ]; exact h2
      · rw [show j - k = (j - (k + 1)) + 1 by omega, List.take_succ_cons, grpM, if_neg hk, h4]; omega
/-- Has a group ended? -/
theorem ended {t : Tr} {pre : List El} {x : El} {N : Nat} {j : Nat} (hp : pre ++ [x] <+: pp [] t) (hnum : ∀ (j : Nat) (y : El), pre[j]? = some y → y.2.f.k = 7 → y.2.f.n = (grpM (pre.take j) : Int) + 1) (hi : pre.length < 2000) (hj : (gpos 0 pre)[N]? = some j) :
    ∃ y, pre[j]? = some y ∧ (endP x.1 ((N : Int) + 1) = false ↔ min (j + y.2.sz) 2001 ≤ pre.length) := by
  obtain ⟨r, hr⟩ := hp
  obtain ⟨-, y, h2, h3, h4⟩ := gpos_get pre 0 N j hj
  rw [Nat.sub_zero] at h2 h4
  have hjl := (List.getElem?_eq_some_iff.1 h2).1
  have hx : (pp [] t)[pre.length]? = some x := by rw [← hr, List.append_assoc, List.getElem?_append_right (Nat.le_refl _), Nat.sub_self]; rfl
  have hin : ∀ (k : Nat) (z : El), k < pre.length → (pp [] t)[k]? = some z → pre[k]? = some z := fun k z hk hz => by
    rw [← hr, List.append_assoc, List.getElem?_append_left hk] at hz
    exact hz
  have hy : (pp [] t)[j]? = some y := by rw [← hr, List.append_assoc, List.getElem?_append_left hjl]; exact h2
  refine ⟨y, h2, ?_⟩
  have hny := hnum j y h2 h3
  rw [h4] at hny
  constructor
  · intro he
    rcases Nat.lt_or_ge pre.length (min (j + y.2.sz) 2001) with q | q
    · exfalso
      obtain ⟨s, k, e⟩ := within hx hy hjl (by omega)
      have : endP x.1 ((N : Int) + 1) = true := by
        unfold endP
        rw [e, List.any_append, List.any_cons]
        simp [h3, hny]
      rw [he] at this
      cases this
    · exact q
  · intro hm
    cases he : endP x.1 ((N : Int) + 1) with
    | false => rfl
    | true =>
      exfalso
      unfold endP at he
      rw [List.any_eq_true] at he
      obtain ⟨⟨par, k⟩, hmem, hh⟩ := he
      simp at hh
      obtain ⟨s, r', e⟩ := List.append_of_mem hmem
      obtain ⟨j', a1, a2, a3⟩ := ancs s pre.length x par k r' hx e
      have b1 := hin j' _ a1 a2
      have b2 := hnum j' _ b1 hh.1
      have b3 : grpM (pre.take j') = N := by
        have : (N : Int) + 1 = (grpM (pre.take j') : Int) + 1 := by rw [← b2]; exact hh.2.symm
        omega
      have b4 := gpos_at b1 hh.1
      rw [b3, hj] at b4
      injection b4 with b4
      subst b4
      rw [h2] at b1
      injection b1 with b1
      subst b1
      simp only at hm
      omega
end Go.Proofs.Ytlodjinejeajcaa
namespace Go.Proofs.Ytlodjinejeajcaa
open Go Go.RowKit

theorem look_parts {c f : Bool} {p : Way} {t : Tr} {ah gr : Nat} (h : lookM c f p t ah gr = 0) : standP p t.f.k = true ∧ fieldsM c f ((gr : Int) + 1) t.f ∧ kidsB t.f.k t.ks.length = true := by
  unfold lookM at h
  split at h
  · cases h
  · split at h
    · cases h
    · split at h
      · cases h
      · rename_i n3
        exact Classical.not_not.1 n3
/-- May a node stand there, as the document says? -/
def standsR (p : Way) (k : Int) : Bool :=
  if arP p = 5 then (if k = 3 then brP p && fiP p else if k = 4 then brP p && laP p else thingB k)
  else if arP p = 9 then thingB k else if arP p = 6 then k != 6 else true
/-- The document's table, a group's number aside. -/
def tableR (c f : Bool) (t : Tr) : Prop :=
  if t.f.k = 1 ∨ t.f.k = 3 ∨ t.f.k = 4 then t.f.n = 0 ∧ t.f.mn = 0 ∧ t.f.mx = 0 ∧ t.f.rs.length = 0 ∧ t.ks.length = 0
  else if t.f.k = 2 then setM c f t.f.rs ∧ t.f.n = 0 ∧ t.f.mn = 0 ∧ t.f.mx = 0 ∧ t.ks.length = 0
  else if t.f.k = 5 ∨ t.f.k = 6 then 1 < t.ks.length ∧ t.f.n = 0 ∧ t.f.mn = 0 ∧ t.f.mx = 0 ∧ t.f.rs.length = 0
  else if t.f.k = 7 then t.ks.length = 1 ∧ t.f.mn = 0 ∧ t.f.mx = 0 ∧ t.f.rs.length = 0
  else if t.f.k = 8 then (1 ≤ t.f.n ∧ t.f.n ≤ 9) ∧ t.f.mn = 0 ∧ t.f.mx = 0 ∧ t.f.rs.length = 0 ∧ t.ks.length = 0
  else if t.f.k = 9 then bndB t.f.mn t.f.mx = true ∧ t.ks.length = 1 ∧ t.f.n = 0 ∧ t.f.rs.length = 0
  else False
theorem table_iff {c f : Bool} {t : Tr} {g : Int} : (kindB t.f.k = true ∧ fieldsM c f g t.f ∧ kidsB t.f.k t.ks.length = true) ↔ (tableR c f t ∧ (t.f.k = 7 → t.f.n = g)) := by
  obtain ⟨F, ks⟩ := t
  obtain ⟨k, n, mn, mx, rs, rq, rc, kq, kl, kc⟩ := F
  simp only [Tr.f, Tr.ks]
  unfold tableR fieldsM kidsB kindB
  simp only [Tr.f, Tr.ks]
  generalize setM c f rs = S
  generalize rs.length = rl
  generalize ks.length = kk
  by_cases h1 : k = 1
  · subst h1; simp; constructor <;> (intro h; omega)
  by_cases h3 : k = 3
  · subst h3; simp; constructor <;> (intro h; omega)
  by_cases h4 : k = 4
  · subst h4; simp; constructor <;> (intro h; omega)
  by_cases h2 : k = 2
  · subst h2; simp
    constructor
    · rintro ⟨⟨a, b, c, d⟩, e⟩; exact ⟨a, b, c, d, e⟩
    · rintro ⟨a, b, c, d, e⟩; exact ⟨⟨a, b, c, d⟩, e⟩
  by_cases h5 : k = 5
  · subst h5; simp; constructor <;> (intro h; omega)
  by_cases h6 : k = 6
  · subst h6; simp; constructor <;> (intro h; omega)
  by_cases h7 : k = 7
  · subst h7; simp; constructor <;> (intro h; omega)
  by_cases h8 : k = 8
  · subst h8; simp; constructor <;> (intro h; omega)
  by_cases h9 : k = 9
  · subst h9; simp
    constructor
    · rintro ⟨⟨a, b, c⟩, e⟩; exact ⟨a, e, b, c⟩
    · rintro ⟨a, e, b, c⟩; exact ⟨⟨a, b, c⟩, e⟩
  · simp [h1, h2, h3, h4, h5, h6, h7, h8, h9]
    intro a b
    omega
theorem stands_iff {p : Way} {k : Int} (hbr : ∀ par i r, p = (par, i) :: r → par.f.k = 5 → brP r = true) (hk : kindB k = true) : standP p k = standsR p k := by
  cases p with
  | nil =>
    unfold standP standsR
    simp [arP, hk]
  | cons y r =>
    obtain ⟨par, i⟩ := y
    have e : standsR ((par, i) :: r) k = (if par.f.k = 5 then (if k = 3 then brP ((par, i) :: r) && ((i : Int) == 0) else if k = 4 then brP ((par, i) :: r) && ((i : Int) == (par.ks.length : Int) - 1) else thingB k) else if par.f.k = 9 then thingB k else if par.f.k = 6 then k != 6 else true) := rfl
    rw [e]
    unfold standP standB
    simp only
    by_cases h5 : par.f.k = 5
    · rw [if_pos h5, if_pos h5]
      have hb : brP ((par, i) :: r) = true := by
        have := hbr par i r rfl h5
        simp [brP, h5, this]
      rw [hb, Bool.true_and, Bool.true_and]
      by_cases k3 : k = 3
      · subst k3
        rw [if_pos rfl]
        simp [thingB]
      · rw [if_neg k3]
        by_cases k4 : k = 4
        · subst k4
          rw [if_pos rfl]
          simp [thingB]
        · rw [if_neg k4]
          have e3 : (k == 3) = false := by simpa using k3
          have e4 : (k == 4) = false := by simpa using k4
          rw [e3, e4, Bool.false_and, Bool.false_and, Bool.or_false, Bool.or_false]
    · rw [if_neg h5, if_neg h5]
      by_cases h9 : par.f.k = 9
      · rw [if_pos h9, if_pos h9]
      · rw [if_neg h9, if_neg h9]
        by_cases h6 : par.f.k = 6
        · rw [if_pos h6, if_pos h6, hk, Bool.true_and]
        · rw [if_neg h6, if_neg h6, hk]
/-- A right NCat is a branch. -/
theorem br_ok {c f : Bool} {t : Tr} {pre : List El} {x : El} (hp : pre ++ [x] <+: pp [] t) (hr : ∀ (j : Nat) (y : El), pre[j]? = some y → lookM c f y.1 y.2 j (grpM (pre.take j)) = 0) : ∀ par i r, x.1 = (par, i) :: r → par.f.k = 5 → brP r = true := by
  intro par i r hx h5
  obtain ⟨rest, he⟩ := hp
  have hxi : (pp [] t)[pre.length]? = some x := by rw [← he, List.append_assoc, List.getElem?_append_right (Nat.le_refl _), Nat.sub_self]; rfl
  have hin : ∀ (k : Nat) (z : El), k < pre.length → (pp [] t)[k]? = some z → pre[k]? = some z := fun k z hk hz => by
    rw [← he, List.append_assoc, List.getElem?_append_left hk] at hz
    exact hz
  cases r with
  | nil => rfl
  | cons y r' =>
    obtain ⟨qq, m⟩ := y
    obtain ⟨j, a1, a2, a3⟩ := ancs [] pre.length x par i ((qq, m) :: r') hxi hx
    have l1 := (look_parts (hr j _ (hin j _ a1 a2))).1
    obtain ⟨j0, b1, b2, b3⟩ := ancs [] j _ qq m r' a2 rfl
    have l2 := (look_parts (hr j0 _ (hin j0 _ (by omega) b2))).2.2
    have hks : 1 ≤ qq.ks.length := by
      have h1 : 2 ≤ qq.sz := by omega
      rw [sz_eq] at h1
      cases hk : qq.ks with
      | nil => rw [hk, szs_nil] at h1; omega
      | cons a l => simp
    have l1' : standB qq.f.k (m : Int) qq.ks.length 5 = true := by
      have : standP ((qq, m) :: r') par.f.k = true := l1
      rw [h5] at this
      exact this
    have l2' : kidsB qq.f.k qq.ks.length = true := l2
    unfold standB at l1'
    simp only [brP]
    by_cases k5 : qq.f.k = 5
    · rw [if_pos k5] at l1'; simp [thingB] at l1'
    · rw [if_neg k5] at l1'
      by_cases k9 : qq.f.k = 9
      · rw [if_pos k9] at l1'; simp [thingB] at l1'
      · by_cases k67 : qq.f.k = 7 ∨ qq.f.k = 6
        · rw [if_pos k67]
        · exfalso
          unfold kidsB at l2'
          rw [if_neg (by omega), if_neg (by omega)] at l2'
          have h0 := eq_of_beq l2'
          omega
/-- The document's first questions about a node. -/
def formedR (c f : Bool) (p : Way) (t : Tr) : Prop := standsR p t.f.k = true ∧ tableR c f t
theorem table_kind {c f : Bool} {t : Tr} (h : tableR c f t) : kindB t.f.k = true := (table_iff (g := t.f.n)).2 ⟨h, fun _ => rfl⟩ |>.1
theorem formed_iff {c f : Bool} {p : Way} {t : Tr} {g : Int} (hbr : ∀ par i r, p = (par, i) :: r → par.f.k = 5 → brP r = true) : (standP p t.f.k = true ∧ fieldsM c f g t.f ∧ kidsB t.f.k t.ks.length = true) ↔ (formedR c f p t ∧ (t.f.k = 7 → t.f.n = g)) := by
  constructor
  · rintro ⟨h1, h2, h3⟩
    have hk : kindB t.f.k = true := by
      cases p with
      | nil => exact h1
      | cons y r => exact stand_kind h1
    have := table_iff.1 ⟨hk, h2, h3⟩
    exact ⟨⟨by rw [← stands_iff hbr hk]; exact h1, this.1⟩, this.2⟩
  · rintro ⟨⟨h1, h2⟩, h3⟩
    have hk := table_kind h2
    have := table_iff.2 ⟨h2, h3⟩
    exact ⟨by rw [stands_iff hbr hk]; exact h1, this.2⟩
end Go.Proofs.Ytlodjinejeajcaa
