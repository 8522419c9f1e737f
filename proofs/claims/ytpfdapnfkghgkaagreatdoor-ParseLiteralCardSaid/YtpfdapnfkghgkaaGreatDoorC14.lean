/-
  A right tree without groups: its Kids are right by themselves. Clones of lists of ranges and of nodes; where a tree lies.
-/
import Derived.Test.YtpfdapnfkghgkaaGreatDoorC13
import Derived.Test.YtpfdapnfkghgkaaGreatDoorC1
import Derived.Test.YtpfdapnfkghgkaaGreatDoorC3
import Derived.Laws.AppendOwnNone
namespace Go.Proofs.YtpfdapnfkghgkaaGreatDoor
open Go Go.RowKit

theorem right_all {c f : Bool} : ∀ (L : List El) (ah gr : Nat), rightM c f ah gr L = 0 → ∀ pre x post, L = pre ++ x :: post → lookM c f x.1 x.2 (ah + pre.length) (gr + grpM pre) = 0
  | [], _, _, _, pre, x, post, h => by cases pre <;> cases h
  | y :: L, ah, gr, hr, pre, x, post, h => by
    unfold rightM at hr
    by_cases hy : lookM c f y.1 y.2 ah gr = 0
    · rw [if_neg (by simpa using hy)] at hr
      cases pre with
      | nil =>
        simp at h
        obtain ⟨rfl, rfl⟩ := h
        simpa [grpM] using hy
      | cons z pre =>
        simp at h
        obtain ⟨rfl, rfl⟩ := h
        have := right_all (pre ++ x :: post) (ah + 1) (gr + (if y.2.f.k = 7 then 1 else 0)) hr pre x post rfl
        simp only [List.length_cons, grpM]
        rw [show ah + (pre.length + 1) = ah + 1 + pre.length by omega, show gr + ((if y.2.f.k = 7 then 1 else 0) + grpM pre) = gr + (if y.2.f.k = 7 then 1 else 0) + grpM pre by omega]
        exact this
    · rw [if_pos hy] at hr
      exact absurd hr hy
theorem all_right {c f : Bool} : ∀ (L : List El) (ah gr : Nat), (∀ pre x post, L = pre ++ x :: post → lookM c f x.1 x.2 (ah + pre.length) (gr + grpM pre) = 0) → rightM c f ah gr L = 0
  | [], _, _, _ => rfl
  | y :: L, ah, gr, h => by
    unfold rightM
    have hy := h [] y L rfl
    simp only [List.length_nil, Nat.add_zero, grpM] at hy
    rw [if_neg (by simpa using hy)]
    refine all_right L (ah + 1) (gr + (if y.2.f.k = 7 then 1 else 0)) fun pre x post e => ?_
    have := h (y :: pre) x post (by rw [e]; rfl)
    simp only [List.length_cons, grpM] at this
    rw [show ah + 1 + pre.length = ah + (pre.length + 1) by omega, show gr + (if y.2.f.k = 7 then 1 else 0) + grpM pre = gr + ((if y.2.f.k = 7 then 1 else 0) + grpM pre) by omega]
    exact this
theorem pps_way {ks : List Tr} (s : Way) (h : ∀ t ∈ ks, ∀ p, pp (p ++ s) t = (pp p t).map fun z => (z.1 ++ s, z.2)) (par : Tr) (p : Way) (i : Nat) : pps par (p ++ s) i ks = (pps par p i ks).map fun z => (z.1 ++ s, z.2) := by
  induction ks generalizing i with
  | nil => rw [pps_nil, pps_nil]; rfl
  | cons t ts ih => rw [pps_cons, pps_cons, List.map_append, ← ih (fun u hu => h u (List.mem_cons_of_mem _ hu)), ← h t (List.mem_cons_self ..)]; rfl
theorem pp_way (s : Way) (t : Tr) : ∀ p, pp (p ++ s) t = (pp p t).map fun z => (z.1 ++ s, z.2) := by
  refine Tr.ind (P := fun t => ∀ p, pp (p ++ s) t = (pp p t).map fun z => (z.1 ++ s, z.2)) (fun t ih p => ?_) t
  rw [pp_eq, pp_eq, List.map_cons, pps_way s ih]
/-- Where a Kid's nodes stand. -/
theorem pps_split {par : Tr} {p : Way} {ks : List Tr} {i : Nat} {u : Tr} (h : ks[i]? = some u) : ∃ a b, pps par p 0 ks = a ++ pp ((par, i) :: p) u ++ b := by
  have e : ks = ks.take i ++ u :: ks.drop (i + 1) := by
    have hi := (List.getElem?_eq_some_iff.1 h).1
    have := List.take_append_drop i ks
    rw [List.drop_eq_getElem_cons hi, (List.getElem?_eq_some_iff.1 h).2] at this
    exact this.symm
  have hl : (ks.take i).length = i := by rw [List.length_take]; have := (List.getElem?_eq_some_iff.1 h).1; omega
  refine ⟨pps par p 0 (ks.take i), pps par p (i + 1) (ks.drop (i + 1)), ?_⟩
  have := pps_append par p (ks.take i) (u :: ks.drop (i + 1)) 0
  rw [← e, hl, pps_cons, Nat.zero_add] at this
  rw [this, List.append_assoc]
theorem grpM_map (s : Way) (l : List El) : grpM (l.map fun z => (z.1 ++ s, z.2)) = grpM l := by
  induction l with
  | nil => rfl
  | cons x l ih => simp only [List.map_cons, grpM, ih]
theorem stand_kind {pk seen k : Int} {kl : Nat} (h : standB pk seen kl k = true) : kindB k = true := by
  have ht : thingB k = true → kindB k = true := by
    intro z
    simp [thingB] at z
    simp [kindB]
    omega
  unfold standB at h
  split at h
  · simp at h
    rcases h with (z | z) | z
    · exact ht z
    · obtain ⟨rfl, -⟩ := z; rfl
    · obtain ⟨rfl, -⟩ := z; rfl
  · split at h
    · exact ht h
    · split at h
      · simp at h; exact h.1
      · exact h
theorem right_len {c f : Bool} {L : List El} (hr : rightM c f 0 0 L = 0) : L.length ≤ 2000 := by
  rcases Nat.lt_or_ge 2000 L.length with h | h
  · exfalso
    have e : L = L.take 2000 ++ L[2000] :: L.drop 2001 := by
      have := List.take_append_drop 2000 L
      rw [List.drop_eq_getElem_cons h] at this
      exact this.symm
    have := right_all L 0 0 hr _ _ _ e
    rw [show 0 + (L.take 2000).length = 2000 by rw [List.length_take]; omega] at this
    unfold lookM at this
    rw [if_pos rfl] at this
    cases this
  · exact h
theorem kid_right {c f : Bool} {t u : Tr} (hu : u ∈ t.ks) (hr : rightM c f 0 0 (pp [] t) = 0) (hg : grpM (pp [] t) = 0) : rightM c f 0 0 (pp [] u) = 0 ∧ grpM (pp [] u) = 0 := by
  obtain ⟨i, hi, hui⟩ := List.getElem_of_mem hu
  have hgi : t.ks[i]? = some u := by rw [List.getElem?_eq_getElem hi, hui]
  obtain ⟨a, b, hab⟩ := pps_split (par := t) (p := []) hgi
  have hw : pp [(t, i)] u = (pp [] u).map fun z => (z.1 ++ [(t, i)], z.2) := pp_way [(t, i)] u []
  rw [hw] at hab
  have hL : pp [] t = (([], t) :: a) ++ ((pp [] u).map fun z => (z.1 ++ [(t, i)], z.2)) ++ b := by rw [pp_eq, hab]; simp
  have hgs : grpM (([], t) :: a) = 0 ∧ grpM (pp [] u) = 0 := by
    rw [hL, grpM_append, grpM_append, grpM_map] at hg
    omega
  refine ⟨all_right _ 0 0 fun pre x post e => ?_, hgs.2⟩
  have h1 := right_all _ 0 0 hr ((([], t) :: a) ++ pre.map fun z => (z.1 ++ [(t, i)], z.2)) (x.1 ++ [(t, i)], x.2) ((post.map fun z => (z.1 ++ [(t, i)], z.2)) ++ b) (by rw [hL, e]; simp)
  have hg2 : grpM pre = 0 ∧ x.2.f.k ≠ 7 := by
    have := hgs.2
    rw [e, grpM_append] at this
    simp only [grpM] at this
    refine ⟨by omega, fun z => ?_⟩
    rw [if_pos z] at this
    omega
  have e1 : grpM ((([], t) :: a) ++ pre.map fun z => (z.1 ++ [(t, i)], z.2)) = 0 := by rw [grpM_append, grpM_map, hgs.1, hg2.1]
  rw [e1, Nat.zero_add, Nat.zero_add] at h1
  rw [hg2.1, Nat.zero_add, Nat.add_zero]
  unfold lookM at h1 ⊢
  simp only [List.length_append, List.length_cons, List.length_nil, List.length_map] at h1
  have hlen := right_len hr
  have hpl : pre.length < 2000 := by
    rw [hL, e] at hlen
    simp at hlen
    omega
  rw [if_neg (by omega)]
  split at h1
  · cases h1
  · split at h1
    · cases h1
    · split at h1
      · cases h1
      · rename_i n1 n2 n3
        have n3' := Classical.not_not.1 n3
        split at h1
        · cases h1
        · split at h1
          · cases h1
          · rename_i n4 n5
            rw [if_neg (by omega), if_neg, if_neg (fun z => hg2.2 z.1), if_neg (fun z => ?_)]
            · have hf := n3'.2.1
              unfold fieldsM at hf
              rw [if_neg (by omega), if_neg (by omega), if_pos z.1] at hf
              exact n5 ⟨z.1, fun q => by have := q.2; omega⟩
            · refine fun q => q ⟨?_, n3'.2⟩
              have hst := n3'.1
              cases hx : x.1 with
              | nil =>
                rw [hx] at hst
                exact stand_kind hst
              | cons y ys =>
                rw [hx] at hst
                exact hst
end Go.Proofs.YtpfdapnfkghgkaaGreatDoor
namespace Go.Proofs.YtpfdapnfkghgkaaGreatDoor
open Go Go.RowKit

def Fl.cells (f : Fl) : List Value := [.int .i64 f.k, .int .i64 f.n, .int .i64 f.mn, .int .i64 f.mx, .slice f.rq f.rs.length f.rc, .slice f.kq f.kl f.kc]
def cellsK (ks : List Tr) : List Value := ks.flatMap fun t => t.f.cells
theorem cellsK_cons (t : Tr) (ks : List Tr) : cellsK (t :: ks) = t.f.cells ++ cellsK ks := by simp [cellsK]
theorem cellsK_append (a b : List Tr) : cellsK (a ++ b) = cellsK a ++ cellsK b := by simp [cellsK]
theorem cellsK_length (ks : List Tr) : (cellsK ks).length = ks.length * 6 := by
  induction ks with
  | nil => rfl
  | cons t ks ih => rw [cellsK_cons, List.length_append, ih, List.length_cons]; simp [Fl.cells]; omega
theorem cellsK_one (ks : List Tr) : ∀ u ∈ cellsK ks, u.oneCell' = true := by
  intro u hu
  unfold cellsK at hu
  rw [List.mem_flatMap] at hu
  obtain ⟨t, -, ht⟩ := hu
  simp [Fl.cells] at ht
  rcases ht with rfl | rfl | rfl | rfl | rfl | rfl <;> rfl
theorem cellsK_get : ∀ (ks : List Tr) (i j : Nat) (t : Tr), ks[i]? = some t → j < 6 → (cellsK ks)[i * 6 + j]? = t.f.cells[j]?
  | t :: ks, 0, j, u, h, hj => by
    simp at h
    subst h
    rw [cellsK_cons, Nat.zero_mul, Nat.zero_add, List.getElem?_append_left (by simpa [Fl.cells] using hj)]
  | t :: ks, i + 1, j, u, h, hj => by
    rw [cellsK_cons, List.getElem?_append_right (by simp [Fl.cells]; omega), show (i + 1) * 6 + j - t.f.cells.length = i * 6 + j by simp [Fl.cells]; omega]
    exact cellsK_get ks i j u (by simpa using h) hj
theorem add_lit (b o j : Nat) : (⟨b, o, none⟩ : Addr).add j = ⟨b, o + j, none⟩ := by unfold Addr.add; split <;> simp_all
theorem Six.at {W : World} {g o : Nat} {f : Fl} (h : Six W g o f) {j : Nat} {u : Value} (hj : f.cells[j]? = some u) : W.cell? ⟨g, o + j, none⟩ = some u := by
  obtain ⟨h0, h1, h2, h3, h4, h5⟩ := h
  match j, hj with
  | 0, hj => simp [Fl.cells] at hj; subst hj; exact h0
  | 1, hj => simp [Fl.cells] at hj; subst hj; exact h1
  | 2, hj => simp [Fl.cells] at hj; subst hj; exact h2
  | 3, hj => simp [Fl.cells] at hj; subst hj; exact h3
  | 4, hj => simp [Fl.cells] at hj; subst hj; exact h4
  | 5, hj => simp [Fl.cells] at hj; subst hj; exact h5
  | j + 6, hj => simp [Fl.cells] at hj
theorem ArgK.news {W : World} {ad : Addr} {n c : Nat} {ks : List Tr} (h : ArgK W (.slice (some ad) n c) ks) : ∀ j u, (cellsK ks)[j]? = some u → W.cell? (ad.add j) = some u := by
  intro j u hj
  have hjl : j < ks.length * 6 := by have := (List.getElem?_eq_some_iff.1 hj).1; rwa [cellsK_length] at this
  rcases h with ⟨p, cap, e, rfl, -⟩ | ⟨g, off, cap, e, h2, h3, h4, h5⟩
  · simp at hjl
  · cases e
    obtain ⟨t, ht⟩ : ∃ t, ks[j / 6]? = some t := ⟨_, List.getElem?_eq_getElem (by omega)⟩
    have hg := cellsK_get ks (j / 6) (j % 6) t ht (by omega)
    rw [show j / 6 * 6 + j % 6 = j by omega, hj] at hg
    have := (h5 (j / 6) t ht).at hg.symm
    rw [add_lit, ← this]
    congr 2
    omega
theorem eql_nil_R (W : World) (a : Option Addr) (l c : Nat) : (binOp .eql 25 (.slice a l c) (.slice none 0 0)).run Tryz.prog W = .ok (.bool a.isNone) W := by
  unfold binOp
  simp [run_equal_slice_nil W _ _ a l c und_ranges]
theorem eql_nil_N (W : World) (a : Option Addr) (l c : Nat) : (binOp .eql 26 (.slice a l c) (.slice none 0 0)).run Tryz.prog W = .ok (.bool a.isNone) W := by
  unfold binOp
  simp [run_equal_slice_nil W _ _ a l c und_nodes]

set_option maxRecDepth 100000 in
set_option maxHeartbeats 1000000 in
theorem cloneR_c {w : World} {q : Option Addr} {k : Nat} {L : List (Int × Int)} (h : ArgR w (.slice q L.length k) L) (hl : L.length + 3 ≤ 8796093022208) :
    Calls Tryz.prog 67 #[.slice q L.length k] w fun e w' => ∃ q' k', e = .returned (.slice q' L.length k') ∧ RR w.heap.size w' (.slice q' L.length k') L ∧ Below w.heap.size w w' := by
  obtain ⟨t0, hi, hz0, hz1, hz2⟩ := info_parts size_range
  cases q with
  | none =>
    have hLn : L = [] ∧ k = 0 := by
      rcases h with ⟨p, cap, e, rfl, hp⟩ | ⟨g, off, cap, e, -⟩
      · cases e; exact ⟨rfl, hp rfl⟩
      · cases e
    obtain ⟨rfl, rfl⟩ := hLn
    have hq := fun W => eql_nil_R W none 0 0
    clear h
    go_enter Tryz.func67, Tryz.ntmps67
    go_wp2
    go_ret
    exact ⟨none, 0, rfl, RR.nil _ _, Below.refl _ _⟩
  | some ad =>
    have hq := fun W => eql_nil_R W (some ad) L.length k
    have B0 : Below w.heap.size w (w.alloc (.cells #[] 99)) := (Below.refl _ _).alloc (Nat.le_refl _) _
    have OW : Hid ((w.alloc (.cells #[] 99)).ownsRow w.heap.size 99 2 (.slice (some ⟨w.heap.size, 0, none⟩) 0 0) 0 []) := ⟨rfl, .inr ⟨w.heap.size, 0, #[], rfl, Nat.le_refl _, alloc_new w _, Nat.le_refl _, Nat.zero_le _, rfl, rfl⟩⟩
    have HG := hide (h.kept B0).news
    clear h B0
    go_enter Tryz.func67, Tryz.ntmps67
    go_wp2_with (at_builtin; refine wpList_append_own_at _ rfl _ _ 25 rfl w.heap.size 99 t0 (.agg #[.int .i64 0, .int .i64 0]) 2 16 und_ranges hi hz0 hz1 hz2 rfl (by decide) (.slice (some ⟨w.heap.size, 0, none⟩) 0 0) 0 [] rfl OW.out ad L.length k (cellsR L) rfl (by rw [cellsR_length]) HG.out (cellsR_one L) (by unfold maxLen; omega) (by omega) (by simp) ?_; intro v' w6 hown' hgrow _ hblk; obtain ⟨q6, cap6, rfl⟩ := ownsRow_shape hown'; have O6 : Hid (w6.ownsRow w.heap.size 99 2 (.slice q6 (0 + L.length) cap6) (0 + L.length) ([] ++ cellsR L)) := hown'; have B6 : Hid (Below w.heap.size w w6) := ((((Fr.refl (fun k => k = w.heap.size) w).alloc _).grown hgrow (fun k hk => by (simp [Value.ownBlock] at hk; exact hk.symm))).below (Nat.le_refl _) (fun k hk => by omega)); clear hown' hgrow hblk)
    go_ret
    have := O6.out
    rw [Nat.zero_add, List.nil_append] at this
    exact ⟨q6, cap6, by simp, this, B6.out⟩
set_option maxRecDepth 100000 in
set_option maxHeartbeats 1000000 in
theorem cloneN_c {w : World} {q : Option Addr} {k : Nat} {ks : List Tr} (h : ArgK w (.slice q ks.length k) ks) (hl : ks.length ≤ 1000000) :
    Calls Tryz.prog 68 #[.slice q ks.length k] w fun e w' => ∃ q' k', e = .returned (.slice q' ks.length k') ∧ w'.ownsRow w.heap.size 28 6 (.slice q' ks.length k') ks.length (cellsK ks) ∧ Below w.heap.size w w' := by
  obtain ⟨t0, hi, hz0, hz1, hz2⟩ := info_parts size_node
  cases q with
  | none =>
    have hLn : ks = [] ∧ k = 0 := by
      rcases h with ⟨p, cap, e, rfl, hp⟩ | ⟨g, off, cap, e, -⟩
      · cases e; exact ⟨rfl, hp rfl⟩
      · cases e
    obtain ⟨rfl, rfl⟩ := hLn
    have hq := fun W => eql_nil_N W none 0 0
    clear h
    go_enter Tryz.func68, Tryz.ntmps68
    go_wp2
    go_ret
    exact ⟨none, 0, rfl, World.ownsRow_nil _ _ _ _, Below.refl _ _⟩
  | some ad =>
    have hq := fun W => eql_nil_N W (some ad) ks.length k
    have B0 : Below w.heap.size w (w.alloc (.cells #[] 28)) := (Below.refl _ _).alloc (Nat.le_refl _) _
    have OW : Hid ((w.alloc (.cells #[] 28)).ownsRow w.heap.size 28 6 (.slice (some ⟨w.heap.size, 0, none⟩) 0 0) 0 []) := ⟨rfl, .inr ⟨w.heap.size, 0, #[], rfl, Nat.le_refl _, alloc_new w _, Nat.le_refl _, Nat.zero_le _, rfl, rfl⟩⟩
    have HG := hide (h.ck (CK.of_below B0)).news
    clear h B0
    go_enter Tryz.func68, Tryz.ntmps68
    go_wp2_with (at_builtin; refine wpList_append_own_at _ rfl _ _ 26 rfl w.heap.size 28 t0 (.agg #[.int .i64 0, .int .i64 0, .int .i64 0, .int .i64 0, .slice none 0 0, .slice none 0 0]) 6 80 und_nodes hi hz0 hz1 hz2 rfl (by decide) (.slice (some ⟨w.heap.size, 0, none⟩) 0 0) 0 [] rfl OW.out ad ks.length k (cellsK ks) rfl (by rw [cellsK_length]) HG.out (cellsK_one ks) (by unfold maxLen; omega) (by omega) (by simp) ?_; intro v' w6 hown' hgrow _ hblk; obtain ⟨q6, cap6, rfl⟩ := ownsRow_shape hown'; have O6 : Hid (w6.ownsRow w.heap.size 28 6 (.slice q6 (0 + ks.length) cap6) (0 + ks.length) ([] ++ cellsK ks)) := hown'; have B6 : Hid (Below w.heap.size w w6) := ((((Fr.refl (fun k => k = w.heap.size) w).alloc _).grown hgrow (fun k hk => by (simp [Value.ownBlock] at hk; exact hk.symm))).below (Nat.le_refl _) (fun k hk => by omega)); clear hown' hgrow hblk)
    go_ret
    have := O6.out
    rw [Nat.zero_add, List.nil_append] at this
    exact ⟨q6, cap6, by simp, this, B6.out⟩

/-- The blocks in which a node's lists lie. -/
def footP (N : Nat → Prop) (t : Tr) : Prop := (∀ a, t.f.rq = some a → t.f.rs ≠ [] → N a.block) ∧ (∀ a, t.f.kq = some a → t.ks ≠ [] → N a.block)
def Foot (N : Nat → Prop) (t : Tr) : Prop := Every (footP N) t
theorem Foot.mono {N M : Nat → Prop} {t : Tr} (h : Foot N t) (hm : ∀ k, N k → M k) : Foot M t := every_imp (fun _ q => ⟨fun a e z => hm _ (q.1 a e z), fun a e z => hm _ (q.2 a e z)⟩) t h
theorem NA.foot {W : World} {t : Tr} (h : NA W t) : footP (fun k => k < W.heap.size) t := by
  refine ⟨fun a e hz => ?_, fun a e hz => ?_⟩
  · rcases h.r with ⟨p, cap, -, e2, -⟩ | ⟨g, off, cap, e2, hg, -⟩
    · exact absurd e2 hz
    · injection e2 with e3
      rw [e] at e3
      cases e3
      exact hg
  · rcases h.k with ⟨p, cap, -, e2, -⟩ | ⟨g, off, cap, e2, hg, -⟩
    · exact absurd e2 hz
    · injection e2 with e3
      rw [e] at e3
      cases e3
      exact hg
theorem TA.foot {W : World} {t : Tr} (h : TA W t) : Foot (fun k => k < W.heap.size) t := every_imp (fun _ => NA.foot) t h
theorem NA.ckN {N : Nat → Prop} {W W' : World} {t : Tr} (h : NA W t) (hf : footP N t) (hc : CKeep N W W') : NA W' t := by
  refine ⟨?_, ?_, h.fit, h.len, fun a e z => ?_, fun a e z => ?_⟩
  rotate_left 2
  · obtain ⟨cur, q⟩ := h.own.1 a e z
    exact ⟨cur, hc.same _ _ _ _ (hf.1 a e z) q⟩
  · obtain ⟨cur, q⟩ := h.own.2 a e z
    exact ⟨cur, hc.same _ _ _ _ (hf.2 a e z) q⟩
  · rcases h.r with q | ⟨g, off, cap, e, hg, h1, h2, h3⟩
    · exact .inl q
    · injection e with e1 e2 e3
      refine .inr ⟨g, off, cap, by rw [e1, e3], Nat.lt_of_lt_of_le hg hc.size, h1, h2, fun i x hx => ?_⟩
      have hN : N g := hf.1 _ e1 (fun z => by rw [z] at hx; simp at hx)
      exact ⟨cell_ck hc (p := ⟨g, off + 2 * i, none⟩) hN (h3 i x hx).1, cell_ck hc (p := ⟨g, off + 2 * i + 1, none⟩) hN (h3 i x hx).2⟩
  · rcases h.k with q | ⟨g, off, cap, e, hg, h1, h2, h3⟩
    · exact .inl q
    · injection e with e1 e2 e3
      refine .inr ⟨g, off, cap, by rw [e1, e2, e3], Nat.lt_of_lt_of_le hg hc.size, h1, h2, fun i x hx => (h3 i x hx).ck hc (hf.2 _ e1 (fun z => by rw [z] at hx; simp at hx))⟩
theorem every_two {P Q R : Tr → Prop} (h : ∀ t, P t → Q t → R t) (t : Tr) : Every P t → Every Q t → Every R t := by
  refine Tr.ind (P := fun t => Every P t → Every Q t → Every R t) (fun t ih hp hq => ?_) t
  exact (every_eq t).2 ⟨h t ((every_eq t).1 hp).1 ((every_eq t).1 hq).1, (everyL_iff _).2 fun u hu => ih u hu (every_kid hp hu) (every_kid hq hu)⟩
theorem TA.ckN {N : Nat → Prop} {W W' : World} {t : Tr} (h : TA W t) (hf : Foot N t) (hc : CKeep N W W') : TA W' t := every_two (fun _ a b => NA.ckN a b hc) t h hf
/-- A row of nodes. -/
structure KR (W : World) (g : Nat) (ks : List Tr) : Prop where
  blk : ∃ cur, W.heap[g]? = some (.cells cur 28 (0, 0))
  six : ∀ (i : Nat) (t : Tr), ks[i]? = some t → Six W g (i * 6) t.f
theorem KR.of_row {W : World} {base g n c : Nat} {ks : List Tr} (h : W.ownsRow base 28 6 (.slice (some ⟨g, 0, none⟩) n c) n (cellsK ks)) : KR W g ks := by
  obtain ⟨-, -, cur, hc⟩ := ownsRow_at h (g := g) rfl
  have at' : ∀ (i j : Nat) (t : Tr) (u : Value), ks[i]? = some t → t.f.cells[j]? = some u → W.cell? ⟨g, i * 6 + j, none⟩ = some u := fun i j t u hi hj =>
    ownsRow_cell h ((cellsK_get ks i j t hi (by have := (List.getElem?_eq_some_iff.1 hj).1; simpa [Fl.cells] using this)).trans hj)
  exact ⟨⟨cur, hc⟩, fun i t hi => ⟨at' i 0 t _ hi rfl, at' i 1 t _ hi rfl, at' i 2 t _ hi rfl, at' i 3 t _ hi rfl, at' i 4 t _ hi rfl, at' i 5 t _ hi rfl⟩⟩
theorem KR.arg {W : World} {g c : Nat} {ks : List Tr} (h : KR W g ks) (h1 : ks.length ≤ c) (h2 : c ≤ maxLen) : ArgK W (.slice (some ⟨g, 0, none⟩) ks.length c) ks := by
  obtain ⟨cur, hc⟩ := h.blk
  exact .inr ⟨g, 0, c, rfl, lt_of_heap hc, h1, h2, fun i t hi => by rw [Nat.zero_add]; exact h.six i t hi⟩
theorem KR.ck {N : Nat → Prop} {W W' : World} {g : Nat} {ks : List Tr} (h : KR W g ks) (hc : CKeep N W W') (hg : N g) : KR W' g ks := by
  obtain ⟨cur, hb⟩ := h.blk
  exact ⟨⟨cur, hc.same _ _ _ _ hg hb⟩, fun i t hi => (h.six i t hi).ck hc hg⟩
theorem KR.kept {W W' : World} {g : Nat} {ks : List Tr} (h : KR W g ks) (hb : Below W.heap.size W W') : KR W' g ks := by
  obtain ⟨cur, hc⟩ := h.blk
  exact h.ck (CK.of_below hb) (lt_of_heap hc)
theorem KR.frz {W : World} {g : Nat} {ks : List Tr} (h : KR W g ks) (j : Nat) : W.frozen? ⟨g, j, none⟩ = false := by
  obtain ⟨cur, hc⟩ := h.blk
  exact frz_row hc j
theorem KR.lt {W : World} {g : Nat} {ks : List Tr} (h : KR W g ks) : g < W.heap.size := by
  obtain ⟨cur, hc⟩ := h.blk
  exact lt_of_heap hc
def put6 (W : World) (b o : Nat) (f : Fl) : World :=
  (((((W.setCell ⟨b, o, none⟩ (.int .i64 f.k)).setCell ⟨b, o + 1, none⟩ (.int .i64 f.n)).setCell ⟨b, o + 2, none⟩ (.int .i64 f.mn)).setCell ⟨b, o + 3, none⟩ (.int .i64 f.mx)).setCell ⟨b, o + 4, none⟩ (.slice f.rq f.rs.length f.rc)).setCell ⟨b, o + 5, none⟩ (.slice f.kq f.kl f.kc)
theorem put6_fr (W : World) (b o : Nat) (f : Fl) : Fr (fun z => z = b) W (put6 W b o f) := by
  unfold put6
  exact ((((((Fr.refl (fun z => z = b) W).setCell (p := ⟨b, o, none⟩) rfl _).setCell (p := ⟨b, o + 1, none⟩) rfl _).setCell (p := ⟨b, o + 2, none⟩) rfl _).setCell (p := ⟨b, o + 3, none⟩) rfl _).setCell (p := ⟨b, o + 4, none⟩) rfl _).setCell (p := ⟨b, o + 5, none⟩) rfl _
theorem put6_six {W : World} {b o : Nat} {f g : Fl} (h : Six W b o f) : Six (put6 W b o g) b o g := by
  obtain ⟨k0, k1, k2, k3, k4, k5⟩ := h
  unfold put6
  refine ⟨?_, ?_, ?_, ?_, ?_, ?_⟩
  · exact cell_off (cell_off (cell_off (cell_off (cell_off (World.cell?_setCell_same _ _ _ k0) (by omega)) (by omega)) (by omega)) (by omega)) (by omega)
  · exact cell_off (cell_off (cell_off (cell_off (World.cell?_setCell_same _ _ _ (cell_off k1 (by omega))) (by omega)) (by omega)) (by omega)) (by omega)
  · exact cell_off (cell_off (cell_off (World.cell?_setCell_same _ _ _ (cell_off (cell_off k2 (by omega)) (by omega))) (by omega)) (by omega)) (by omega)
  · exact cell_off (cell_off (World.cell?_setCell_same _ _ _ (cell_off (cell_off (cell_off k3 (by omega)) (by omega)) (by omega))) (by omega)) (by omega)
  · exact cell_off (World.cell?_setCell_same _ _ _ (cell_off (cell_off (cell_off (cell_off k4 (by omega)) (by omega)) (by omega)) (by omega))) (by omega)
  · exact World.cell?_setCell_same _ _ _ (cell_off (cell_off (cell_off (cell_off (cell_off k5 (by omega)) (by omega)) (by omega)) (by omega)) (by omega))
theorem put6_off {W : World} {b o i : Nat} {f : Fl} {v : Value} (h : W.cell? ⟨b, i, none⟩ = some v) (hi : i < o ∨ o + 6 ≤ i) : (put6 W b o f).cell? ⟨b, i, none⟩ = some v := by
  unfold put6
  exact cell_off (cell_off (cell_off (cell_off (cell_off (cell_off h (by omega)) (by omega)) (by omega)) (by omega)) (by omega)) (by omega)
theorem KR.set {W : World} {g : Nat} {ks : List Tr} (h : KR W g ks) {i : Nat} (hi : i < ks.length) (t : Tr) : KR (put6 W g (i * 6) t.f) g (ks.set i t) := by
  refine ⟨?_, fun j u hj => ?_⟩
  · unfold put6
    exact blk_set (blk_set (blk_set (blk_set (blk_set (blk_set h.blk _ _) _ _) _ _) _ _) _ _) _ _
  · by_cases e : j = i
    · subst e
      rw [List.getElem?_set_self hi] at hj
      cases hj
      exact put6_six (h.six j _ (List.getElem?_eq_getElem hi))
    · rw [List.getElem?_set_ne (Ne.symm e)] at hj
      obtain ⟨k0, k1, k2, k3, k4, k5⟩ := h.six j u hj
      exact ⟨put6_off k0 (by omega), put6_off k1 (by omega), put6_off k2 (by omega), put6_off k3 (by omega), put6_off k4 (by omega), put6_off k5 (by omega)⟩
end Go.Proofs.YtpfdapnfkghgkaaGreatDoor
