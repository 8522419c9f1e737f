/-
  Trees put together, as mathematics: Cat of Cats, Alt of Alts.
-/
import Derived.Test.YtlodjinejeajcaaC15
import Derived.Test.YtlodjinejeajcaaC16
namespace Go.Proofs.Ytlodjinejeajcaa
open Go Go.RowKit

mutual
def Er.sz : Er → Nat | .mk _ _ _ _ _ ks => eszs ks + 1
def eszs : List Er → Nat | [] => 0 | x :: xs => x.sz + eszs xs
end
def Er.k : Er → Int | .mk k _ _ _ _ _ => k
def Er.ks : Er → List Er | .mk _ _ _ _ _ ks => ks
theorem esz_eq (x : Er) : x.sz = eszs x.ks + 1 := by cases x; rw [Er.sz]; rfl
theorem eszs_cons (x : Er) (l : List Er) : eszs (x :: l) = x.sz + eszs l := by rw [eszs]
theorem eszs_nil : eszs [] = 0 := by rw [eszs]
theorem eszs_append (a b : List Er) : eszs (a ++ b) = eszs a + eszs b := by
  induction a with
  | nil => rw [eszs_nil]; simp
  | cons x a ih => rw [List.cons_append, eszs_cons, eszs_cons, ih]; omega
theorem er_k (t : Tr) : (er t).k = t.f.k := by rw [er_eq]; rfl
theorem er_ks (t : Tr) : (er t).ks = t.ks.map er := by rw [er_eq]; rfl
theorem er_sz (t : Tr) : (er t).sz = t.sz := by
  refine Tr.ind (P := fun t => (er t).sz = t.sz) (fun t ih => ?_) t
  rw [esz_eq, er_ks, sz_eq]
  congr 1
  have : ∀ l : List Tr, (∀ u ∈ l, (er u).sz = u.sz) → eszs (l.map er) = szs l := by
    intro l
    induction l with
    | nil => intro _; rw [List.map_nil, eszs_nil, szs_nil]
    | cons x l ih2 =>
      intro h
      rw [List.map_cons, eszs_cons, szs_cons, h x (List.mem_cons_self ..), ih2 (fun u hu => h u (List.mem_cons_of_mem _ hu))]
  exact this t.ks ih
def catE (x : Er) : List Er := if x.k = 1 then [] else if x.k = 5 then x.ks else [x]
def altE (x : Er) : List Er := if x.k = 6 then x.ks else [x]
theorem catT_er (t : Tr) : (catT t).map er = catE (er t) := by
  unfold catT catE
  rw [er_k, er_ks]
  split
  · rfl
  · split <;> rfl
theorem altT_er (t : Tr) : (altT t).map er = altE (er t) := by
  unfold altT altE
  rw [er_k, er_ks]
  split <;> rfl
theorem catE_sz (x : Er) : eszs (catE x) ≤ x.sz := by
  unfold catE
  split
  · rw [eszs_nil]; omega
  · split
    · rw [esz_eq]; omega
    · rw [eszs_cons, eszs_nil]; omega
theorem altE_sz (x : Er) : eszs (altE x) ≤ x.sz := by
  unfold altE
  split
  · rw [esz_eq]; omega
  · rw [eszs_cons, eszs_nil]; omega
theorem join_sz (k : Int) (l : List Er) (k0 : Int) : (joinE k l (.mk k0 0 0 0 [] [])).sz ≤ eszs l + 1 := by
  unfold joinE
  split
  · rw [esz_eq]; exact Nat.le_refl _
  · rw [eszs_cons, eszs_nil]; omega
  · rw [esz_eq]; exact Nat.le_refl _
def catX (a b : Er) : Er := joinE 5 (catE a ++ catE b) (.mk 1 0 0 0 [] [])
def altX (a b : Er) : Er := joinE 6 (altE a ++ altE b) (.mk 2 0 0 0 [] [])
def cat3X (a b c : Er) : Er := joinE 5 (catE a ++ (catE b ++ catE c)) (.mk 1 0 0 0 [] [])
def alt3X (a b c : Er) : Er := joinE 6 (altE a ++ (altE b ++ altE c)) (.mk 2 0 0 0 [] [])
theorem catX_sz (a b : Er) : (catX a b).sz ≤ a.sz + b.sz + 1 := by
  have := join_sz 5 (catE a ++ catE b) 1
  rw [eszs_append] at this
  have h1 := catE_sz a
  have h2 := catE_sz b
  unfold catX
  omega
theorem altX_sz (a b : Er) : (altX a b).sz ≤ a.sz + b.sz + 1 := by
  have := join_sz 6 (altE a ++ altE b) 2
  rw [eszs_append] at this
  have h1 := altE_sz a
  have h2 := altE_sz b
  unfold altX
  omega
theorem cat3X_sz (a b c : Er) : (cat3X a b c).sz ≤ a.sz + b.sz + c.sz + 1 := by
  have := join_sz 5 (catE a ++ (catE b ++ catE c)) 1
  rw [eszs_append, eszs_append] at this
  have h1 := catE_sz a
  have h2 := catE_sz b
  have h3 := catE_sz c
  unfold cat3X
  omega
theorem alt3X_sz (a b c : Er) : (alt3X a b c).sz ≤ a.sz + b.sz + c.sz + 1 := by
  have := join_sz 6 (altE a ++ (altE b ++ altE c)) 2
  rw [eszs_append, eszs_append] at this
  have h1 := altE_sz a
  have h2 := altE_sz b
  have h3 := altE_sz c
  unfold alt3X
  omega
theorem catE_one {x : Er} (h1 : x.k ≠ 1) (h5 : x.k ≠ 5) : catE x = [x] := by unfold catE; rw [if_neg h1, if_neg h5]
theorem altE_one {x : Er} (h6 : x.k ≠ 6) : altE x = [x] := by unfold altE; rw [if_neg h6]
theorem cat_left {a b c : Er} (ha : a.k ≠ 1 ∧ a.k ≠ 5) (hb : b.k ≠ 1 ∧ b.k ≠ 5) (hc : c.k ≠ 1 ∧ c.k ≠ 5) : catX (catX a b) c = cat3X a b c := by
  unfold catX cat3X
  rw [catE_one ha.1 ha.2, catE_one hb.1 hb.2, catE_one hc.1 hc.2]
  rfl
theorem cat_right {a b c : Er} (ha : a.k ≠ 1 ∧ a.k ≠ 5) (hb : b.k ≠ 1 ∧ b.k ≠ 5) (hc : c.k ≠ 1 ∧ c.k ≠ 5) : catX a (catX b c) = cat3X a b c := by
  unfold catX cat3X
  rw [catE_one ha.1 ha.2, catE_one hb.1 hb.2, catE_one hc.1 hc.2]
  rfl
theorem alt_left {a b c : Er} (ha : a.k ≠ 6) (hb : b.k ≠ 6) (hc : c.k ≠ 6) : altX (altX a b) c = alt3X a b c := by
  unfold altX alt3X
  rw [altE_one ha, altE_one hb, altE_one hc]
  rfl
theorem alt_right {a b c : Er} (ha : a.k ≠ 6) (hb : b.k ≠ 6) (hc : c.k ≠ 6) : altX a (altX b c) = alt3X a b c := by
  unfold altX alt3X
  rw [altE_one ha, altE_one hb, altE_one hc]
  rfl
/-- Two trees that are the same, and small enough. -/
theorem same_yes8 {w : World} {a b : Tr} (ta : TA w a) (tb : TA w b) (h : er a = er b) (hs : (er a).sz ≤ 2000) : Calls Try.prog 18 #[.agg #[.int .i64 a.f.k, .int .i64 a.f.n, .int .i64 a.f.mn, .int .i64 a.f.mx, .slice a.f.rq a.f.rs.length a.f.rc, .slice a.f.kq a.f.kl a.f.kc], .agg #[.int .i64 b.f.k, .int .i64 b.f.n, .int .i64 b.f.mn, .int .i64 b.f.mx, .slice b.f.rq b.f.rs.length b.f.rc, .slice b.f.kq b.f.kl b.f.kc]] w fun e w' => e = .returned (.bool true) ∧ Below w.heap.size w w' :=
  (same8_c ta tb).mono fun e w' ⟨h1, h2⟩ => ⟨by
    have l1 : (pp [] a).length ≤ 2000 := by rw [pp_len, ← er_sz]; exact hs
    have l2 : (pp [] b).length ≤ 2000 := by rw [pp_len, ← er_sz, ← h]; exact hs
    rw [h1, h, sameB_refl, decide_eq_false (by omega), decide_eq_false (by omega)]
    rfl, h2⟩
/-- A row of two nodes in a block. -/
theorem arg_two {V : World} {g : Nat} {t1 t2 : Tr} (N : V.heap[g]? = some (.cells #[.int .i64 t1.f.k, .int .i64 t1.f.n, .int .i64 t1.f.mn, .int .i64 t1.f.mx, .slice t1.f.rq t1.f.rs.length t1.f.rc, .slice t1.f.kq t1.f.kl t1.f.kc, .int .i64 t2.f.k, .int .i64 t2.f.n, .int .i64 t2.f.mn, .int .i64 t2.f.mx, .slice t2.f.rq t2.f.rs.length t2.f.rc, .slice t2.f.kq t2.f.kl t2.f.kc] 25 (0, 0))) : ArgK V (.slice (some ⟨g, 0, none⟩) [t1, t2].length 2) [t1, t2] := by
  refine .inr ⟨g, 0, 2, rfl, lt_of_heap N, Nat.le_refl _, by unfold maxLen; decide, fun i t hi => ?_⟩
  match i, hi with
  | 0, hi =>
    simp at hi
    subst hi
    exact ⟨cell_row N (i := 0) rfl, cell_row N (i := 1) rfl, cell_row N (i := 2) rfl, cell_row N (i := 3) rfl, cell_row N (i := 4) rfl, cell_row N (i := 5) rfl⟩
  | 1, hi =>
    simp at hi
    subst hi
    exact ⟨cell_row N (i := 6) rfl, cell_row N (i := 7) rfl, cell_row N (i := 8) rfl, cell_row N (i := 9) rfl, cell_row N (i := 10) rfl, cell_row N (i := 11) rfl⟩
theorem arg_three {V : World} {g : Nat} {t1 t2 t3 : Tr} (N : V.heap[g]? = some (.cells #[.int .i64 t1.f.k, .int .i64 t1.f.n, .int .i64 t1.f.mn, .int .i64 t1.f.mx, .slice t1.f.rq t1.f.rs.length t1.f.rc, .slice t1.f.kq t1.f.kl t1.f.kc, .int .i64 t2.f.k, .int .i64 t2.f.n, .int .i64 t2.f.mn, .int .i64 t2.f.mx, .slice t2.f.rq t2.f.rs.length t2.f.rc, .slice t2.f.kq t2.f.kl t2.f.kc, .int .i64 t3.f.k, .int .i64 t3.f.n, .int .i64 t3.f.mn, .int .i64 t3.f.mx, .slice t3.f.rq t3.f.rs.length t3.f.rc, .slice t3.f.kq t3.f.kl t3.f.kc] 25 (0, 0))) : ArgK V (.slice (some ⟨g, 0, none⟩) [t1, t2, t3].length 3) [t1, t2, t3] := by
  refine .inr ⟨g, 0, 3, rfl, lt_of_heap N, Nat.le_refl _, by unfold maxLen; decide, fun i t hi => ?_⟩
  match i, hi with
  | 0, hi =>
    simp at hi
    subst hi
    exact ⟨cell_row N (i := 0) rfl, cell_row N (i := 1) rfl, cell_row N (i := 2) rfl, cell_row N (i := 3) rfl, cell_row N (i := 4) rfl, cell_row N (i := 5) rfl⟩
  | 1, hi =>
    simp at hi
    subst hi
    exact ⟨cell_row N (i := 6) rfl, cell_row N (i := 7) rfl, cell_row N (i := 8) rfl, cell_row N (i := 9) rfl, cell_row N (i := 10) rfl, cell_row N (i := 11) rfl⟩
  | 2, hi =>
    simp at hi
    subst hi
    exact ⟨cell_row N (i := 12) rfl, cell_row N (i := 13) rfl, cell_row N (i := 14) rfl, cell_row N (i := 15) rfl, cell_row N (i := 16) rfl, cell_row N (i := 17) rfl⟩
/-- A call that makes a tree. -/
def Mk8 (V : World) (X : Er) (e : Ending) (w' : World) : Prop := ∃ t', e = .returned (.agg #[.int .i64 t'.f.k, .int .i64 t'.f.n, .int .i64 t'.f.mn, .int .i64 t'.f.mx, .slice t'.f.rq t'.f.rs.length t'.f.rc, .slice t'.f.kq t'.f.kl t'.f.kc]) ∧ TA w' t' ∧ er t' = X ∧ Foot (fun k => V.heap.size ≤ k) t' ∧ Below V.heap.size V w'
section
variable {V : World} {g : Nat} {t1 t2 t3 : Tr}
theorem cat_two (N : V.heap[g]? = some (.cells #[.int .i64 t1.f.k, .int .i64 t1.f.n, .int .i64 t1.f.mn, .int .i64 t1.f.mx, .slice t1.f.rq t1.f.rs.length t1.f.rc, .slice t1.f.kq t1.f.kl t1.f.kc, .int .i64 t2.f.k, .int .i64 t2.f.n, .int .i64 t2.f.mn, .int .i64 t2.f.mx, .slice t2.f.rq t2.f.rs.length t2.f.rc, .slice t2.f.kq t2.f.kl t2.f.kc] 25 (0, 0))) (h1 : TA V t1) (h2 : TA V t2) (hs : (er t1).sz + (er t2).sz < 1000000) :
    Calls Try.prog 16 #[.slice (some ⟨g, 0, none⟩) 2 2] V (Mk8 V (catX (er t1) (er t2))) := by
  rw [er_sz, er_sz] at hs
  refine (cat_c (arg_two N) (fun u hu => by simp at hu; rcases hu with rfl | rfl <;> assumption) (by rw [szs_cons, szs_cons, szs_nil]; omega)).mono fun e w' ⟨t', a1, a2, a3, a4, a5⟩ => ⟨t', a1, a2, ?_, a3, a5⟩
  rw [a4]
  unfold catX
  rw [← catT_er, ← catT_er]
  simp
theorem alt_two (N : V.heap[g]? = some (.cells #[.int .i64 t1.f.k, .int .i64 t1.f.n, .int .i64 t1.f.mn, .int .i64 t1.f.mx, .slice t1.f.rq t1.f.rs.length t1.f.rc, .slice t1.f.kq t1.f.kl t1.f.kc, .int .i64 t2.f.k, .int .i64 t2.f.n, .int .i64 t2.f.mn, .int .i64 t2.f.mx, .slice t2.f.rq t2.f.rs.length t2.f.rc, .slice t2.f.kq t2.f.kl t2.f.kc] 25 (0, 0))) (h1 : TA V t1) (h2 : TA V t2) (hs : (er t1).sz + (er t2).sz < 1000000) :
    Calls Try.prog 17 #[.slice (some ⟨g, 0, none⟩) 2 2] V (Mk8 V (altX (er t1) (er t2))) := by
  rw [er_sz, er_sz] at hs
  refine (alt_c (arg_two N) (fun u hu => by simp at hu; rcases hu with rfl | rfl <;> assumption) (by rw [szs_cons, szs_cons, szs_nil]; omega)).mono fun e w' ⟨t', a1, a2, a3, a4, a5⟩ => ⟨t', a1, a2, ?_, a3, a5⟩
  rw [a4]
  unfold altX
  rw [← altT_er, ← altT_er]
  simp
theorem cat_three (N : V.heap[g]? = some (.cells #[.int .i64 t1.f.k, .int .i64 t1.f.n, .int .i64 t1.f.mn, .int .i64 t1.f.mx, .slice t1.f.rq t1.f.rs.length t1.f.rc, .slice t1.f.kq t1.f.kl t1.f.kc, .int .i64 t2.f.k, .int .i64 t2.f.n, .int .i64 t2.f.mn, .int .i64 t2.f.mx, .slice t2.f.rq t2.f.rs.length t2.f.rc, .slice t2.f.kq t2.f.kl t2.f.kc, .int .i64 t3.f.k, .int .i64 t3.f.n, .int .i64 t3.f.mn, .int .i64 t3.f.mx, .slice t3.f.rq t3.f.rs.length t3.f.rc, .slice t3.f.kq t3.f.kl t3.f.kc] 25 (0, 0))) (h1 : TA V t1) (h2 : TA V t2) (h3 : TA V t3) (hs : (er t1).sz + (er t2).sz + (er t3).sz < 1000000) :
    Calls Try.prog 16 #[.slice (some ⟨g, 0, none⟩) 3 3] V (Mk8 V (cat3X (er t1) (er t2) (er t3))) := by
  rw [er_sz, er_sz, er_sz] at hs
  refine (cat_c (arg_three N) (fun u hu => by simp at hu; rcases hu with rfl | rfl | rfl <;> assumption) (by rw [szs_cons, szs_cons, szs_cons, szs_nil]; omega)).mono fun e w' ⟨t', a1, a2, a3, a4, a5⟩ => ⟨t', a1, a2, ?_, a3, a5⟩
  rw [a4]
  unfold cat3X
  rw [← catT_er, ← catT_er, ← catT_er]
  simp
theorem alt_three (N : V.heap[g]? = some (.cells #[.int .i64 t1.f.k, .int .i64 t1.f.n, .int .i64 t1.f.mn, .int .i64 t1.f.mx, .slice t1.f.rq t1.f.rs.length t1.f.rc, .slice t1.f.kq t1.f.kl t1.f.kc, .int .i64 t2.f.k, .int .i64 t2.f.n, .int .i64 t2.f.mn, .int .i64 t2.f.mx, .slice t2.f.rq t2.f.rs.length t2.f.rc, .slice t2.f.kq t2.f.kl t2.f.kc, .int .i64 t3.f.k, .int .i64 t3.f.n, .int .i64 t3.f.mn, .int .i64 t3.f.mx, .slice t3.f.rq t3.f.rs.length t3.f.rc, .slice t3.f.kq t3.f.kl t3.f.kc] 25 (0, 0))) (h1 : TA V t1) (h2 : TA V t2) (h3 : TA V t3) (hs : (er t1).sz + (er t2).sz + (er t3).sz < 1000000) :
    Calls Try.prog 17 #[.slice (some ⟨g, 0, none⟩) 3 3] V (Mk8 V (alt3X (er t1) (er t2) (er t3))) := by
  rw [er_sz, er_sz, er_sz] at hs
  refine (alt_c (arg_three N) (fun u hu => by simp at hu; rcases hu with rfl | rfl | rfl <;> assumption) (by rw [szs_cons, szs_cons, szs_cons, szs_nil]; omega)).mono fun e w' ⟨t', a1, a2, a3, a4, a5⟩ => ⟨t', a1, a2, ?_, a3, a5⟩
  rw [a4]
  unfold alt3X
  rw [← altT_er, ← altT_er, ← altT_er]
  simp
end
end Go.Proofs.Ytlodjinejeajcaa
