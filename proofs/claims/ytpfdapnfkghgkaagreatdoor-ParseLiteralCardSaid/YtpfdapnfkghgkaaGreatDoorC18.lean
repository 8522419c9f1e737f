/-
  Trees put together, as mathematics: Cat of Cats, Alt of Alts. What is right: at most 2000 nodes, 40 deep; its groups are 1, 2, .., at most 30. The chapter's examples, as mathematics. What is put together of tokens is right: mathematics. A pattern's tokens hold what a right tree wants: mathematics. Places and Decode: contracts. The node of one character; the characters of a text. The characters of a text.
-/
import Derived.Test.YtpfdapnfkghgkaaGreatDoorC16
import Derived.Test.YtpfdapnfkghgkaaGreatDoorC17
import Derived.Test.YtpfdapnfkghgkaaGreatDoorC14
import Derived.Test.YtpfdapnfkghgkaaGreatDoorC13
import Derived.Test.YtpfdapnfkghgkaaGreatDoorC1
import Derived.Test.YtpfdapnfkghgkaaGreatDoorC2
import Derived.Test.YtpfdapnfkghgkaaGreatDoorC9
import Derived.OwnWalk
import Derived.Laws.MakeOwn
namespace Go.Proofs.YtpfdapnfkghgkaaGreatDoor
open Go Go.RowKit

mutual
def Er.sz : Er → Nat | .mk _ _ _ _ _ ks => eszs ks + 1
def eszs : List Er → Nat | [] => 0 | x :: xs => x.sz + eszs xs
end
def Er.k : Er → Int | .mk k _ _ _ _ _ => k
def Er.ks : Er → List Er | .mk _ _ _ _ _ ks => ks
theorem esz_eq (x : Er) : x.sz = eszs x.ks + 1 := by cases x; rw [Er.sz]; rfl
theorem eszs_cons (x : Er) (l : List Er) : eszs (x :: l) = x.sz + eszs l := by rw [eszs]
theorem eszs_nil : eszs [] = 0 := by rw [eszs]
theorem eszs_append (a b : List Er) : eszs (a ++ b) = eszs a + eszs b := by
  induction a with
  | nil => rw [eszs_nil]; simp
  | cons x a ih => rw [List.cons_append, eszs_cons, eszs_cons, ih]; omega
theorem er_k (t : Tr) : (er t).k = t.f.k := by rw [er_eq]; rfl
theorem er_ks (t : Tr) : (er t).ks = t.ks.map er := by rw [er_eq]; rfl
theorem er_sz (t : Tr) : (er t).sz = t.sz := by
  refine Tr.ind (P := fun t => (er t).sz = t.sz) (fun t ih => ?_) t
  rw [esz_eq, er_ks, sz_eq]
  congr 1
  have : ∀ l : List Tr, (∀ u ∈ l, (er u).sz = u.sz) → eszs (l.map er) = szs l := by
    intro l
    induction l with
    | nil => intro _; rw [List.map_nil, eszs_nil, szs_nil]
    | cons x l ih2 =>
      intro h
      rw [List.map_cons, eszs_cons, szs_cons, h x (List.mem_cons_self ..), ih2 (fun u hu => h u (List.mem_cons_of_mem _ hu))]
  exact this t.ks ih
def catE (x : Er) : List Er := if x.k = 1 then [] else if x.k = 5 then x.ks else [x]
def altE (x : Er) : List Er := if x.k = 6 then x.ks else [x]
theorem catT_er (t : Tr) : (catT t).map er = catE (er t) := by
  unfold catT catE
  rw [er_k, er_ks]
  split
  · rfl
  · split <;> rfl
theorem altT_er (t : Tr) : (altT t).map er = altE (er t) := by
  unfold altT altE
  rw [er_k, er_ks]
  split <;> rfl
theorem catE_sz (x : Er) : eszs (catE x) ≤ x.sz := by
  unfold catE
  split
  · rw [eszs_nil]; omega
  · split
    · rw [esz_eq]; omega
    · rw [eszs_cons, eszs_nil]; omega
theorem altE_sz (x : Er) : eszs (altE x) ≤ x.sz := by
  unfold altE
  split
  · rw [esz_eq]; omega
  · rw [eszs_cons, eszs_nil]; omega
theorem join_sz (k : Int) (l : List Er) (k0 : Int) : (joinE k l (.mk k0 0 0 0 [] [])).sz ≤ eszs l + 1 := by
  unfold joinE
  split
  · rw [esz_eq]; exact Nat.le_refl _
  · rw [eszs_cons, eszs_nil]; omega
  · rw [esz_eq]; exact Nat.le_refl _
def catX (a b : Er) : Er := joinE 5 (catE a ++ catE b) (.mk 1 0 0 0 [] [])
def altX (a b : Er) : Er := joinE 6 (altE a ++ altE b) (.mk 2 0 0 0 [] [])
def cat3X (a b c : Er) : Er := joinE 5 (catE a ++ (catE b ++ catE c)) (.mk 1 0 0 0 [] [])
def alt3X (a b c : Er) : Er := joinE 6 (altE a ++ (altE b ++ altE c)) (.mk 2 0 0 0 [] [])
theorem catX_sz (a b : Er) : (catX a b).sz ≤ a.sz + b.sz + 1 := by
  have := join_sz 5 (catE a ++ catE b) 1
  rw [eszs_append] at this
  have h1 := catE_sz a
  have h2 := catE_sz b
  unfold catX
  omega
theorem altX_sz (a b : Er) : (altX a b).sz ≤ a.sz + b.sz + 1 := by
  have := join_sz 6 (altE a ++ altE b) 2
  rw [eszs_append] at this
  have h1 := altE_sz a
  have h2 := altE_sz b
  unfold altX
  omega
theorem cat3X_sz (a b c : Er) : (cat3X a b c).sz ≤ a.sz + b.sz + c.sz + 1 := by
  have := join_sz 5 (catE a ++ (catE b ++ catE c)) 1
  rw [eszs_append, eszs_append] at this
  have h1 := catE_sz a
  have h2 := catE_sz b
  have h3 := catE_sz c
  unfold cat3X
  omega
theorem alt3X_sz (a b c : Er) : (alt3X a b c).sz ≤ a.sz + b.sz + c.sz + 1 := by
  have := join_sz 6 (altE a ++ (altE b ++ altE c)) 2
  rw [eszs_append, eszs_append] at this
  have h1 := altE_sz a
  have h2 := altE_sz b
  have h3 := altE_sz c
  unfold alt3X
  omega
theorem catE_one {x : Er} (h1 : x.k ≠ 1) (h5 : x.k ≠ 5) : catE x = [x] := by unfold catE; rw [if_neg h1, if_neg h5]
theorem altE_one {x : Er} (h6 : x.k ≠ 6) : altE x = [x] := by unfold altE; rw [if_neg h6]
theorem cat_left {a b c : Er} (ha : a.k ≠ 1 ∧ a.k ≠ 5) (hb : b.k ≠ 1 ∧ b.k ≠ 5) (hc : c.k ≠ 1 ∧ c.k ≠ 5) : catX (catX a b) c = cat3X a b c := by
  unfold catX cat3X
  rw [catE_one ha.1 ha.2, catE_one hb.1 hb.2, catE_one hc.1 hc.2]
  rfl
theorem cat_right {a b c : Er} (ha : a.k ≠ 1 ∧ a.k ≠ 5) (hb : b.k ≠ 1 ∧ b.k ≠ 5) (hc : c.k ≠ 1 ∧ c.k ≠ 5) : catX a (catX b c) = cat3X a b c := by
  unfold catX cat3X
  rw [catE_one ha.1 ha.2, catE_one hb.1 hb.2, catE_one hc.1 hc.2]
  rfl
theorem alt_left {a b c : Er} (ha : a.k ≠ 6) (hb : b.k ≠ 6) (hc : c.k ≠ 6) : altX (altX a b) c = alt3X a b c := by
  unfold altX alt3X
  rw [altE_one ha, altE_one hb, altE_one hc]
  rfl
theorem alt_right {a b c : Er} (ha : a.k ≠ 6) (hb : b.k ≠ 6) (hc : c.k ≠ 6) : altX a (altX b c) = alt3X a b c := by
  unfold altX alt3X
  rw [altE_one ha, altE_one hb, altE_one hc]
  rfl
/-- Two trees that are the same, and small enough. -/
theorem same_yes8 {w : World} {a b : Tr} (ta : TA w a) (tb : TA w b) (h : er a = er b) (hs : (er a).sz ≤ 2000) : Calls Tryz.prog 14 #[.agg #[.int .i64 a.f.k, .int .i64 a.f.n, .int .i64 a.f.mn, .int .i64 a.f.mx, .slice a.f.rq a.f.rs.length a.f.rc, .slice a.f.kq a.f.kl a.f.kc], .agg #[.int .i64 b.f.k, .int .i64 b.f.n, .int .i64 b.f.mn, .int .i64 b.f.mx, .slice b.f.rq b.f.rs.length b.f.rc, .slice b.f.kq b.f.kl b.f.kc]] w fun e w' => e = .returned (.bool true) ∧ Below w.heap.size w w' :=
  (same8_c ta tb).mono fun e w' ⟨h1, h2⟩ => ⟨by
    have l1 : (pp [] a).length ≤ 2000 := by rw [pp_len, ← er_sz]; exact hs
    have l2 : (pp [] b).length ≤ 2000 := by rw [pp_len, ← er_sz, ← h]; exact hs
    rw [h1, h, sameB_refl, decide_eq_false (by omega), decide_eq_false (by omega)]
    rfl, h2⟩
/-- A row of two nodes in a block. -/
theorem arg_two {V : World} {g : Nat} {t1 t2 : Tr} (N : V.heap[g]? = some (.cells #[.int .i64 t1.f.k, .int .i64 t1.f.n, .int .i64 t1.f.mn, .int .i64 t1.f.mx, .slice t1.f.rq t1.f.rs.length t1.f.rc, .slice t1.f.kq t1.f.kl t1.f.kc, .int .i64 t2.f.k, .int .i64 t2.f.n, .int .i64 t2.f.mn, .int .i64 t2.f.mx, .slice t2.f.rq t2.f.rs.length t2.f.rc, .slice t2.f.kq t2.f.kl t2.f.kc] 28 (0, 0))) : ArgK V (.slice (some ⟨g, 0, none⟩) [t1, t2].length 2) [t1, t2] := by
  refine .inr ⟨g, 0, 2, rfl, lt_of_heap N, Nat.le_refl _, by unfold maxLen; decide, fun i t hi => ?_⟩
  match i, hi with
  | 0, hi =>
    simp at hi
    subst hi
    exact ⟨cell_row N (i := 0) rfl, cell_row N (i := 1) rfl, cell_row N (i := 2) rfl, cell_row N (i := 3) rfl, cell_row N (i := 4) rfl, cell_row N (i := 5) rfl⟩
  | 1, hi =>
    simp at hi
    subst hi
    exact ⟨cell_row N (i := 6) rfl, cell_row N (i := 7) rfl, cell_row N (i := 8) rfl, cell_row N (i := 9) rfl, cell_row N (i := 10) rfl, cell_row N (i := 11) rfl⟩
theorem arg_three {V : World} {g : Nat} {t1 t2 t3 : Tr} (N : V.heap[g]? = some (.cells #[.int .i64 t1.f.k, .int .i64 t1.f.n, .int .i64 t1.f.mn, .int .i64 t1.f.mx, .slice t1.f.rq t1.f.rs.length t1.f.rc, .slice t1.f.kq t1.f.kl t1.f.kc, .int .i64 t2.f.k, .int .i64 t2.f.n, .int .i64 t2.f.mn, .int .i64 t2.f.mx, .slice t2.f.rq t2.f.rs.length t2.f.rc, .slice t2.f.kq t2.f.kl t2.f.kc, .int .i64 t3.f.k, .int .i64 t3.f.n, .int .i64 t3.f.mn, .int .i64 t3.f.mx, .slice t3.f.rq t3.f.rs.length t3.f.rc, .slice t3.f.kq t3.f.kl t3.f.kc] 28 (0, 0))) : ArgK V (.slice (some ⟨g, 0, none⟩) [t1, t2, t3].length 3) [t1, t2, t3] := by
  refine .inr ⟨g, 0, 3, rfl, lt_of_heap N, Nat.le_refl _, by unfold maxLen; decide, fun i t hi => ?_⟩
  match i, hi with
  | 0, hi =>
    simp at hi
    subst hi
    exact ⟨cell_row N (i := 0) rfl, cell_row N (i := 1) rfl, cell_row N (i := 2) rfl, cell_row N (i := 3) rfl, cell_row N (i := 4) rfl, cell_row N (i := 5) rfl⟩
  | 1, hi =>
    simp at hi
    subst hi
    exact ⟨cell_row N (i := 6) rfl, cell_row N (i := 7) rfl, cell_row N (i := 8) rfl, cell_row N (i := 9) rfl, cell_row N (i := 10) rfl, cell_row N (i := 11) rfl⟩
  | 2, hi =>
    simp at hi
    subst hi
    exact ⟨cell_row N (i := 12) rfl, cell_row N (i := 13) rfl, cell_row N (i := 14) rfl, cell_row N (i := 15) rfl, cell_row N (i := 16) rfl, cell_row N (i := 17) rfl⟩
/-- A call that makes a tree. -/
def Mk8 (V : World) (X : Er) (e : Ending) (w' : World) : Prop := ∃ t', e = .returned (.agg #[.int .i64 t'.f.k, .int .i64 t'.f.n, .int .i64 t'.f.mn, .int .i64 t'.f.mx, .slice t'.f.rq t'.f.rs.length t'.f.rc, .slice t'.f.kq t'.f.kl t'.f.kc]) ∧ TA w' t' ∧ er t' = X ∧ Foot (fun k => V.heap.size ≤ k) t' ∧ Below V.heap.size V w'
section
variable {V : World} {g : Nat} {t1 t2 t3 : Tr}
theorem cat_two (N : V.heap[g]? = some (.cells #[.int .i64 t1.f.k, .int .i64 t1.f.n, .int .i64 t1.f.mn, .int .i64 t1.f.mx, .slice t1.f.rq t1.f.rs.length t1.f.rc, .slice t1.f.kq t1.f.kl t1.f.kc, .int .i64 t2.f.k, .int .i64 t2.f.n, .int .i64 t2.f.mn, .int .i64 t2.f.mx, .slice t2.f.rq t2.f.rs.length t2.f.rc, .slice t2.f.kq t2.f.kl t2.f.kc] 28 (0, 0))) (h1 : TA V t1) (h2 : TA V t2) (hs : (er t1).sz + (er t2).sz < 1000000) :
    Calls Tryz.prog 38 #[.slice (some ⟨g, 0, none⟩) 2 2] V (Mk8 V (catX (er t1) (er t2))) := by
  rw [er_sz, er_sz] at hs
  refine (cat_c (arg_two N) (fun u hu => by simp at hu; rcases hu with rfl | rfl <;> assumption) (by rw [szs_cons, szs_cons, szs_nil]; omega)).mono fun e w' ⟨t', a1, a2, a3, a4, a5⟩ => ⟨t', a1, a2, ?_, a3, a5⟩
  rw [a4]
  unfold catX
  rw [← catT_er, ← catT_er]
  simp
theorem alt_two (N : V.heap[g]? = some (.cells #[.int .i64 t1.f.k, .int .i64 t1.f.n, .int .i64 t1.f.mn, .int .i64 t1.f.mx, .slice t1.f.rq t1.f.rs.length t1.f.rc, .slice t1.f.kq t1.f.kl t1.f.kc, .int .i64 t2.f.k, .int .i64 t2.f.n, .int .i64 t2.f.mn, .int .i64 t2.f.mx, .slice t2.f.rq t2.f.rs.length t2.f.rc, .slice t2.f.kq t2.f.kl t2.f.kc] 28 (0, 0))) (h1 : TA V t1) (h2 : TA V t2) (hs : (er t1).sz + (er t2).sz < 1000000) :
    Calls Tryz.prog 15 #[.slice (some ⟨g, 0, none⟩) 2 2] V (Mk8 V (altX (er t1) (er t2))) := by
  rw [er_sz, er_sz] at hs
  refine (alt_c (arg_two N) (fun u hu => by simp at hu; rcases hu with rfl | rfl <;> assumption) (by rw [szs_cons, szs_cons, szs_nil]; omega)).mono fun e w' ⟨t', a1, a2, a3, a4, a5⟩ => ⟨t', a1, a2, ?_, a3, a5⟩
  rw [a4]
  unfold altX
  rw [← altT_er, ← altT_er]
  simp
theorem cat_three (N : V.heap[g]? = some (.cells #[.int .i64 t1.f.k, .int .i64 t1.f.n, .int .i64 t1.f.mn, .int .i64 t1.f.mx, .slice t1.f.rq t1.f.rs.length t1.f.rc, .slice t1.f.kq t1.f.kl t1.f.kc, .int .i64 t2.f.k, .int .i64 t2.f.n, .int .i64 t2.f.mn, .int .i64 t2.f.mx, .slice t2.f.rq t2.f.rs.length t2.f.rc, .slice t2.f.kq t2.f.kl t2.f.kc, .int .i64 t3.f.k, .int .i64 t3.f.n, .int .i64 t3.f.mn, .int .i64 t3.f.mx, .slice t3.f.rq t3.f.rs.length t3.f.rc, .slice t3.f.kq t3.f.kl t3.f.kc] 28 (0, 0))) (h1 : TA V t1) (h2 : TA V t2) (h3 : TA V t3) (hs : (er t1).sz + (er t2).sz + (er t3).sz < 1000000) :
    Calls Tryz.prog 38 #[.slice (some ⟨g, 0, none⟩) 3 3] V (Mk8 V (cat3X (er t1) (er t2) (er t3))) := by
  rw [er_sz, er_sz, er_sz] at hs
  refine (cat_c (arg_three N) (fun u hu => by simp at hu; rcases hu with rfl | rfl | rfl <;> assumption) (by rw [szs_cons, szs_cons, szs_cons, szs_nil]; omega)).mono fun e w' ⟨t', a1, a2, a3, a4, a5⟩ => ⟨t', a1, a2, ?_, a3, a5⟩
  rw [a4]
  unfold cat3X
  rw [← catT_er, ← catT_er, ← catT_er]
  simp
theorem alt_three (N : V.heap[g]? = some (.cells #[.int .i64 t1.f.k, .int .i64 t1.f.n, .int .i64 t1.f.mn, .int .i64 t1.f.mx, .slice t1.f.rq t1.f.rs.length t1.f.rc, .slice t1.f.kq t1.f.kl t1.f.kc, .int .i64 t2.f.k, .int .i64 t2.f.n, .int .i64 t2.f.mn, .int .i64 t2.f.mx, .slice t2.f.rq t2.f.rs.length t2.f.rc, .slice t2.f.kq t2.f.kl t2.f.kc, .int .i64 t3.f.k, .int .i64 t3.f.n, .int .i64 t3.f.mn, .int .i64 t3.f.mx, .slice t3.f.rq t3.f.rs.length t3.f.rc, .slice t3.f.kq t3.f.kl t3.f.kc] 28 (0, 0))) (h1 : TA V t1) (h2 : TA V t2) (h3 : TA V t3) (hs : (er t1).sz + (er t2).sz + (er t3).sz < 1000000) :
    Calls Tryz.prog 15 #[.slice (some ⟨g, 0, none⟩) 3 3] V (Mk8 V (alt3X (er t1) (er t2) (er t3))) := by
  rw [er_sz, er_sz, er_sz] at hs
  refine (alt_c (arg_three N) (fun u hu => by simp at hu; rcases hu with rfl | rfl | rfl <;> assumption) (by rw [szs_cons, szs_cons, szs_cons, szs_nil]; omega)).mono fun e w' ⟨t', a1, a2, a3, a4, a5⟩ => ⟨t', a1, a2, ?_, a3, a5⟩
  rw [a4]
  unfold alt3X
  rw [← altT_er, ← altT_er, ← altT_er]
  simp
end
end Go.Proofs.YtpfdapnfkghgkaaGreatDoor
namespace Go.Proofs.YtpfdapnfkghgkaaGreatDoor
open Go Go.RowKit

theorem look_deep {c f : Bool} {p : Way} {t : Tr} {ah gr : Nat} (h : lookM c f p t ah gr = 0) : p.length + 1 ≤ 40 := by
  unfold lookM at h
  split at h
  · cases h
  · split at h
    · cases h
    · omega
theorem look_grp {c f : Bool} {p : Way} {t : Tr} {ah gr : Nat} (h : lookM c f p t ah gr = 0) (hk : t.f.k = 7) : t.f.n = (gr : Int) + 1 ∧ t.f.n ≤ 30 := by
  unfold lookM at h
  split at h
  · cases h
  · split at h
    · cases h
    · split at h
      · cases h
      · rename_i n3
        have hf := (Classical.not_not.1 n3).2.1
        split at h
        · cases h
        · rename_i n4
          refine ⟨?_, Int.not_lt.1 fun z => n4 ⟨hk, z⟩⟩
          unfold fieldsM at hf
          rw [if_neg (by omega), if_pos hk] at hf
          exact hf.1
theorem right_deep {c f : Bool} {L : List El} (hr : rightM c f 0 0 L = 0) : deepM L ≤ 40 := by
  have h : ∀ x ∈ L, x.1.length + 1 ≤ 40 := fun x hx => by
    obtain ⟨pre, post, e⟩ := List.append_of_mem hx
    exact look_deep (right_all L 0 0 hr pre x post e)
  clear hr
  induction L with
  | nil => exact Nat.zero_le _
  | cons y L ih =>
    have h1 := ih fun x hx => h x (List.mem_cons_of_mem _ hx)
    have h2 := h y (List.mem_cons_self ..)
    simp only [deepM]
    omega
theorem right_grp {c f : Bool} {L pre : List El} {x : El} (hr : rightM c f 0 0 L = 0) (e : pre ++ [x] <+: L) (hk : x.2.f.k = 7) : x.2.f.n = (grpM pre : Int) + 1 ∧ x.2.f.n ≤ 30 := by
  obtain ⟨post, hp⟩ := e
  have := look_grp (right_all L 0 0 hr pre x post (by rw [← hp]; simp)) hk
  simpa using this
theorem grp_pre {c f : Bool} {L : List El} (hr : rightM c f 0 0 L = 0) : ∀ (n : Nat), n ≤ L.length → grpM (L.take n) ≤ 30 := by
  intro n
  induction n with
  | zero => intro _; simp [grpM]
  | succ n ih =>
    intro hn
    have h1 := ih (by omega)
    have e : L.take (n + 1) = L.take n ++ [L[n]] := by rw [List.take_append_getElem]
    rw [e, grpM_snoc]
    by_cases hk : (L[n]).2.f.k = 7
    · have := right_grp (pre := L.take n) (x := L[n]) hr (by rw [← e]; exact List.take_prefix _ _) hk
      rw [if_pos hk]
      omega
    · rw [if_neg hk]; omega
theorem right_grps {c f : Bool} {L : List El} (hr : rightM c f 0 0 L = 0) : grpM L ≤ 30 := by
  have := grp_pre hr L.length (Nat.le_refl _)
  rwa [List.take_length] at this
end Go.Proofs.YtpfdapnfkghgkaaGreatDoor
namespace Go.Proofs.YtpfdapnfkghgkaaGreatDoor
open Go Go.RowKit

theorem er_open {t : Tr} {k n mn mx : Int} {rs : List (Int × Int)} {l : List Er} (h : er t = .mk k n mn mx rs l) : t.f.k = k ∧ t.f.n = n ∧ t.f.mn = mn ∧ t.f.mx = mx ∧ t.f.rs = rs ∧ t.ks.map er = l := by
  rw [er_eq] at h
  injection h with h1 h2 h3 h4 h5 h6
  exact ⟨h1, h2, h3, h4, h5, h6⟩
theorem map_two {ks : List Tr} {x y : Er} (h : ks.map er = [x, y]) : ∃ a b, ks = [a, b] ∧ er a = x ∧ er b = y := by
  match ks, h with
  | [a, b], h => simp at h; exact ⟨a, b, rfl, h.1, h.2⟩
theorem map_one {ks : List Tr} {x : Er} (h : ks.map er = [x]) : ∃ a, ks = [a] ∧ er a = x := by
  match ks, h with
  | [a], h => simp at h; exact ⟨a, rfl, h⟩
theorem map_none {ks : List Tr} (h : ks.map er = []) : ks = [] := by simpa using h
def gE : Er := .mk 7 1 0 0 [] [.mk 1 0 0 0 [] []]
def bE : Er := .mk 8 1 0 0 [] []
def sE : Er := .mk 2 0 0 0 [(97, 97)] []
theorem pp_leaf {p : Way} {t : Tr} (h : t.ks = []) : pp p t = [(p, t)] := by rw [pp_eq, h, pps_nil]
theorem ex_gb {t : Tr} (h : er t = .mk 5 0 0 0 [] [gE, bE]) : rightM false false 0 0 (pp [] t) = 0 ∧ (pp [] t).length = 4 ∧ deepM (pp [] t) = 3 ∧ grpM (pp [] t) = 1 := by
  obtain ⟨k1, n1, m1, x1, r1, l1⟩ := er_open h
  obtain ⟨g, b, e1, hg, hb⟩ := map_two l1
  obtain ⟨k2, n2, m2, x2, r2, l2⟩ := er_open hg
  obtain ⟨k3, n3, m3, x3, r3, l3⟩ := er_open hb
  obtain ⟨c, e2, hc⟩ := map_one l2
  obtain ⟨k4, n4, m4, x4, r4, l4⟩ := er_open hc
  have e3 := map_none l3
  have e4 := map_none l4
  have hp : pp [] t = [([], t), ([(t, 0)], g), ([(g, 0), (t, 0)], c), ([(t, 1)], b)] := by
    rw [pp_eq, e1, pps_cons, pps_cons, pps_nil, pp_eq _ g, e2, pps_cons, pps_nil, pp_leaf e4, pp_leaf e3]
    rfl
  rw [hp]
  refine ⟨?_, rfl, by simp [deepM], by simp [grpM, k1, k2, k3, k4]⟩
  simp [rightM, lookM, standP, standB, thingB, kindB, fieldsM, kidsB, endP, k1, k2, k3, k4, n1, n2, n3, n4, m1, m2, m3, m4, x1, x2, x3, x4, r1, r2, r3, r4, e1, e2, e3, e4]
theorem ex_bg {t : Tr} (h : er t = .mk 5 0 0 0 [] [bE, gE]) : rightM false false 0 0 (pp [] t) = 41 := by
  obtain ⟨k1, n1, m1, x1, r1, l1⟩ := er_open h
  obtain ⟨b, g, e1, hb, hg⟩ := map_two l1
  obtain ⟨k2, n2, m2, x2, r2, l2⟩ := er_open hg
  obtain ⟨k3, n3, m3, x3, r3, l3⟩ := er_open hb
  have e3 := map_none l3
  have hp : ∃ rest, pp [] t = ([], t) :: ([(t, 0)], b) :: rest := by
    rw [pp_eq, e1, pps_cons, pp_leaf e3]
    exact ⟨_, rfl⟩
  obtain ⟨rest, hp⟩ := hp
  rw [hp]
  simp [rightM, lookM, standP, standB, thingB, kindB, fieldsM, kidsB, endP, k1, k3, n1, n3, m1, m3, x1, x3, r1, r3, e1, e3]
theorem ex_set {t : Tr} (h : er t = sE) : rightM false true 0 0 (pp [] t) = 50 := by
  obtain ⟨k1, n1, m1, x1, r1, l1⟩ := er_open h
  have e1 := map_none l1
  have hn : ¬ setM false true [(97, 97)] := fun z => by
    have := (z.2 rfl 65).2 (.inr (.inr ⟨(in_one ..).2 (by simp), by decide, by decide⟩))
    rw [in_one] at this
    simp at this
  rw [pp_leaf e1]
  simp [rightM, lookM, standP, kindB, fieldsM, k1, r1, hn]
end Go.Proofs.YtpfdapnfkghgkaaGreatDoor
namespace Go.Proofs.YtpfdapnfkghgkaaGreatDoor
open Go Go.RowKit

theorem te_k (x : Ps) : (te x).k = x.kd := by
  cases x with
  | row l => simp only [te, Ps.kd]; split <;> rfl
  | _ => simp [te, Ps.kd, Er.k]
theorem te_sz (x : Ps) : (te x).sz = x.sz := by
  refine Ps.ind (P := fun x => (te x).sz = x.sz) (fun x ih => ?_) x
  have hl : ∀ l : List Ps, (∀ y ∈ l, (te y).sz = y.sz) → eszs (tes l) = pszs l := by
    intro l
    induction l with
    | nil => intro _; rw [tes, eszs_nil, pszs_nil]
    | cons y l ih2 => intro h; rw [tes, eszs_cons, pszs_cons, h y (List.mem_cons_self ..), ih2 (fun z hz => h z (List.mem_cons_of_mem _ hz))]
  cases x with
  | lf k n rs => simp only [te, Ps.sz, esz_eq, Er.ks, eszs_nil]
  | grp n k => rw [te, esz_eq, Ps.sz]; simp only [Er.ks]; rw [eszs_cons, eszs_nil, ih k (by simp [Ps.kids])]
  | rep a b k => rw [te, esz_eq, Ps.sz]; simp only [Er.ks]; rw [eszs_cons, eszs_nil, ih k (by simp [Ps.kids])]
  | row l =>
    rw [te, Ps.sz]
    split
    · rename_i h
      rw [List.isEmpty_iff.1 h, esz_eq, pszs_nil]; simp only [Er.ks, eszs_nil]
    · rw [esz_eq]; simp only [Er.ks]; rw [hl l ih]
  | alt l => rw [te, Ps.sz, esz_eq]; simp only [Er.ks]; rw [hl l ih]
/-- How deep a tree is. -/
def dpT (t : Tr) : Nat := deepM (pp [] t)
theorem deepM_append (a b : List El) : deepM (a ++ b) = max (deepM a) (deepM b) := by
  induction a with
  | nil => simp [deepM]
  | cons x a ih => simp only [List.cons_append, deepM, ih]; omega
theorem deep_is (x : Ps) : ∀ (t : Tr) (wy : Way), er t = te x → deepM (pp wy t) = wy.length + x.dp := by
  refine Ps.ind (P := fun x => ∀ (t : Tr) (wy : Way), er t = te x → deepM (pp wy t) = wy.length + x.dp) (fun x ih t wy h => ?_) x
  have hl : ∀ (l : List Ps) (ks : List Tr) (i : Nat), (∀ y ∈ l, ∀ (t : Tr) (wy : Way), er t = te y → deepM (pp wy t) = wy.length + y.dp) → ks.map er = l.map te → deepM (pps t wy i ks) = if l = [] then 0 else wy.length + 1 + pdps l := by
    intro l
    induction l with
    | nil =>
      intro ks i _ h
      obtain rfl : ks = [] := by simpa using h
      rw [pps_nil, if_pos rfl]; rfl
    | cons y l ih2 =>
      intro ks i h hk
      match ks, hk with
      | u :: ks, hk =>
        rw [List.map_cons, List.map_cons] at hk
        injection hk with h1 h2
        rw [pps_cons, deepM_append, h y (List.mem_cons_self ..) u _ h1, ih2 ks (i + 1) (fun z hz => h z (List.mem_cons_of_mem _ hz)) h2, pdps, List.length_cons]
        by_cases e : l = []
        · subst e
          rw [if_pos rfl, if_neg (by simp), pdps]; omega
        · rw [if_neg e, if_neg (by simp)]; omega
  rw [pp_eq]
  simp only [deepM]
  have hks : t.ks.map er = (te x).ks := by rw [← er_ks, h]
  cases x with
  | lf k n rs =>
    rw [te] at hks
    rw [show t.ks = [] by simpa [Er.ks] using hks, pps_nil, Ps.dp]
    simp [deepM]
  | grp n k =>
    rw [te] at hks
    rw [hl [k] t.ks 0 ih (by simpa [Er.ks] using hks), if_neg (by simp), Ps.dp, pdps, pdps]
    omega
  | rep a b k =>
    rw [te] at hks
    rw [hl [k] t.ks 0 ih (by simpa [Er.ks] using hks), if_neg (by simp), Ps.dp, pdps, pdps]
    omega
  | row l =>
    rw [te] at hks
    by_cases e : l = []
    · subst e
      rw [if_pos (show ([] : List Ps).isEmpty = true from rfl)] at hks
      rw [show t.ks = [] by simpa [Er.ks] using hks, pps_nil, Ps.dp, pdps]
      simp [deepM]
    · rw [if_neg (by simpa using e)] at hks
      rw [hl l t.ks 0 ih (by rw [← tes_map]; simpa [Er.ks] using hks), if_neg e, Ps.dp]
      omega
  | alt l =>
    rw [te] at hks
    rw [hl l t.ks 0 ih (by rw [← tes_map]; simpa [Er.ks] using hks), Ps.dp]
    split
    · rename_i e; rw [e, pdps]; omega
    · omega
/-- What a token's shape holds is as a right tree wants it. -/
def sgOK (c f : Bool) : Sgn → Prop
  | .lf k n rs => (k = 2 → setM c f rs ∧ n = 0) ∧ (k ≠ 2 → rs = []) ∧ (k = 8 → 1 ≤ n ∧ n ≤ 9) ∧ (k ≠ 8 → n = 0)
  | .rp a b => bndB a b = true
  | _ => True
def LKr (c f : Bool) (x : El) (gr : Nat) : Prop :=
  standP x.1 x.2.f.k = true ∧ fieldsM c f ((gr : Int) + 1) x.2.f ∧ kidsB x.2.f.k x.2.ks.length = true ∧ (x.2.f.k = 7 → x.2.f.n ≤ 30) ∧ (x.2.f.k = 8 → endP x.1 x.2.f.n = false ∧ x.2.f.n ≤ (gr : Int))
def RTr (c f : Bool) (gr : Nat) (L : List El) : Prop := ∀ pre x post, L = pre ++ x :: post → LKr c f x (gr + grpM pre)
theorem RTr.nil (c f : Bool) (gr : Nat) : RTr c f gr [] := fun pre x post h => by cases pre <;> cases h
theorem RTr.append {c f : Bool} {gr : Nat} {A B : List El} (h1 : RTr c f gr A) (h2 : RTr c f (gr + grpM A) B) : RTr c f gr (A ++ B) := by
  intro pre x post h
  rcases List.append_eq_append_iff.1 h with ⟨a, e1, e2⟩ | ⟨a, e1, e2⟩
  · rw [e1, grpM_append, ← Nat.add_assoc]
    exact h2 a x post e2
  · cases a with
    | nil =>
      simp at e1 e2
      subst e1
      have := h2 [] x post (by simp [← e2])
      simpa [grpM] using this
    | cons y a =>
      simp at e2
      obtain ⟨rfl, e2⟩ := e2
      exact h1 pre x a e1
theorem RTr.one {c f : Bool} {gr : Nat} {x : El} (h : LKr c f x gr) : RTr c f gr [x] := by
  intro pre y post e
  cases pre with
  | nil => simp at e; obtain ⟨rfl, -⟩ := e; simpa [grpM] using h
  | cons z pre => simp at e
theorem hk_al (g : Nat) (o e : List Nat) (l : List Sgn) : hk g o e (.al :: l) = hk g o e l := rfl
theorem hk_rp (g : Nat) (o e : List Nat) (a b : Int) (l : List Sgn) : hk g o e (.rp a b :: l) = hk g o e l := rfl
def Iv (gr : Nat) (e : List Nat) (wy : Way) : Prop := ∀ n ∈ e, n ≤ gr ∧ endP wy (n : Int) = false
def Av (gr : Nat) (wy : Way) : Prop := ∀ y ∈ wy, y.1.f.k = 7 → y.1.f.n ≤ (gr : Int)
theorem Av.mono {gr gr' : Nat} {wy : Way} (h : Av gr wy) (hg : gr ≤ gr') : Av gr' wy := fun y hy hk => by have := h y hy hk; omega
theorem endP_cons (t : Tr) (i : Nat) (wy : Way) (n : Int) : endP ((t, i) :: wy) n = ((t.f.k == 7 && t.f.n == n) || endP wy n) := by simp [endP]
theorem Iv.down {gr : Nat} {e : List Nat} {wy : Way} {t : Tr} (i : Nat) (h : Iv gr e wy) (hk : t.f.k ≠ 7) : Iv gr e ((t, i) :: wy) := fun n hn => ⟨(h n hn).1, by rw [endP_cons, (h n hn).2]; simp [hk]⟩
theorem Iv.up {gr : Nat} {e : List Nat} {wy : Way} {t : Tr} {i : Nat} (h : Iv gr e ((t, i) :: wy)) : Iv gr e wy := fun n hn => ⟨(h n hn).1, by have := (h n hn).2; rw [endP_cons] at this; simp only [Bool.or_eq_false_iff] at this; exact this.2⟩
theorem Iv.turn {gr : Nat} {e : List Nat} {wy : Way} {t : Tr} {i : Nat} (j : Nat) (h : Iv gr e ((t, i) :: wy)) : Iv gr e ((t, j) :: wy) := fun n hn => ⟨(h n hn).1, by have := (h n hn).2; rw [endP_cons] at this ⊢; exact this⟩
theorem Av.down {gr : Nat} {wy : Way} {t : Tr} (i : Nat) (h : Av gr wy) (hk : t.f.k = 7 → t.f.n ≤ (gr : Int)) : Av gr ((t, i) :: wy) := fun y hy h7 => by
  rcases List.mem_cons.1 hy with rfl | hy
  · exact hk h7
  · exact h y hy h7
theorem Av.end_ {gr : Nat} {wy : Way} (h : Av gr wy) {n : Nat} (hn : gr < n) : endP wy (n : Int) = false := by
  unfold endP
  rw [List.any_eq_false]
  intro y hy
  simp only [Bool.and_eq_true, beq_iff_eq, not_and]
  intro h7 e
  have := h y hy h7
  omega
def RtP (c f : Bool) (x : Ps) : Prop := ∀ (t : Tr) (wy : Way) (gr : Nat) (o e : List Nat) (rest : List Sgn), er t = te x → wf x → (∀ s ∈ pfl x, sgOK c f s) → standP wy x.kd = true → Iv gr e wy → Av gr wy → hk gr o e (pfl x ++ rest) →
  RTr c f gr (pp wy t) ∧ ∃ e', hk (gr + grpM (pp wy t)) o e' rest ∧ Iv (gr + grpM (pp wy t)) e' wy
theorem rts_of {c f : Bool} {par : Tr} {wy : Way} : ∀ (l : List Ps) (ks : List Tr) (i gr : Nat) (o e : List Nat) (rest : List Sgn), (∀ y ∈ l, RtP c f y) → ks.map er = l.map te → wfs l → (∀ s ∈ pfls l, sgOK c f s) → (∀ j y, l[j]? = some y → standP ((par, i + j) :: wy) y.kd = true) → Iv gr e ((par, i) :: wy) → Av gr ((par, i) :: wy) → hk gr o e (pfls l ++ rest) →
    RTr c f gr (pps par wy i ks) ∧ ∃ e', hk (gr + grpM (pps par wy i ks)) o e' rest ∧ Iv (gr + grpM (pps par wy i ks)) e' ((par, i) :: wy)
  | [], ks, i, gr, o, e, rest, _, h, _, _, _, hI, _, hh => by
    obtain rfl : ks = [] := by simpa using h
    rw [pps_nil]
    rw [pfls] at hh
    exact ⟨RTr.nil _ _ _, e, by simpa [grpM] using hh, by simpa [grpM] using hI⟩
  | y :: l, u :: ks, i, gr, o, e, rest, ih, h, hw, hs, hst, hI, hA, hh => by
    rw [List.map_cons, List.map_cons] at h
    injection h with h1 h2
    rw [wfs] at hw
    rw [pfls] at hh hs
    rw [List.append_assoc] at hh
    obtain ⟨r1, e1, k1, i1⟩ := ih y (List.mem_cons_self ..) u ((par, i) :: wy) gr o e (pfls l ++ rest) h1 hw.1 (fun s hs' => hs s (List.mem_append_left _ hs')) (by have := hst 0 y rfl; simpa using this) hI hA hh
    obtain ⟨r2, e2, k2, i2⟩ := rts_of l ks (i + 1) _ o e1 rest (fun z hz => ih z (List.mem_cons_of_mem _ hz)) h2 hw.2 (fun s hs' => hs s (List.mem_append_right _ hs')) (fun j z hz => by have := hst (j + 1) z (by simpa using hz); rwa [show i + (j + 1) = i + 1 + j by omega] at this) (i1.turn _) ((fun y hy h7 => by
        rcases List.mem_cons.1 hy with rfl | hy
        · have := hA (par, i) (List.mem_cons_self ..) h7; simp only at this ⊢; omega
        · have := hA y (List.mem_cons_of_mem _ hy) h7; omega)) k1
    rw [pps_cons, grpM_append, ← Nat.add_assoc]
    exact ⟨r1.append r2, e2, k2, i2.turn _⟩
  | y :: l, [], _, _, _, _, _, _, h, _, _, _, _, _, _ => by simp at h
theorem rtt_of {c f : Bool} {par : Tr} {wy : Way} : ∀ (l : List Ps) (ks : List Tr) (i gr : Nat) (o e : List Nat) (rest : List Sgn), (∀ y ∈ l, RtP c f y) → ks.map er = l.map te → wfs l → (∀ s ∈ pflt l, sgOK c f s) → (∀ j y, l[j]? = some y → standP ((par, i + j) :: wy) y.kd = true) → Iv gr e ((par, i) :: wy) → Av gr ((par, i) :: wy) → hk gr o e (pflt l ++ rest) →
    RTr c f gr (pps par wy i ks) ∧ ∃ e', hk (gr + grpM (pps par wy i ks)) o e' rest ∧ Iv (gr + grpM (pps par wy i ks)) e' ((par, i) :: wy)
  | [], ks, i, gr, o, e, rest, _, h, _, _, _, hI, _, hh => by
    obtain rfl : ks = [] := by simpa using h
    rw [pps_nil]
    rw [pflt] at hh
    exact ⟨RTr.nil _ _ _, e, by simpa [grpM] using hh, by simpa [grpM] using hI⟩
  | y :: l, u :: ks, i, gr, o, e, rest, ih, h, hw, hs, hst, hI, hA, hh => by
    rw [List.map_cons, List.map_cons] at h
    injection h with h1 h2
    rw [wfs] at hw
    rw [pflt] at hh hs
    rw [List.cons_append, hk_al, List.append_assoc] at hh
    obtain ⟨r1, e1, k1, i1⟩ := ih y (List.mem_cons_self ..) u ((par, i) :: wy) gr o e (pflt l ++ rest) h1 hw.1 (fun s hs' => hs s (List.mem_cons_of_mem _ (List.mem_append_left _ hs'))) (by have := hst 0 y rfl; simpa using this) hI hA hh
    obtain ⟨r2, e2, k2, i2⟩ := rtt_of l ks (i + 1) _ o e1 rest (fun z hz => ih z (List.mem_cons_of_mem _ hz)) h2 hw.2 (fun s hs' => hs s (List.mem_cons_of_mem _ (List.mem_append_right _ hs'))) (fun j z hz => by have := hst (j + 1) z (by simpa using hz); rwa [show i + (j + 1) = i + 1 + j by omega] at this) (i1.turn _) ((fun y hy h7 => by
        rcases List.mem_cons.1 hy with rfl | hy
        · have := hA (par, i) (List.mem_cons_self ..) h7; simp only at this ⊢; omega
        · have := hA y (List.mem_cons_of_mem _ hy) h7; omega)) k1
    rw [pps_cons, grpM_append, ← Nat.add_assoc]
    exact ⟨r1.append r2, e2, k2, i2.turn _⟩
  | y :: l, [], _, _, _, _, _, _, h, _, _, _, _, _, _ => by simp at h
theorem kd_br {x : Ps} (h : isBr x = true) (hw : wf x) : kindB x.kd = true ∧ x.kd ≠ 6 := by
  cases x with
  | lf k n rs =>
    rw [wf] at hw
    rcases hw with rfl | rfl | rfl | rfl <;> simp [Ps.kd, kindB]
  | grp => simp [Ps.kd, kindB]
  | rep => simp [Ps.kd, kindB]
  | row l => simp only [Ps.kd]; split <;> simp [kindB]
  | alt => simp [isBr] at h
theorem kd_all {x : Ps} (hw : wf x) : kindB x.kd = true := by
  cases x with
  | alt => simp [Ps.kd, kindB]
  | _ => exact (kd_br rfl hw).1
theorem kd_thg {x : Ps} (h : isThg x = true) : thingB x.kd = true := by
  cases x with
  | lf k n rs =>
    simp [isThg] at h
    rcases h with rfl | rfl <;> simp [Ps.kd, thingB]
  | grp => simp [Ps.kd, thingB]
  | rep => simp [Ps.kd, thingB]
  | row => simp [isThg] at h
  | alt => simp [isThg] at h
theorem rt_of (c f : Bool) (x : Ps) : RtP c f x := by
  refine Ps.ind (P := RtP c f) (fun x ih => ?_) x
  intro t wy gr o e rest h hw hs hst hI hA hh
  have hft : t.f.k = x.kd := by rw [← er_k, h, te_k]
  rw [pp_eq]
  cases x with
  | lf k n rs =>
    rw [te] at h
    obtain ⟨f1, f2, f3, f4, f5, f6⟩ := er_open h
    rw [show t.ks = [] by simpa using f6, pps_nil]
    have hs := hs (.lf k n rs) (by rw [pfl]; simp)
    rw [pfl, List.singleton_append, hk] at hh
    rw [wf] at hw
    have g0 : grpM [(wy, t)] = 0 := by
      simp only [grpM, f1]
      rcases hw with rfl | rfl | rfl | rfl <;> simp
    rw [g0, Nat.add_zero]
    refine ⟨RTr.one ⟨by rw [hft]; exact hst, ?_, ?_, fun z => ?_, fun z => ?_⟩, e, hh.2, hI⟩
    · simp only
      unfold fieldsM
      rw [f1, f2, f3, f4, f5]
      rcases hw with rfl | rfl | rfl | rfl
      · rw [if_pos rfl]; exact ⟨(hs.1 rfl).1, (hs.1 rfl).2, rfl, rfl⟩
      · rw [if_neg (by decide), if_neg (by decide), if_neg (by decide), if_neg (by decide), hs.2.1 (by decide), hs.2.2.2 (by decide)]; simp
      · rw [if_neg (by decide), if_neg (by decide), if_neg (by decide), if_neg (by decide), hs.2.1 (by decide), hs.2.2.2 (by decide)]; simp
      · rw [if_neg (by decide), if_neg (by decide), if_pos rfl, hs.2.1 (by decide)]; exact ⟨hs.2.2.1 rfl, rfl, rfl, rfl⟩
    · simp only
      rw [show t.ks = [] by simpa using f6, f1]
      rcases hw with rfl | rfl | rfl | rfl <;> simp [kidsB]
    · simp only at z
      rcases hw with rfl | rfl | rfl | rfl <;> (rw [f1] at z; cases z)
    · simp only at z ⊢
      obtain ⟨i, hi, e1⟩ := hh.1 (f1.symm.trans z)
      have := hI i hi
      rw [f2, e1]
      exact ⟨this.2, by omega⟩
  | grp n k =>
    rw [te] at h
    obtain ⟨f1, f2, f3, f4, f5, f6⟩ := er_open h
    obtain ⟨u, e1, hu⟩ := map_one f6
    rw [wf] at hw
    rw [pfl] at hh hs
    rw [List.cons_append, hk] at hh
    obtain ⟨rfl, hg, hh⟩ := hh
    rw [List.append_assoc] at hh
    have hA' : Av (gr + 1) ((t, 0) :: wy) := (hA.mono (by omega)).down 0 (fun _ => by rw [f2]; omega)
    have hI' : Iv (gr + 1) e ((t, 0) :: wy) := fun m hm => ⟨by have := (hI m hm).1; omega, by
      rw [endP_cons, (hI m hm).2, f2]
      have := (hI m hm).1
      have e2 : (((gr + 1 : Nat) : Int) == (m : Int)) = false := by rw [beq_eq_false_iff_ne]; omega
      rw [e2]; simp⟩
    have hst' : standP ((t, 0) :: wy) k.kd = true := by
      simp only [standP, standB]
      rw [f1, if_neg (by decide), if_neg (by decide), if_neg (by decide)]
      exact kd_all hw
    obtain ⟨r1, e', k1, i1⟩ := ih k (by simp [Ps.kids]) u ((t, 0) :: wy) (gr + 1) ((gr + 1) :: o) e ([.cl] ++ rest) hu hw (fun s hs' => hs s (List.mem_cons_of_mem _ (List.mem_append_left _ hs'))) hst' hI' hA' hh
    rw [List.singleton_append, hk] at k1
    obtain ⟨n2, o2, eo, k2⟩ := k1
    injection eo with eo1 eo2
    subst eo1 eo2
    rw [e1, pps_cons, pps_nil, List.append_nil]
    have g1 : grpM ((wy, t) :: pp ((t, 0) :: wy) u) = 1 + grpM (pp ((t, 0) :: wy) u) := by simp only [grpM, f1, if_pos]
    rw [g1, show gr + (1 + grpM (pp ((t, 0) :: wy) u)) = gr + 1 + grpM (pp ((t, 0) :: wy) u) by omega]
    refine ⟨?_, (gr + 1) :: e', k2, ?_⟩
    · refine RTr.append (A := [(wy, t)]) (RTr.one ⟨by rw [hft]; exact hst, ?_, ?_, fun _ => by rw [f2]; omega, fun z => by simp only at z; rw [f1] at z; cases z⟩) ?_
      · simp only
        unfold fieldsM
        rw [f1, f2, f3, f4, f5, if_neg (by decide), if_pos rfl]
        exact ⟨by omega, rfl, rfl, rfl⟩
      · simp only
        rw [e1, f1]
        rfl
      · have g2 : grpM [(wy, t)] = 1 := by simp [grpM, f1]
        rw [g2]
        exact r1
    · intro m hm
      rcases List.mem_cons.1 hm with rfl | hm
      · exact ⟨by omega, hA.end_ (by omega)⟩
      · exact i1.up m hm
  | rep a b k =>
    rw [te] at h
    obtain ⟨f1, f2, f3, f4, f5, f6⟩ := er_open h
    obtain ⟨u, e1, hu⟩ := map_one f6
    rw [wf] at hw
    rw [pfl] at hh hs
    rw [List.append_assoc] at hh
    have hb : bndB a b = true := hs (.rp a b) (by simp)
    have hst' : standP ((t, 0) :: wy) k.kd = true := by
      simp only [standP, standB]
      rw [f1, if_neg (by decide), if_pos rfl]
      exact kd_thg hw.1
    obtain ⟨r1, e', k1, i1⟩ := ih k (by simp [Ps.kids]) u ((t, 0) :: wy) gr o e ([.rp a b] ++ rest) hu hw.2 (fun s hs' => hs s (List.mem_append_left _ hs')) hst' (hI.down 0 (by rw [f1]; decide)) (hA.down 0 (fun z => by rw [f1] at z; cases z)) hh
    rw [List.singleton_append, hk_rp] at k1
    rw [e1, pps_cons, pps_nil, List.append_nil]
    have g1 : grpM ((wy, t) :: pp ((t, 0) :: wy) u) = grpM (pp ((t, 0) :: wy) u) := by simp [grpM, f1]
    rw [g1]
    refine ⟨?_, e', k1, i1.up⟩
    refine RTr.append (A := [(wy, t)]) (RTr.one ⟨by rw [hft]; exact hst, ?_, ?_, fun z => (by simp only at z; rw [f1] at z; cases z), fun z => (by simp only at z; rw [f1] at z; cases z)⟩) ?_
    · simp only
      unfold fieldsM
      rw [f1, f2, f3, f4, f5, if_neg (by decide), if_neg (by decide), if_neg (by decide), if_pos rfl]
      exact ⟨hb, rfl, rfl⟩
    · simp only
      rw [e1, f1]
      rfl
    · have g2 : grpM [(wy, t)] = 0 := by simp [grpM, f1]
      rw [g2]
      exact r1
  | row l =>
    rw [wf] at hw
    obtain ⟨hw1, hw2, hw3⟩ := hw
    rw [pfl] at hh hs
    rw [te] at h
    by_cases hl : l = []
    · subst hl
      rw [if_pos (show ([] : List Ps).isEmpty = true from rfl)] at h
      obtain ⟨f1, f2, f3, f4, f5, f6⟩ := er_open h
      rw [show t.ks = [] by simpa using f6, pps_nil]
      rw [pfls] at hh
      have g0 : grpM [(wy, t)] = 0 := by simp [grpM, f1]
      rw [g0, Nat.add_zero]
      refine ⟨RTr.one ⟨by rw [hft]; exact hst, ?_, ?_, fun z => (by simp only at z; rw [f1] at z; cases z), fun z => (by simp only at z; rw [f1] at z; cases z)⟩, e, hh, hI⟩
      · simp only
        unfold fieldsM
        rw [f1, f2, f3, f4, f5, if_neg (by decide), if_neg (by decide), if_neg (by decide), if_neg (by decide)]
        exact ⟨rfl, rfl, rfl, rfl⟩
      · simp only
        rw [show t.ks = [] by simpa using f6, f1]
        rfl
    · rw [if_neg (by simpa using hl)] at h
      obtain ⟨f1, f2, f3, f4, f5, f6⟩ := er_open h
      rw [tes_map] at f6
      have hlen : t.ks.length = l.length := by have := congrArg List.length f6; simpa using this
      have h2 : 2 ≤ l.length := by
        have : l.length ≠ 0 := fun z => hl (List.eq_nil_of_length_eq_zero z)
        omega
      obtain ⟨r1, e', k1, i1⟩ := rts_of (par := t) (wy := wy) l t.ks 0 gr o e rest ih f6 hw3 hs (fun j y hy => by
        have hy' := hw2 j y hy
        rw [Nat.zero_add]
        simp only [standP, standB]
        rw [f1, if_pos rfl, hlen]
        have hwy := (wfs_iff l).1 hw3 y (List.mem_of_getElem? hy)
        have hj := (List.getElem?_eq_some_iff.1 hy).1
        cases y with
        | lf k n rs =>
          rw [wf] at hwy
          rcases hwy with rfl | rfl | rfl | rfl
          · simp [Ps.kd, thingB]
          · have := hy'.2.1 rfl
            subst this
            simp [Ps.kd]
          · have := hy'.2.2 rfl
            have e3 : ((j : Int) == (l.length : Int) - 1) = true := by rw [beq_iff_eq]; omega
            rw [e3]
            simp [Ps.kd]
          · simp [Ps.kd, thingB]
        | grp => simp [Ps.kd, thingB]
        | rep => simp [Ps.kd, thingB]
        | row => simp [isItm] at hy'
        | alt => simp [isItm] at hy') (hI.down 0 (by rw [f1]; decide)) (hA.down 0 (fun z => by rw [f1] at z; cases z)) hh
      have g1 : grpM ((wy, t) :: pps t wy 0 t.ks) = grpM (pps t wy 0 t.ks) := by simp [grpM, f1]
      rw [g1]
      refine ⟨?_, e', k1, i1.up⟩
      refine RTr.append (A := [(wy, t)]) (RTr.one ⟨by rw [hft]; exact hst, ?_, ?_, fun z => (by simp only at z; rw [f1] at z; cases z), fun z => (by simp only at z; rw [f1] at z; cases z)⟩) ?_
      · simp only
        unfold fieldsM
        rw [f1, f2, f3, f4, f5, if_neg (by decide), if_neg (by decide), if_neg (by decide), if_neg (by decide)]
        exact ⟨rfl, rfl, rfl, rfl⟩
      · simp only
        rw [f1, hlen]
        simp [kidsB, h2]
      · have g2 : grpM [(wy, t)] = 0 := by simp [grpM, f1]
        rw [g2]
        exact r1
  | alt l =>
    rw [wf] at hw
    obtain ⟨hw1, hw2, hw3⟩ := hw
    rw [pfl] at hh hs
    rw [te] at h
    obtain ⟨f1, f2, f3, f4, f5, f6⟩ := er_open h
    rw [tes_map] at f6
    have hlen : t.ks.length = l.length := by have := congrArg List.length f6; simpa using this
    have hh2 : hk gr o e (pflt l ++ rest) := by
      cases l with
      | nil => simp at hw1
      | cons y l => rw [pfla] at hh; rw [pflt, List.cons_append, hk_al]; exact hh
    have hs2 : ∀ s ∈ pflt l, sgOK c f s := by
      cases l with
      | nil => simp at hw1
      | cons y l =>
        rw [pfla] at hs
        rw [pflt]
        intro s hs'
        rcases List.mem_cons.1 hs' with rfl | hs'
        · trivial
        · exact hs s hs'
    obtain ⟨r1, e', k1, i1⟩ := rtt_of (par := t) (wy := wy) l t.ks 0 gr o e rest ih f6 hw3 hs2 (fun j y hy => by
      have hy' := kd_br (hw2 y (List.mem_of_getElem? hy)) ((wfs_iff l).1 hw3 y (List.mem_of_getElem? hy))
      simp only [standP, standB]
      rw [f1, if_neg (by decide), if_neg (by decide), if_pos rfl, hy'.1]
      simpa using hy'.2) (hI.down 0 (by rw [f1]; decide)) (hA.down 0 (fun z => by rw [f1] at z; cases z)) hh2
    have g1 : grpM ((wy, t) :: pps t wy 0 t.ks) = grpM (pps t wy 0 t.ks) := by simp [grpM, f1]
    rw [g1]
    refine ⟨?_, e', k1, i1.up⟩
    refine RTr.append (A := [(wy, t)]) (RTr.one ⟨by rw [hft]; exact hst, ?_, ?_, fun z => (by simp only at z; rw [f1] at z; cases z), fun z => (by simp only at z; rw [f1] at z; cases z)⟩) ?_
    · simp only
      unfold fieldsM
      rw [f1, f2, f3, f4, f5, if_neg (by decide), if_neg (by decide), if_neg (by decide), if_neg (by decide)]
      exact ⟨rfl, rfl, rfl, rfl⟩
    · simp only
      rw [f1, hlen]
      simp [kidsB, hw1]
    · have g2 : grpM [(wy, t)] = 0 := by simp [grpM, f1]
      rw [g2]
      exact r1
/-- A tree that is put together of a pattern's tokens, neither too deep nor too large, is right. -/
theorem ps_right {c f : Bool} {x : Ps} {t : Tr} (h : er t = te x) (hw : wf x) (hs : ∀ s ∈ pfl x, sgOK c f s) (hh : hk 0 [] [] (pfl x)) (h1 : x.dp ≤ 40) (h2 : x.sz ≤ 2000) : rightM c f 0 0 (pp [] t) = 0 := by
  have hr := (rt_of c f x t [] 0 [] [] [] h hw hs (kd_all hw) (fun n hn => by cases hn) (fun y hy => by cases hy) (by simpa using hh)).1
  have hd := deep_is x t [] h
  have hl : (pp [] t).length ≤ 2000 := by rw [pp_len, ← er_sz, h, te_sz]; exact h2
  refine all_right _ 0 0 fun pre y post e => ?_
  obtain ⟨l1, l2, l3, l4, l5⟩ := hr pre y post e
  rw [Nat.zero_add] at l2 l5
  rw [Nat.zero_add, Nat.zero_add]
  have hpl : pre.length < 2000 := by rw [e] at hl; simp at hl; omega
  have hdp : y.1.length + 1 ≤ 40 := by
    have : deepM (pp [] t) ≤ 40 := by rw [hd]; simpa using h1
    rw [e, deepM_append] at this
    simp only [deepM] at this
    omega
  unfold lookM
  rw [if_neg (by omega), if_neg (by omega), if_neg (fun z => z ⟨l1, l2, l3⟩), if_neg (fun z => by have := l4 z.1; omega), if_neg (fun z => z.2 (l5 z.1))]
end Go.Proofs.YtpfdapnfkghgkaaGreatDoor
namespace Go.Proofs.YtpfdapnfkghgkaaGreatDoor
open Go Go.RowKit

theorem fold_up {R : Int → Prop} {x : Int} (h1 : 65 ≤ x - 32) (h2 : x - 32 ≤ 90) : foldQ R (x - 32) ↔ foldQ R x := by
  unfold foldQ
  rw [show x - 32 + 32 = x by omega]
  constructor
  · rintro (h | ⟨-, h, h'⟩ | ⟨h, -, -⟩)
    · exact .inr (.inl ⟨h, h1, h2⟩)
    · omega
    · exact .inl h
  · rintro (h | ⟨h, -, -⟩ | ⟨-, h, h'⟩)
    · exact .inr (.inr ⟨h, by omega, by omega⟩)
    · exact .inl h
    · omega
theorem fold_down {R : Int → Prop} {x : Int} (h1 : 97 ≤ x + 32) (h2 : x + 32 ≤ 122) : foldQ R (x + 32) ↔ foldQ R x := by
  have := @fold_up R (x + 32) (by omega) (by omega)
  rw [show x + 32 - 32 = x by omega] at this
  exact this.symm
theorem char_low {c : Bool} {x : Int} (h1 : 0 ≤ x) (h2 : x ≤ 127) : isChar c x := ⟨h1, by cases c <;> simp [top] <;> omega, fun _ => .inl (by omega)⟩
theorem set_tok {m : Md} {L : List (Int × Int)} {q : Int → Prop} (h : IsC L q) (hq : ∃ L' b, q = setQ m L' b) : setM m.c m.f L := by
  obtain ⟨L', b, rfl⟩ := hq
  refine ⟨h.to (fun x => ⟨fun hx => ⟨(h.mem x).2 hx, hx.1⟩, fun hx => (h.mem x).1 hx.1⟩), fun hf x => ⟨fun hx => .inl hx, ?_⟩⟩
  have key : ∀ y z : Int, (0 ≤ z ∧ z ≤ 127) → (foldQ (In L') y ↔ foldQ (In L') z) → setQ m L' b y → setQ m L' b z := fun y z hz he hy => by
    refine ⟨char_low hz.1 hz.2, ?_⟩
    have h2 := hy.2
    simp only [hf, if_true] at h2 ⊢
    rw [← he]
    exact h2
  rintro (hx | ⟨hx, h1, h2⟩ | ⟨hx, h1, h2⟩)
  · exact hx
  · exact (h.mem x).2 (key (x - 32) x (by omega) (fold_up h1 h2) ((h.mem _).1 hx))
  · exact (h.mem x).2 (key (x + 32) x (by omega) (fold_down h1 h2) ((h.mem _).1 hx))
theorem sg_ok {m : Md} : ∀ (D : List Dt) (g : Nat), (∀ d ∈ D, IsC d.2.2 d.1.1.q ∧ TkW m d.1.1) → ∀ s ∈ sgns g (D.map Prod.fst), sgOK m.c m.f s
  | [], g, _, s, hs => by cases hs
  | d :: D, g, h, s, hs => by
    rw [List.map_cons, sgns] at hs
    rcases List.mem_cons.1 hs with rfl | hs
    · obtain ⟨h1, h2⟩ := h d (List.mem_cons_self ..)
      rcases kinds_of h2.ok.1 h2.ok.2.1 with e | e | e | e | e | e | e | e
      · simp only [sgT, e, Nat.reduceEqDiff, if_false, sgOK]
        refine ⟨fun _ => ⟨?_, trivial⟩, fun z => absurd rfl z, fun z => (by cases z), fun _ => trivial⟩
        rw [rsQ_is h1]
        exact set_tok h1 (h2.set e)
      · simp only [sgT, e, Nat.reduceEqDiff, if_false, if_true, sgOK]
        exact h2.rep e
      · simp [sgT, e, sgOK]
      · simp [sgT, e, sgOK]
      · simp [sgT, e, sgOK]
      · simp only [sgT, e, Nat.reduceEqDiff, if_false, if_true, sgOK]
        have := h2.back e
        exact ⟨fun z => (by cases z), fun _ => trivial, fun _ => ⟨by omega, by omega⟩, fun z => absurd rfl z⟩
      · simp [sgT, e, sgOK]
      · simp [sgT, e, sgOK]
    · exact sg_ok D _ (fun x hx => h x (List.mem_cons_of_mem _ hx)) s hs
/-- How large a tree of some tokens is. -/
theorem psz_bound (x : Ps) : wf x → x.sz ≤ 2 * (pfl x).length + 1 ∧ (isItm x = true → x.sz ≤ 2 * (pfl x).length) := by
  refine Ps.ind (P := fun x => wf x → x.sz ≤ 2 * (pfl x).length + 1 ∧ (isItm x = true → x.sz ≤ 2 * (pfl x).length)) (fun x ih hw => ?_) x
  cases x with
  | lf k n rs => rw [Ps.sz, pfl]; simp
  | grp n k =>
    rw [wf] at hw
    have := (ih k (by simp [Ps.kids]) hw).1
    rw [Ps.sz, pfl]
    simp only [List.length_cons, List.length_append, List.length_nil]
    exact ⟨by omega, fun _ => by omega⟩
  | rep a b k =>
    rw [wf] at hw
    have := (ih k (by simp [Ps.kids]) hw.2).2 (thg_itm hw.1).1
    rw [Ps.sz, pfl]
    simp only [List.length_cons, List.length_append, List.length_nil]
    exact ⟨by omega, fun _ => by omega⟩
  | row l =>
    rw [wf] at hw
    obtain ⟨-, h2, h3⟩ := hw
    refine ⟨?_, fun z => by cases z⟩
    rw [Ps.sz, pfl]
    have key : ∀ m : List Ps, (∀ y ∈ m, y.sz ≤ 2 * (pfl y).length) → pszs m ≤ 2 * (pfls m).length := by
      intro m
      induction m with
      | nil => intro _; rw [pszs_nil, pfls]; simp
      | cons y m ihm =>
        intro h
        have h1 := h y (List.mem_cons_self ..)
        have h2 := ihm (fun z hz => h z (List.mem_cons_of_mem _ hz))
        rw [pszs_cons, pfls, List.length_append]
        omega
    have := key l (fun y hy => (ih y hy ((wfs_iff l).1 h3 y hy)).2 (by
      obtain ⟨i, hi, e⟩ := List.getElem_of_mem hy
      exact (h2 i y (by rw [List.getElem?_eq_getElem hi, e])).1))
    omega
  | alt l =>
    rw [wf] at hw
    obtain ⟨h1, -, h3⟩ := hw
    refine ⟨?_, fun z => by cases z⟩
    rw [Ps.sz, pfl]
    have key : ∀ m : List Ps, (∀ y ∈ m, y.sz ≤ 2 * (pfl y).length + 1) → pszs m + m.length ≤ 2 * (pflt m).length := by
      intro m
      induction m with
      | nil => intro _; rw [pszs_nil, pflt]; simp
      | cons y m ihm =>
        intro h
        have h1 := h y (List.mem_cons_self ..)
        have h2 := ihm (fun z hz => h z (List.mem_cons_of_mem _ hz))
        rw [pszs_cons, pflt, List.length_cons, List.length_cons, List.length_append]
        omega
    have := key l (fun y hy => (ih y hy ((wfs_iff l).1 h3 y hy)).1)
    cases l with
    | nil => simp at h1
    | cons y l =>
      rw [pflt] at this
      rw [pfla]
      simp only [List.length_cons, List.length_append] at this h1 ⊢
      omega
/-- What Lex tells of tokens that the builder is to take. -/
theorem toks_ok {m : Md} {s : ByteArray} {T : List Tp} {D : List Dt} (h : lexM m s = .ok T) (hD : D.map Prod.fst = T) (hc : ∀ d ∈ D, IsC d.2.2 d.1.1.q) : (∀ d ∈ D, TokOK d.1.1 ∧ d.2.2.length ≤ 1000000) ∧ D.length ≤ 2000 ∧ (∀ d ∈ D, TkW m d.1.1) ∧ D.length ≤ s.size := by
  obtain ⟨p, hb⟩ := lex_beside h
  have hw : ∀ d ∈ D, TkW m d.1.1 := fun d hd => hb.tok d.1 (by rw [← hD]; exact List.mem_map_of_mem hd)
  have hl : D.length ≤ s.size := by
    have := lexM_ends m s
    rw [h] at this
    have := (show Stands s T s.size from this).few
    rw [← hD, List.length_map] at this
    exact this
  have hs : s.size ≤ 2000 := by
    unfold lexM at h
    split at h
    · cases h
    · omega
  exact ⟨fun d hd => ⟨(hw d hd).ok, Nat.le_trans (char_len (hc d hd) (hw d hd).chr) (by omega)⟩, by omega, hw, hl⟩
end Go.Proofs.YtpfdapnfkghgkaaGreatDoor
namespace Go.Proofs.YtpfdapnfkghgkaaGreatDoor
open Go Go.RowKit

theorem news1 (W : World) (a : Value) (t : TypeId) : ∀ (j : Nat) (u : Value), [a][j]? = some u → (W.alloc (.cells #[a] t)).cell? ((⟨W.heap.size, 0, none⟩ : Addr).add j) = some u := by
  intro j u h
  match j, h with
  | 0, h => simp at h; subst h; simp [Addr.add]

/-- A text that is gone through beside a list of one's own (cells of the type e). -/
structure RI5 (s : ByteArray) (w : World) (k pos : Nat) (e : TypeId) (v : Value) (n : Nat) (L : List Value) (wr : World) : Prop where
  lo : w.heap.size ≤ k
  it : wr.heap[k]? = some (.stringIter s pos)
  own : wr.ownsRow w.heap.size e 1 v n L
  bel : Below w.heap.size w wr
theorem RI5.len {s : ByteArray} {w wr : World} {k pos n : Nat} {e : TypeId} {v : Value} {L : List Value} (h : RI5 s w k pos e v n L wr) : w.heap.size ≤ wr.heap.size := h.bel.size
theorem own_iterAt {wr : World} {base k p p' n : Nat} {e : TypeId} {s : ByteArray} {v : Value} {L : List Value} (h : wr.ownsRow base e 1 v n L) (hk : wr.heap[k]? = some (.stringIter s p)) : (wr.iterAt k s p').ownsRow base e 1 v n L := by
  obtain ⟨h1, h2 | ⟨g, cap, cur, q1, q2, q3, q4⟩⟩ := h
  · exact ⟨h1, .inl h2⟩
  · refine ⟨h1, .inr ⟨g, cap, cur, q1, q2, ?_, q4⟩⟩
    rw [Lib.iterAt_other _ _ _ _ _ (fun q => by rw [q, hk] at q3; cases q3)]
    exact q3
theorem RI5.next {s : ByteArray} {w wr : World} {k pos n : Nat} {e : TypeId} {v : Value} {L : List Value} (h : RI5 s w k pos e v n L wr) (p : Nat) : RI5 s w k p e v n L (wr.iterAt k s p) :=
  ⟨h.lo, Lib.iterAt_heap wr k s pos p h.it, own_iterAt h.own h.it, iter_below h.bel h.lo p⟩
theorem RI5.app {s : ByteArray} {w wr w6 : World} {k pos n m : Nat} {e : TypeId} {v v' : Value} {L M : List Value} {o : Obj} (h : RI5 s w k pos e v n L wr) (hown : w6.ownsRow w.heap.size e 1 v' m M) (hg : (wr.alloc o).grownBy w6 v.ownBlock) : RI5 s w k pos e v' m M w6 := by
  have hk := lt_of_heap h.it
  refine ⟨h.lo, ?_, hown, ?_⟩
  · rw [hg.block k (by simp; omega) ?_, Below.heap_alloc _ _ _ hk]
    · exact h.it
    · intro q
      obtain ⟨_, _, cur, hc⟩ := ownsRow_at h.own q.symm
      rw [h.it] at hc; cases hc
  · exact chainF h.bel (((Fr.refl (fun z => v.ownBlock = some z) wr).alloc _).grown hg (fun z hz => hz)) (Nat.le_refl _) (fun z hz => (ownsRow_at h.own hz).1)
theorem RI5.app0 {s : ByteArray} {w wr w6 : World} {k pos n m : Nat} {e : TypeId} {v v' : Value} {L M : List Value} (h : RI5 s w k pos e v n L wr) (hown : w6.ownsRow w.heap.size e 1 v' m M) (hg : wr.grownBy w6 v.ownBlock) : RI5 s w k pos e v' m M w6 := by
  have hk := lt_of_heap h.it
  refine ⟨h.lo, ?_, hown, ?_⟩
  · rw [hg.block k hk ?_]
    · exact h.it
    · intro q
      obtain ⟨_, _, cur, hc⟩ := ownsRow_at h.own q.symm
      rw [h.it] at hc; cases hc
  · exact chainF h.bel ((Fr.refl (fun z => v.ownBlock = some z) wr).grown hg (fun z hz => hz)) (Nat.le_refl _) (fun z hz => (ownsRow_at h.own hz).1)

/-- The places, and the characters, of units. -/
def plc5 (l : List (Nat × Int)) : List Int := l.map fun u => (u.1 : Int)
def chs (l : List (Nat × Int)) : List Int := l.map fun u => u.2
theorem plc_len (l : List (Nat × Int)) : (plc5 l).length = l.length := by simp [plc5]
theorem chs_len (l : List (Nat × Int)) : (chs l).length = l.length := by simp [chs]

/-- Are all units characters? -/
def good (l : List (Nat × Int)) : Bool := l.all fun u => decide (0 ≤ u.2)
def dErr (l : List (Nat × Int)) : Int := if good l then 0 else 20
def dList (l : List (Nat × Int)) : List Int := if good l then chs l else []
set_option maxHeartbeats 4000000 in
set_option maxRecDepth 1000000 in
theorem decode_c (s : ByteArray) (w : World) (hs : s.size ≤ 1099511627776) :
    Calls Tryz.prog 69 #[.string s] w fun e w' => ∃ v, e = .returned (.tuple #[v, .int .i64 (dErr (us s))]) ∧ w'.ownsRow w.heap.size 3 1 v (dList (us s)).length (ints (dList (us s))) ∧ Below w.heap.size w w' := by
  obtain ⟨t0, hi, hz0, hz1, hz2⟩ := info_parts size_int
  go_enter Tryz.func69, Tryz.ntmps69
  go_wp2
  go_loopw [4] (fun t wr => ∃ (pos f : Nat) (acc : List (Nat × Int)), RI5 s w w.heap.size pos 3 t acc.length (ints (chs acc)) wr ∧ acc ++ uFrom s f pos = us s ∧ good acc = true ∧ s.size ≤ pos + f ∧ acc.length ≤ pos) (fun _ wr => s.size - wr.iterPos w.heap.size)
  case atStart => exact ⟨0, s.size, [], ⟨Nat.le_refl _, World.iter_heap w s 0, World.ownsRow_nil _ _ _ _, (Below.refl _ w).alloc (Nat.le_refl _) _⟩, rfl, rfl, by omega, by simp⟩
  case round =>
    obtain ⟨pos, f, acc, hR, hacc, hgd, hfu, hap⟩ := hrel
    obtain ⟨q, c, rfl⟩ := ownsRow_shape hR.own
    have R : Hid _ := hR
    have A : Hid (acc ++ uFrom s f pos = us s) := hacc
    have G : Hid (good acc = true) := hgd
    have hit := hR.it
    have hsz := hR.len
    clear hR hacc hgd
    by_cases hp : pos < s.size
    · obtain ⟨W2, hW2⟩ : ∃ W2, wr.iterAt w.heap.size s (pos + wd s pos) = W2 := ⟨_, rfl⟩
      have hnx : ∀ ty, (Instr.next (.pointer (some ⟨w.heap.size, 0, none⟩)) true ty).run Tryz.prog wr = .ok (.tuple #[.bool true, .int .i64 (pos : Int), .int .i32 ((Utf8.decode s pos).1 : Int)]) W2 := fun ty => by rw [← hW2]; exact Lib.run_next_any_at wr w.heap.size s pos ty hit hp
      have R2 : Hid (RI5 s w w.heap.size (pos + wd s pos) 3 (.slice q acc.length c) acc.length (ints (chs acc)) W2) := by rw [← hW2]; exact R.out.next (pos + wd s pos)
      clear hW2
      obtain ⟨f, rfl⟩ : ∃ g, f = g + 1 := ⟨f - 1, by omega⟩
      have A2 := A.out
      rw [uFrom_more s f pos hp] at A2
      have A3 : Hid (acc ++ ((pos, ch s pos) :: uFrom s f (pos + wd s pos)) = us s) := A2
      have hw := wd_pos s pos
      have hwd := (wd_le s pos hp).2
      have I : Hid (wr.heap[w.heap.size]? = some (.stringIter s pos)) := hit
      have hc := broken_c s pos
      have hdl := dec_le s pos
      clear A2 hit
      have hsz2 := R2.out.len
      rcases hb : bad s pos with _ | _
      · have e1 : Hid (ch s pos = (Utf8.decode s pos).1) := ch_good hb
        obtain ⟨r, hr⟩ : ∃ r, (Utf8.decode s pos).1 = r := ⟨_, rfl⟩
        rw [hr] at hnx hc hdl
        have e2' : ch s pos = (r : Int) := by rw [e1.out, hr]
        have e2 : Hid (ch s pos = (r : Int)) := e2'
        clear e2'
        clear hr
        have hwr : IntKind.wrap .i64 (r : Int) = (r : Int) := wrap_small _ (by omega) (by omega)
        go_wp2_with first
          | (go_at_call 89; (with_reducible refine (hc _ hp).mono ?_); rw [hb]; rintro e w5 ⟨rfl, h5⟩; subst w5)
          | (at_builtin; refine wpList_append_own_at _ rfl _ _ 80 rfl w.heap.size 3 t0 (.int .i64 0) 1 8 und_ints hi hz0 hz1 hz2 rfl (by decide) (.slice q acc.length c) acc.length (ints (chs acc)) rfl (World.ownsRow.alloc R2.out.own (.cells #[.int .i64 (r : Int)] 3)) ⟨W2.heap.size, 0, none⟩ 1 1 [.int .i64 (r : Int)] rfl rfl (news1 _ _ _) (by simp [Value.oneCell']) (by unfold maxLen; omega) (by omega) (by simp; omega) ?_; intro v' w6 hown' hgrow _ hblk; obtain ⟨g6, cap6, rfl⟩ := ownsRow_some hown' (Nat.succ_pos _); have R6 : Hid (RI5 s w w.heap.size (pos + wd s pos) 3 (.slice (some ⟨g6, 0, none⟩) (acc.length + 1) cap6) (acc.length + 1) (ints (chs acc) ++ [.int .i64 (r : Int)]) w6) := R2.out.app hown' hgrow; clear hown' hgrow hblk)
        go_roundw
        case rel =>
          refine ⟨pos + wd s pos, f, acc ++ [(pos, ch s pos)], ?_, by rw [← A3.out]; simp, ?_, by omega, by simp; omega⟩
          · have := R6.out
            rw [List.length_append, List.length_singleton, chs, List.map_append, ints_append]
            simp only [List.map_cons, List.map_nil, e2.out]
            exact this
          · have := G.out
            simp only [good, List.all_append, Bool.and_eq_true] at this ⊢
            refine ⟨this, ?_⟩
            simp [e2.out]
        case measure =>
          simp only [World.iterPos, R6.out.it, I.out]
          omega
      · have e1 : Hid _ := ch_bad hb
        go_wp2_with (go_at_call 89; (with_reducible refine (hc _ hp).mono ?_); rw [hb]; rintro e w5 ⟨rfl, h5⟩; subst w5)
        go_ret2
        have hn : good (us s) = false := by
          rw [← A3.out]
          simp [good, e1.out.1]
        have d1 : dErr (us s) = 20 := by rw [dErr, hn]; rfl
        have d2 : dList (us s) = [] := by rw [dList, hn]; rfl
        rw [d1, d2]
        exact ⟨_, rfl, World.ownsRow_nil _ _ _ _, R2.out.bel⟩
    · have hnx : ∀ ty, (Instr.next (.pointer (some ⟨w.heap.size, 0, none⟩)) true ty).run Tryz.prog wr = _ := fun ty => Lib.run_next_end_at wr w.heap.size s pos ty hit hp
      have A2 := A.out
      rw [uFrom_end s f pos hp, List.append_nil] at A2
      have A3 : Hid (acc = us s) := A2
      clear hit A2
      go_wp2
      go_ret2
      have hG : good (us s) = true := by rw [← A3.out]; exact G.out
      have d1 : dErr (us s) = 0 := by rw [dErr, hG]; rfl
      have d2 : dList (us s) = chs acc := by rw [dList, hG, ← A3.out]; rfl
      rw [d1, d2, chs_len]
      exact ⟨_, rfl, R.out.own, R.out.bel⟩
end Go.Proofs.YtpfdapnfkghgkaaGreatDoor
namespace Go.Proofs.YtpfdapnfkghgkaaGreatDoor
open Go Go.RowKit

/-- The numbers of a character. -/
def oneP (f : Bool) (c : Int) (x : Int) : Prop := if f = true then foldP [(c, c)] x else x = c
/-- What the node of a character is. -/
def EC (f : Bool) (c : Int) (E : Er) : Prop := ∃ C, E = .mk 2 0 0 0 C [] ∧ IsC C (oneP f c)
theorem EC.one {f : Bool} {c : Int} {E E' : Er} (h : EC f c E) (k : EC f c E') : E = E' := by
  obtain ⟨C, rfl, h1⟩ := h
  obtain ⟨D, rfl, k1⟩ := k
  rw [h1.one k1 (fun _ => Iff.rfl)]
def setTr (C : List (Int × Int)) (q : Option Addr) (k : Nat) : Tr := .mk ⟨2, 0, 0, 0, C, q, k, none, 0, 0⟩ []
theorem setTr_ta {W : World} {base : Nat} {C : List (Int × Int)} {q : Option Addr} {k : Nat} (h : RR base W (.slice q C.length k) C) (hf : Fit C) (hl : C.length ≤ 1000) : TA W (setTr C q k) ∧ Foot (fun i => base ≤ i) (setTr C q k) := by
  refine ⟨(every_eq _).2 ⟨⟨h.arg, .inl ⟨none, 0, rfl, rfl, fun _ => rfl⟩, hf, ?_, NO.rows h (fun a e _ => by cases e)⟩, (everyL_iff _).2 fun u hu => by cases hu⟩, (every_eq _).2 ⟨⟨fun a e hz => ?_, fun a e => (by cases e)⟩, (everyL_iff _).2 fun u hu => by cases hu⟩⟩
  · show C.length + 3 ≤ _; omega
  · have e' : q = some a := e
    exact (ownsRow_at h (g := a.block) (by rw [e']; rfl)).1
theorem lit_rr8 (W : World) (L : List (Int × Int)) (hl : L.length ≤ 1000) : RR W.heap.size (W.alloc (.cells (cellsR L).toArray 99)) (.slice (some ⟨W.heap.size, 0, none⟩) L.length L.length) L := by
  have := World.ownsRow_lit (base := W.heap.size) (e := 99) (size := 2) W (cellsR L).toArray L.length (Nat.le_refl _) (by unfold maxLen; omega) (by simp [cellsR_length])
  exact this
theorem one_is (c : Int) (hc : 0 ≤ c ∧ c ≤ 1114111) : IsC [(c, c)] (fun x => x = c) := by
  refine ⟨⟨fun r hr => ?_, List.pairwise_singleton _ _⟩, fit_one (by omega), fun x => ?_⟩
  · simp at hr; subst hr; exact Int.le_refl _
  · constructor
    · rintro ⟨r, hr, h1, h2⟩; simp at hr; subst hr; simp at h1 h2; omega
    · rintro rfl; exact ⟨_, List.mem_cons_self, Int.le_refl _, Int.le_refl _⟩
theorem ret_char {R : Ending → World → Prop} {a : Act} {W : World} {b : Nat} {f : Fl} (h : Six W b 0 f) (ha : a.tmps[4]?.getD undef = .pointer (some ⟨b, 0, none⟩)) (hd : a.defers = []) (hR : R (.returned (.agg #[.int .i64 f.k, .int .i64 f.n, .int .i64 f.mn, .int .i64 f.mx, .slice f.rq f.rs.length f.rc, .slice f.kq f.kl f.kc])) W) : bodyPost Tryz.prog Tryz.f37 R .ret a W := by
  obtain ⟨z0, z1, z2, z3, z4, z5⟩ := h
  simp only [Nat.zero_add] at z1 z2 z3 z4 z5
  refine bodyPost_ret (v := .agg #[.int .i64 f.k, .int .i64 f.n, .int .i64 f.mn, .int .i64 f.mx, .slice f.rq f.rs.length f.rc, .slice f.kq f.kl f.kc]) ?_ hd hR
  simp [results, Tryz.results37, go_sem, ha, z0, z1, z2, z3, z4, z5]
/-- A call that makes the node of a character. -/
def MkC (w : World) (f : Bool) (c : Int) (e : Ending) (w' : World) : Prop := ∃ t', e = .returned (.agg #[.int .i64 t'.f.k, .int .i64 t'.f.n, .int .i64 t'.f.mn, .int .i64 t'.f.mx, .slice t'.f.rq t'.f.rs.length t'.f.rc, .slice t'.f.kq t'.f.kl t'.f.kc]) ∧ TA w' t' ∧ EC f c (er t') ∧ Foot (fun k => w.heap.size ≤ k) t' ∧ Below w.heap.size w w'
set_option maxRecDepth 100000 in
set_option maxHeartbeats 4000000 in
theorem character8_c {w : World} (c : Int) (hc : 0 ≤ c ∧ c ≤ 1114111) (ch f : Bool) : Calls Tryz.prog 37 #[.int .i64 c, .agg #[.bool ch, .bool f]] w (MkC w f c) := by
  have HC := hide hc
  go_enter Tryz.func37, Tryz.ntmps37
  go_upto_region 2 with fail
  have B1 : Below w.heap.size w (((w.alloc (.cells #[.bool ch, .bool f] 23)).alloc (.cells #[.int .i64 0, .int .i64 0, .int .i64 0, .int .i64 0, .slice none 0 0, .slice none 0 0] 28)).alloc (.cells #[.int .i64 c, .int .i64 c] 99)) := (((Below.refl _ _).alloc (Nat.le_refl _) _).alloc (by simp) _).alloc (by simp; omega) _
  have M1 : (((w.alloc (.cells #[.bool ch, .bool f] 23)).alloc (.cells #[.int .i64 0, .int .i64 0, .int .i64 0, .int .i64 0, .slice none 0 0, .slice none 0 0] 28)).alloc (.cells #[.int .i64 c, .int .i64 c] 99)).heap[w.heap.size]? = some (.cells #[.bool ch, .bool f] 23 (0, 0)) := (Below.heap_alloc _ _ _ (by simp; omega)).trans ((Below.heap_alloc _ _ _ (by simp)).trans (alloc_new w _))
  have Z1 : (((w.alloc (.cells #[.bool ch, .bool f] 23)).alloc (.cells #[.int .i64 0, .int .i64 0, .int .i64 0, .int .i64 0, .slice none 0 0, .slice none 0 0] 28)).alloc (.cells #[.int .i64 c, .int .i64 c] 99)).heap[w.heap.size + 1]? = some (.cells #[.int .i64 0, .int .i64 0, .int .i64 0, .int .i64 0, .slice none 0 0, .slice none 0 0] 28 (0, 0)) := (Below.heap_alloc _ _ _ (by simp)).trans (by
    have := alloc_new (w.alloc (.cells #[.bool ch, .bool f] 23)) (.cells #[.int .i64 0, .int .i64 0, .int .i64 0, .int .i64 0, .slice none 0 0, .slice none 0 0] 28)
    rwa [World.size_alloc] at this)
  have R1 : RR (w.heap.size + 1 + 1) (((w.alloc (.cells #[.bool ch, .bool f] 23)).alloc (.cells #[.int .i64 0, .int .i64 0, .int .i64 0, .int .i64 0, .slice none 0 0, .slice none 0 0] 28)).alloc (.cells #[.int .i64 c, .int .i64 c] 99)) (.slice (some ⟨w.heap.size + 1 + 1, 0, none⟩) [(c, c)].length 1) [(c, c)] := (by
    have := lit_rr8 ((w.alloc (.cells #[.bool ch, .bool f] 23)).alloc (.cells #[.int .i64 0, .int .i64 0, .int .i64 0, .int .i64 0, .slice none 0 0, .slice none 0 0] 28)) [(c, c)] (by simp)
    rwa [World.size_alloc, World.size_alloc] at this)
  generalize (((w.alloc (.cells #[.bool ch, .bool f] 23)).alloc (.cells #[.int .i64 0, .int .i64 0, .int .i64 0, .int .i64 0, .slice none 0 0, .slice none 0 0] 28)).alloc (.cells #[.int .i64 c, .int .i64 c] 99)) = W1 at B1 M1 Z1 R1 ⊢
  obtain ⟨bz, hbz⟩ : ∃ bz, w.heap.size + 1 = bz := ⟨_, rfl⟩
  rw [hbz] at Z1 R1 ⊢
  have m1 := cell_row M1 (i := 1) rfl
  have HB := hide B1
  have HZ := hide Z1
  have HR := hide R1
  have hwz : w.heap.size ≤ bz := by omega
  clear B1 M1 Z1 R1 hc hbz
  cases f with
  | false =>
    have L9 := hide (laid_res (setTr_ta HR.out (one_is c HC.out).fit (by simp)).1 ((setTr_ta HR.out (one_is c HC.out).fit (by simp)).2.mono (fun k hk => hk)) HZ.out)
    have X9 := hide L9.out.1
    have r0 := cell_row HZ.out (i := 0) rfl
    have r1 := cell_row HZ.out (i := 1) rfl
    have r2 := cell_row HZ.out (i := 2) rfl
    have r3 := cell_row HZ.out (i := 3) rfl
    have r4 := cell_row HZ.out (i := 4) rfl
    have r5 := cell_row HZ.out (i := 5) rfl
    have fz := fun z => frz_row HZ.out z
    unfold put6 at X9
    go_wp2
    refine ret_char (f := (setTr [(c, c)] (some ⟨bz + 1, 0, none⟩) 1).f) X9.out rfl rfl ?_
    exact ⟨setTr [(c, c)] (some ⟨bz + 1, 0, none⟩) 1, rfl, L9.out.2.1, ⟨_, by rw [er_eq]; rfl, (one_is c HC.out).to (fun x => by simp [oneP])⟩, (setTr_ta HR.out (one_is c HC.out).fit (by simp)).2.mono (fun k hk => by omega), chainF HB.out L9.out.2.2 (Nat.le_refl _) (fun k e => by omega)⟩
  | true =>
    have FC := hide (fold_c HR.out.arg (one_is c HC.out).fit (by simp))
    go_upto_region 4 with (go_at_call 70; refine (FC.out).mono ?_; rintro e w5 ⟨v5, C, rfl, h51, h52, h53, h54⟩; obtain ⟨q5, k5, rfl⟩ := h51.shape; have X5 := hide h51; have I5 := hide h52; have B5 := hide h54; have hl5 : C.length ≤ 1000 := (by simp at h53; omega); clear h51 h52 h53 h54)
    have Z5 : w5.heap[bz]? = some (.cells #[.int .i64 0, .int .i64 0, .int .i64 0, .int .i64 0, .slice none 0 0, .slice none 0 0] 28 (0, 0)) := (B5.out.block _ (lt_of_heap HZ.out)).trans HZ.out
    have hz1 := lt_of_heap HZ.out
    have L9 := hide (laid_res (setTr_ta X5.out I5.out.fit hl5).1 ((setTr_ta X5.out I5.out.fit hl5).2.mono (fun k hk => by omega)) Z5)
    have X9 := hide L9.out.1
    have r0 := cell_row Z5 (i := 0) rfl
    have r1 := cell_row Z5 (i := 1) rfl
    have r2 := cell_row Z5 (i := 2) rfl
    have r3 := cell_row Z5 (i := 3) rfl
    have r4 := cell_row Z5 (i := 4) rfl
    have r5 := cell_row Z5 (i := 5) rfl
    have fz := fun z => frz_row Z5 z
    unfold put6 at X9
    clear Z5
    go_wp2
    refine ret_char (f := (setTr C q5 k5).f) X9.out rfl rfl ?_
    exact ⟨setTr C q5 k5, rfl, L9.out.2.1, ⟨C, by rw [er_eq]; rfl, I5.out.to (fun x => by simp [oneP])⟩, (setTr_ta X5.out I5.out.fit hl5).2.mono (fun k hk => by have := HB.out.size; omega), chainF (chain HB.out B5.out (Nat.le_refl _)) L9.out.2.2 (Nat.le_refl _) (fun k e => by omega)⟩
end Go.Proofs.YtpfdapnfkghgkaaGreatDoor
namespace Go.Proofs.YtpfdapnfkghgkaaGreatDoor
open Go Go.RowKit

theorem ints_set8 (V : List Int) (i : Nat) (x : Int) : ints (V.set i x) = (ints V).set i (.int .i64 x) := by simp [ints, List.map_set]
theorem ownsRow_set8 {w : World} {base : Nat} {g c n : Nat} {A : List Int} (h : w.ownsRow base 3 1 (.slice (some ⟨g, 0, none⟩) n c) n (ints A)) (j : Nat) (x : Int) : (w.setCell ⟨g, j, none⟩ (.int .i64 x)).ownsRow base 3 1 (.slice (some ⟨g, 0, none⟩) n c) n (ints (A.set j x)) := by
  rcases h with ⟨h1, ⟨q, _⟩ | ⟨g', cap, cur, q1, q2, q3, q4, q5, q6, q7⟩⟩
  · cases q
  · cases q1
    refine ⟨by rw [ints_set8, List.length_set]; exact h1, .inr ⟨g, c, cur.setIfInBounds j (.int .i64 x), rfl, q2, heap_set_in q3 j _, q4, q5, by simpa using q6, ?_⟩⟩
    rw [ints_set8, ← q7, Array.toList_setIfInBounds, List.take_set]
theorem made_ints (n : Nat) : (madeCells (Value.int .i64 0).cells (n * 1)).toList = ints (List.replicate n 0) := by
  refine List.ext_getElem (by simp [madeCells, ints]) fun i h1 h2 => ?_
  simp [madeCells, ints, Value.cells, Nat.mod_one]
/-- The bytes of a text. -/
def byL (s : ByteArray) : List Int := s.data.toList.map fun b => (b.toNat : Int)
theorem byL_len (s : ByteArray) : (byL s).length = s.size := by simp [byL]
def litE (ch : Bool) (s : ByteArray) : Int := if ch then dErr (us s) else 0
def litL (ch : Bool) (s : ByteArray) : List Int := if ch then dList (us s) else byL s

set_option maxRecDepth 1000000 in
set_option maxHeartbeats 4000000 in
theorem characters_c (s : ByteArray) (w : World) (ch f : Bool) (hs : s.size ≤ 1000000) :
    Calls Tryz.prog 36 #[.string s, .agg #[.bool ch, .bool f]] w fun e w' => ∃ v, e = .returned (.tuple #[v, .int .i64 (litE ch s)]) ∧ w'.ownsRow w.heap.size 3 1 v (litL ch s).length (ints (litL ch s)) ∧ Below w.heap.size w w' := by
  have M1 := alloc_new w (.cells #[.bool ch, .bool f] 23)
  have B1 : Hid (Below w.heap.size w (w.alloc (.cells #[.bool ch, .bool f] 23))) := (Below.refl _ _).alloc (Nat.le_refl _) _
  have m0 := cell_row M1 (i := 0) rfl
  clear M1
  cases ch with
  | true =>
    have DC := hide (fun W => decode_c s W (by omega))
    go_enter Tryz.func36, Tryz.ntmps36
    go_wp2_with (go_at_call 69; (with_reducible refine (DC.out _).mono ?_); rintro e w5 ⟨v5, rfl, h51, h52⟩; obtain ⟨q5, k5, rfl⟩ := ownsRow_shape h51; have O5 := hide h51; have B5 := hide h52; clear h51 h52)
    refine bodyPost_ret (v := .tuple #[.slice q5 (dList (us s)).length k5, .int .i64 (dErr (us s))]) (by simp [results, Tryz.results36, go_sem]) rfl ?_
    exact ⟨_, rfl, ownsRow_mono O5.out B1.out.size, chain B1.out B5.out (Nat.le_refl _)⟩
  | false =>
    obtain ⟨t0, hi, hz0, hz1, hz2⟩ := info_parts size_int
    have hmx : s.size ≤ maxLen := by unfold maxLen; omega
    have hs0 : (s.size : Int) ≤ 1000000 := by omega
    go_enter Tryz.func36, Tryz.ntmps36
    go_wp2_with (at_make; refine wpList_make_full _ rfl _ _ 80 rfl w.heap.size 3 t0 (.int .i64 0) 1 und_ints hi hz0 hz1 .i64 .i64 (s.size : Int) (s.size : Int) s.size rfl rfl rfl rfl (by rw [hz2]; omega) hmx B1.out.size ?_; intro w5 hown5 hg5; rw [made_ints] at hown5; have O5 := hide hown5; have B5 : Hid (Below w.heap.size w w5) := bel_grown (B := w.heap.size) B1.out (Nat.le_refl _) (Nat.le_refl _) hg5 (fun r hr => by cases hr); clear hown5 hg5)
    obtain ⟨g, hg⟩ : ∃ g, w.heap.size + 1 = g := ⟨_, rfl⟩
    rw [World.size_alloc] at O5
    rw [hg] at O5 ⊢
    have hwg : w.heap.size ≤ g := by omega
    clear m0 hg
    go_loopw [19] (fun i wr => ∃ j : Nat, j ≤ s.size ∧ i = .int .i64 (j : Int) ∧ wr.ownsRow w.heap.size 3 1 (.slice (some ⟨g, 0, none⟩) s.size s.size) s.size (ints ((byL s).take j ++ List.replicate (s.size - j) 0)) ∧ Below w.heap.size w wr) (fun i _ => s.size - (intOf i).toNat)
    case atStart => exact ⟨0, Nat.zero_le _, rfl, by simpa using O5.out, B5.out⟩
    case round =>
      clear O5 B5
      obtain ⟨j, hj, rfl, hj1, hj2⟩ := hrel
      have HR := hide hj1
      have HB := hide hj2
      clear hj1 hj2
      by_cases hjl : j < s.size
      · have e0 : (j : Int) < (s.size : Int) := by omega
        obtain ⟨-, -, cur, hcur⟩ := ownsRow_at HR.out (g := g) rfl
        have fz := frz_row hcur j
        have hcell : ∃ u, wr.cell? ⟨g, j, none⟩ = some u := ⟨_, ownsRow_cell HR.out (j := j) (List.getElem?_eq_getElem (by rw [HR.out.1]; omega))⟩
        obtain ⟨u, hu⟩ := hcell
        clear hcur
        have hb : (byL s)[j]? = some (s[j].toNat : Int) := by
          simp only [byL, List.getElem?_map]
          rw [List.getElem?_eq_getElem (by simpa using hjl)]
          rfl
        have hwr : wrap64 (s[j].toNat : Int) = (s[j].toNat : Int) := by
          have := s[j].toNat_lt
          unfold wrap64; omega
        have HS := hide (show (wr.setCell ⟨g, j, none⟩ (.int .i64 (wrap64 (s[j].toNat : Int)))).ownsRow w.heap.size 3 1 (.slice (some ⟨g, 0, none⟩) s.size s.size) s.size (ints ((byL s).take (j + 1) ++ List.replicate (s.size - (j + 1)) 0)) by
          rw [hwr]
          have h1 := ownsRow_set8 HR.out j (s[j].toNat : Int)
          have hl : ((byL s).take j).length = j := by rw [List.length_take, byL_len]; omega
          rw [List.set_append_right _ _ (by omega), hl, Nat.sub_self, show s.size - j = (s.size - (j + 1)) + 1 by omega, List.replicate_succ, List.set_cons_zero] at h1
          rw [List.take_add_one, hb, List.append_assoc]
          exact h1)
        have HB2 := hide (chainF HB.out ((Fr.refl (fun z => z = g) wr).setCell (p := ⟨g, j, none⟩) rfl (.int .i64 (wrap64 (s[j].toNat : Int)))) (Nat.le_refl _) (fun k e => by omega))
        clear hwr hb
        go_wp2
        go_roundw
        case rel => exact ⟨j + 1, by omega, by go_num, HS.out, HB2.out⟩
        case measure => simp only [intOf]; omega
      · have e0 : ¬ (j : Int) < (s.size : Int) := by omega
        have HS := hide (show wr.ownsRow w.heap.size 3 1 (.slice (some ⟨g, 0, none⟩) s.size s.size) (byL s).length (ints (byL s)) by
          have h1 := HR.out
          rw [List.take_of_length_le (by rw [byL_len]; omega), show s.size - j = 0 by omega, List.replicate_zero, List.append_nil] at h1
          rw [byL_len]
          exact h1)
        clear HR
        go_wp2
        refine bodyPost_ret (v := .tuple #[.slice (some ⟨g, 0, none⟩) s.size s.size, .int .i64 0]) (by simp [results, Tryz.results36, go_sem]) rfl ?_
        exact ⟨_, rfl, HS.out, HB.out⟩
end Go.Proofs.YtpfdapnfkghgkaaGreatDoor
