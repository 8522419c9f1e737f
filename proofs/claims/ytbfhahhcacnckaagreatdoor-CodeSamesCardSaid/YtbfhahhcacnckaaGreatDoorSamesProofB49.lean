/-
  Parts of the proof.
-/
import Derived.Test.YtbfhahhcacnckaaGreatDoorSamesProofB46
import Derived.Test.YtbfhahhcacnckaaGreatDoorSamesProofB47
import Derived.Test.YtbfhahhcacnckaaGreatDoorSamesProofB48
set_option linter.unusedSimpArgs false
namespace Go.Proofs.YtbfhahhcacnckaaGreatDoor
open Go Go.RowKit
attribute [local go_sem] Oper.semAt_some
theorem smB_symm (p q : Pg) : smB q p = smB p q := by
  unfold smB
  rw [show decide (q.L = p.L) = decide (p.L = q.L) from decide_eq_decide.2 ⟨Eq.symm, Eq.symm⟩, show (q.g == p.g) = (p.g == q.g) from Bool.beq_comm, show (q.k == p.k) = (p.k == q.k) from Bool.beq_comm, show (q.f == p.f) = (p.f == q.f) from Bool.beq_comm]
theorem smB_refl (p : Pg) : smB p p = true := by simp [smB]
theorem smB_lent (p : Pg) (g c : Nat) : smB p ⟨some ⟨g, 0, none⟩, p.L, c, p.g, p.k, p.f⟩ = true := by simp [smB]
theorem same_q {w : World} {p q : Pg} (b : Bool) (h : smB p q = b) (hp : PgI w p) (hq : PgI w q) : Calls Tryz.prog 9 #[.agg #[.slice p.q p.L.length p.c, .int .i64 p.g, .int .i64 p.k, .bool p.f], .agg #[.slice q.q q.L.length q.c, .int .i64 q.g, .int .i64 q.k, .bool q.f]] w fun e w' => e = .returned (.bool b) ∧ Below w.heap.size w w' := by
  have := same_c hp hq
  rw [h] at this
  exact this
theorem same_l {w : World} {q : Pg} {g c : Nat} (hq : PgI w q) (hl : PgI w ⟨some ⟨g, 0, none⟩, q.L, c, q.g, q.k, q.f⟩) : Calls Tryz.prog 9 #[.agg #[.slice q.q q.L.length q.c, .int .i64 q.g, .int .i64 q.k, .bool q.f], .agg #[.slice (some ⟨g, 0, none⟩) q.L.length c, .int .i64 q.g, .int .i64 q.k, .bool q.f]] w fun e w' => e = .returned (.bool true) ∧ Below w.heap.size w w' := by
  have h := same_q (q := ⟨some ⟨g, 0, none⟩, q.L, c, q.g, q.k, q.f⟩) true (smB_lent q g c) hq hl
  exact h
set_option maxRecDepth 100000 in
set_option maxHeartbeats 16000000 in
theorem sames_c {w : World} {p q : Pg} (hT : z1_Tab w) (hp : PgI w p) (hq : PgI w q) (hb : q.L.length * 80 + 160 ≤ 140737488355328) (hqc : q.q = none → q.c = 0) :
    Calls Tryz.prog 3 #[.agg #[.slice p.q p.L.length p.c, .int .i64 p.g, .int .i64 p.k, .bool p.f], .agg #[.slice q.q q.L.length q.c, .int .i64 q.g, .int .i64 q.k, .bool q.f]] w fun e w' => e = .returned (.bool true) ∧ Below w.heap.size w w' := by
  have B1 : Hid (Below w.heap.size w ((w.alloc (.cells #[.slice p.q p.L.length p.c, .int .i64 p.g, .int .i64 p.k, .bool p.f] 24)).alloc (.cells #[.slice q.q q.L.length q.c, .int .i64 q.g, .int .i64 q.k, .bool q.f] 24))) := ((Below.refl _ _).alloc (Nat.le_refl _) _).alloc (by simp) _
  have X1 : Hid (((w.alloc (.cells #[.slice p.q p.L.length p.c, .int .i64 p.g, .int .i64 p.k, .bool p.f] 24)).alloc (.cells #[.slice q.q q.L.length q.c, .int .i64 q.g, .int .i64 q.k, .bool q.f] 24)).heap[w.heap.size]? = some (.cells #[.slice p.q p.L.length p.c, .int .i64 p.g, .int .i64 p.k, .bool p.f] 24 (0, 0))) := (Below.heap_alloc _ _ _ (by simp)).trans (alloc_new w _)
  have Y1 : Hid (((w.alloc (.cells #[.slice p.q p.L.length p.c, .int .i64 p.g, .int .i64 p.k, .bool p.f] 24)).alloc (.cells #[.slice q.q q.L.length q.c, .int .i64 q.g, .int .i64 q.k, .bool q.f] 24)).heap[w.heap.size + 1]? = some (.cells #[.slice q.q q.L.length q.c, .int .i64 q.g, .int .i64 q.k, .bool q.f] 24 (0, 0))) := hide (by have := alloc_new (w.alloc (.cells #[.slice p.q p.L.length p.c, .int .i64 p.g, .int .i64 p.k, .bool p.f] 24)) (.cells #[.slice q.q q.L.length q.c, .int .i64 q.g, .int .i64 q.k, .bool q.f] 24); simpa using this)
  have P1 := hide (hp.kept B1.out)
  have Q1 := hide (hq.kept B1.out)
  have T1 := hide (hT.below B1.out)
  have HB := hide hb
  have HQC := hide hqc
  obtain ⟨b0, hb0⟩ : ∃ r, smB p q = r := ⟨_, rfl⟩
  have HE := hide hb0
  clear hp hq hT hb hqc hb0
  go_enter Tryz.func3, Tryz.ntmps3
  go_upto_region 1 with fail
  generalize ((w.alloc (.cells #[.slice p.q p.L.length p.c, .int .i64 p.g, .int .i64 p.k, .bool p.f] 24)).alloc (.cells #[.slice q.q q.L.length q.c, .int .i64 q.g, .int .i64 q.k, .bool q.f] 24)) = w1 at B1 X1 Y1 P1 Q1 T1 ⊢
  go_upto_region 3 with first
    | (go_at_call 7; (with_reducible refine (known_c T1.out).mono ?_); rintro e w2 ⟨rfl, h2⟩; have P2 := hide (P1.out.kept h2); have Q2 := hide (Q1.out.kept h2); have X2 := hide ((h2.block _ (lt_of_heap X1.out)).trans X1.out); have Y2 := hide ((h2.block _ (lt_of_heap Y1.out)).trans Y1.out); have B2 := hide (chain B1.out h2 (Nat.le_refl _)); have c2p0 := cell_row X2.out (i := 0) rfl; have c2p1 := cell_row X2.out (i := 1) rfl; have c2p2 := cell_row X2.out (i := 2) rfl; have c2p3 := cell_row X2.out (i := 3) rfl; have c2q0 := cell_row Y2.out (i := 0) rfl; have c2q1 := cell_row Y2.out (i := 1) rfl; have c2q2 := cell_row Y2.out (i := 2) rfl; have c2q3 := cell_row Y2.out (i := 3) rfl; clear h2)
    | (go_at_call 8; (with_reducible refine (rsame_c P2.out Q2.out).mono ?_); rw [HE.out]; rintro e w3 ⟨rfl, h3⟩; have P3 := hide (P2.out.kept h3.drew); have Q3 := hide (Q2.out.kept h3.drew); have X3 : Hid (w3.drew.heap[w.heap.size]? = _) := hide ((h3.block _ (lt_of_heap X2.out)).trans X2.out); have Y3 : Hid (w3.drew.heap[w.heap.size + 1]? = _) := hide ((h3.block _ (lt_of_heap Y2.out)).trans Y2.out); have B3 := hide (chain B2.out h3.drew (Nat.le_refl _)); clear h3)
  clear c2p0 c2q0 c2p1 c2q1 c2p2 c2q2 c2p3 c2q3
  have c3p0 := cell_row X3.out (i := 0) rfl
  have c3p1 := cell_row X3.out (i := 1) rfl
  have c3p2 := cell_row X3.out (i := 2) rfl
  have c3p3 := cell_row X3.out (i := 3) rfl
  have c3q0 := cell_row Y3.out (i := 0) rfl
  have c3q1 := cell_row Y3.out (i := 1) rfl
  have c3q2 := cell_row Y3.out (i := 2) rfl
  have c3q3 := cell_row Y3.out (i := 3) rfl
  have E1 := fun (V : World) (h : PgI V p) (k : PgI V q) => same_q b0 HE.out h k
  have E2 := fun (V : World) (h : PgI V p) (k : PgI V q) => same_q b0 ((smB_symm p q).trans HE.out) k h
  have E3 := fun (V : World) (h : PgI V p) => same_q true (smB_refl p) h h
  go_region_with first
    | (go_at_call 9; (with_reducible refine (same_l Q8.out L8.out).mono ?_); rintro e w9 ⟨rfl, h9⟩; have P9 := hide (P8.out.kept h9); have Q9 := hide (Q8.out.kept h9); have X9 := hide ((h9.block _ (lt_of_heap X8.out)).trans X8.out); have Y9 := hide ((h9.block _ (lt_of_heap Y8.out)).trans Y8.out); have B9 := hide (chain B8.out h9 (Nat.le_refl _)); have c9p0 := cell_row X9.out (i := 0) rfl; have c9p1 := cell_row X9.out (i := 1) rfl; have c9p2 := cell_row X9.out (i := 2) rfl; have c9p3 := cell_row X9.out (i := 3) rfl; have c9q0 := cell_row Y9.out (i := 0) rfl; have c9q1 := cell_row Y9.out (i := 1) rfl; have c9q2 := cell_row Y9.out (i := 2) rfl; have c9q3 := cell_row Y9.out (i := 3) rfl; clear h9)
    | (go_at_call 10; (with_reducible refine (lent_c Q7.out HB.out HQC.out).mono ?_); rintro e w8 ⟨g8, k8, rfl, hl8, h8⟩; have P8 := hide (P7.out.kept h8); have Q8 := hide (Q7.out.kept h8); have L8 := hide hl8; have X8 := hide ((h8.block _ (lt_of_heap X7.out)).trans X7.out); have Y8 := hide ((h8.block _ (lt_of_heap Y7.out)).trans Y7.out); have B8 := hide (chain B7.out h8 (Nat.le_refl _)); have c8p0 := cell_row X8.out (i := 0) rfl; have c8p1 := cell_row X8.out (i := 1) rfl; have c8p2 := cell_row X8.out (i := 2) rfl; have c8p3 := cell_row X8.out (i := 3) rfl; have c8q0 := cell_row Y8.out (i := 0) rfl; have c8q1 := cell_row Y8.out (i := 1) rfl; have c8q2 := cell_row Y8.out (i := 2) rfl; have c8q3 := cell_row Y8.out (i := 3) rfl; clear h8 hl8)
    | (go_at_call 9; (with_reducible refine (E3 _ P6.out).mono ?_); rintro e w7 ⟨rfl, h7⟩; have P7 := hide (P6.out.kept h7); have Q7 := hide (Q6.out.kept h7); have X7 := hide ((h7.block _ (lt_of_heap X6.out)).trans X6.out); have Y7 := hide ((h7.block _ (lt_of_heap Y6.out)).trans Y6.out); have B7 := hide (chain B6.out h7 (Nat.le_refl _)); have c7p0 := cell_row X7.out (i := 0) rfl; have c7p1 := cell_row X7.out (i := 1) rfl; have c7p2 := cell_row X7.out (i := 2) rfl; have c7p3 := cell_row X7.out (i := 3) rfl; have c7q0 := cell_row Y7.out (i := 0) rfl; have c7q1 := cell_row Y7.out (i := 1) rfl; have c7q2 := cell_row Y7.out (i := 2) rfl; have c7q3 := cell_row Y7.out (i := 3) rfl; clear h7)
    | (go_at_call 9; (with_reducible refine (E2 _ P5.out Q5.out).mono ?_); rintro e w6 ⟨rfl, h6⟩; have P6 := hide (P5.out.kept h6); have Q6 := hide (Q5.out.kept h6); have X6 := hide ((h6.block _ (lt_of_heap X5.out)).trans X5.out); have Y6 := hide ((h6.block _ (lt_of_heap Y5.out)).trans Y5.out); have B6 := hide (chain B5.out h6 (Nat.le_refl _)); have c6p0 := cell_row X6.out (i := 0) rfl; have c6p1 := cell_row X6.out (i := 1) rfl; have c6p2 := cell_row X6.out (i := 2) rfl; have c6p3 := cell_row X6.out (i := 3) rfl; have c6q0 := cell_row Y6.out (i := 0) rfl; have c6q1 := cell_row Y6.out (i := 1) rfl; have c6q2 := cell_row Y6.out (i := 2) rfl; have c6q3 := cell_row Y6.out (i := 3) rfl; clear h6)
    | (go_at_call 9; (with_reducible refine (E1 _ P3.out Q3.out).mono ?_); rintro e w5 ⟨rfl, h5⟩; have P5 := hide (P3.out.kept h5); have Q5 := hide (Q3.out.kept h5); have X5 := hide ((h5.block _ (lt_of_heap X3.out)).trans X3.out); have Y5 := hide ((h5.block _ (lt_of_heap Y3.out)).trans Y3.out); have B5 := hide (chain B3.out h5 (Nat.le_refl _)); have c5p0 := cell_row X5.out (i := 0) rfl; have c5p1 := cell_row X5.out (i := 1) rfl; have c5p2 := cell_row X5.out (i := 2) rfl; have c5p3 := cell_row X5.out (i := 3) rfl; have c5q0 := cell_row Y5.out (i := 0) rfl; have c5q1 := cell_row Y5.out (i := 1) rfl; have c5q2 := cell_row Y5.out (i := 2) rfl; have c5q3 := cell_row Y5.out (i := 3) rfl; clear h5)
  all_goals
    first
      | ((try dsimp only [Act.put]); go_wp2; go_ret; refine ⟨?_, B9.out⟩; cases b0 <;> rfl)
      | ((try simp only [Act.put, List.setIfInBounds_toArray, List.set_cons_succ, List.set_cons_zero]); go_wp2; go_ret; rename_i _ d1 e1 _ d2 e2; refine ⟨?_, B9.out⟩; injection e1 with f1; injection e2 with f2; subst f1; subst f2; cases b0 <;> rfl)
      | ((try simp only [Act.put, List.setIfInBounds_toArray, List.set_cons_succ, List.set_cons_zero]); go_wp2; go_ret; rename_i _ d1 e1 _ d2 e2; refine ⟨?_, B9.out⟩; have f1 := Option.some.inj e1; have f2 := Option.some.inj e2; rw [← f1, ← f2]; cases b0 <;> rfl)
      | ((try simp only [Act.put, List.setIfInBounds_toArray, List.set_cons_succ, List.set_cons_zero]); go_wp2; go_ret; rename_i _ d1 e1 _ d2 e2; refine ⟨?_, B9.out⟩; have f1 := Option.some.inj e1; have f2 := Option.some.inj e2; simp only [← f1, ← f2]; cases b0 <;> simp)
end Go.Proofs.YtbfhahhcacnckaaGreatDoor
