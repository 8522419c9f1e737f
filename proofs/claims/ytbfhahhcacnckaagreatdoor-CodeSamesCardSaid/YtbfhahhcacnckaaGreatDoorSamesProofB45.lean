/-
  Parts of the proof.
-/
import Derived.Test.YtbfhahhcacnckaaGreatDoorSamesProofB7
set_option linter.unusedSimpArgs false
namespace Go.Proofs.YtbfhahhcacnckaaGreatDoor
open Go Go.RowKit
attribute [local go_sem] Oper.semAt_some ext_cell
theorem take_eq_step {L M : List Ins} {j : Nat} {a b : Ins} (h : L.take j = M.take j) (ha : L[j]? = some a) (hb : M[j]? = some b) (e : a = b) : L.take (j + 1) = M.take (j + 1) := by
  rw [List.take_add_one, List.take_add_one, h, ha, hb, e]
set_option maxRecDepth 100000 in
set_option maxHeartbeats 8000000 in
theorem equalI_c {w : World} {L M : List Ins} {q r : Option Addr} {c d : Nat} (hl : L.length ≤ 9223372036854775807) (hx : LI w q L) (hy : LI w r M) :
    Calls Tryz.prog 21 #[.slice q L.length c, .slice r M.length d] w fun e w' => e = .returned (.bool (decide (L = M))) ∧ Below w.heap.size w w' := by
  have H1 := hide hx
  have H2 := hide hy
  clear hx hy
  by_cases hn : L.length = M.length
  case neg =>
    have e0 : decide (L = M) = false := decide_eq_false (fun e => hn (by rw [e]))
    have n0 : ¬ ((L.length : Nat) : Int) = ((M.length : Nat) : Int) := by omega
    rw [e0]
    clear e0
    go_enter Tryz.func21, Tryz.ntmps21
    go_wp2
    go_ret
    exact ⟨rfl, Below.refl _ _⟩
  obtain ⟨ans, ha⟩ : ∃ ans, decide (L = M) = ans := ⟨_, rfl⟩
  have HA := hide ha
  rw [ha, ← hn]
  clear ha
  go_enter Tryz.func21, Tryz.ntmps21
  go_wp2
  go_loopw [13] (fun i wr => ∃ j : Nat, j ≤ L.length ∧ i = .int .i64 (j : Int) ∧ L.take j = M.take j ∧ Below w.heap.size w wr) (fun i _ => L.length - (intOf i).toNat)
  case atStart => exact ⟨0, Nat.zero_le _, rfl, by simp, Below.refl _ _⟩
  case round =>
    obtain ⟨j, hj, rfl, hpre, hbel⟩ := hrel
    have HP := hide hpre
    have HB := hide hbel
    clear hpre hbel
    by_cases hjl : j < L.length
    · have i0 : (j : Int) < (L.length : Int) := by omega
      obtain ⟨a9, hga⟩ : ∃ a, L[j]? = some a := ⟨_, List.getElem?_eq_getElem hjl⟩
      obtain ⟨b9, hgb⟩ : ∃ a, M[j]? = some a := ⟨_, List.getElem?_eq_getElem (by omega)⟩
      obtain ⟨g1, o1, hq1, hl1, c0, c1, c2, c3, c4, c5, c6, c7, c8, c9⟩ := (H1.out.kept HB.out).ten hga
      obtain ⟨g2, o2, hq2, hl2, d0, d1, d2, d3, d4, d5, d6, d7, d8, d9⟩ := (H2.out.kept HB.out).ten hgb
      have EI := neq_inst a9 b9
      have GA := hide (And.intro hga hgb)
      obtain ⟨sb, hsb⟩ : ∃ sb, decide (a9 = b9) = sb := ⟨_, rfl⟩
      have HSB := hide hsb
      rw [hsb] at EI
      rw [hq1, hq2]
      clear hga hgb hsb
      go_upto_region 6 with fail
      refine wp_region_ext (by kernel_rfl) (by kernel_rfl) ?_
      repeat (go_big_quiet_step (first | exact rfl | exact EI _))
      refine wpQuiet_nil ?_
      intro w6 hw6
      have B6 := hide (chain HB.out (ext_of hw6) (Nat.le_refl _))
      clear hw6 EI c0 c1 c2 c3 c4 c5 c6 c7 c8 c9 d0 d1 d2 d3 d4 d5 d6 d7 d8 d9
      cases sb with
      | false =>
        have HN : Hid (ans = false) := by
          rw [← HA.out]
          refine decide_eq_false fun e => of_decide_eq_false HSB.out ?_
          have h1 := GA.out.1
          rw [e, GA.out.2] at h1
          exact (Option.some.inj h1).symm
        go_wp2
        go_ret
        exact ⟨by rw [HN.out]; rfl, B6.out⟩
      | true =>
        have HN := hide (take_eq_step HP.out GA.out.1 GA.out.2 (of_decide_eq_true HSB.out))
        go_wp2
        go_roundw
        case rel => exact ⟨j + 1, by omega, by go_num, HN.out, B6.out⟩
        case measure => simp only [intOf]; omega
    · have i0 : ¬ (j : Int) < (L.length : Int) := by omega
      have HN : Hid (ans = true) := by
        rw [← HA.out]
        refine decide_eq_true ?_
        have h1 := HP.out
        rw [List.take_of_length_le (by omega), List.take_of_length_le (by omega)] at h1
        exact h1
      go_wp2
      go_ret
      exact ⟨by rw [HN.out]; rfl, HB.out⟩
def smB (p q : Pg) : Bool := decide (p.L = q.L) && p.g == q.g && p.k == q.k && p.f == q.f
set_option maxRecDepth 100000 in
set_option maxHeartbeats 8000000 in
theorem same_c {w : World} {p q : Pg} (hp : PgI w p) (hq : PgI w q) : Calls Tryz.prog 9 #[.agg #[.slice p.q p.L.length p.c, .int .i64 p.g, .int .i64 p.k, .bool p.f], .agg #[.slice q.q q.L.length q.c, .int .i64 q.g, .int .i64 q.k, .bool q.f]] w fun e w' => e = .returned (.bool (smB p q)) ∧ Below w.heap.size w w' := by
  have B1 : Hid (Below w.heap.size w ((w.alloc (.cells #[.slice p.q p.L.length p.c, .int .i64 p.g, .int .i64 p.k, .bool p.f] 24)).alloc (.cells #[.slice q.q q.L.length q.c, .int .i64 q.g, .int .i64 q.k, .bool q.f] 24))) := ((Below.refl _ _).alloc (Nat.le_refl _) _).alloc (by simp) _
  have X1 : Hid (((w.alloc (.cells #[.slice p.q p.L.length p.c, .int .i64 p.g, .int .i64 p.k, .bool p.f] 24)).alloc (.cells #[.slice q.q q.L.length q.c, .int .i64 q.g, .int .i64 q.k, .bool q.f] 24)).heap[w.heap.size]? = some (.cells #[.slice p.q p.L.length p.c, .int .i64 p.g, .int .i64 p.k, .bool p.f] 24 (0, 0))) := (Below.heap_alloc _ _ _ (by simp)).trans (alloc_new w _)
  have X2 : Hid (((w.alloc (.cells #[.slice p.q p.L.length p.c, .int .i64 p.g, .int .i64 p.k, .bool p.f] 24)).alloc (.cells #[.slice q.q q.L.length q.c, .int .i64 q.g, .int .i64 q.k, .bool q.f] 24)).heap[w.heap.size + 1]? = some (.cells #[.slice q.q q.L.length q.c, .int .i64 q.g, .int .i64 q.k, .bool q.f] 24 (0, 0))) := hide (by have := alloc_new (w.alloc (.cells #[.slice p.q p.L.length p.c, .int .i64 p.g, .int .i64 p.k, .bool p.f] 24)) (.cells #[.slice q.q q.L.length q.c, .int .i64 q.g, .int .i64 q.k, .bool q.f] 24); simpa using this)
  have HC := hide (equalI_c (c := p.c) (d := q.c) hp.len (hp.li.kept B1.out) (hq.li.kept B1.out))
  unfold smB
  obtain ⟨r, hr⟩ : ∃ r, decide (p.L = q.L) = r := ⟨_, rfl⟩
  rw [hr] at HC ⊢
  clear hr hp hq
  go_enter Tryz.func9, Tryz.ntmps9
  go_upto_region 1 with fail
  generalize ((w.alloc (.cells #[.slice p.q p.L.length p.c, .int .i64 p.g, .int .i64 p.k, .bool p.f] 24)).alloc (.cells #[.slice q.q q.L.length q.c, .int .i64 q.g, .int .i64 q.k, .bool q.f] 24)) = w1 at B1 X1 X2 HC ⊢
  have p0 : w1.cell? ⟨w.heap.size, 0, none⟩ = some (.slice p.q p.L.length p.c) := cell_row X1.out (i := 0) rfl
  have q0 : w1.cell? ⟨w.heap.size + 1, 0, none⟩ = some (.slice q.q q.L.length q.c) := cell_row X2.out (i := 0) rfl
  have l1 := lt_of_heap X1.out
  have l2 := lt_of_heap X2.out
  go_wp2_with (go_at_call 21; (with_reducible refine (HC.out).mono ?_); rintro e w5 ⟨rfl, h52⟩; have B5 := hide (chain B1.out h52 (Nat.le_refl _)); have y1 := cell_row ((h52.block _ l1).trans X1.out) (i := 1) rfl; have y2 := cell_row ((h52.block _ l1).trans X1.out) (i := 2) rfl; have y3 := cell_row ((h52.block _ l1).trans X1.out) (i := 3) rfl; have z1 := cell_row ((h52.block _ l2).trans X2.out) (i := 1) rfl; have z2 := cell_row ((h52.block _ l2).trans X2.out) (i := 2) rfl; have z3 := cell_row ((h52.block _ l2).trans X2.out) (i := 3) rfl; clear h52)
  all_goals go_ret
  all_goals
    refine ⟨?_, B5.out⟩
    first | rfl | simp_all
end Go.Proofs.YtbfhahhcacnckaaGreatDoor
