/-
  Parts of the proof.
-/
import Derived.Test.YtbfhahhcacnckaaGreatDoorSamesProofB45
set_option linter.unusedSimpArgs false
namespace Go.Proofs.YtbfhahhcacnckaaGreatDoor
open Go Go.RowKit
attribute [local go_sem] Oper.semAt_some ext_cell
set_option maxRecDepth 100000 in
set_option maxHeartbeats 8000000 in
theorem rsame_c {w : World} {p q : Pg} (hp : PgI w p) (hq : PgI w q) : Calls Tryz.prog 8 #[.agg #[.slice p.q p.L.length p.c, .int .i64 p.g, .int .i64 p.k, .bool p.f], .agg #[.slice q.q q.L.length q.c, .int .i64 q.g, .int .i64 q.k, .bool q.f]] w fun e w' => e = .returned (.bool (smB p q)) ∧ Below w.heap.size w w' := by
  have B1 : Hid (Below w.heap.size w ((w.alloc (.cells #[.slice p.q p.L.length p.c, .int .i64 p.g, .int .i64 p.k, .bool p.f] 24)).alloc (.cells #[.slice q.q q.L.length q.c, .int .i64 q.g, .int .i64 q.k, .bool q.f] 24))) := ((Below.refl _ _).alloc (Nat.le_refl _) _).alloc (by simp) _
  have X1 : Hid (((w.alloc (.cells #[.slice p.q p.L.length p.c, .int .i64 p.g, .int .i64 p.k, .bool p.f] 24)).alloc (.cells #[.slice q.q q.L.length q.c, .int .i64 q.g, .int .i64 q.k, .bool q.f] 24)).heap[w.heap.size]? = some (.cells #[.slice p.q p.L.length p.c, .int .i64 p.g, .int .i64 p.k, .bool p.f] 24 (0, 0))) := (Below.heap_alloc _ _ _ (by simp)).trans (alloc_new w _)
  have X2 : Hid (((w.alloc (.cells #[.slice p.q p.L.length p.c, .int .i64 p.g, .int .i64 p.k, .bool p.f] 24)).alloc (.cells #[.slice q.q q.L.length q.c, .int .i64 q.g, .int .i64 q.k, .bool q.f] 24)).heap[w.heap.size + 1]? = some (.cells #[.slice q.q q.L.length q.c, .int .i64 q.g, .int .i64 q.k, .bool q.f] 24 (0, 0))) := hide (by have := alloc_new (w.alloc (.cells #[.slice p.q p.L.length p.c, .int .i64 p.g, .int .i64 p.k, .bool p.f] 24)) (.cells #[.slice q.q q.L.length q.c, .int .i64 q.g, .int .i64 q.k, .bool q.f] 24); simpa using this)
  have HP := hide (hp.kept B1.out)
  have HQ := hide (hq.kept B1.out)
  obtain ⟨ans, ha⟩ : ∃ r, smB p q = r := ⟨_, rfl⟩
  have HA := hide ha
  rw [ha]
  clear ha hp hq
  go_enter Tryz.func8, Tryz.ntmps8
  go_upto_region 1 with fail
  generalize ((w.alloc (.cells #[.slice p.q p.L.length p.c, .int .i64 p.g, .int .i64 p.k, .bool p.f] 24)).alloc (.cells #[.slice q.q q.L.length q.c, .int .i64 q.g, .int .i64 q.k, .bool q.f] 24)) = w1 at B1 X1 X2 HP HQ ⊢
  have l1 := lt_of_heap X1.out
  have l2 := lt_of_heap X2.out
  have p0 : w1.cell? ⟨w.heap.size, 0, none⟩ = some (.slice p.q p.L.length p.c) := cell_row X1.out (i := 0) rfl
  have p1 : w1.cell? ⟨w.heap.size, 1, none⟩ = some (.int .i64 p.g) := cell_row X1.out (i := 1) rfl
  have p2 : w1.cell? ⟨w.heap.size, 2, none⟩ = some (.int .i64 p.k) := cell_row X1.out (i := 2) rfl
  have p3 : w1.cell? ⟨w.heap.size, 3, none⟩ = some (.bool p.f) := cell_row X1.out (i := 3) rfl
  have q0 : w1.cell? ⟨w.heap.size + 1, 0, none⟩ = some (.slice q.q q.L.length q.c) := cell_row X2.out (i := 0) rfl
  have q1 : w1.cell? ⟨w.heap.size + 1, 1, none⟩ = some (.int .i64 q.g) := cell_row X2.out (i := 1) rfl
  have q2 : w1.cell? ⟨w.heap.size + 1, 2, none⟩ = some (.int .i64 q.k) := cell_row X2.out (i := 2) rfl
  have q3 : w1.cell? ⟨w.heap.size + 1, 3, none⟩ = some (.bool q.f) := cell_row X2.out (i := 3) rfl
  have LP := hide HP.out.len
  obtain ⟨pq, pL, pc, pg, pk, pf⟩ := p
  obtain ⟨qq, qL, qc, qg, qk, qf⟩ := q
  simp only at p0 p1 p2 p3 q0 q1 q2 q3 HP HQ LP HA ⊢
  by_cases hl : pL.length = qL.length
  case neg =>
    have n0 : ¬ ((pL.length : Nat) : Int) = ((qL.length : Nat) : Int) := by omega
    have E : Hid (ans = false) := hide (by rw [← HA.out]; simp [smB]; intro e; exact absurd (by rw [e]) hl)
    go_wp2
    go_ret
    exact ⟨by rw [E.out]; rfl, B1.out⟩
  by_cases hg : pg = qg
  case neg =>
    have E : Hid (ans = false) := hide (by rw [← HA.out]; simp [smB, hg])
    rw [← hl] at q0
    go_wp2
    go_ret
    exact ⟨by rw [E.out]; rfl, B1.out⟩
  by_cases hk : pk = qk
  case neg =>
    have E : Hid (ans = false) := hide (by rw [← HA.out]; simp [smB, hk])
    subst hg
    rw [← hl] at q0
    go_wp2
    go_ret
    exact ⟨by rw [E.out]; rfl, B1.out⟩
  by_cases hf : pf = qf
  case neg =>
    have E : Hid (ans = false) := hide (by rw [← HA.out]; simp [smB, hf])
    subst hg hk
    rw [← hl] at q0
    cases pf <;> cases qf
    · exact absurd rfl hf
    · go_wp2
      go_ret
      exact ⟨by rw [E.out]; rfl, B1.out⟩
    · go_wp2
      go_ret
      exact ⟨by rw [E.out]; rfl, B1.out⟩
    · exact absurd rfl hf
  subst hg hk hf
  have HD : Hid (decide (pL = qL) = ans) := hide (by rw [← HA.out]; simp [smB])
  have HLN := hide hl
  rw [← hl] at q0
  go_wp2
  go_loopw [5] (fun i wr => ∃ j : Nat, j ≤ pL.length ∧ i = .int .i64 (j : Int) ∧ pL.take j = qL.take j ∧ Below w1.heap.size w1 wr) (fun i _ => pL.length - (intOf i).toNat)
  case atStart => exact ⟨0, Nat.zero_le _, rfl, by simp, Below.refl _ _⟩
  case round =>
    obtain ⟨j, hj, rfl, hpre, hbel⟩ := hrel
    have HPr := hide hpre
    have HB := hide hbel
    have y0 : wr.cell? ⟨w.heap.size, 0, none⟩ = some (.slice pq pL.length pc) := (hbel.cell (p := ⟨w.heap.size, 0, none⟩) l1).trans p0
    have z0 : wr.cell? ⟨w.heap.size + 1, 0, none⟩ = some (.slice qq pL.length qc) := (hbel.cell (p := ⟨w.heap.size + 1, 0, none⟩) l2).trans q0
    have m1 := Nat.lt_of_lt_of_le l1 hbel.size
    have m2 := Nat.lt_of_lt_of_le l2 hbel.size
    have hlen := LP.out
    clear hpre hbel
    by_cases hjl : j < pL.length
    · have i0 : (j : Int) < (pL.length : Int) := by omega
      obtain ⟨a9, hga⟩ : ∃ a, pL[j]? = some a := ⟨_, List.getElem?_eq_getElem hjl⟩
      obtain ⟨b9, hgb⟩ : ∃ a, qL[j]? = some a := ⟨_, List.getElem?_eq_getElem (by have := HLN.out; omega)⟩
      obtain ⟨g1, o1, hq1, hl1, c0, c1, c2, c3, c4, c5, c6, c7, c8, c9⟩ := (HP.out.kept HB.out).li.ten hga
      obtain ⟨g2, o2, hq2, hl2, d0, d1, d2, d3, d4, d5, d6, d7, d8, d9⟩ := (HQ.out.kept HB.out).li.ten hgb
      simp only at hq1 hq2
      have EI := neq_inst a9 b9
      have GA := hide (And.intro hga hgb)
      obtain ⟨sb, hsb⟩ : ∃ sb, decide (a9 = b9) = sb := ⟨_, rfl⟩
      have HSB := hide hsb
      rw [hsb] at EI
      rw [hq1] at y0
      rw [hq2] at z0
      clear hga hgb hsb hq1 hq2
      go_upto_region 6 with fail
      refine wp_region_ext (by kernel_rfl) (by kernel_rfl) ?_
      repeat (go_big_quiet_step (first | exact rfl | exact EI _))
      refine wpQuiet_nil ?_
      intro w6 hw6
      have B6 := hide (chain HB.out (ext_of hw6) (Nat.le_refl _))
      clear hw6 EI c0 c1 c2 c3 c4 c5 c6 c7 c8 c9 d0 d1 d2 d3 d4 d5 d6 d7 d8 d9
      cases sb with
      | false =>
        have HN : Hid (ans = false) := by
          rw [← HD.out]
          refine decide_eq_false fun e => of_decide_eq_false HSB.out ?_
          have h1 := GA.out.1
          rw [e, GA.out.2] at h1
          exact (Option.some.inj h1).symm
        go_wp2
        go_ret
        exact ⟨by rw [HN.out]; rfl, chain B1.out B6.out (Nat.le_refl _)⟩
      | true =>
        have HN := hide (take_eq_step HPr.out GA.out.1 GA.out.2 (of_decide_eq_true HSB.out))
        go_wp2
        go_roundw
        case rel => exact ⟨j + 1, by omega, by go_num, HN.out, B6.out⟩
        case measure => simp only [intOf]; omega
    · have i0 : ¬ (j : Int) < (pL.length : Int) := by omega
      have HN : Hid (ans = true) := by
        rw [← HD.out]
        refine decide_eq_true ?_
        have h1 := HPr.out
        rw [List.take_of_length_le (by omega), List.take_of_length_le (by have := HLN.out; omega)] at h1
        exact h1
      go_wp2
      go_ret
      exact ⟨by rw [HN.out]; rfl, chain B1.out HB.out (Nat.le_refl _)⟩
end Go.Proofs.YtbfhahhcacnckaaGreatDoor
