/-
  Rows: contract. (Made by wip/mkrows.py.)
-/
import Derived.Test.YtihmnibopeljaaaDoorRows6
namespace Go.Proofs.YtihmnibopeljaaaDoor
open Go Go.RowKit
attribute [local go_sem] ext_cell

structure RQ (lo hi : Int) (R : List Rw) : Prop where
  pc : ∀ r ∈ R, Piece r.n r.a r.b
  cn : ∀ c : Nat, isC (c : Int) = true → cnt c R = if lo ≤ (c : Int) ∧ (c : Int) ≤ hi then 1 else 0
  tt : tot R = hi - lo + 1 - max 0 (min hi 57343 - max lo 55296 + 1)
  ln : R.length ≤ 30
theorem alloc_le {b : Nat} {w : World} {o : Obj} (h : b ≤ w.heap.size) : b ≤ (w.alloc o).heap.size := by simp; omega
theorem cnt_app (c : Nat) (R R' : List Rw) : cnt c (R ++ R') = cnt c R + cnt c R' := by simp [cnt]
theorem tot_app (R R' : List Rw) : tot (R ++ R') = tot R + tot R' := by simp [tot]
theorem ite_le {p : Prop} [Decidable p] : (if p then 1 else 0 : Nat) ≤ 1 := by split <;> omega
set_option maxHeartbeats 4000000 in
theorem rq_of {lo hi : Int} {R1 R2 R3 R4 R5 : List Rw} (h0 : 0 ≤ lo) (h1 : lo ≤ hi) (h2 : hi ≤ 1114111) (k1 : Cov (max lo 0) (min hi 127) R1) (k2 : Cov (max lo 128) (min hi 2047) R2) (k3 : Cov (max lo 2048) (min hi 55295) R3) (k4 : Cov (max lo 57344) (min hi 65535) R4) (k5 : Cov (max lo 65536) (min hi 1114111) R5)
    (l1 : R1.length ≤ 1) (l2 : R2.length ≤ 3) (l3 : R3.length ≤ 5) (l4 : R4.length ≤ 5) (l5 : R5.length ≤ 7) : RQ lo hi ([] ++ R1 ++ R2 ++ R3 ++ R4 ++ R5) := by
  refine ⟨fun r hr => ?_, fun c hc => ?_, ?_, ?_⟩
  · simp only [List.mem_append, List.not_mem_nil, false_or] at hr
    rcases hr with (((hr | hr) | hr) | hr) | hr
    · exact k1.pc r hr
    · exact k2.pc r hr
    · exact k3.pc r hr
    · exact k4.pc r hr
    · exact k5.pc r hr
  · simp only [cnt_app]
    rw [k1.cn, k2.cn, k3.cn, k4.cn, k5.cn]
    have hn : cnt c [] = 0 := rfl
    rw [hn]
    have hc' : (0 : Int) ≤ c ∧ (c : Int) ≤ 1114111 ∧ ((c : Int) < 55296 ∨ 57343 < (c : Int)) := of_decide_eq_true hc
    by_cases g0 : lo ≤ (c : Int) ∧ (c : Int) ≤ hi
    · rw [if_pos g0]
      have : c ≤ 127 ∨ (128 ≤ c ∧ c ≤ 2047) ∨ (2048 ≤ c ∧ c ≤ 55295) ∨ (57344 ≤ c ∧ c ≤ 65535) ∨ 65536 ≤ c := by omega
      rcases this with q | q | q | q | q
      · rw [if_pos (by omega), if_neg (by omega), if_neg (by omega), if_neg (by omega), if_neg (by omega)]
      · rw [if_neg (by omega), if_pos (by omega), if_neg (by omega), if_neg (by omega), if_neg (by omega)]
      · rw [if_neg (by omega), if_neg (by omega), if_pos (by omega), if_neg (by omega), if_neg (by omega)]
      · rw [if_neg (by omega), if_neg (by omega), if_neg (by omega), if_pos (by omega), if_neg (by omega)]
      · rw [if_neg (by omega), if_neg (by omega), if_neg (by omega), if_neg (by omega), if_pos (by omega)]
    · rw [if_neg g0, if_neg (by omega), if_neg (by omega), if_neg (by omega), if_neg (by omega), if_neg (by omega)]
  · simp only [tot_app]
    rw [k1.tt, k2.tt, k3.tt, k4.tt, k5.tt]
    have hn : tot [] = 0 := rfl
    rw [hn]
    omega
  · simp only [List.length_append, List.length_nil]
    omega

set_option maxHeartbeats 8000000 in
set_option maxRecDepth 1000000 in
theorem rows_c (lo hi : Int) (w : World) (hS : Spans w) (h0 : 0 ≤ lo) (h1 : lo ≤ hi) (h2 : hi ≤ 1114111) : Calls Tryd.prog 10 #[.int .i64 lo, .int .i64 hi] w fun e w' => ∃ v R, e = .returned (.tuple #[v, .int .i64 0]) ∧ RA w.heap.size w' v R ∧ RQ lo hi R ∧ Below w.heap.size w w' := by
  have c0 : w.cell? ⟨0, 0, none⟩ = some (.int .i64 0) := hS 0 _ rfl
  have c1 : w.cell? ⟨0, 1, none⟩ = some (.int .i64 127) := hS 1 _ rfl
  have c2 : w.cell? ⟨0, 2, none⟩ = some (.int .i64 128) := hS 2 _ rfl
  have c3 : w.cell? ⟨0, 3, none⟩ = some (.int .i64 2047) := hS 3 _ rfl
  have c4 : w.cell? ⟨0, 4, none⟩ = some (.int .i64 2048) := hS 4 _ rfl
  have c5 : w.cell? ⟨0, 5, none⟩ = some (.int .i64 55295) := hS 5 _ rfl
  have c6 : w.cell? ⟨0, 6, none⟩ = some (.int .i64 57344) := hS 6 _ rfl
  have c7 : w.cell? ⟨0, 7, none⟩ = some (.int .i64 65535) := hS 7 _ rfl
  have c8 : w.cell? ⟨0, 8, none⟩ = some (.int .i64 65536) := hS 8 _ rfl
  have c9 : w.cell? ⟨0, 9, none⟩ = some (.int .i64 1114111) := hS 9 _ rfl
  clear hS
  have x0 := span0
  have x1 := span1
  have x2 := span2
  have x3 := span3
  have x4 := span4
  have H0 : Hid (0 ≤ lo ∧ lo ≤ hi ∧ hi ≤ 1114111) := ⟨h0, h1, h2⟩
  have g0 : ¬ lo < 0 := by omega
  have g1 : ¬ 1114111 < hi := by omega
  have g2 : ¬ hi < lo := by omega
  have A0 : Hid (RA w.heap.size w (.slice none 0 0) []) := RA.nil _ _
  have B0 : Hid (Below w.heap.size w w) := Below.refl _ _
  clear h0 h1 h2
  go_enter Tryd.func10, Tryd.ntmps10
  go_wp2
  refine wp_loop_unr 6 ?_
  refine unr_succ ?_
  go_wp2_with (go_at_call 31; refine (addRows_any (n := 1) (x := 0) (y := 127) (base := w.heap.size) (.inl ⟨rfl, rfl, rfl⟩) (lo := max lo 0) (hi := min hi 127) (by omega) (by omega) (A0.out.below ((Below.refl _ _).alloc (Nat.le_refl _) _)) (alloc_le B0.out.size) (by decide)).mono ?_; rintro e w1 ⟨v1, R1, rfl, q1, q2, q3, q4, q5⟩; have A1 : Hid (RA w.heap.size w1 v1 ([] ++ R1)) := q1; have C1 : Hid (Cov (max lo 0) (min hi 127) R1) := q2; have L1 : Hid (R1.length ≤ 1) := q3; have B1 : Hid (Below w.heap.size w w1) := (B0.out.alloc B0.out.size _).trans q4; clear q1 q2 q3 q4 q5)
  refine unr_succ ?_
  go_wp2_with (go_at_call 31; refine (addRows_any (n := 2) (x := 128) (y := 2047) (base := w.heap.size) (.inr (.inl ⟨rfl, rfl, rfl⟩)) (lo := max lo 128) (hi := min hi 2047) (by omega) (by omega) (A1.out.below ((Below.refl _ _).alloc (Nat.le_refl _) _)) (alloc_le B1.out.size) (by have := L1.out; (first | omega | (simp; omega) | simp))).mono ?_; rintro e w2 ⟨v2, R2, rfl, q1, q2, q3, q4, q5⟩; have A2 : Hid (RA w.heap.size w2 v2 ([] ++ R1 ++ R2)) := q1; have C2 : Hid (Cov (max lo 128) (min hi 2047) R2) := q2; have L2 : Hid (R2.length ≤ 3) := q3; have B2 : Hid (Below w.heap.size w w2) := (B1.out.alloc B1.out.size _).trans q4; clear q1 q2 q3 q4 q5)
  refine unr_succ ?_
  go_wp2_with (go_at_call 31; refine (addRows_any (n := 3) (x := 2048) (y := 55295) (base := w.heap.size) (.inr (.inr (.inl ⟨rfl, rfl, rfl⟩))) (lo := max lo 2048) (hi := min hi 55295) (by omega) (by omega) (A2.out.below ((Below.refl _ _).alloc (Nat.le_refl _) _)) (alloc_le B2.out.size) (by have := L1.out; have := L2.out; (first | omega | (simp; omega) | simp))).mono ?_; rintro e w3 ⟨v3, R3, rfl, q1, q2, q3, q4, q5⟩; have A3 : Hid (RA w.heap.size w3 v3 ([] ++ R1 ++ R2 ++ R3)) := q1; have C3 : Hid (Cov (max lo 2048) (min hi 55295) R3) := q2; have L3 : Hid (R3.length ≤ 5) := q3; have B3 : Hid (Below w.heap.size w w3) := (B2.out.alloc B2.out.size _).trans q4; clear q1 q2 q3 q4 q5)
  refine unr_succ ?_
  go_wp2_with (go_at_call 31; refine (addRows_any (n := 3) (x := 57344) (y := 65535) (base := w.heap.size) (.inr (.inr (.inr (.inl ⟨rfl, rfl, rfl⟩)))) (lo := max lo 57344) (hi := min hi 65535) (by omega) (by omega) (A3.out.below ((Below.refl _ _).alloc (Nat.le_refl _) _)) (alloc_le B3.out.size) (by have := L1.out; have := L2.out; have := L3.out; (first | omega | (simp; omega) | simp))).mono ?_; rintro e w4 ⟨v4, R4, rfl, q1, q2, q3, q4, q5⟩; have A4 : Hid (RA w.heap.size w4 v4 ([] ++ R1 ++ R2 ++ R3 ++ R4)) := q1; have C4 : Hid (Cov (max lo 57344) (min hi 65535) R4) := q2; have L4 : Hid (R4.length ≤ 5) := q3; have B4 : Hid (Below w.heap.size w w4) := (B3.out.alloc B3.out.size _).trans q4; clear q1 q2 q3 q4 q5)
  refine unr_succ ?_
  go_wp2_with (go_at_call 31; refine (addRows_any (n := 4) (x := 65536) (y := 1114111) (base := w.heap.size) (.inr (.inr (.inr (.inr ⟨rfl, rfl, rfl⟩)))) (lo := max lo 65536) (hi := min hi 1114111) (by omega) (by omega) (A4.out.below ((Below.refl _ _).alloc (Nat.le_refl _) _)) (alloc_le B4.out.size) (by have := L1.out; have := L2.out; have := L3.out; have := L4.out; (first | omega | (simp; omega) | simp))).mono ?_; rintro e w5 ⟨v5, R5, rfl, q1, q2, q3, q4, q5⟩; have A5 : Hid (RA w.heap.size w5 v5 ([] ++ R1 ++ R2 ++ R3 ++ R4 ++ R5)) := q1; have C5 : Hid (Cov (max lo 65536) (min hi 1114111) R5) := q2; have L5 : Hid (R5.length ≤ 7) := q3; have B5 : Hid (Below w.heap.size w w5) := (B4.out.alloc B4.out.size _).trans q4; clear q1 q2 q3 q4 q5)
  refine unr_succ ?_
  go_wp2
  go_ret2
  exact ⟨_, _, rfl, A5.out, rq_of H0.out.1 H0.out.2.1 H0.out.2.2 C1.out C2.out C3.out C4.out C5.out L1.out L2.out L3.out L4.out L5.out, B5.out⟩
end Go.Proofs.YtihmnibopeljaaaDoor
