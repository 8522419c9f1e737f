/-
  Parts of the proof.
-/
import Derived.Test.YtbghleihgcenmaaC15
set_option linter.unusedSimpArgs false
namespace Go.Proofs.Ytbghleihgcenmaa
open Go Go.RowKit
attribute [local go_sem] Oper.semAt_some ext_cell
def usI (t : Int) (i : Ins) : Ins := ⟨i.op, if hsT t 2 then i.x else 0, if hsT t 4 then i.y else 0, if hsT t 24 then i.n else 0, if hsT t 32 then i.mn else 0, if hsT t 32 then i.mx else 0, if hsT t 1 then i.s else 0#256⟩
def UsP (t : Int) (i : Ins) (w : World) (e : Ending) (w' : World) : Prop := ∃ j, j = usI t i ∧ e = .returned (.agg #[.int .i64 j.op, .int .i64 j.x, .int .i64 j.y, .int .i64 j.n, .int .i64 j.mn, .int .i64 j.mx, .int .u64 (z1_wd j.s 0), .int .u64 (z1_wd j.s 1), .int .u64 (z1_wd j.s 2), .int .u64 (z1_wd j.s 3)]) ∧ Below w.heap.size w w'
set_option maxRecDepth 100000 in
set_option maxHeartbeats 4000000 in
theorem used_65 (i : Ins) (w : World) : Calls Try.prog 32 #[.int .i64 65, .agg #[.int .i64 i.op, .int .i64 i.x, .int .i64 i.y, .int .i64 i.n, .int .i64 i.mn, .int .i64 i.mx, .int .u64 (z1_wd i.s 0), .int .u64 (z1_wd i.s 1), .int .u64 (z1_wd i.s 2), .int .u64 (z1_wd i.s 3)]] w (UsP 65 i w) := by
  have q1 : hsT 65 1 = true := by decide
  have q2 : hsT 65 2 = false := by decide
  have q3 : hsT 65 4 = false := by decide
  have q4 : hsT 65 24 = false := by decide
  have q5 : hsT 65 32 = false := by decide
  have ej : usI 65 i = ⟨i.op, 0, 0, 0, 0, 0, i.s⟩ := by simp [usI, q1, q2, q3, q4, q5]
  go_enter Try.func32, Try.ntmps32
  go_wp2_with (go_at_call 33; (with_reducible refine (has_t _ _ _).mono ?_); rintro e w5 ⟨rfl, rfl⟩)
  all_goals refine bodyPost_ret (v := .agg #[.int .i64 i.op, .int .i64 0, .int .i64 0, .int .i64 0, .int .i64 0, .int .i64 0, .int .u64 (z1_wd i.s 0), .int .u64 (z1_wd i.s 1), .int .u64 (z1_wd i.s 2), .int .u64 (z1_wd i.s 3)]) (by simp [results, Try.results32, go_sem]) rfl ?_
  all_goals refine ⟨_, ej.symm, by simp, ?_⟩
  all_goals repeat' (first | exact Below.refl _ _ | refine Below.drew ?_ | refine Below.alloc ?_ (by simp <;> omega) _)
set_option maxRecDepth 100000 in
set_option maxHeartbeats 4000000 in
theorem used_6 (i : Ins) (w : World) : Calls Try.prog 32 #[.int .i64 6, .agg #[.int .i64 i.op, .int .i64 i.x, .int .i64 i.y, .int .i64 i.n, .int .i64 i.mn, .int .i64 i.mx, .int .u64 (z1_wd i.s 0), .int .u64 (z1_wd i.s 1), .int .u64 (z1_wd i.s 2), .int .u64 (z1_wd i.s 3)]] w (UsP 6 i w) := by
  have q1 : hsT 6 1 = false := by decide
  have q2 : hsT 6 2 = true := by decide
  have q3 : hsT 6 4 = true := by decide
  have q4 : hsT 6 24 = false := by decide
  have q5 : hsT 6 32 = false := by decide
  have ej : usI 6 i = ⟨i.op, i.x, i.y, 0, 0, 0, 0#256⟩ := by simp [usI, q1, q2, q3, q4, q5]
  go_enter Try.func32, Try.ntmps32
  go_wp2_with (go_at_call 33; (with_reducible refine (has_t _ _ _).mono ?_); rintro e w5 ⟨rfl, rfl⟩)
  all_goals refine bodyPost_ret (v := .agg #[.int .i64 i.op, .int .i64 i.x, .int .i64 i.y, .int .i64 0, .int .i64 0, .int .i64 0, .int .u64 0, .int .u64 0, .int .u64 0, .int .u64 0]) (by simp [results, Try.results32, go_sem]) rfl ?_
  all_goals refine ⟨_, ej.symm, by simp [z1_wd_nil], ?_⟩
  all_goals repeat' (first | exact Below.refl _ _ | refine Below.drew ?_ | refine Below.alloc ?_ (by simp <;> omega) _)
set_option maxRecDepth 100000 in
set_option maxHeartbeats 4000000 in
theorem used_2 (i : Ins) (w : World) : Calls Try.prog 32 #[.int .i64 2, .agg #[.int .i64 i.op, .int .i64 i.x, .int .i64 i.y, .int .i64 i.n, .int .i64 i.mn, .int .i64 i.mx, .int .u64 (z1_wd i.s 0), .int .u64 (z1_wd i.s 1), .int .u64 (z1_wd i.s 2), .int .u64 (z1_wd i.s 3)]] w (UsP 2 i w) := by
  have q1 : hsT 2 1 = false := by decide
  have q2 : hsT 2 2 = true := by decide
  have q3 : hsT 2 4 = false := by decide
  have q4 : hsT 2 24 = false := by decide
  have q5 : hsT 2 32 = false := by decide
  have ej : usI 2 i = ⟨i.op, i.x, 0, 0, 0, 0, 0#256⟩ := by simp [usI, q1, q2, q3, q4, q5]
  go_enter Try.func32, Try.ntmps32
  go_wp2_with (go_at_call 33; (with_reducible refine (has_t _ _ _).mono ?_); rintro e w5 ⟨rfl, rfl⟩)
  all_goals refine bodyPost_ret (v := .agg #[.int .i64 i.op, .int .i64 i.x, .int .i64 0, .int .i64 0, .int .i64 0, .int .i64 0, .int .u64 0, .int .u64 0, .int .u64 0, .int .u64 0]) (by simp [results, Try.results32, go_sem]) rfl ?_
  all_goals refine ⟨_, ej.symm, by simp [z1_wd_nil], ?_⟩
  all_goals repeat' (first | exact Below.refl _ _ | refine Below.drew ?_ | refine Below.alloc ?_ (by simp <;> omega) _)
set_option maxRecDepth 100000 in
set_option maxHeartbeats 4000000 in
theorem used_64 (i : Ins) (w : World) : Calls Try.prog 32 #[.int .i64 64, .agg #[.int .i64 i.op, .int .i64 i.x, .int .i64 i.y, .int .i64 i.n, .int .i64 i.mn, .int .i64 i.mx, .int .u64 (z1_wd i.s 0), .int .u64 (z1_wd i.s 1), .int .u64 (z1_wd i.s 2), .int .u64 (z1_wd i.s 3)]] w (UsP 64 i w) := by
  have q1 : hsT 64 1 = false := by decide
  have q2 : hsT 64 2 = false := by decide
  have q3 : hsT 64 4 = false := by decide
  have q4 : hsT 64 24 = false := by decide
  have q5 : hsT 64 32 = false := by decide
  have ej : usI 64 i = ⟨i.op, 0, 0, 0, 0, 0, 0#256⟩ := by simp [usI, q1, q2, q3, q4, q5]
  go_enter Try.func32, Try.ntmps32
  go_wp2_with (go_at_call 33; (with_reducible refine (has_t _ _ _).mono ?_); rintro e w5 ⟨rfl, rfl⟩)
  all_goals refine bodyPost_ret (v := .agg #[.int .i64 i.op, .int .i64 0, .int .i64 0, .int .i64 0, .int .i64 0, .int .i64 0, .int .u64 0, .int .u64 0, .int .u64 0, .int .u64 0]) (by simp [results, Try.results32, go_sem]) rfl ?_
  all_goals refine ⟨_, ej.symm, by simp [z1_wd_nil], ?_⟩
  all_goals repeat' (first | exact Below.refl _ _ | refine Below.drew ?_ | refine Below.alloc ?_ (by simp <;> omega) _)
set_option maxRecDepth 100000 in
set_option maxHeartbeats 4000000 in
theorem used_72 (i : Ins) (w : World) : Calls Try.prog 32 #[.int .i64 72, .agg #[.int .i64 i.op, .int .i64 i.x, .int .i64 i.y, .int .i64 i.n, .int .i64 i.mn, .int .i64 i.mx, .int .u64 (z1_wd i.s 0), .int .u64 (z1_wd i.s 1), .int .u64 (z1_wd i.s 2), .int .u64 (z1_wd i.s 3)]] w (UsP 72 i w) := by
  have q1 : hsT 72 1 = false := by decide
  have q2 : hsT 72 2 = false := by decide
  have q3 : hsT 72 4 = false := by decide
  have q4 : hsT 72 24 = true := by decide
  have q5 : hsT 72 32 = false := by decide
  have ej : usI 72 i = ⟨i.op, 0, 0, i.n, 0, 0, 0#256⟩ := by simp [usI, q1, q2, q3, q4, q5]
  go_enter Try.func32, Try.ntmps32
  go_wp2_with (go_at_call 33; (with_reducible refine (has_t _ _ _).mono ?_); rintro e w5 ⟨rfl, rfl⟩)
  all_goals refine bodyPost_ret (v := .agg #[.int .i64 i.op, .int .i64 0, .int .i64 0, .int .i64 i.n, .int .i64 0, .int .i64 0, .int .u64 0, .int .u64 0, .int .u64 0, .int .u64 0]) (by simp [results, Try.results32, go_sem]) rfl ?_
  all_goals refine ⟨_, ej.symm, by simp [z1_wd_nil], ?_⟩
  all_goals repeat' (first | exact Below.refl _ _ | refine Below.drew ?_ | refine Below.alloc ?_ (by simp <;> omega) _)
set_option maxRecDepth 100000 in
set_option maxHeartbeats 4000000 in
theorem used_80 (i : Ins) (w : World) : Calls Try.prog 32 #[.int .i64 80, .agg #[.int .i64 i.op, .int .i64 i.x, .int .i64 i.y, .int .i64 i.n, .int .i64 i.mn, .int .i64 i.mx, .int .u64 (z1_wd i.s 0), .int .u64 (z1_wd i.s 1), .int .u64 (z1_wd i.s 2), .int .u64 (z1_wd i.s 3)]] w (UsP 80 i w) := by
  have q1 : hsT 80 1 = false := by decide
  have q2 : hsT 80 2 = false := by decide
  have q3 : hsT 80 4 = false := by decide
  have q4 : hsT 80 24 = true := by decide
  have q5 : hsT 80 32 = false := by decide
  have ej : usI 80 i = ⟨i.op, 0, 0, i.n, 0, 0, 0#256⟩ := by simp [usI, q1, q2, q3, q4, q5]
  go_enter Try.func32, Try.ntmps32
  go_wp2_with (go_at_call 33; (with_reducible refine (has_t _ _ _).mono ?_); rintro e w5 ⟨rfl, rfl⟩)
  all_goals refine bodyPost_ret (v := .agg #[.int .i64 i.op, .int .i64 0, .int .i64 0, .int .i64 i.n, .int .i64 0, .int .i64 0, .int .u64 0, .int .u64 0, .int .u64 0, .int .u64 0]) (by simp [results, Try.results32, go_sem]) rfl ?_
  all_goals refine ⟨_, ej.symm, by simp [z1_wd_nil], ?_⟩
  all_goals repeat' (first | exact Below.refl _ _ | refine Below.drew ?_ | refine Below.alloc ?_ (by simp <;> omega) _)
set_option maxRecDepth 100000 in
set_option maxHeartbeats 4000000 in
theorem used_54 (i : Ins) (w : World) : Calls Try.prog 32 #[.int .i64 54, .agg #[.int .i64 i.op, .int .i64 i.x, .int .i64 i.y, .int .i64 i.n, .int .i64 i.mn, .int .i64 i.mx, .int .u64 (z1_wd i.s 0), .int .u64 (z1_wd i.s 1), .int .u64 (z1_wd i.s 2), .int .u64 (z1_wd i.s 3)]] w (UsP 54 i w) := by
  have q1 : hsT 54 1 = false := by decide
  have q2 : hsT 54 2 = true := by decide
  have q3 : hsT 54 4 = true := by decide
  have q4 : hsT 54 24 = true := by decide
  have q5 : hsT 54 32 = true := by decide
  have ej : usI 54 i = ⟨i.op, i.x, i.y, i.n, i.mn, i.mx, 0#256⟩ := by simp [usI, q1, q2, q3, q4, q5]
  go_enter Try.func32, Try.ntmps32
  go_wp2_with (go_at_call 33; (with_reducible refine (has_t _ _ _).mono ?_); rintro e w5 ⟨rfl, rfl⟩)
  go_region
  all_goals go_wp2
  all_goals refine bodyPost_ret (v := .agg #[.int .i64 i.op, .int .i64 i.x, .int .i64 i.y, .int .i64 i.n, .int .i64 i.mn, .int .i64 i.mx, .int .u64 0, .int .u64 0, .int .u64 0, .int .u64 0]) (by simp [results, Try.results32, go_sem]) rfl ?_
  all_goals refine ⟨_, ej.symm, by simp [z1_wd_nil], ?_⟩
  all_goals repeat' (first | exact Below.refl _ _ | refine Below.drew ?_ | refine Below.alloc ?_ (by simp <;> omega) _)
set_option maxRecDepth 100000 in
set_option maxHeartbeats 4000000 in
theorem used_0 (i : Ins) (w : World) : Calls Try.prog 32 #[.int .i64 0, .agg #[.int .i64 i.op, .int .i64 i.x, .int .i64 i.y, .int .i64 i.n, .int .i64 i.mn, .int .i64 i.mx, .int .u64 (z1_wd i.s 0), .int .u64 (z1_wd i.s 1), .int .u64 (z1_wd i.s 2), .int .u64 (z1_wd i.s 3)]] w (UsP 0 i w) := by
  have q1 : hsT 0 1 = false := by decide
  have q2 : hsT 0 2 = false := by decide
  have q3 : hsT 0 4 = false := by decide
  have q4 : hsT 0 24 = false := by decide
  have q5 : hsT 0 32 = false := by decide
  have ej : usI 0 i = ⟨i.op, 0, 0, 0, 0, 0, 0#256⟩ := by simp [usI, q1, q2, q3, q4, q5]
  go_enter Try.func32, Try.ntmps32
  go_wp2_with (go_at_call 33; (with_reducible refine (has_t _ _ _).mono ?_); rintro e w5 ⟨rfl, rfl⟩)
  all_goals refine bodyPost_ret (v := .agg #[.int .i64 i.op, .int .i64 0, .int .i64 0, .int .i64 0, .int .i64 0, .int .i64 0, .int .u64 0, .int .u64 0, .int .u64 0, .int .u64 0]) (by simp [results, Try.results32, go_sem]) rfl ?_
  all_goals refine ⟨_, ej.symm, by simp [z1_wd_nil], ?_⟩
  all_goals repeat' (first | exact Below.refl _ _ | refine Below.drew ?_ | refine Below.alloc ?_ (by simp <;> omega) _)
theorem used_c {t : Int} (ht : t ∈ trs) (i : Ins) (w : World) : Calls Try.prog 32 #[.int .i64 t, .agg #[.int .i64 i.op, .int .i64 i.x, .int .i64 i.y, .int .i64 i.n, .int .i64 i.mn, .int .i64 i.mx, .int .u64 (z1_wd i.s 0), .int .u64 (z1_wd i.s 1), .int .u64 (z1_wd i.s 2), .int .u64 (z1_wd i.s 3)]] w (UsP t i w) := by
  simp [trs] at ht
  rcases ht with rfl | rfl | rfl | rfl | rfl | rfl | rfl | rfl
  · exact used_65 i w
  · exact used_6 i w
  · exact used_2 i w
  · exact used_64 i w
  · exact used_72 i w
  · exact used_80 i w
  · exact used_54 i w
  · exact used_0 i w
end Go.Proofs.Ytbghleihgcenmaa
