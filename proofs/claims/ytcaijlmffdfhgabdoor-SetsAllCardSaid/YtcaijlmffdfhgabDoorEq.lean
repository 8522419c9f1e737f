/-
  What == says of two sets, and of two ranges.
-/
import Derived.Test.YtcaijlmffdfhgabDoorBase
namespace Go.Proofs.YtcaijlmffdfhgabDoor
open Go Go.RowKit

theorem eqg_set : Tryd.prog.eqGuardType Tryd.prog.depth 24 = false := by kernel_rfl
theorem eqg_range : Tryd.prog.eqGuardType Tryd.prog.depth 35 = false := by kernel_rfl

theorem eqIn_words (x0 x1 x2 x3 y0 y1 y2 y3 : Int) (w : World) :
    (Op.equalIn 10000 24 (.agg #[.int .u64 x0, .int .u64 x1, .int .u64 x2, .int .u64 x3]) (.agg #[.int .u64 y0, .int .u64 y1, .int .u64 y2, .int .u64 y3])).run Tryd.prog w
      = .ok (x0 == y0 && x1 == y1 && x2 == y2 && x3 == y3) w := by
  have u22 := Tryd.underlying22
  have a22 := Tryd.isAgg22
  have z22 := Tryd.sizeOf22
  have hu : Tryd.prog.underlying 24 = some (.array 4 22) := by kernel_rfl
  rw [show (10000 : Nat) = 9999 + 1 from rfl, Op.equalIn]
  simp only [Sem.run_bind, run_underlying hu, Result.andThen_ok]
  simp only [Std.Legacy.Range.forIn_eq_forIn_range', Std.Legacy.Range.size, Nat.sub_zero, Nat.add_sub_cancel, Nat.div_one, List.range'_succ, List.range'_zero, List.forIn_cons, List.forIn_nil]
  go_simp
  by_cases h0 : x0 = y0 <;> by_cases h1 : x1 = y1 <;> by_cases h2 : x2 = y2 <;> by_cases h3 : x3 = y3 <;> simp [h0, h1, h2, h3]

theorem wd_beq (a b : S) : (wd a 0 == wd b 0 && wd a 1 == wd b 1 && wd a 2 == wd b 2 && wd a 3 == wd b 3) = decide (a = b) := by
  by_cases h : a = b
  · subst h; simp
  · rw [decide_eq_false h, Bool.eq_false_iff]
    intro g
    simp at g
    exact h (wd_ext g.1.1.1 g.1.1.2 g.1.2 g.2)

theorem eqIn_set (a b : S) (w : World) : (Op.equalIn 10000 24 (.agg #[.int .u64 (wd (a) 0), .int .u64 (wd (a) 1), .int .u64 (wd (a) 2), .int .u64 (wd (a) 3)]) (.agg #[.int .u64 (wd (b) 0), .int .u64 (wd (b) 1), .int .u64 (wd (b) 2), .int .u64 (wd (b) 3)])).run Tryd.prog w = .ok (decide (a = b)) w := by
  rw [eqIn_words, wd_beq]

theorem wd_nil (i : Nat) : wd (0#256) i = 0 := by simp [wd]
theorem eqIn_nil (a : S) (w : World) : (Op.equalIn 10000 24 (.agg #[.int .u64 (wd (a) 0), .int .u64 (wd (a) 1), .int .u64 (wd (a) 2), .int .u64 (wd (a) 3)]) (.agg #[.int .u64 0, .int .u64 0, .int .u64 0, .int .u64 0])).run Tryd.prog w = .ok (decide (a = 0#256)) w := by
  have := eqIn_set a (0#256) w
  rwa [wd_nil, wd_nil, wd_nil, wd_nil] at this

theorem eqIn_range (a b c d : Int) (w : World) : (Op.equalIn 10000 35 (.agg #[.int .i64 a, .int .i64 b]) (.agg #[.int .i64 c, .int .i64 d])).run Tryd.prog w = .ok (a == c && b == d) w := by
  have u3 := Tryd.underlying3
  have a3 := Tryd.isAgg3
  have z3 := Tryd.sizeOf3
  have hS : Tryd.prog.underlying 35 = some (.struct (Tryd.prog.fieldsOf 35)) := by kernel_rfl
  have hp : Tryd.prog.stoodInHeld 35 = false := by kernel_rfl
  rw [show (10000 : Nat) = 9999 + 1 from rfl, run_equalIn_agg w 9999 35 _ _ hS hp]
  simp only [Program.fieldsOf, Tryd.underlying35]
  go_simp
  by_cases h1 : a = c <;> by_cases h2 : b = d <;> simp [h1, h2]
end Go.Proofs.YtcaijlmffdfhgabDoor
