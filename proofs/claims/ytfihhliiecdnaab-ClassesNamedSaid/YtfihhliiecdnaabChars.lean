/-
  Top, characters: the class of all characters of a mode.
-/
import Derived.Test.YtfihhliiecdnaabMem6
namespace Go.Proofs.Ytfihhliiecdnaab
open Go Go.RowKit

def top (m : Bool) : Int := if m then 1114111 else 255
def isChar (m : Bool) (c : Int) : Prop := 0 ≤ c ∧ c ≤ top m ∧ (m = true → c < 55296 ∨ 57343 < c)
def charsL (m : Bool) : List (Int × Int) := if m then [(0, 55295), (57344, 1114111)] else [(0, 255)]
theorem charsL_is (m : Bool) : IsC (charsL m) (isChar m) := by
  cases m with
  | true =>
    refine ⟨⟨by simp [charsL], by simp [charsL]⟩, fun r hr => ?_, fun c => ?_⟩
    · simp [charsL] at hr
      rcases hr with rfl | rfl <;> simp
    · simp [charsL, In, isChar, top]
      omega
  | false =>
    refine ⟨⟨by simp [charsL], by simp [charsL]⟩, fun r hr => ?_, fun c => ?_⟩
    · simp [charsL] at hr
      subst hr; simp
    · simp [charsL, In, isChar, top]
theorem charsL_length (m : Bool) : (charsL m).length ≤ 2 := by cases m <;> simp [charsL]

theorem top_c (m : Bool) (w : World) : Calls Try.prog 13 #[.bool m] w fun e w' => e = .returned (.int .i64 (top m)) ∧ w' = w := by
  cases m with
  | true =>
    go_enter Try.func13, Try.ntmps13
    go_wp2
    go_ret
    exact ⟨rfl, rfl⟩
  | false =>
    go_enter Try.func13, Try.ntmps13
    go_wp2
    go_ret
    exact ⟨rfl, rfl⟩
theorem chars_c (m : Bool) (w : World) : Calls Try.prog 20 #[.bool m] w fun e w' => ∃ v, e = .returned v ∧ RR w.heap.size w' v (charsL m) ∧ Below w.heap.size w w' := by
  cases m with
  | true =>
    go_enter Try.func20, Try.ntmps20
    go_wp2_with (go_at_call 13; refine (top_c _ _).mono ?_; rintro e w5 ⟨rfl, h5⟩; subst w5)
    go_ret
    exact ⟨_, rfl, World.ownsRow_lit w #[.int .i64 0, .int .i64 55295, .int .i64 57344, .int .i64 1114111] 2 (Nat.le_refl _) (by unfold maxLen; omega) rfl, (Below.refl _ _).alloc (Nat.le_refl _) _⟩
  | false =>
    go_enter Try.func20, Try.ntmps20
    go_wp2_with (go_at_call 13; refine (top_c _ _).mono ?_; rintro e w5 ⟨rfl, h5⟩; subst w5)
    go_ret
    exact ⟨_, rfl, World.ownsRow_lit w #[.int .i64 0, .int .i64 255] 1 (Nat.le_refl _) (by unfold maxLen; omega) rfl, (Below.refl _ _).alloc (Nat.le_refl _) _⟩
end Go.Proofs.Ytfihhliiecdnaab
