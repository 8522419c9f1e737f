/-
  The document's own answer: with, With, Without, Has, Next.
-/
import Derived.Test.YtcaijlmffdfhgabDoorRefB
import Derived.Test.YtcaijlmffdfhgabDoorEach
namespace Go.Proofs.YtcaijlmffdfhgabDoor
open Go Go.RowKit
attribute [local go_sem] u64_signed ext_cell

theorem lai_eq (f : Nat → Bool) (s : S) (h : ∀ n, n < 256 → f n = s.getLsbD n) : lai f 256 = s := by
  refine BitVec.eq_of_getLsbD_eq fun n hn => ?_
  rw [bit_lai f n 256 (Nat.le_refl _), h n hn]; simp [hn]
theorem with_true (s : S) (b : Int) (h0 : 0 ≤ b) (h1 : b ≤ 255) : lai (upd (fun j => sbit s j) b.toNat true) 256 = sor s (sonly b) := by
  refine lai_eq _ _ fun n hn => ?_
  rw [bit_or, bit_only]
  unfold upd sbit
  by_cases h : n = b.toNat
  · have : b = (n : Int) := by omega
    rw [if_pos h, decide_eq_true (by omega)]; simp
  · rw [if_neg h, decide_eq_false (by omega)]; simp
theorem with_false (s : S) (b : Int) (h0 : 0 ≤ b) (h1 : b ≤ 255) : lai (upd (fun j => sbit s j) b.toNat false) 256 = sless s (sonly b) := by
  refine lai_eq _ _ fun n hn => ?_
  rw [bit_less, bit_only]
  unfold upd sbit
  by_cases h : n = b.toNat
  · rw [if_pos h, decide_eq_true (by omega)]; simp
  · rw [if_neg h, decide_eq_false (by omega)]; simp
theorem with_out (s : S) (b : Int) (h : b < 0 ∨ 255 < b) : sor s (sonly b) = s ∧ sless s (sonly b) = s := by
  have e : sonly b = 0#256 := by unfold sonly; rw [if_neg (by omega)]; rfl
  rw [e]
  refine ⟨by unfold sor; simp, ?_⟩
  refine BitVec.eq_of_getLsbD_eq fun n hn => ?_
  rw [bit_less]; simp

end Go.Proofs.YtcaijlmffdfhgabDoor
