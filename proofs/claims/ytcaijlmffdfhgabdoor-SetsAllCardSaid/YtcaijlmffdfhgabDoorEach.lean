/-
  The law SetsEach, walked: a set with a byte has it, and all others as before; without it, likewise.
-/
import Derived.Test.YtcaijlmffdfhgabDoorEx
namespace Go.Proofs.YtcaijlmffdfhgabDoor
open Go Go.RowKit
attribute [local go_sem] idx0 idx1 idx2 idx3 u64_signed ext_cell eqg_set eqIn_set

theorem bit_and (a b : S) (n : Nat) : (sand a b).getLsbD n = (a.getLsbD n && b.getLsbD n) := by simp [sand]
theorem bit_or (a b : S) (n : Nat) : (sor a b).getLsbD n = (a.getLsbD n || b.getLsbD n) := by simp [sor]
theorem shas_eq (s : S) (b : Int) : shas s b = (decide (0 ≤ b ∧ b ≤ 255) && s.getLsbD b.toNat) := by
  unfold shas
  by_cases h : 0 ≤ b ∧ b ≤ 255
  · rw [decide_eq_true h, Bool.true_and]
    have e : (s.getLsbD b.toNat = false) ↔ sand s (sonly b) = 0#256 := by
      constructor
      · intro hb
        refine BitVec.eq_of_getLsbD_eq fun n hn => ?_
        rw [bit_and, bit_only]
        by_cases hbn : b = (n : Int)
        · have : b.toNat = n := by omega
          rw [this] at hb; simp [hb]
        · simp [hbn]
      · intro h0
        have := congrArg (fun z => z.getLsbD b.toNat) h0
        simp only [bit_and, bit_only] at this
        have hx : decide (0 ≤ b ∧ b ≤ 255 ∧ b = (b.toNat : Int)) = true := by simp; omega
        rw [hx] at this
        simpa using this
    by_cases hb : s.getLsbD b.toNat = true
    · have : ¬ sand s (sonly b) = 0#256 := fun h0 => by rw [← e, hb] at h0; cases h0
      simp [this, hb]
    · have hb' : s.getLsbD b.toNat = false := by simpa using hb
      rw [hb']; simp [e.1 hb']
  · have : sonly b = 0#256 := by unfold sonly; rw [if_neg h]; rfl
    rw [this, decide_eq_false h]
    simp [sand]

theorem each_same_with (s : S) (b : Int) : shas (sor s (sonly b)) b = decide (0 ≤ b ∧ b ≤ 255) := by
  rw [shas_eq, bit_or, bit_only]
  by_cases h : 0 ≤ b ∧ b ≤ 255
  · have : b = (b.toNat : Int) := by omega
    simp [h, ← this]
  · simp [h]
theorem each_same_without (s : S) (b : Int) : shas (sless s (sonly b)) b = false := by
  rw [shas_eq, bit_less, bit_only]
  by_cases h : 0 ≤ b ∧ b ≤ 255
  · have : b = (b.toNat : Int) := by omega
    simp [h, ← this]
  · simp [h]
theorem each_other_with (s : S) (b c : Int) (h : ¬ c = b) : shas (sor s (sonly b)) c = shas s c := by
  rw [shas_eq, shas_eq, bit_or, bit_only]
  by_cases g : 0 ≤ c ∧ c ≤ 255
  · rw [decide_eq_false (show ¬ (0 ≤ b ∧ b ≤ 255 ∧ b = (c.toNat : Int)) by omega)]; simp
  · simp [g]
theorem each_other_without (s : S) (b c : Int) (h : ¬ c = b) : shas (sless s (sonly b)) c = shas s c := by
  rw [shas_eq, shas_eq, bit_less, bit_only]
  by_cases g : 0 ≤ c ∧ c ≤ 255
  · rw [decide_eq_false (show ¬ (0 ≤ b ∧ b ≤ 255 ∧ b = (c.toNat : Int)) by omega)]; simp
  · simp [g]

end Go.Proofs.YtcaijlmffdfhgabDoor
