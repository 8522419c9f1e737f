/-
  The document's own answer: laid: the set of those bytes for which it is so.
-/
import Derived.Test.YtcaijlmffdfhgabDoorRefA
namespace Go.Proofs.YtcaijlmffdfhgabDoor
open Go Go.RowKit
attribute [local go_sem] u64_signed ext_cell

/-- The set of those bytes below k for which it is so. -/
def lai (f : Nat → Bool) (k : Nat) : S := (List.range k).foldl (fun s b => if f b then sor s (sonly (b : Int)) else s) 0#256
theorem lai_succ (f : Nat → Bool) (k : Nat) : lai f (k + 1) = if f k then sor (lai f k) (sonly (k : Int)) else lai f k := by
  unfold lai
  rw [List.range_succ, List.foldl_append]
  rfl
theorem bit_lai (f : Nat → Bool) (n : Nat) : ∀ k, k ≤ 256 → (lai f k).getLsbD n = (decide (n < k) && f n)
  | 0, _ => by simp [lai]
  | k + 1, hk => by
    have ih := bit_lai f n k (by omega)
    rw [lai_succ]
    by_cases h : n = k
    · subst h
      cases hf : f n
      · simp [ih, hf]
      · simp only [if_true, sor, BitVec.getLsbD_or, ih, hf, bit_only]
        simp; omega
    · have hd : decide (n < k + 1) = decide (n < k) := by
        rw [Bool.eq_iff_iff]; simp; omega
      rw [hd]
      split
      · simp only [sor, BitVec.getLsbD_or, ih, bit_only]
        have : ¬ (k : Int) = (n : Int) := by omega
        simp [this]
      · exact ih

theorem pow_word (k : Nat) (h : k < 64) : (2 : Int) ^ k < 18446744073709551616 ∧ 0 < (2 : Int) ^ k := by
  have h1 : (2 : Nat) ^ k < 2 ^ 64 := Nat.pow_lt_pow_right (by decide) h
  have h2 : (0 : Nat) < 2 ^ k := Nat.pow_pos (by decide)
  have e : ((2 ^ k : Nat) : Int) = (2 : Int) ^ k := by simp
  omega

/-- A bit that is not set is set by adding it. -/
theorem add_bit (s : S) (q k : Nat) (hk : k < 64) (h : s.getLsbD (64 * q + k) = false) :
    IntKind.u64.wrap (wd s q + IntKind.u64.wrap (2 ^ k)) = wd (sor s (sonly ((64 * q + k : Nat) : Int))) q ∨ 4 ≤ q := by
  by_cases hq : 4 ≤ q
  · exact .inr hq
  · left
    have hp := pow_word k hk
    obtain ⟨x, hx⟩ : ∃ x, x = s.extractLsb' (64 * q) 64 := ⟨_, rfl⟩
    have hb : x.getLsbD k = false := by rw [hx, bit_word s q k hk]; exact h
    have e1 : wd s q = (x.toNat : Int) := by rw [hx]; rfl
    have e2 : wd (sor s (sonly ((64 * q + k : Nat) : Int))) q = ((x ||| BitVec.twoPow 64 k).toNat : Int) := by
      refine wd_eq _ q _ fun n hn => ?_
      rw [sor, BitVec.getLsbD_or, bit_only, BitVec.getLsbD_or, hx, bit_word s q n hn, BitVec.getLsbD_twoPow]
      congr 1
      rw [Bool.eq_iff_iff]
      simp
      omega
    have e3 : (x ||| BitVec.twoPow 64 k) = x + BitVec.twoPow 64 k := by
      rw [BitVec.add_eq_or_of_and_eq_zero]
      refine BitVec.eq_of_getLsbD_eq fun n hn => ?_
      rw [BitVec.getLsbD_and, BitVec.getLsbD_twoPow]
      by_cases hnk : k = n
      · subst hnk; simp [hb]
      · simp [hnk]
    rw [e1, e2, e3, BitVec.toNat_add, BitVec.toNat_twoPow]
    have e4 : IntKind.u64.wrap (2 ^ k) = (2 : Int) ^ k := by rw [IntKind.wrap_u64]; omega
    have e5 : ((2 ^ k : Nat) : Int) = (2 : Int) ^ k := by simp
    have e6 : 2 ^ k % 2 ^ 64 = 2 ^ k := Nat.mod_eq_of_lt (by omega)
    rw [e4, e6, IntKind.wrap_u64]
    omega

theorem other_word (s : S) (q j : Nat) (k : Nat) (hk : k < 64) (hne : j ≠ q) : wd (sor s (sonly ((64 * q + k : Nat) : Int))) j = wd s j := by
  have e : (sor s (sonly ((64 * q + k : Nat) : Int))).extractLsb' (64 * j) 64 = s.extractLsb' (64 * j) 64 := by
    refine BitVec.eq_of_getLsbD_eq fun n hn => ?_
    rw [bit_word _ j n hn, bit_word _ j n hn, sor, BitVec.getLsbD_or, bit_only]
    rw [decide_eq_false (show ¬ (0 ≤ ((64 * q + k : Nat) : Int) ∧ ((64 * q + k : Nat) : Int) ≤ 255 ∧ ((64 * q + k : Nat) : Int) = ((64 * j + n : Nat) : Int)) by omega), Bool.or_false]
  unfold wd
  rw [e]

theorem SetAt.store1 {W : World} {B : Nat} {s : S} (h : SetAt W B s) (t : S) (q : Nat) (hq : q < 4) (same : ∀ j, j ≠ q → wd t j = wd s j) :
    SetAt (W.setCell ⟨B, q, none⟩ (.int .u64 (wd t q))) B t := by
  refine (heap_set_in h q _).trans ?_
  match q, hq with
  | 0, _ => rw [same 1 (by decide), same 2 (by decide), same 3 (by decide)]; rfl
  | 1, _ => rw [same 0 (by decide), same 2 (by decide), same 3 (by decide)]; rfl
  | 2, _ => rw [same 0 (by decide), same 1 (by decide), same 3 (by decide)]; rfl
  | 3, _ => rw [same 0 (by decide), same 1 (by decide), same 2 (by decide)]; rfl

theorem add_bit' (s : S) (q k : Nat) (h0 : k / 64 = q) (h1 : k < 256) (h : s.getLsbD k = false) :
    IntKind.u64.wrap (wd s q + IntKind.u64.wrap (2 ^ (k % 64))) = wd (sor s (sonly (k : Int))) q := by
  have e : 64 * q + k % 64 = k := by omega
  rcases add_bit s q (k % 64) (Nat.mod_lt _ (by decide)) (by rw [e]; exact h) with g | g
  · rw [e] at g; exact g
  · omega
theorem other_word' (s : S) (q k : Nat) (h0 : k / 64 = q) (j : Nat) (hne : j ≠ q) : wd (sor s (sonly (k : Int))) j = wd s j := by
  have e : 64 * q + k % 64 = k := by omega
  have := other_word s q j (k % 64) (Nat.mod_lt _ (by decide)) hne
  rwa [e] at this

end Go.Proofs.YtcaijlmffdfhgabDoor
