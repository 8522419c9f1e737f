/-
  Sets of bytes as words of 256 bits: plain mathematics, no Go in sight.
-/
namespace Go.Proofs.YtcaijlmffdfhgabDoor

/-- A set of bytes. -/
abbrev S := BitVec 256

/-- Word i of a set, as the number that the model holds. -/
def wd (s : S) (i : Nat) : Int := ((s.extractLsb' (64 * i) 64).toNat : Int)

theorem wd_range (s : S) (i : Nat) : 0 ≤ wd s i ∧ wd s i < 18446744073709551616 := by
  unfold wd
  have := (s.extractLsb' (64 * i) 64).isLt
  omega

theorem ofInt_wd (s : S) (i : Nat) : BitVec.ofInt 64 (wd s i) = s.extractLsb' (64 * i) 64 := by
  unfold wd
  rw [BitVec.ofInt_natCast, BitVec.ofNat_toNat, BitVec.setWidth_eq]

/-- A set is told by its four words. -/
theorem wd_ext {s t : S} (h0 : wd s 0 = wd t 0) (h1 : wd s 1 = wd t 1) (h2 : wd s 2 = wd t 2) (h3 : wd s 3 = wd t 3) : s = t := by
  have g : ∀ i, wd s i = wd t i → s.extractLsb' (64 * i) 64 = t.extractLsb' (64 * i) 64 := fun i h => by
    unfold wd at h; exact BitVec.eq_of_toNat_eq (by omega)
  have k : ∀ i, i < 4 → s.extractLsb' (64 * i) 64 = t.extractLsb' (64 * i) 64 := fun i hi => by
    match i, hi with
    | 0, _ => exact g 0 h0
    | 1, _ => exact g 1 h1
    | 2, _ => exact g 2 h2
    | 3, _ => exact g 3 h3
  refine BitVec.eq_of_getLsbD_eq fun n hn => ?_
  have e := congrArg (fun z => z.getLsbD (n % 64)) (k (n / 64) (by omega))
  simp only [BitVec.getLsbD_extractLsb'] at e
  have hl : n % 64 < 64 := Nat.mod_lt _ (by decide)
  have hs : 64 * (n / 64) + n % 64 = n := Nat.div_add_mod n 64
  simpa [hl, hs] using e

/-- What word i is, told bit by bit. -/
theorem wd_eq (s : S) (i : Nat) (x : BitVec 64) (h : ∀ n, n < 64 → s.getLsbD (64 * i + n) = x.getLsbD n) : wd s i = (x.toNat : Int) := by
  have e : s.extractLsb' (64 * i) 64 = x := BitVec.eq_of_getLsbD_eq fun n hn => by
    rw [BitVec.getLsbD_extractLsb']; simp [hn, h n hn]
  unfold wd; rw [e]

/-- Four numbers are a set's words. -/
theorem wd_of (x0 x1 x2 x3 : Int) (a0 : 0 ≤ x0) (b0 : x0 < 18446744073709551616) (a1 : 0 ≤ x1) (b1 : x1 < 18446744073709551616)
    (a2 : 0 ≤ x2) (b2 : x2 < 18446744073709551616) (a3 : 0 ≤ x3) (b3 : x3 < 18446744073709551616) :
    ∃ s : S, x0 = wd s 0 ∧ x1 = wd s 1 ∧ x2 = wd s 2 ∧ x3 = wd s 3 := by
  obtain ⟨y0, rfl⟩ := Int.eq_ofNat_of_zero_le a0
  obtain ⟨y1, rfl⟩ := Int.eq_ofNat_of_zero_le a1
  obtain ⟨y2, rfl⟩ := Int.eq_ofNat_of_zero_le a2
  obtain ⟨y3, rfl⟩ := Int.eq_ofNat_of_zero_le a3
  obtain ⟨N, hN⟩ : ∃ N : Nat, N = y0 + 18446744073709551616 * (y1 + 18446744073709551616 * (y2 + 18446744073709551616 * y3)) := ⟨_, rfl⟩
  have hlt : N < 2 ^ 256 := by
    have : (2 : Nat) ^ 256 = 18446744073709551616 * (18446744073709551616 * (18446744073709551616 * 18446744073709551616)) := by decide
    rw [this]; omega
  have w : ∀ i, wd (BitVec.ofNat 256 N) i = ((N / 2 ^ (64 * i) % 18446744073709551616 : Nat) : Int) := fun i => by
    unfold wd
    rw [BitVec.extractLsb'_toNat, BitVec.toNat_ofNat, Nat.mod_eq_of_lt hlt, Nat.shiftRight_eq_div_pow]
  have d1 : N / 18446744073709551616 = y1 + 18446744073709551616 * (y2 + 18446744073709551616 * y3) := by omega
  have d2 : N / 18446744073709551616 / 18446744073709551616 = y2 + 18446744073709551616 * y3 := by omega
  have d3 : N / 18446744073709551616 / 18446744073709551616 / 18446744073709551616 = y3 := by omega
  refine ⟨BitVec.ofNat 256 N, ?_, ?_, ?_, ?_⟩
  · rw [w 0]; simp; omega
  · rw [w 1, show (2 : Nat) ^ (64 * 1) = 18446744073709551616 by decide, d1]; omega
  · rw [w 2, show (2 : Nat) ^ (64 * 2) = 18446744073709551616 * 18446744073709551616 by decide, ← Nat.div_div_eq_div_mul, d2]; omega
  · rw [w 3, show (2 : Nat) ^ (64 * 3) = 18446744073709551616 * 18446744073709551616 * 18446744073709551616 by decide, ← Nat.div_div_eq_div_mul, ← Nat.div_div_eq_div_mul, d3]; omega

def sor (a b : S) : S := a ||| b
def sand (a b : S) : S := a &&& b
def sless (a b : S) : S := a &&& ~~~b
def snot (a : S) : S := ~~~a
def sonly (b : Int) : S := if 0 ≤ b ∧ b ≤ 255 then BitVec.ofNat 256 (2 ^ b.toNat) else 0
def clampTo (n m : Int) : Nat := (min (max n 0) m).toNat
def sbelow (n : Int) : S := BitVec.ofNat 256 (2 ^ clampTo n 256 - 1)

theorem ext_or (a b : S) (i : Nat) : (sor a b).extractLsb' (64 * i) 64 = a.extractLsb' (64 * i) 64 ||| b.extractLsb' (64 * i) 64 := by
  unfold sor; refine BitVec.eq_of_getLsbD_eq fun n hn => ?_; simp [hn]
theorem ext_and (a b : S) (i : Nat) : (sand a b).extractLsb' (64 * i) 64 = a.extractLsb' (64 * i) 64 &&& b.extractLsb' (64 * i) 64 := by
  unfold sand; refine BitVec.eq_of_getLsbD_eq fun n hn => ?_; simp [hn]
theorem ext_less (a b : S) (i : Nat) (hi : i < 4) : (sless a b).extractLsb' (64 * i) 64 = a.extractLsb' (64 * i) 64 &&& ~~~b.extractLsb' (64 * i) 64 := by
  unfold sless; refine BitVec.eq_of_getLsbD_eq fun n hn => ?_; have h2 : 64 * i + n < 256 := by omega
  simp [hn, h2]
theorem ext_not (a : S) (i : Nat) (hi : i < 4) : (snot a).extractLsb' (64 * i) 64 = ~~~a.extractLsb' (64 * i) 64 := by
  unfold snot; refine BitVec.eq_of_getLsbD_eq fun n hn => ?_; have h2 : 64 * i + n < 256 := by omega
  simp [hn, h2]

theorem bit_only (b : Int) (n : Nat) : (sonly b).getLsbD n = decide (0 ≤ b ∧ b ≤ 255 ∧ b = n) := by
  unfold sonly
  split
  · rename_i h
    obtain ⟨k, rfl⟩ := Int.eq_ofNat_of_zero_le h.1
    rw [BitVec.getLsbD_ofNat]
    simp only [Int.toNat_natCast, Nat.testBit_two_pow]
    rw [Bool.eq_iff_iff]; simp; omega
  · rename_i h
    simp; omega
theorem bit_below (m : Int) (n : Nat) : (sbelow m).getLsbD n = decide (n < 256 ∧ (n : Int) < m) := by
  unfold sbelow clampTo
  rw [BitVec.getLsbD_ofNat, Nat.testBit_two_pow_sub_one, Bool.eq_iff_iff]; simp; omega
theorem wd_zero_of (s : S) (i : Nat) (h : ∀ n, n < 64 → s.getLsbD (64 * i + n) = false) : 0 = wd s i := by
  rw [wd_eq s i 0#64 (fun n hn => by rw [h n hn]; simp)]; rfl
theorem only_zero (b : Int) (i : Nat) (h : b < 64 * i ∨ 64 * i + 64 ≤ b ∨ b < 0 ∨ 255 < b) : 0 = wd (sonly b) i :=
  wd_zero_of _ _ fun n hn => by rw [bit_only]; simp; omega
theorem only_one (b : Int) (i : Nat) (h0 : 64 * i ≤ b) (h1 : b < 64 * i + 64) (h2 : i < 4) : (2 : Int) ^ (b % 64).toNat = wd (sonly b) i := by
  obtain ⟨k, rfl⟩ := Int.eq_ofNat_of_zero_le (show 0 ≤ b by omega)
  have hk : ((k : Int) % 64).toNat = k % 64 := by omega
  have hl : k % 64 < 64 := Nat.mod_lt _ (by decide)
  have hlt : 2 ^ (k % 64) < 2 ^ 64 := Nat.pow_lt_pow_right (by decide) hl
  rw [hk, wd_eq _ i (BitVec.ofNat 64 (2 ^ (k % 64)))]
  · rw [BitVec.toNat_ofNat, Nat.mod_eq_of_lt hlt]; simp
  · intro n hn
    rw [bit_only, BitVec.getLsbD_ofNat, Nat.testBit_two_pow, Bool.eq_iff_iff]; simp; omega
theorem below_zero (m : Int) (i : Nat) (h : m ≤ 64 * i) : 0 = wd (sbelow m) i :=
  wd_zero_of _ _ fun n hn => by rw [bit_below]; simp; omega
theorem below_part (m : Int) (i k : Nat) (hi : i < 4) (h0 : m = 64 * i + k) (h1 : k ≤ 64) : (2 : Int) ^ k - 1 = wd (sbelow m) i := by
  have hle : 2 ^ k ≤ 2 ^ 64 := Nat.pow_le_pow_right (by decide) h1
  have hpos : 0 < 2 ^ k := Nat.pow_pos (by decide)
  rw [wd_eq _ i (BitVec.ofNat 64 (2 ^ k - 1))]
  · rw [BitVec.toNat_ofNat, Nat.mod_eq_of_lt (by omega), Int.ofNat_sub hpos]; simp
  · intro n hn
    rw [bit_below, BitVec.getLsbD_ofNat, Nat.testBit_two_pow_sub_one, Bool.eq_iff_iff]; simp; omega
theorem below_full (m : Int) (i : Nat) (hi : i < 4) (h0 : 64 * i + 64 ≤ m) : 18446744073709551615 = wd (sbelow m) i := by
  rw [wd_eq _ i (BitVec.allOnes 64)]
  · rfl
  · intro n hn
    rw [bit_below, BitVec.getLsbD_allOnes, Bool.eq_iff_iff]; simp; omega
end Go.Proofs.YtcaijlmffdfhgabDoor
