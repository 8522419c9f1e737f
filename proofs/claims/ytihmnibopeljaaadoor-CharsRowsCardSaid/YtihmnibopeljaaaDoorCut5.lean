/-
  Rows of bytes as mathematics: where a range of characters is cut, what a piece's row holds.
-/
import Derived.Test.YtihmnibopeljaaaDoorRowsLit
import Derived.Laws.BitsAllLaws
namespace Go.Proofs.YtihmnibopeljaaaDoor
open Go Go.RowKit

theorem or_low (a k : Nat) : a ||| (2 ^ k - 1) = a / 2 ^ k * 2 ^ k + (2 ^ k - 1) := by
  have hp := Nat.two_pow_pos k
  rw [Nat.mul_comm, Nat.two_pow_add_eq_or_of_lt (by omega)]
  apply Nat.eq_of_testBit_eq
  intro j
  simp only [Nat.testBit_or, Nat.testBit_two_pow_sub_one, Nat.testBit_two_pow_mul, Nat.testBit_div_two_pow]
  by_cases h : j < k
  · simp [h]
  · have : j - k + k = j := by omega
    simp [h, this]
    omega
theorem andNot_low (a k : Nat) (ha : a < 2 ^ 64) : (BitVec.ofInt 64 (a : Int) &&& ~~~ BitVec.ofInt 64 ((2 ^ k - 1 : Nat) : Int)).toNat = a / 2 ^ k * 2 ^ k := by
  have hp := Nat.two_pow_pos k
  apply Nat.eq_of_testBit_eq
  intro j
  rw [Nat.mul_comm]
  simp only [BitVec.toNat_and, Nat.testBit_and, BitVec.testBit_toNat, BitVec.getLsbD_not, Nat.testBit_two_pow_mul, Nat.testBit_div_two_pow]
  have e1 : (BitVec.ofInt 64 (a : Int)) = BitVec.ofNat 64 a := by simp
  have e2 : (BitVec.ofInt 64 ((2 ^ k - 1 : Nat) : Int)) = BitVec.ofNat 64 (2 ^ k - 1) := BitVec.ofInt_natCast ..
  rw [e1, e2]
  simp only [BitVec.getLsbD_ofNat, Nat.testBit_two_pow_sub_one]
  by_cases h : j < k
  · have : ¬ k ≤ j := by omega
    simp [h, this]
  · have h2 : j - k + k = j := by omega
    by_cases h3 : j < 64
    · simp [h, h2, h3]; omega
    · have : a.testBit j = false := Nat.testBit_lt_two_pow (Nat.lt_of_lt_of_le ha (Nat.pow_le_pow_right (by decide) (by omega)))
      simp [h, h2, h3, this]
theorem bits_low (a k : Nat) (ha : a < 2 ^ 40) (hk : k ≤ 40) : bits .or .i64 (a : Int) ((2 ^ k - 1 : Nat) : Int) = ((a / 2 ^ k * 2 ^ k + (2 ^ k - 1) : Nat) : Int) ∧ bits .and .i64 (a : Int) ((2 ^ k - 1 : Nat) : Int) = ((a % 2 ^ k : Nat) : Int) ∧ bits .andNot .i64 (a : Int) ((2 ^ k - 1 : Nat) : Int) = ((a / 2 ^ k * 2 ^ k : Nat) : Int) := by
  have hp := Nat.two_pow_pos k
  have h2 : 2 ^ k ≤ 2 ^ 40 := Nat.pow_le_pow_right (by decide) hk
  have hd : a / 2 ^ k * 2 ^ k ≤ a := Nat.div_mul_le_self _ _
  have hm : a % 2 ^ k ≤ a := Nat.mod_le _ _
  have ea := ofInt_u64 a (by omega)
  have el := ofInt_u64 (2 ^ k - 1) (by omega)
  refine ⟨?_, ?_, ?_⟩
  · show IntKind.i64.wrap ((BitVec.ofInt 64 (a : Int) ||| BitVec.ofInt 64 ((2 ^ k - 1 : Nat) : Int)).toNat : Nat) = _
    rw [BitVec.toNat_or, ea, el, or_low, IntKind.wrap_i64]
    generalize a / 2 ^ k * 2 ^ k = z at *
    generalize 2 ^ k = y at *
    omega
  · show IntKind.i64.wrap ((BitVec.ofInt 64 (a : Int) &&& BitVec.ofInt 64 ((2 ^ k - 1 : Nat) : Int)).toNat : Nat) = _
    rw [BitVec.toNat_and, ea, el, Nat.and_two_pow_sub_one_eq_mod, IntKind.wrap_i64]
    generalize a % 2 ^ k = z at *
    omega
  · show IntKind.i64.wrap ((BitVec.ofInt 64 (a : Int) &&& ~~~ BitVec.ofInt 64 ((2 ^ k - 1 : Nat) : Int)).toNat : Nat) = _
    rw [andNot_low a k (by omega), IntKind.wrap_i64]
    generalize a / 2 ^ k * 2 ^ k = z at *
    omega
theorem bits_6 (a : Nat) (ha : a < 2 ^ 40) : bits .or .i64 (a : Int) 63 = ((a / 64 * 64 + 63 : Nat) : Int) ∧ bits .and .i64 (a : Int) 63 = ((a % 64 : Nat) : Int) ∧ bits .andNot .i64 (a : Int) 63 = ((a / 64 * 64 : Nat) : Int) := bits_low a 6 ha (by decide)
theorem bits_12 (a : Nat) (ha : a < 2 ^ 40) : bits .or .i64 (a : Int) 4095 = ((a / 4096 * 4096 + 4095 : Nat) : Int) ∧ bits .and .i64 (a : Int) 4095 = ((a % 4096 : Nat) : Int) ∧ bits .andNot .i64 (a : Int) 4095 = ((a / 4096 * 4096 : Nat) : Int) := bits_low a 12 ha (by decide)
theorem bits_18 (a : Nat) (ha : a < 2 ^ 40) : bits .or .i64 (a : Int) 262143 = ((a / 262144 * 262144 + 262143 : Nat) : Int) ∧ bits .and .i64 (a : Int) 262143 = ((a % 262144 : Nat) : Int) ∧ bits .andNot .i64 (a : Int) 262143 = ((a / 262144 * 262144 : Nat) : Int) := bits_low a 18 ha (by decide)

/-- The characters by how many bytes they have. -/
def Spn (n x y : Nat) : Prop := (n = 1 ∧ x = 0 ∧ y = 127) ∨ (n = 2 ∧ x = 128 ∧ y = 2047) ∨ (n = 3 ∧ x = 2048 ∧ y = 55295) ∨ (n = 3 ∧ x = 57344 ∧ y = 65535) ∨ (n = 4 ∧ x = 65536 ∧ y = 1114111)
def InS (n a b : Nat) : Prop := ∃ x y, Spn n x y ∧ x ≤ a ∧ a ≤ b ∧ b ≤ y
theorem InS.n {n a b : Nat} (h : InS n a b) : 1 ≤ n ∧ n ≤ 4 ∧ a ≤ b ∧ b ≤ 1114111 := by
  obtain ⟨x, y, h, h1, h2, h3⟩ := h
  unfold Spn at h; omega
theorem InS.sub {n a b c d : Nat} (h : InS n a b) (h1 : a ≤ c) (h2 : c ≤ d) (h3 : d ≤ b) : InS n c d := by
  obtain ⟨x, y, h, _, _, _⟩ := h
  exact ⟨x, y, h, by omega, h2, by omega⟩
def Al (n a b i : Nat) : Prop := (i < n → a / 64 ^ i = b / 64 ^ i) ∧ a % 64 ^ (i - 1) = 0 ∧ b % 64 ^ (i - 1) = 64 ^ (i - 1) - 1
def Piece (n a b : Nat) : Prop := InS n a b ∧ ∃ i, 1 ≤ i ∧ i ≤ n ∧ Al n a b i
def CutP (n a b c : Nat) : Prop := (c = b ∧ ∃ i, 1 ≤ i ∧ i ≤ n ∧ Al n a b i) ∨
  (∃ i, 1 ≤ i ∧ i < n ∧ a / 64 ^ i < b / 64 ^ i ∧ a % 64 ^ (i - 1) = 0 ∧ a % 64 ^ i ≠ 0 ∧ c = a / 64 ^ i * 64 ^ i + (64 ^ i - 1)) ∨
  (∃ i, 1 ≤ i ∧ i < n ∧ a / 64 ^ i < b / 64 ^ i ∧ a % 64 ^ i = 0 ∧ b % 64 ^ (i - 1) = 64 ^ (i - 1) - 1 ∧ b % 64 ^ i ≠ 64 ^ i - 1 ∧ c = b / 64 ^ i * 64 ^ i - 1)

theorem lev (i n : Nat) (h1 : 1 ≤ i) (h2 : i < n) (h : n ≤ 4) : i = 1 ∨ i = 2 ∨ i = 3 := by omega
/-- A piece is not cut. -/
theorem cut_piece {n a b c : Nat} (hp : Piece n a b) (hc : CutP n a b c) : c = b := by
  obtain ⟨hs, i, h1, h2, h3, h4, h5⟩ := hp
  have hn := hs.n
  rcases hc with ⟨h, _⟩ | ⟨j, j1, j2, j3, j4, j5, j6⟩ | ⟨j, j1, j2, j3, j4, j5, j6, j7⟩
  · exact h
  · exfalso
    have hi : i = 1 ∨ i = 2 ∨ i = 3 ∨ i = 4 := by omega
    rcases lev j n j1 j2 hn.2.1 with rfl | rfl | rfl <;> rcases hi with rfl | rfl | rfl | rfl <;> simp only [Nat.reducePow, Nat.reduceSub] at * <;> omega
  · exfalso
    have hi : i = 1 ∨ i = 2 ∨ i = 3 ∨ i = 4 := by omega
    rcases lev j n j1 j2 hn.2.1 with rfl | rfl | rfl <;> rcases hi with rfl | rfl | rfl | rfl <;> simp only [Nat.reducePow, Nat.reduceSub] at * <;> omega
/-- How far the ends are even already. -/
def EA (n a p : Nat) : Prop := p < n ∧ a % 64 ^ p = 0
def EB (n b q : Nat) : Prop := q < n ∧ b % 64 ^ q = 64 ^ q - 1
theorem cut_cases {n a b c p q : Nat} (hs : InS n a b) (ha : EA n a p) (hb : EB n b q) (hc : CutP n a b c) :
    (c = b ∧ Piece n a b) ∨ (c < b ∧ a ≤ c ∧ Piece n a c ∧ InS n (c + 1) b ∧ ∃ p', p < p' ∧ EA n (c + 1) p') ∨ (c < b ∧ a ≤ c ∧ Piece n (c + 1) b ∧ InS n a c ∧ ∃ q', q < q' ∧ EB n c q') := by
  have hn := hs.n
  obtain ⟨a1, a2⟩ := ha
  obtain ⟨b1, b2⟩ := hb
  rcases hc with ⟨h, hi⟩ | ⟨j, j1, j2, j3, j4, j5, j6⟩ | ⟨j, j1, j2, j3, j4, j5, j6, j7⟩
  · exact .inl ⟨h, hs, hi⟩
  · refine .inr (.inl ?_)
    have hpj : p < j := by
      apply Nat.lt_of_not_le
      intro hle
      have hp : p = 0 ∨ p = 1 ∨ p = 2 ∨ p = 3 := by omega
      rcases lev j n j1 j2 hn.2.1 with rfl | rfl | rfl <;> rcases hp with rfl | rfl | rfl | rfl <;> simp only [Nat.reducePow, Nat.reduceSub] at * <;> omega
    have hcb : c < b ∧ a ≤ c := by rcases lev j n j1 j2 hn.2.1 with rfl | rfl | rfl <;> simp only [Nat.reducePow, Nat.reduceSub] at * <;> omega
    refine ⟨hcb.1, hcb.2, ⟨hs.sub (Nat.le_refl _) hcb.2 (by omega), j, j1, by omega, ?_⟩, hs.sub (by omega) (by omega) (Nat.le_refl _), j, hpj, j2, ?_⟩
    · unfold Al
      rcases lev j n j1 j2 hn.2.1 with rfl | rfl | rfl <;> simp only [Nat.reducePow, Nat.reduceSub] at * <;> omega
    · rcases lev j n j1 j2 hn.2.1 with rfl | rfl | rfl <;> simp only [Nat.reducePow, Nat.reduceSub] at * <;> omega
  · refine .inr (.inr ?_)
    have hpj : q < j := by
      apply Nat.lt_of_not_le
      intro hle
      have hp : q = 0 ∨ q = 1 ∨ q = 2 ∨ q = 3 := by omega
      rcases lev j n j1 j2 hn.2.1 with rfl | rfl | rfl <;> rcases hp with rfl | rfl | rfl | rfl <;> simp only [Nat.reducePow, Nat.reduceSub] at * <;> omega
    have hcb : c < b ∧ a ≤ c := by rcases lev j n j1 j2 hn.2.1 with rfl | rfl | rfl <;> simp only [Nat.reducePow, Nat.reduceSub] at * <;> omega
    refine ⟨hcb.1, hcb.2, ⟨hs.sub (by omega) (by omega) (Nat.le_refl _), j, j1, by omega, ?_⟩, hs.sub (Nat.le_refl _) hcb.2 (by omega), j, hpj, j2, ?_⟩
    · unfold Al
      rcases lev j n j1 j2 hn.2.1 with rfl | rfl | rfl <;> simp only [Nat.reducePow, Nat.reduceSub] at * <;> omega
    · rcases lev j n j1 j2 hn.2.1 with rfl | rfl | rfl <;> simp only [Nat.reducePow, Nat.reduceSub] at * <;> omega

/-- A character's bytes. -/
def byt (n c k : Nat) : Nat :=
  if n = 1 then c
  else if n = 2 then (if k = 0 then 192 + c / 64 else 128 + c % 64)
  else if n = 3 then (if k = 0 then 224 + c / 4096 else if k = 1 then 128 + c / 64 % 64 else 128 + c % 64)
  else (if k = 0 then 240 + c / 262144 else if k = 1 then 128 + c / 4096 % 64 else if k = 2 then 128 + c / 64 % 64 else 128 + c % 64)

theorem piece_cases {n a b : Nat} (h : Piece n a b) : InS n a b ∧ ((n = 1) ∨ (n = 2 ∧ (a / 64 = b / 64 ∨ (a % 64 = 0 ∧ b % 64 = 63))) ∨
    (n = 3 ∧ (a / 64 = b / 64 ∨ (a % 64 = 0 ∧ b % 64 = 63 ∧ a / 4096 = b / 4096) ∨ (a % 4096 = 0 ∧ b % 4096 = 4095))) ∨
    (n = 4 ∧ (a / 64 = b / 64 ∨ (a % 64 = 0 ∧ b % 64 = 63 ∧ a / 4096 = b / 4096) ∨ (a % 4096 = 0 ∧ b % 4096 = 4095 ∧ a / 262144 = b / 262144) ∨ (a % 262144 = 0 ∧ b % 262144 = 262143)))) := by
  obtain ⟨hs, i, h1, h2, h3, h4, h5⟩ := h
  have hn := hs.n
  refine ⟨hs, ?_⟩
  have hi : i = 1 ∨ i = 2 ∨ i = 3 ∨ i = 4 := by omega
  rcases hi with rfl | rfl | rfl | rfl <;> simp only [Nat.reducePow, Nat.reduceSub] at * <;> omega

/-- The row of a piece: no empty range, bytes alone. -/
theorem piece_byt {n a b : Nat} (h : Piece n a b) : ∀ k, k < n → byt n a k ≤ byt n b k ∧ byt n b k ≤ 255 := by
  obtain ⟨hs, hc⟩ := piece_cases h
  obtain ⟨x, y, hs, h1, h2, h3⟩ := hs
  intro k hk
  unfold Spn at hs
  have hk4 : k = 0 ∨ k = 1 ∨ k = 2 ∨ k = 3 := by omega
  rcases hc with rfl | ⟨rfl, hc⟩ | ⟨rfl, hc⟩ | ⟨rfl, hc⟩ <;> rcases hk4 with rfl | rfl | rfl | rfl <;> simp [byt] at * <;> omega
/-- The characters of a piece are those whose bytes are within its row. -/
theorem piece_in {n a b c : Nat} (h : Piece n a b) (hc : InS n c c) : (a ≤ c ∧ c ≤ b) ↔ ∀ k, k < n → byt n a k ≤ byt n c k ∧ byt n c k ≤ byt n b k := by
  obtain ⟨hs, hp⟩ := piece_cases h
  obtain ⟨x, y, hs, h1, h2, h3⟩ := hs
  obtain ⟨x', y', hs', h1', _, h3'⟩ := hc
  unfold Spn at hs hs'
  rcases hp with rfl | ⟨rfl, hp⟩ | ⟨rfl, hp⟩ | ⟨rfl, hp⟩
  · constructor
    · intro hh k hk; obtain rfl : k = 0 := by omega
      simpa [byt] using hh
    · intro hh; simpa [byt] using hh 0 (by omega)
  · constructor
    · intro hh k hk
      have hk4 : k = 0 ∨ k = 1 := by omega
      rcases hk4 with rfl | rfl <;> simp [byt] <;> omega
    · intro hh
      have g0 := hh 0 (by omega); have g1 := hh 1 (by omega)
      simp [byt] at g0 g1
      omega
  · constructor
    · intro hh k hk
      have hk4 : k = 0 ∨ k = 1 ∨ k = 2 := by omega
      rcases hk4 with rfl | rfl | rfl <;> simp [byt] <;> omega
    · intro hh
      have g0 := hh 0 (by omega); have g1 := hh 1 (by omega); have g2 := hh 2 (by omega)
      simp [byt] at g0 g1 g2
      omega
  · constructor
    · intro hh k hk
      have hk4 : k = 0 ∨ k = 1 ∨ k = 2 ∨ k = 3 := by omega
      rcases hk4 with rfl | rfl | rfl | rfl <;> simp [byt] <;> omega
    · intro hh
      have g0 := hh 0 (by omega); have g1 := hh 1 (by omega); have g2 := hh 2 (by omega); have g3 := hh 3 (by omega)
      simp [byt] at g0 g1 g2 g3
      omega
/-- How many texts the first k ranges of a row have. -/
def prd (n a b : Nat) : Nat → Int
  | 0 => 1
  | k + 1 => prd n a b k * ((byt n b k : Int) - (byt n a k : Int) + 1)
theorem mul_one_of {x y z : Int} (h : x = y) (hz : z = 1) : x * z = y := by subst h; subst hz; omega
theorem piece_prd {n a b : Nat} (h : Piece n a b) : prd n a b n = (b : Int) - a + 1 ∧ ∀ k, k ≤ n → 0 ≤ prd n a b k ∧ prd n a b k ≤ 1114112 := by
  obtain ⟨hs, hp⟩ := piece_cases h
  obtain ⟨x, y, hs, h1, h2, h3⟩ := hs
  unfold Spn at hs
  rcases hp with rfl | ⟨rfl, hp⟩ | ⟨rfl, hp⟩ | ⟨rfl, hp⟩
  · have e : prd 1 a b 1 = (b : Int) - a + 1 := by simp [prd, byt]
    refine ⟨e, fun k hk => ?_⟩
    have : k = 0 ∨ k = 1 := by omega
    rcases this with rfl | rfl
    · simp [prd]
    · rw [e]; omega
  · have e1 : prd 2 a b 1 = ((b / 64 : Nat) : Int) - ((a / 64 : Nat) : Int) + 1 := by simp only [prd, byt]; simp; omega
    have e2 : prd 2 a b 2 = prd 2 a b 1 * (((b % 64 : Nat) : Int) - ((a % 64 : Nat) : Int) + 1) := by
      show prd 2 a b 1 * _ = _
      congr 1; simp [byt]; omega
    have e : prd 2 a b 2 = (b : Int) - a + 1 := by
      rw [e2, e1]
      rcases hp with hp | hp
      · rw [hp]; simp; omega
      · rw [hp.1, hp.2]; omega
    refine ⟨e, fun k hk => ?_⟩
    have : k = 0 ∨ k = 1 ∨ k = 2 := by omega
    rcases this with rfl | rfl | rfl
    · simp [prd]
    · rw [e1]; omega
    · rw [e]; omega
  · have e1 : prd 3 a b 1 = ((b / 4096 : Nat) : Int) - ((a / 4096 : Nat) : Int) + 1 := by simp only [prd, byt]; simp; omega
    have e2 : prd 3 a b 2 = prd 3 a b 1 * (((b / 64 % 64 : Nat) : Int) - ((a / 64 % 64 : Nat) : Int) + 1) := by
      show prd 3 a b 1 * _ = _
      congr 1; simp [byt]; omega
    have e3 : prd 3 a b 3 = prd 3 a b 2 * (((b % 64 : Nat) : Int) - ((a % 64 : Nat) : Int) + 1) := by
      show prd 3 a b 2 * _ = _
      congr 1; simp [byt]; omega
    have e2' : prd 3 a b 2 = ((b / 64 : Nat) : Int) - ((a / 64 : Nat) : Int) + 1 := by
      rw [e2, e1]
      rcases hp with hp | hp | hp
      · have q1 : a / 4096 = b / 4096 := by omega
        rw [q1, hp]; simp
      · rw [hp.2.2]; simp; omega
      · have q1 : a / 64 % 64 = 0 := by omega
        have q2 : b / 64 % 64 = 63 := by omega
        rw [q1, q2]; omega
    have e : prd 3 a b 3 = (b : Int) - a + 1 := by
      rw [e3, e2']
      have : a / 64 = b / 64 ∨ (a % 64 = 0 ∧ b % 64 = 63) := by omega
      rcases this with hp | hp
      · rw [hp]; simp; omega
      · rw [hp.1, hp.2]; omega
    refine ⟨e, fun k hk => ?_⟩
    have : k = 0 ∨ k = 1 ∨ k = 2 ∨ k = 3 := by omega
    rcases this with rfl | rfl | rfl | rfl
    · simp [prd]
    · rw [e1]; omega
    · rw [e2']; omega
    · rw [e]; omega
  · have e1 : prd 4 a b 1 = ((b / 262144 : Nat) : Int) - ((a / 262144 : Nat) : Int) + 1 := by simp only [prd, byt]; simp; omega
    have e2 : prd 4 a b 2 = prd 4 a b 1 * (((b / 4096 % 64 : Nat) : Int) - ((a / 4096 % 64 : Nat) : Int) + 1) := by
      show prd 4 a b 1 * _ = _
      congr 1; simp [byt]; omega
    have e3 : prd 4 a b 3 = prd 4 a b 2 * (((b / 64 % 64 : Nat) : Int) - ((a / 64 % 64 : Nat) : Int) + 1) := by
      show prd 4 a b 2 * _ = _
      congr 1; simp [byt]; omega
    have e4 : prd 4 a b 4 = prd 4 a b 3 * (((b % 64 : Nat) : Int) - ((a % 64 : Nat) : Int) + 1) := by
      show prd 4 a b 3 * _ = _
      congr 1; simp [byt]; omega
    have e2' : prd 4 a b 2 = ((b / 4096 : Nat) : Int) - ((a / 4096 : Nat) : Int) + 1 := by
      rw [e2, e1]
      have : a / 262144 = b / 262144 ∨ (a / 4096 % 64 = 0 ∧ b / 4096 % 64 = 63) := by omega
      rcases this with hp | hp
      · rw [hp]; simp; omega
      · rw [hp.1, hp.2]; omega
    have e3' : prd 4 a b 3 = ((b / 64 : Nat) : Int) - ((a / 64 : Nat) : Int) + 1 := by
      rw [e3, e2']
      have : a / 4096 = b / 4096 ∨ (a / 64 % 64 = 0 ∧ b / 64 % 64 = 63) := by omega
      rcases this with hp | hp
      · rw [hp]; simp; omega
      · rw [hp.1, hp.2]; omega
    have e : prd 4 a b 4 = (b : Int) - a + 1 := by
      rw [e4, e3']
      have : a / 64 = b / 64 ∨ (a % 64 = 0 ∧ b % 64 = 63) := by omega
      rcases this with hp | hp
      · rw [hp]; simp; omega
      · rw [hp.1, hp.2]; omega
    refine ⟨e, fun k hk => ?_⟩
    have : k = 0 ∨ k = 1 ∨ k = 2 ∨ k = 3 ∨ k = 4 := by omega
    rcases this with rfl | rfl | rfl | rfl | rfl
    · simp [prd]
    · rw [e1]; omega
    · rw [e2']; omega
    · rw [e3']; omega
    · rw [e]; omega

theorem ofN (m : Nat) (h : m < 256) : (UInt8.ofNat m).toNat = m := by
  rw [UInt8.toNat_ofNat']; omega
theorem enc_byt {n c : Nat} (h : InS n c c) : (Utf8.encode (c : Int)).size = n ∧ (∀ k, k < n → ((Utf8.encode (c : Int)).get! k).toNat = byt n c k) ∧ Lib.runeLen (c : Int) = (n : Int) ∧ isC (c : Int) = true := by
  obtain ⟨x, y, hs, h1, _, h3⟩ := h
  have hv : Utf8.valid (c : Int) = true := by
    unfold Spn at hs
    simp [Utf8.valid]
    omega
  have hi : isC (c : Int) = true := by unfold Spn at hs; simp [isC]; omega
  unfold Spn at hs
  rcases hs with ⟨rfl, rfl, rfl⟩ | ⟨rfl, rfl, rfl⟩ | ⟨rfl, rfl, rfl⟩ | ⟨rfl, rfl, rfl⟩ | ⟨rfl, rfl, rfl⟩
  · have e : Utf8.encode (c : Int) = ⟨#[UInt8.ofNat c]⟩ := by
      unfold Utf8.encode
      simp only [hv, if_true, Int.toNat_natCast]
      rw [if_pos (by omega)]
    refine ⟨by rw [e]; rfl, fun k hk => ?_, ?_, hi⟩
    · obtain rfl : k = 0 := by omega
      rw [e]
      show (UInt8.ofNat c).toNat = _
      rw [ofN _ (by omega)]
      simp [byt]
    · simp only [Lib.runeLen]; (repeat' split) <;> omega
  · have e : Utf8.encode (c : Int) = ⟨#[UInt8.ofNat (192 + c / 64), UInt8.ofNat (128 + c % 64)]⟩ := by
      unfold Utf8.encode
      simp only [hv, if_true, Int.toNat_natCast]
      rw [if_neg (by omega), if_pos (by omega)]
    refine ⟨by rw [e]; rfl, fun k hk => ?_, ?_, hi⟩
    · have : k = 0 ∨ k = 1 := by omega
      rw [e]
      rcases this with rfl | rfl
      · show (UInt8.ofNat _).toNat = _
        rw [ofN _ (by omega)]; simp [byt]
      · show (UInt8.ofNat _).toNat = _
        rw [ofN _ (by omega)]; simp [byt]
    · simp only [Lib.runeLen]; (repeat' split) <;> omega
  · have e : Utf8.encode (c : Int) = ⟨#[UInt8.ofNat (224 + c / 4096), UInt8.ofNat (128 + c / 64 % 64), UInt8.ofNat (128 + c % 64)]⟩ := by
      unfold Utf8.encode
      simp only [hv, if_true, Int.toNat_natCast]
      rw [if_neg (by omega), if_neg (by omega), if_pos (by omega)]
    refine ⟨by rw [e]; rfl, fun k hk => ?_, ?_, hi⟩
    · have : k = 0 ∨ k = 1 ∨ k = 2 := by omega
      rw [e]
      rcases this with rfl | rfl | rfl
      all_goals
        show (UInt8.ofNat _).toNat = _
        rw [ofN _ (by omega)]; simp [byt]
    · simp only [Lib.runeLen]; (repeat' split) <;> omega
  · have e : Utf8.encode (c : Int) = ⟨#[UInt8.ofNat (224 + c / 4096), UInt8.ofNat (128 + c / 64 % 64), UInt8.ofNat (128 + c % 64)]⟩ := by
      unfold Utf8.encode
      simp only [hv, if_true, Int.toNat_natCast]
      rw [if_neg (by omega), if_neg (by omega), if_pos (by omega)]
    refine ⟨by rw [e]; rfl, fun k hk => ?_, ?_, hi⟩
    · have : k = 0 ∨ k = 1 ∨ k = 2 := by omega
      rw [e]
      rcases this with rfl | rfl | rfl
      all_goals
        show (UInt8.ofNat _).toNat = _
        rw [ofN _ (by omega)]; simp [byt]
    · simp only [Lib.runeLen]; (repeat' split) <;> omega
  · have e : Utf8.encode (c : Int) = ⟨#[UInt8.ofNat (240 + c / 262144), UInt8.ofNat (128 + c / 4096 % 64), UInt8.ofNat (128 + c / 64 % 64), UInt8.ofNat (128 + c % 64)]⟩ := by
      unfold Utf8.encode
      simp only [hv, if_true, Int.toNat_natCast]
      rw [if_neg (by omega), if_neg (by omega), if_neg (by omega)]
    refine ⟨by rw [e]; rfl, fun k hk => ?_, ?_, hi⟩
    · have : k = 0 ∨ k = 1 ∨ k = 2 ∨ k = 3 := by omega
      rw [e]
      rcases this with rfl | rfl | rfl | rfl
      all_goals
        show (UInt8.ofNat _).toNat = _
        rw [ofN _ (by omega)]; simp [byt]
    · simp only [Lib.runeLen]; (repeat' split) <;> omega
end Go.Proofs.YtihmnibopeljaaaDoor
