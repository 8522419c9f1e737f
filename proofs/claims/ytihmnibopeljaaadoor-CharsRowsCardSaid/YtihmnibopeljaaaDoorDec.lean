/-
  Units of a text in bytes, as the model's own decoding tells them: mathematics alone.
-/
import Derived.Lib.MapLaws
import Derived.Lib.RuneCountTail
import Derived.Lib.Strings
namespace Go.Proofs.YtihmnibopeljaaaDoor
open Go

/-- How many bytes the unit at a place has, and its character (-1: none). -/
def wd (s : ByteArray) (p : Nat) : Nat := (Utf8.decode s p).2
def bad (s : ByteArray) (p : Nat) : Bool := decide (Utf8.decode s p = (65533, 1))
def ch (s : ByteArray) (p : Nat) : Int := if bad s p then -1 else (Utf8.decode s p).1

/-- A place's byte. -/
def bt (s : ByteArray) (i : Nat) : Nat := (s.data.toList.getD i 0).toNat
theorem bt_lt (s : ByteArray) (i : Nat) : bt s i < 256 := UInt8.toNat_lt _
theorem size_list (s : ByteArray) : s.data.toList.length = s.size := (Lib.size_eq s).symm
theorem dec_eq (s : ByteArray) (p : Nat) : Utf8.decode s p = Lib.decodeN (s.size - p) (bt s p) (bt s (p + 1)) (bt s (p + 2)) (bt s (p + 3)) := by
  rw [Lib.decode_N, size_list]; rfl
theorem bt_out (s : ByteArray) (i : Nat) (h : s.size ≤ i) : bt s i = 0 := by
  have : s.data.toList[i]? = none := List.getElem?_eq_none (by rw [size_list]; exact h)
  simp [bt, List.getD_eq_getElem?_getD, this]
theorem wd_pos (s : ByteArray) (p : Nat) : 1 ≤ wd s p := Lib.width_pos s p
theorem dec_le (s : ByteArray) (p : Nat) : (Utf8.decode s p).1 ≤ 1114111 := Lib.rune_le s p

/-- What the decoding tells, by its bytes. -/
theorem decN_cases (n b0 b1 b2 b3 : Nat) : Lib.decodeN n b0 b1 b2 b3 = (65533, 1) ∨ (b0 < 128 ∧ Lib.decodeN n b0 b1 b2 b3 = (b0, 1)) ∨
    (1 < n ∧ b0 / 32 = 6 ∧ b1 / 64 = 2 ∧ 128 ≤ b0 % 32 * 64 + b1 % 64 ∧ Lib.decodeN n b0 b1 b2 b3 = (b0 % 32 * 64 + b1 % 64, 2)) ∨
    (2 < n ∧ b0 / 16 = 14 ∧ b1 / 64 = 2 ∧ b2 / 64 = 2 ∧ 2048 ≤ b0 % 16 * 4096 + b1 % 64 * 64 + b2 % 64 ∧ (b0 % 16 * 4096 + b1 % 64 * 64 + b2 % 64 < 55296 ∨ 57344 ≤ b0 % 16 * 4096 + b1 % 64 * 64 + b2 % 64) ∧ Lib.decodeN n b0 b1 b2 b3 = (b0 % 16 * 4096 + b1 % 64 * 64 + b2 % 64, 3)) ∨
    (3 < n ∧ b0 / 8 = 30 ∧ b1 / 64 = 2 ∧ b2 / 64 = 2 ∧ b3 / 64 = 2 ∧ 65536 ≤ b0 % 8 * 262144 + b1 % 64 * 4096 + b2 % 64 * 64 + b3 % 64 ∧ b0 % 8 * 262144 + b1 % 64 * 4096 + b2 % 64 * 64 + b3 % 64 ≤ 1114111 ∧ Lib.decodeN n b0 b1 b2 b3 = (b0 % 8 * 262144 + b1 % 64 * 4096 + b2 % 64 * 64 + b3 % 64, 4)) := by
  unfold Lib.decodeN
  by_cases h0 : b0 < 128
  · rw [if_pos h0]; exact .inr (.inl ⟨h0, rfl⟩)
  rw [if_neg h0]
  split
  · rename_i h
    split
    · rename_i g
      exact .inr (.inr (.inl ⟨h.2.1, h.1, h.2.2, g, rfl⟩))
    · exact .inl rfl
  split
  · rename_i h
    split
    · rename_i g
      exact .inr (.inr (.inr (.inl ⟨h.2.2.1, h.1, h.2.1.2, h.2.2.2, g.1, by omega, rfl⟩)))
    · exact .inl rfl
  split
  · rename_i h
    split
    · rename_i g
      exact .inr (.inr (.inr (.inr ⟨h.2.2.2.1, h.1, h.2.1.2, h.2.2.1.2, h.2.2.2.2, g.1, by omega, rfl⟩)))
    · exact .inl rfl
  exact .inl rfl

theorem wd_le (s : ByteArray) (p : Nat) (h : p < s.size) : wd s p ≤ 4 ∧ p + wd s p ≤ s.size := by
  unfold wd
  rw [dec_eq]
  rcases decN_cases (s.size - p) (bt s p) (bt s (p + 1)) (bt s (p + 2)) (bt s (p + 3)) with e | ⟨_, e⟩ | ⟨_, _, _, _, e⟩ | ⟨_, _, _, _, _, _, e⟩ | ⟨_, _, _, _, _, _, _, e⟩
  all_goals (rw [e]; simp only; omega)
theorem ch_bad {s : ByteArray} {p : Nat} (h : bad s p = true) : ch s p = -1 ∧ wd s p = 1 ∧ (Utf8.decode s p).1 = 65533 := by
  have e : Utf8.decode s p = (65533, 1) := by simpa [bad] using h
  simp [ch, h, wd, e]
theorem ch_good {s : ByteArray} {p : Nat} (h : bad s p = false) : ch s p = (Utf8.decode s p).1 := by simp [ch, h]
theorem ch_neg {s : ByteArray} {p : Nat} : ch s p < 0 ↔ bad s p = true := by
  unfold ch
  split
  · rename_i h; simp [h]
  · rename_i h
    have := Int.natCast_nonneg (Utf8.decode s p).1
    simp [h]

/-- The bytes of U+FFFD tell it from a byte that is no character. -/
theorem prefix3 (l : List UInt8) (a b c : UInt8) : Lib.hasPrefix l [a, b, c] = (decide (2 < l.length) && l.getD 0 0 == a && l.getD 1 0 == b && l.getD 2 0 == c) := by
  unfold Lib.hasPrefix
  match l with
  | [] => simp [List.isPrefixOf]
  | [x] => simp [List.isPrefixOf]
  | [x, y] => simp [List.isPrefixOf]
  | x :: y :: z :: t =>
    rw [Bool.eq_iff_iff]
    simp [List.isPrefixOf]
    grind
theorem ext_list (s : ByteArray) (p : Nat) : (s.extract p s.size).data.toList = s.data.toList.drop p := by
  rw [ByteArray.data_extract, Array.toList_extract, List.extract_eq_take_drop, List.take_of_length_le (by rw [List.length_drop, size_list]; omega)]
theorem bad_iff (s : ByteArray) (p : Nat) (h : p < s.size) (hr : (Utf8.decode s p).1 = 65533) : Lib.hasPrefix (s.data.toList.drop p) [239, 191, 189] = !bad s p := by
  rw [prefix3]
  have g0 : (s.data.toList.drop p).getD 0 0 = s.data.toList.getD p 0 := by simp [List.getD_eq_getElem?_getD]
  have g1 : (s.data.toList.drop p).getD 1 0 = s.data.toList.getD (p + 1) 0 := by simp [List.getD_eq_getElem?_getD]
  have g2 : (s.data.toList.drop p).getD 2 0 = s.data.toList.getD (p + 2) 0 := by simp [List.getD_eq_getElem?_getD]
  rw [g0, g1, g2]
  have toN : ∀ (i : Nat) (k : UInt8), (s.data.toList.getD i 0 == k) = decide (bt s i = k.toNat) := fun i k => by
    unfold bt
    rw [Bool.eq_iff_iff]
    simp [UInt8.toNat_inj]
  rw [toN, toN, toN]
  have hl : (s.data.toList.drop p).length = s.size - p := by rw [List.length_drop, size_list]
  rw [hl]
  have e := dec_eq s p
  rw [e] at hr
  unfold bad
  rw [e]
  have q0 := bt_lt s p
  have q1 := bt_lt s (p + 1)
  have q2 := bt_lt s (p + 2)
  have q3 := bt_lt s (p + 3)
  rw [Bool.eq_iff_iff]
  simp only [Bool.and_eq_true, decide_eq_true_eq, Bool.not_eq_true', decide_eq_false_iff_not]
  show (((2 < s.size - p ∧ bt s p = 239) ∧ bt s (p + 1) = 191) ∧ bt s (p + 2) = 189) ↔ _
  rcases decN_cases (s.size - p) (bt s p) (bt s (p + 1)) (bt s (p + 2)) (bt s (p + 3)) with k | ⟨_, k⟩ | ⟨_, _, _, _, k⟩ | ⟨_, _, _, _, _, _, k⟩ | ⟨_, _, _, _, _, _, _, k⟩
  · rw [k]
    simp only [not_true, iff_false]
    rintro ⟨⟨⟨h1, h2⟩, h3⟩, h4⟩
    rw [h2, h3, h4] at k
    unfold Lib.decodeN at k
    simp at k
    omega
  · rw [k] at hr ⊢
    simp only at hr
    omega
  · rw [k] at hr ⊢
    simp only at hr
    omega
  · rw [k] at hr ⊢
    simp only at hr
    simp
    omega
  · rw [k] at hr ⊢
    simp only at hr
    omega

/-- The units from a place on. -/
def uFrom (s : ByteArray) : Nat → Nat → List (Nat × Int)
  | 0, _ => []
  | f + 1, p => if p < s.size then (p, ch s p) :: uFrom s f (p + wd s p) else []
def us (s : ByteArray) : List (Nat × Int) := uFrom s s.size 0
theorem uFrom_end (s : ByteArray) (f p : Nat) (h : ¬ p < s.size) : uFrom s f p = [] := by cases f <;> simp [uFrom, h]
theorem uFrom_more (s : ByteArray) (f p : Nat) (h : p < s.size) : uFrom s (f + 1) p = (p, ch s p) :: uFrom s f (p + wd s p) := by simp [uFrom, h]
theorem uFrom_length (s : ByteArray) : ∀ f p, (uFrom s f p).length ≤ s.size - p
  | 0, _ => by simp [uFrom]
  | f + 1, p => by
    unfold uFrom
    split
    · have := uFrom_length s f (p + wd s p)
      have := wd_pos s p
      simp; omega
    · simp
theorem us_length (s : ByteArray) : (us s).length ≤ s.size := by have := uFrom_length s s.size 0; unfold us; omega
end Go.Proofs.YtihmnibopeljaaaDoor
