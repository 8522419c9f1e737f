/-
  Units by their bytes: what the document's own reckoning comes to. Mathematics alone.
-/
import Derived.Test.YtihmnibopeljaaaDoorShown
namespace Go.Proofs.YtihmnibopeljaaaDoor
open Go

theorem bt_get (s : ByteArray) (i : Nat) (h : i < s.size) : (s[i]'h).toNat = bt s i := by
  have e : s.data.toList[i]? = some (s.data.toList[i]'(by rw [size_list]; exact h)) := List.getElem?_eq_getElem _
  unfold bt
  rw [List.getD_eq_getElem?_getD, e]
  rfl
theorem good_shape {s : ByteArray} {p : Nat} (hb : bad s p = false) : (bt s p < 128 ∧ Utf8.decode s p = (bt s p, 1)) ∨
    (1 < s.size - p ∧ bt s p / 32 = 6 ∧ bt s (p + 1) / 64 = 2 ∧ 128 ≤ bt s p % 32 * 64 + bt s (p + 1) % 64 ∧ Utf8.decode s p = (bt s p % 32 * 64 + bt s (p + 1) % 64, 2)) ∨
    (2 < s.size - p ∧ bt s p / 16 = 14 ∧ bt s (p + 1) / 64 = 2 ∧ bt s (p + 2) / 64 = 2 ∧ 2048 ≤ bt s p % 16 * 4096 + bt s (p + 1) % 64 * 64 + bt s (p + 2) % 64 ∧ Utf8.decode s p = (bt s p % 16 * 4096 + bt s (p + 1) % 64 * 64 + bt s (p + 2) % 64, 3)) ∨
    (3 < s.size - p ∧ bt s p / 8 = 30 ∧ bt s (p + 1) / 64 = 2 ∧ bt s (p + 2) / 64 = 2 ∧ bt s (p + 3) / 64 = 2 ∧ 65536 ≤ bt s p % 8 * 262144 + bt s (p + 1) % 64 * 4096 + bt s (p + 2) % 64 * 64 + bt s (p + 3) % 64 ∧ Utf8.decode s p = (bt s p % 8 * 262144 + bt s (p + 1) % 64 * 4096 + bt s (p + 2) % 64 * 64 + bt s (p + 3) % 64, 4)) := by
  have hn : Utf8.decode s p ≠ (65533, 1) := by simpa [bad] using hb
  have e := dec_eq s p
  rcases decN_cases (s.size - p) (bt s p) (bt s (p + 1)) (bt s (p + 2)) (bt s (p + 3)) with k | ⟨a1, k⟩ | ⟨a1, a2, a3, a4, k⟩ | ⟨a1, a2, a3, a4, a5, a6, k⟩ | ⟨a1, a2, a3, a4, a5, a6, a7, k⟩
  · rw [k] at e; exact absurd e hn
  · rw [k] at e; exact .inl ⟨a1, e⟩
  · rw [k] at e; exact .inr (.inl ⟨a1, a2, a3, a4, e⟩)
  · rw [k] at e; exact .inr (.inr (.inl ⟨a1, a2, a3, a4, a5, e⟩))
  · rw [k] at e; exact .inr (.inr (.inr ⟨a1, a2, a3, a4, a5, a6, e⟩))

/-- What the leading byte says: how many bytes, and what it brings. -/
def Lead (b0 n : Nat) (c0 : Int) : Prop := (n = 2 ∧ 192 ≤ b0 ∧ b0 < 224 ∧ c0 = b0 - 192) ∨ (n = 3 ∧ 224 ≤ b0 ∧ b0 < 240 ∧ c0 = b0 - 224) ∨ (n = 4 ∧ 240 ≤ b0 ∧ b0 < 248 ∧ c0 = b0 - 240)
/-- What is reckoned so far. -/
def cvF (s : ByteArray) (p : Nat) (c0 : Int) : Nat → Int
  | 0 => c0
  | j + 1 => 64 * cvF s p c0 j + bt s (p + (j + 1)) - 128
def Conts (s : ByteArray) (p k : Nat) : Prop := ∀ j, 1 ≤ j → j < k → 128 ≤ bt s (p + j) ∧ bt s (p + j) ≤ 191
theorem cvF_range {s : ByteArray} {p : Nat} {c0 : Int} (h0 : 0 ≤ c0) (h1 : c0 ≤ 31) : ∀ j, j ≤ 3 → Conts s p (j + 1) → 0 ≤ cvF s p c0 j ∧ cvF s p c0 j < 16777216
  | 0, _, _ => by simp [cvF]; omega
  | 1, _, hc => by have c1 := hc 1 (by omega) (by omega); simp only [cvF, Nat.zero_add]; omega
  | 2, _, hc => by have c1 := hc 1 (by omega) (by omega); have c2 := hc 2 (by omega) (by omega); simp only [cvF, Nat.zero_add, Nat.reduceAdd]; omega
  | 3, _, hc => by have c1 := hc 1 (by omega) (by omega); have c2 := hc 2 (by omega) (by omega); have c3 := hc 3 (by omega) (by omega); simp only [cvF, Nat.zero_add, Nat.reduceAdd]; omega

theorem bad_lead {s : ByteArray} {p : Nat} (h : (128 ≤ bt s p ∧ bt s p < 192) ∨ 248 ≤ bt s p) : bad s p = true := by
  rcases hb : bad s p with _ | _
  · exfalso
    have := bt_lt s p
    rcases good_shape hb with ⟨a1, _⟩ | ⟨_, a2, _⟩ | ⟨_, a2, _⟩ | ⟨_, a2, _⟩ <;> omega
  · rfl
theorem bad_short {s : ByteArray} {p n : Nat} {c0 : Int} (h : Lead (bt s p) n c0) (hn : s.size - p < n) : bad s p = true := by
  rcases hb : bad s p with _ | _
  · exfalso
    rcases h with h | h | h <;> rcases good_shape hb with ⟨a1, _⟩ | ⟨_, a2, _⟩ | ⟨_, a2, _⟩ | ⟨_, a2, _⟩ <;> omega
  · rfl
theorem bad_cont {s : ByteArray} {p n j : Nat} {c0 : Int} (h : Lead (bt s p) n c0) (h1 : 1 ≤ j) (hj : j < n) (hb' : bt s (p + j) < 128 ∨ 191 < bt s (p + j)) : bad s p = true := by
  rcases hb : bad s p with _ | _
  · exfalso
    have hj' : j = 1 ∨ j = 2 ∨ j = 3 := by rcases h with h | h | h <;> omega
    rcases hj' with rfl | rfl | rfl <;> rcases h with h | h | h <;> rcases good_shape hb with ⟨a1, _⟩ | ⟨_, a2, a3, _⟩ | ⟨_, a2, a3, a4, _⟩ | ⟨_, a2, a3, a4, a5, _⟩ <;> omega
  · rfl
/-- If it is a character, it is the one that was reckoned. -/
theorem good_val {s : ByteArray} {p n : Nat} {c0 : Int} (h : Lead (bt s p) n c0) (hc : Conts s p n) (hb : bad s p = false) : (Utf8.decode s p).1 = cvF s p c0 (n - 1) ∧ wd s p = n := by
  unfold wd
  rcases h with ⟨rfl, h⟩ | ⟨rfl, h⟩ | ⟨rfl, h⟩
  · have c1 := hc 1 (by omega) (by omega)
    rcases good_shape hb with ⟨a1, e⟩ | ⟨_, a2, a3, _, e⟩ | ⟨_, a2, a3, a4, _, e⟩ | ⟨_, a2, a3, a4, a5, _, e⟩
    · omega
    · have e2 : cvF s p c0 (2 - 1) = 64 * c0 + bt s (p + 1) - 128 := rfl
      rw [e, e2]
      refine ⟨?_, rfl⟩
      simp only
      omega
    · omega
    · omega
  · have c1 := hc 1 (by omega) (by omega)
    have c2 := hc 2 (by omega) (by omega)
    rcases good_shape hb with ⟨a1, e⟩ | ⟨_, a2, a3, _, e⟩ | ⟨_, a2, a3, a4, _, e⟩ | ⟨_, a2, a3, a4, a5, _, e⟩
    · omega
    · omega
    · have e2 : cvF s p c0 (3 - 1) = 64 * (64 * c0 + bt s (p + 1) - 128) + bt s (p + 2) - 128 := rfl
      rw [e, e2]
      refine ⟨?_, rfl⟩
      simp only
      omega
    · omega
  · have c1 := hc 1 (by omega) (by omega)
    have c2 := hc 2 (by omega) (by omega)
    have c3 := hc 3 (by omega) (by omega)
    rcases good_shape hb with ⟨a1, e⟩ | ⟨_, a2, a3, _, e⟩ | ⟨_, a2, a3, a4, _, e⟩ | ⟨_, a2, a3, a4, a5, _, e⟩
    · omega
    · omega
    · omega
    · have e2 : cvF s p c0 (4 - 1) = 64 * (64 * (64 * c0 + bt s (p + 1) - 128) + bt s (p + 2) - 128) + bt s (p + 3) - 128 := rfl
      rw [e, e2]
      refine ⟨?_, rfl⟩
      simp only
      omega

/-- A character's bytes are read as it. -/
theorem sl_bt {s : ByteArray} {p n i : Nat} {l : List UInt8} (h : sl s p n = l) (hi : i < l.length) : bt s (p + i) = (l[i]).toNat ∧ i < s.size - p := by
  have hl : i < ((s.data.toList.drop p).take n).length := by rw [show (s.data.toList.drop p).take n = l from h]; exact hi
  have hl' := hl
  rw [List.length_take, List.length_drop, size_list] at hl'
  have e : l[i]? = s.data.toList[p + i]? := by
    rw [← h, sl, List.getElem?_take_of_lt (by omega), List.getElem?_drop]
  rw [List.getElem?_eq_getElem hi] at e
  refine ⟨?_, by omega⟩
  unfold bt
  rw [List.getD_eq_getElem?_getD, ← e]
  rfl
theorem dec_of_enc {s : ByteArray} {p : Nat} {c : Int} (hc : 0 ≤ c ∧ c ≤ 1114111 ∧ (c < 55296 ∨ 57343 < c)) (h : sl s p (Lib.encodeRune c).length = Lib.encodeRune c) : ((Utf8.decode s p).1 : Int) = c ∧ wd s p = (Lib.encodeRune c).length ∧ bad s p = false := by
  obtain ⟨r0, r1, r2⟩ := hc
  have key : ∀ (m : Nat), Utf8.decode s p = (c.toNat, m) → (c.toNat, m) ≠ ((65533, 1) : Nat × Nat) → ((Utf8.decode s p).1 : Int) = c ∧ wd s p = m ∧ bad s p = false := fun m e hne => by
    refine ⟨by rw [e]; simp only; omega, by unfold wd; rw [e], ?_⟩
    unfold bad
    rw [e]
    simpa using hne
  by_cases h1 : c ≤ 127
  · have hE : Lib.encodeRune c = [c].map fun x => x.toNat.toUInt8 := by rw [Lib.encodeRune, Lib.encodeRuneZ_one r0 h1]
    rw [hE] at h ⊢
    obtain ⟨b0, s0⟩ := sl_bt h (i := 0) (by simp)
    simp at b0
    refine key 1 ?_ (by simp; omega)
    rw [dec_eq]
    have : bt s p = c.toNat := by omega
    rw [this]
    unfold Lib.decodeN
    rw [if_pos (by omega)]
  by_cases h2 : c ≤ 2047
  · have hE : Lib.encodeRune c = [192 + c / 64, 128 + c % 64].map fun x => x.toNat.toUInt8 := by rw [Lib.encodeRune, Lib.encodeRuneZ_two (by omega) h2]
    rw [hE] at h ⊢
    obtain ⟨b0, s0⟩ := sl_bt h (i := 0) (by simp)
    obtain ⟨b1, s1⟩ := sl_bt h (i := 1) (by simp)
    simp at b0 b1
    refine key 2 ?_ (by simp)
    rw [dec_eq]
    have e0 : bt s p = 192 + c.toNat / 64 := by omega
    have e1 : bt s (p + 1) = 128 + c.toNat % 64 := by omega
    have hl : c.toNat ≤ 2047 := by omega
    have hg : 128 ≤ c.toNat := by omega
    rw [e0, e1]
    generalize c.toNat = m at *
    unfold Lib.decodeN
    rw [if_neg (by omega), if_pos (by omega), if_pos (by omega)]
    apply Prod.ext <;> simp only <;> omega
  by_cases h3 : c ≤ 65535
  · have hE : Lib.encodeRune c = [224 + c / 4096, 128 + c / 64 % 64, 128 + c % 64].map fun x => x.toNat.toUInt8 := by rw [Lib.encodeRune, Lib.encodeRuneZ_three (by omega)]
    rw [hE] at h ⊢
    obtain ⟨b0, s0⟩ := sl_bt h (i := 0) (by simp)
    obtain ⟨b1, s1⟩ := sl_bt h (i := 1) (by simp)
    obtain ⟨b2, s2⟩ := sl_bt h (i := 2) (by simp)
    simp at b0 b1 b2
    refine key 3 ?_ (by simp)
    rw [dec_eq]
    have e0 : bt s p = 224 + c.toNat / 4096 := by omega
    have e1 : bt s (p + 1) = 128 + c.toNat / 64 % 64 := by omega
    have e2 : bt s (p + 2) = 128 + c.toNat % 64 := by omega
    have hl : c.toNat ≤ 65535 := by omega
    have hg : 2048 ≤ c.toNat := by omega
    have hv : c.toNat < 55296 ∨ 57344 ≤ c.toNat := by omega
    rw [e0, e1, e2]
    generalize c.toNat = m at *
    unfold Lib.decodeN
    rw [if_neg (by omega), if_neg (by omega), if_pos (by omega), if_pos (by omega)]
    apply Prod.ext <;> simp only <;> omega
  · have hE : Lib.encodeRune c = [240 + c / 262144, 128 + c / 4096 % 64, 128 + c / 64 % 64, 128 + c % 64].map fun x => x.toNat.toUInt8 := by rw [Lib.encodeRune, Lib.encodeRuneZ_four (by omega) (by omega)]
    rw [hE] at h ⊢
    obtain ⟨b0, s0⟩ := sl_bt h (i := 0) (by simp)
    obtain ⟨b1, s1⟩ := sl_bt h (i := 1) (by simp)
    obtain ⟨b2, s2⟩ := sl_bt h (i := 2) (by simp)
    obtain ⟨b3, s3⟩ := sl_bt h (i := 3) (by simp)
    simp at b0 b1 b2 b3
    refine key 4 ?_ (by simp)
    rw [dec_eq]
    have e0 : bt s p = 240 + c.toNat / 262144 := by omega
    have e1 : bt s (p + 1) = 128 + c.toNat / 4096 % 64 := by omega
    have e2 : bt s (p + 2) = 128 + c.toNat / 64 % 64 := by omega
    have e3 : bt s (p + 3) = 128 + c.toNat % 64 := by omega
    have hl : c.toNat ≤ 1114111 := by omega
    have hg : 65536 ≤ c.toNat := by omega
    rw [e0, e1, e2, e3]
    generalize c.toNat = m at *
    unfold Lib.decodeN
    rw [if_neg (by omega), if_neg (by omega), if_neg (by omega), if_pos (by omega), if_pos (by omega)]
    apply Prod.ext <;> simp only <;> omega
end Go.Proofs.YtihmnibopeljaaaDoor
