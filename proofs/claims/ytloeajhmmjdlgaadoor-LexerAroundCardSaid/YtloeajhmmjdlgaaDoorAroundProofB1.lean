/-
  What stands within a group is read as it is alone: mathematics. What stands within a group is read as it is alone: intervals, tokens, all: mathematics.
-/
import Derived.Test.YtloeajhmmjdlgaaDoorC18
namespace Go.Proofs.YtloeajhmmjdlgaaDoor
open Go

/-- A pattern, and it within a group. -/
def Arnd (s s' : ByteArray) : Prop := s'.data.toList = [92, 40] ++ s.data.toList ++ [92, 41]
section
variable {s s' : ByteArray} (h : Arnd s s')
include h
theorem ar_size : s'.size = s.size + 4 := by
  have := congrArg List.length h
  rw [size_list] at this
  simp only [List.length_append, List.length_cons, List.length_nil, size_list] at this
  omega
theorem ar_get (p : Nat) (hp : p < s.size) : s'.data.toList[p + 2]? = s.data.toList[p]? := by
  rw [h, List.getElem?_append_left (by simp; omega), List.getElem?_append_right (by simp)]
  simp
theorem ar_bt (p : Nat) (hp : p < s.size) : bt s' (p + 2) = bt s p := by
  unfold bt
  rw [List.getD_eq_getElem?_getD, List.getD_eq_getElem?_getD, ar_get h p hp]
theorem ar_e0 : bt s' (s.size + 2) = 92 := by
  unfold bt
  rw [List.getD_eq_getElem?_getD, h, List.getElem?_append_right (by simp)]
  simp
theorem ar_e1 : bt s' (s.size + 3) = 41 := by
  unfold bt
  rw [List.getD_eq_getElem?_getD, h, List.getElem?_append_right (by simp)]
  simp only [List.length_append, List.length_cons, List.length_nil, size_list]
  rw [show s.size + 3 - (0 + 1 + 1 + s.size) = 1 by omega]
  rfl
theorem ar_b0 : bt s' 0 = 92 := by
  unfold bt
  rw [List.getD_eq_getElem?_getD, h]
  simp
theorem ar_b1 : bt s' 1 = 40 := by
  unfold bt
  rw [List.getD_eq_getElem?_getD, h]
  simp
theorem ar_one {p : Nat} (hp : p ≤ s.size) {x : UInt8} (hx : x ≠ 92 ∨ p < s.size) : sees s' (p + 2) [x] = sees s p [x] := by
  have hz := ar_size h
  rw [Bool.eq_iff_iff, sees_one, sees_one]
  rcases Nat.lt_or_ge p s.size with g | g
  · rw [ar_bt h p g]
    constructor
    · rintro ⟨-, k⟩; exact ⟨g, k⟩
    · rintro ⟨-, k⟩; exact ⟨by omega, k⟩
  · have e : p = s.size := by omega
    subst e
    rw [ar_e0 h]
    constructor
    · rintro ⟨-, k⟩
      rcases hx with hx | hx
      · exact absurd (UInt8.toNat_inj.1 (by rw [← k]; rfl)) hx
      · omega
    · rintro ⟨k, -⟩; omega
theorem ar_two {p : Nat} (hp : p ≤ s.size) {x y : UInt8} (hy : y ≠ 92) (hxy : x ≠ 92 ∨ y ≠ 41 ∨ p < s.size) : sees s' (p + 2) [x, y] = sees s p [x, y] := by
  have hz := ar_size h
  rw [Bool.eq_iff_iff, sees_two, sees_two]
  rcases Nat.lt_or_ge (p + 1) s.size with g | g
  · rw [ar_bt h p (by omega), show p + 2 + 1 = (p + 1) + 2 by omega, ar_bt h (p + 1) g]
    constructor
    · rintro ⟨-, k⟩; exact ⟨g, k⟩
    · rintro ⟨-, k⟩; exact ⟨by omega, k⟩
  · constructor
    · rintro ⟨-, k1, k2⟩
      exfalso
      rcases Nat.lt_or_ge p s.size with e | e
      · rw [show p + 2 + 1 = s.size + 2 by omega, ar_e0 h] at k2
        exact hy (UInt8.toNat_inj.1 (by rw [← k2]; rfl))
      · have e : p = s.size := by omega
        subst e
        rw [ar_e0 h] at k1
        rw [show s.size + 2 + 1 = s.size + 3 by omega, ar_e1 h] at k2
        have a1 : x = 92 := UInt8.toNat_inj.1 (by rw [← k1]; rfl)
        have a2 : y = 41 := UInt8.toNat_inj.1 (by rw [← k2]; rfl)
        rcases hxy with q | q | q
        · exact q a1
        · exact q a2
        · omega
    · rintro ⟨k, -⟩; omega
theorem ar_dec {p : Nat} (hp : p < s.size) : Utf8.decode s' (p + 2) = Utf8.decode s p := by
  have hz := ar_size h
  rw [dec_eq, dec_eq, ar_bt h p hp]
  have e1 : 1 < s.size - p → bt s' (p + 2 + 1) = bt s (p + 1) := fun g => by rw [show p + 2 + 1 = p + 1 + 2 by omega, ar_bt h (p + 1) (by omega)]
  have e2 : 2 < s.size - p → bt s' (p + 2 + 2) = bt s (p + 2) := fun g => ar_bt h (p + 2) (by omega)
  have e3 : 3 < s.size - p → bt s' (p + 2 + 3) = bt s (p + 3) := fun g => by rw [show p + 2 + 3 = p + 3 + 2 by omega, ar_bt h (p + 3) (by omega)]
  have n1 : s.size - p = 1 → bt s' (p + 2 + 1) / 64 = 1 := fun g => by rw [show p + 2 + 1 = s.size + 2 by omega, ar_e0 h]
  have n2 : s.size - p = 2 → bt s' (p + 2 + 2) / 64 = 1 := fun g => by rw [show p + 2 + 2 = s.size + 2 by omega, ar_e0 h]
  have n3 : s.size - p = 3 → bt s' (p + 2 + 3) / 64 = 1 := fun g => by rw [show p + 2 + 3 = s.size + 2 by omega, ar_e0 h]
  rw [show s'.size - (p + 2) = (s.size - p) + 2 by omega]
  have hn : 1 ≤ s.size - p := by omega
  generalize s.size - p = n at *
  generalize bt s' (p + 2 + 1) = c1 at *
  generalize bt s' (p + 2 + 2) = c2 at *
  generalize bt s' (p + 2 + 3) = c3 at *
  generalize bt s (p + 1) = d1 at *
  generalize bt s (p + 2) = d2 at *
  generalize bt s (p + 3) = d3 at *
  generalize bt s p = b0 at *
  unfold Lib.decodeN
  have a1 : (1 < n + 2 ∧ c1 / 64 = 2) ↔ (1 < n ∧ d1 / 64 = 2) := by
    rcases Nat.lt_or_ge 1 n with g | g
    · rw [e1 g]; omega
    · have := n1 (by omega); omega
  have a2 : (1 < n ∧ d1 / 64 = 2) → ((2 < n + 2 ∧ c2 / 64 = 2) ↔ (2 < n ∧ d2 / 64 = 2)) := by
    rintro ⟨k, -⟩
    rcases Nat.lt_or_ge 2 n with g | g
    · rw [e2 g]; omega
    · have := n2 (by omega); omega
  have a3 : (2 < n ∧ d2 / 64 = 2) → ((3 < n + 2 ∧ c3 / 64 = 2) ↔ (3 < n ∧ d3 / 64 = 2)) := by
    rintro ⟨k, -⟩
    rcases Nat.lt_or_ge 3 n with g | g
    · rw [e3 g]; omega
    · have := n3 (by omega); omega
  simp only [a1]
  by_cases b1 : 1 < n ∧ d1 / 64 = 2
  · simp only [a2 b1]
    have f1 := e1 b1.1
    by_cases b2 : 2 < n ∧ d2 / 64 = 2
    · simp only [a3 b2]
      have f2 := e2 b2.1
      by_cases b3 : 3 < n ∧ d3 / 64 = 2
      · rw [f1, f2, e3 b3.1]
      · rw [f1, f2]
        simp only [b3, and_false, if_false]
    · rw [f1]
      simp only [b2, and_false, false_and, if_false]
  · simp only [b1, and_false, false_and, if_false]
theorem ar_un (m : Md) {p : Nat} (hp : p < s.size) : un m s' (p + 2) = un m s p := by
  unfold un ch wd bad
  rw [ar_dec h hp, ar_bt h p hp]
theorem ar_ext {a b : Nat} (hb : b ≤ s.size) : s'.extract (a + 2) (b + 2) = s.extract a b := by
  apply ByteArray.ext
  apply Array.ext'
  rw [ByteArray.data_extract, ByteArray.data_extract, Array.toList_extract, Array.toList_extract, List.extract_eq_take_drop, List.extract_eq_take_drop]
  apply List.ext_getElem?
  intro i
  rw [List.getElem?_take, List.getElem?_take, List.getElem?_drop, List.getElem?_drop]
  rw [show b + 2 - (a + 2) = b - a by omega]
  split
  · rename_i hi
    rw [show a + 2 + i = (a + i) + 2 by omega, ar_get h (a + i) (by omega)]
  · rfl
/-- What is read within the group is what is read alone, so many bytes further on; or it is wrong for the end. -/
def Sh {α : Type} (r r' : Rs (α × Nat)) : Prop := match r with
  | .error (c, a) => (c = 31 ∨ c = 33 ∨ c = 36) ∨ r' = .error (c, a + 2)
  | .ok (x, q) => r' = .ok (x, q + 2)
omit h in
theorem Sh.err {α : Type} {c a : Nat} {r' : Rs (α × Nat)} (k : r' = .error (c, a + 2)) : Sh (.error (c, a)) r' := .inr k
omit h in
theorem Sh.end_ {α : Type} {c a : Nat} {r' : Rs (α × Nat)} (k : c = 31 ∨ c = 33 ∨ c = 36) : Sh (.error (c, a)) r' := .inl k
theorem ar_chr (m : Md) {p : Nat} (hp : p < s.size) : Sh (chr m s p) (chr m s' (p + 2)) := by
  unfold chr
  rw [ar_un h m hp]
  split
  · exact .err rfl
  · show _ = _
    rw [show p + 2 + (un m s p).2 = p + (un m s p).2 + 2 by omega]
theorem ar_wit {o p k e : Nat} (hp : p + 1 < s.size) (hk : k ≤ 1) (hw : wit s o p k = .ok e) : wit s' (o + 2) (p + 2) k = .ok (e + 2) := by
  have hz := ar_size h
  have hl := wit_le hw
  unfold wit at hw ⊢
  rw [show p + 2 + 1 = p + 1 + 2 by omega, ar_bt h (p + 1) hp]
  split at hw
  · cases hw
  · rename_i x hx
    cases hw
    obtain ⟨q1, q2, q3⟩ := fnd_some hx
    have hm : p + 2 + 2 + min k (s'.size - (p + 2 + 2)) = p + 2 + min k (s.size - (p + 2)) + 2 := by omega
    rw [hm, fnd_is (e := e + 2) (by simp) (by omega) (by rw [ar_two h (by omega) (by decide) (.inr (.inl (by decide)))]; exact q2) fun j hj1 hj2 => by
      obtain ⟨i, rfl⟩ : ∃ i, j = i + 2 := ⟨j - 2, by omega⟩
      rw [ar_two h (by omega) (by decide) (.inr (.inl (by decide)))]
      exact q3 i (by omega) (by omega)]
omit h in
theorem wit_err {o p k : Nat} {e : Nat × Nat} (hw : wit s o p k = .error e) : e.1 = 33 := by
  unfold wit at hw
  split at hw
  · cases hw; rfl
  · cases hw
theorem ar_elem (m : Md) (o : Nat) {p : Nat} (hp : p + 1 < s.size) : Sh (elem m s o p) (elem m s' (o + 2) (p + 2)) := by
  unfold elem
  cases hw : wit s o p 1 with
  | error e => exact .end_ (.inr (.inl (wit_err hw)))
  | ok e =>
    have hl := wit_le hw
    rw [ar_wit h hp (by omega) hw]
    simp only
    rw [ar_ext h (by omega), show e + 2 - (p + 2 + 2) = e - (p + 2) by omega]
    split
    · exact .err rfl
    · show _ = _
      rfl
theorem ar_endI (m : Md) (o : Nat) {p : Nat} (hp : p ≤ s.size) : Sh (endI m s o p) (endI m s' (o + 2) (p + 2)) := by
  have hz := ar_size h
  unfold endI
  by_cases hq : p = s.size
  · rw [if_pos hq]; exact .end_ (.inr (.inl rfl))
  rw [if_neg hq, if_neg (show ¬ p + 2 = s'.size by omega), ar_two h hp (by decide) (.inl (by decide))]
  split
  · rename_i hs
    exact ar_elem h m o (by have := sees_two.1 hs; omega)
  · exact ar_chr h m (by omega)
theorem ar_spn (m : Md) (o : Nat) {p : Nat} (hp : p ≤ s.size) (ho : o ≤ s.size) : Sh (spn m s o p) (spn m s' (o + 2) (p + 2)) := by
  unfold spn
  have h1 := ar_endI h m o hp
  have h2 := endI_rng m s o p ho hp
  cases he : endI m s o p with
  | error e =>
    rw [he] at h1
    rcases h1 with k | k
    · exact .end_ k
    · rw [k]; exact .err rfl
  | ok x =>
    obtain ⟨lo, q⟩ := x
    rw [he] at h1 h2
    have hq : q ≤ s.size := h2.2
    rw [show endI m s' (o + 2) (p + 2) = .ok (lo, q + 2) from h1]
    simp only
    rw [ar_two h hq (by decide) (.inl (by decide)), ar_one h hq (.inl (by decide))]
    split
    · show _ = _; rfl
    · rename_i hx
      have hs : sees s q [45] = true := by
        cases hx2 : sees s q [45] with
        | true => rfl
        | false => simp [hx2] at hx
      have hl := sees_len hs (by simp)
      simp at hl
      rw [show q + 2 + 1 = q + 1 + 2 by omega, ar_two h (by omega) (by decide) (.inl (by decide)), ar_two h (by omega) (by decide) (.inl (by decide))]
      split
      · exact .err rfl
      · have h3 := ar_endI h m o (p := q + 1) (by omega)
        cases hf : endI m s o (q + 1) with
        | error e =>
          rw [hf] at h3
          rcases h3 with k | k
          · exact .end_ k
          · rw [k]; exact .err rfl
        | ok y =>
          obtain ⟨hi, r⟩ := y
          rw [hf] at h3
          rw [show endI m s' (o + 2) (q + 1 + 2) = .ok (hi, r + 2) from h3]
          simp only
          split
          · exact .err rfl
          · show _ = _; rfl
theorem ar_nam (o : Nat) {p : Nat} (hp : p + 1 < s.size) : Sh (nam s o p) (nam s' (o + 2) (p + 2)) := by
  unfold nam
  cases hw : wit s o p 0 with
  | error e => exact .end_ (.inr (.inl (wit_err hw)))
  | ok e =>
    have hl := wit_le hw
    rw [ar_wit h hp (by omega) hw]
    simp only
    rw [ar_ext h (by omega)]
    split
    · show _ = _; rfl
    · exact .err rfl
theorem ar_sgl (m : Md) (o : Nat) {p : Nat} (hp : p ≤ s.size) (ho : o ≤ s.size) : Sh (sgl m s o p) (sgl m s' (o + 2) (p + 2)) := by
  unfold sgl
  rw [ar_two h hp (by decide) (.inl (by decide)), ar_two h hp (by decide) (.inl (by decide))]
  split
  · rename_i hs
    exact ar_nam h o (by have := sees_two.1 hs; omega)
  split
  · rename_i hs
    have h1 := ar_elem h m o (p := p) (by have := sees_two.1 hs; omega)
    cases he : elem m s o p with
    | error e =>
      rw [he] at h1
      rcases h1 with k | k
      · exact .end_ k
      · rw [k]; exact .err rfl
    | ok x =>
      rw [he] at h1
      rw [show elem m s' (o + 2) (p + 2) = .ok (x.1, x.2 + 2) from h1]
      show _ = _
      rfl
  · exact ar_spn h m o hp ho
theorem ar_itm (m : Md) (o : Nat) {p : Nat} (hp : p ≤ s.size) (ho : o ≤ s.size) : Sh (itm m s o p) (itm m s' (o + 2) (p + 2)) := by
  have hz := ar_size h
  unfold itm
  rw [ar_one h hp (.inl (by decide)), ar_two h hp (by decide) (.inl (by decide))]
  split
  · exact ar_sgl h m o hp ho
  split
  · exact .end_ (.inr (.inl rfl))
  · rename_i hx _
    have hs : sees s p [45] = true := by
      cases hx2 : sees s p [45] with
      | true => rfl
      | false => simp [hx2] at hx
    have hl := sees_len hs (by simp)
    simp at hl
    rw [if_neg (show ¬ p + 2 + 1 = s'.size by omega)]
    exact .err rfl
theorem ar_its (m : Md) (o : Nat) (ho : o ≤ s.size) : ∀ (f f' p : Nat) (l : List (Int × Int)), p ≤ s.size → f ≤ f' → Sh (its m s o f p l) (its m s' (o + 2) f' (p + 2) l)
  | 0, f', p, l, hp, hf => .end_ (.inr (.inl rfl))
  | f + 1, 0, p, l, hp, hf => by omega
  | f + 1, f' + 1, p, l, hp, hf => by
    unfold its
    rw [ar_one h hp (.inl (by decide))]
    split
    · show _ = _; rfl
    · have h1 := ar_itm h m o hp ho
      have h2 := itm_rng m s o p ho hp
      cases he : itm m s o p with
      | error e =>
        rw [he] at h1
        rcases h1 with k | k
        · exact .end_ k
        · rw [k]; exact .err rfl
      | ok x =>
        rw [he] at h1 h2
        rw [show itm m s' (o + 2) (p + 2) = .ok (x.1, x.2 + 2) from h1]
        exact ar_its m o ho f f' x.2 (l ++ x.1) h2.2 (by omega)
theorem ar_brk (m : Md) {p : Nat} (hp : p < s.size) : Sh (brk m s p) (brk m s' (p + 2)) := by
  have hz := ar_size h
  unfold brk
  rw [show p + 2 + 1 = p + 1 + 2 by omega, ar_one h (by omega) (.inl (by decide))]
  have hq : (if sees s (p + 1) [94] then p + 2 else p + 1) ≤ s.size := by
    split
    · rename_i h
      have := sees_len h (by simp)
      simp at this
      omega
    · omega
  have e : (if sees s (p + 1) [94] then p + 2 + 2 else p + 1 + 2) = (if sees s (p + 1) [94] then p + 2 else p + 1) + 2 := by split <;> rfl
  rw [e]
  generalize (if sees s (p + 1) [94] then p + 2 else p + 1) = q at *
  have h1 := ar_sgl h m p hq (by omega)
  have h2 := sgl_rng m s p q (by omega) hq
  cases he : sgl m s p q with
  | error e =>
    rw [he] at h1
    rcases h1 with k | k
    · exact .end_ k
    · rw [k]; exact .err rfl
  | ok x =>
    rw [he] at h1 h2
    rw [show sgl m s' (p + 2) (q + 2) = .ok (x.1, x.2 + 2) from h1]
    simp only
    have h3 := ar_its h m p (by omega) (s.size + 1) (s'.size + 1) x.2 x.1 h2.2 (by omega)
    cases hf : its m s p (s.size + 1) x.2 x.1 with
    | error e =>
      rw [hf] at h3
      rcases h3 with k | k
      · exact .end_ k
      · rw [k]; exact .err rfl
    | ok y =>
      rw [hf] at h3
      rw [show its m s' (p + 2) (s'.size + 1) (x.2 + 2) x.1 = .ok (y.1, y.2 + 2) from h3]
      show _ = _
      rfl
end
end Go.Proofs.YtloeajhmmjdlgaaDoor
namespace Go.Proofs.YtloeajhmmjdlgaaDoor
open Go

theorem takeWhile_app {p : UInt8 → Bool} (x : UInt8) (hx : p x = false) (r : List UInt8) : ∀ l : List UInt8, (l ++ x :: r).takeWhile p = l.takeWhile p
  | [] => by simp [List.takeWhile, hx]
  | a :: l => by
    simp only [List.cons_append, List.takeWhile_cons]
    split
    · rw [takeWhile_app x hx r l]
    · rfl
section
variable {s s' : ByteArray} (h : Arnd s s')
include h
theorem ar_digs {p : Nat} (hp : p ≤ s.size) : digs s' (p + 2) = digs s p := by
  unfold digs
  rw [h, List.drop_append_of_le_length (by simp; omega)]
  have e : List.drop (p + 2) ([92, 40] ++ s.data.toList) = s.data.toList.drop p := by simp
  rw [e]
  exact takeWhile_app 92 (by decide) [41] _
theorem ar_intv {p : Nat} (hp : p + 1 < s.size) : Sh (intv s p) (intv s' (p + 2)) := by
  have d1 : digs s' (p + 2 + 2) = digs s (p + 2) := ar_digs h (p := p + 2) (by omega)
  have l1 := digs_le s (p + 2) (by omega)
  have e1 : ivQ s' (p + 2) = ivQ s p + 2 := by unfold ivQ; rw [d1]; omega
  have l2 : ivQ s p ≤ s.size := l1
  have e2 : sees s' (ivQ s p + 2) [44] = sees s (ivQ s p) [44] := ar_one h l2 (.inl (by decide))
  have e3 : ivB s' (p + 2) = ivB s p ∧ ivR s' (p + 2) = ivR s p + 2 ∧ ivR s p ≤ s.size := by
    unfold ivB ivR
    rw [e1, e2, d1]
    cases hs : sees s (ivQ s p) [44] with
    | false => exact ⟨rfl, rfl, l2⟩
    | true =>
      have hl := sees_len hs (by simp)
      simp at hl
      have d2 : digs s' (ivQ s p + 2 + 1) = digs s (ivQ s p + 1) := by
        rw [show ivQ s p + 2 + 1 = ivQ s p + 1 + 2 by omega]; exact ar_digs h hl
      have l3 := digs_le s (ivQ s p + 1) hl
      simp only [d2, if_true]
      refine ⟨trivial, by omega, l3⟩
  unfold intv
  rw [d1, e3.1, e3.2.1, ar_two h e3.2.2 (by decide) (.inr (.inl (by decide)))]
  split
  · exact .end_ (.inr (.inr rfl))
  split
  · exact .err rfl
  · show _ = _
    rfl
theorem ar_esc (m : Md) {p last last' : Nat} (hp : p < s.size) (hl : atBeg last' = atBeg last) : Sh (esc m s p last) (esc m s' (p + 2) last') := by
  have hz := ar_size h
  unfold esc
  by_cases hq : p + 1 = s.size
  · rw [if_pos hq]; exact .end_ (.inl rfl)
  rw [if_neg hq, if_neg (show ¬ p + 2 + 1 = s'.size by omega), show p + 2 + 1 = p + 1 + 2 by omega, ar_bt h (p + 1) (by omega), hl]
  have h4 := ar_intv h (p := p) (by omega)
  have h2 : ∀ t : Tk, Sh (.ok (t, p + 2)) (.ok (t, p + 2 + 2)) := fun t => rfl
  have h3 : ∀ c, Sh (.error (c, p) : Rs (Tk × Nat)) (.error (c, p + 2)) := fun c => .err rfl
  repeat' split
  all_goals first | exact h2 _ | exact h4 | exact h3 _
theorem ar_endsB {p : Nat} (hp : p < s.size) : endsB s' (p + 2) = endsB s p := by
  have hz := ar_size h
  unfold endsB
  rcases Nat.lt_or_ge (p + 1) s.size with g | g
  · have n1 : decide (p + 1 = s.size) = false := decide_eq_false (by omega)
    have n2 : decide (p + 2 + 1 = s'.size) = false := decide_eq_false (by omega)
    rw [n1, n2, show p + 2 + 1 = p + 1 + 2 by omega, ar_two h (by omega) (by decide) (.inr (.inr g)), ar_two h (by omega) (by decide) (.inr (.inr g))]
  · have n1 : decide (p + 1 = s.size) = true := decide_eq_true (by omega)
    have n2 : sees s' (p + 2 + 1) [92, 41] = true := by
      rw [show p + 2 + 1 = s.size + 2 by omega, sees_two]
      exact ⟨by omega, ar_e0 h, ar_e1 h⟩
    rw [n1, n2]
    simp
theorem ar_tok (m : Md) {p last last' : Nat} (hp : p < s.size) (hl : atBeg last' = atBeg last) (hb : (p + 2 == 0 || last' == 3 || last' == 5) = (p == 0 || last == 3 || last == 5)) : Sh (tok m s p last) (tok m s' (p + 2) last') := by
  unfold tok
  have h2 : ∀ t : Tk, Sh (.ok (t, p + 1)) (.ok (t, p + 2 + 1)) := fun t => rfl
  rw [ar_one h (by omega) (.inr hp), ar_one h (by omega) (.inr hp), ar_one h (by omega) (.inr hp), ar_one h (by omega) (.inr hp), ar_one h (by omega) (.inr hp), ar_one h (by omega) (.inr hp), ar_endsB h hp, hl, hb]
  split
  · exact ar_esc h m hp hl
  split
  · exact h2 _
  split
  · exact h2 _
  split
  · exact h2 _
  split
  · exact h2 _
  split
  · exact ar_brk h m hp
  · have h1 := ar_chr h m hp
    cases he : chr m s p with
    | error e =>
      rw [he] at h1
      rcases h1 with k | k
      · exact .end_ k
      · rw [k]; exact .err rfl
    | ok x =>
      rw [he] at h1
      rw [show chr m s' (p + 2) = .ok (x.1, x.2 + 2) from h1]
      show _ = _
      rfl
omit h in
theorem lastK_app (T : List Tp) (x : Tp) : lastK (T ++ [x]) = x.1.kind := by simp [lastK]
def shT (t : Tp) : Tp := (t.1, t.2.1 + 2, t.2.2 + 2)
omit h in
theorem lastK_sh (T : List Tp) (hT : T ≠ []) : lastK ((kT 3, 0, 2) :: T.map shT) = lastK T := by
  obtain ⟨T0, x, rfl⟩ : ∃ T0 x, T = T0 ++ [x] := ⟨T.dropLast, T.getLast hT, (List.dropLast_concat_getLast hT).symm⟩
  rw [lastK_app, List.map_append, ← List.cons_append, List.map_singleton, lastK_app]
  rfl
/-- What all comes to. -/
def ShL (n : Nat) (r r' : Rs (List Tp)) : Prop := match r with
  | .error (c, a) => (c = 31 ∨ c = 33 ∨ c = 36) ∨ r' = .error (c, a + 2)
  | .ok T => r' = .ok ((kT 3, 0, 2) :: T.map shT ++ [(kT 4, n + 2, n + 4)])
theorem ar_lx (m : Md) : ∀ (f p : Nat) (T : List Tp), p ≤ s.size → s.size < f + p → ((T = [] ∧ p = 0) ∨ (T ≠ [] ∧ 0 < p)) → (∀ x, x ∈ T → 1 ≤ x.1.kind) →
    ShL s.size (lx m s f p T) (lx m s' (f + 3) (p + 2) ((kT 3, 0, 2) :: T.map shT))
  | 0, p, T, h1, h2, _, _ => by omega
  | f + 1, p, T, h1, h2, hT, hk => by
    have hz := ar_size h
    rw [show f + 1 + 3 = (f + 3) + 1 by omega]
    unfold lx
    rw [if_pos (show p + 2 < s'.size by omega)]
    rcases Nat.lt_or_ge p s.size with g | g
    · rw [if_pos g]
      have hc : atBeg (lastK ((kT 3, 0, 2) :: T.map shT)) = atBeg (lastK T) ∧ (p + 2 == 0 || lastK ((kT 3, 0, 2) :: T.map shT) == 3 || lastK ((kT 3, 0, 2) :: T.map shT) == 5) = (p == 0 || lastK T == 3 || lastK T == 5) := by
        rcases hT with ⟨rfl, rfl⟩ | ⟨k1, k2⟩
        · exact ⟨rfl, rfl⟩
        · rw [lastK_sh T k1]
          refine ⟨rfl, ?_⟩
          have e1 : (p == 0) = false := by simp; omega
          rw [e1]
          rfl
      have h3 := ar_tok h m g hc.1 hc.2
      have h4 := tok_rng m s p (lastK T) g
      have h5 := tok_ok m s p (lastK T)
      cases he : tok m s p (lastK T) with
      | error e =>
        rw [he] at h3
        rcases h3 with k | k
        · exact .inl k
        · rw [k]; exact .inr rfl
      | ok x =>
        rw [he] at h3 h4 h5
        rw [show tok m s' (p + 2) (lastK ((kT 3, 0, 2) :: T.map shT)) = .ok (x.1, x.2 + 2) from h3]
        have q1 := h4.1
        have := ar_lx m f x.2 (T ++ [(x.1, p, x.2)]) h4.2 (by omega) (.inr ⟨by simp, by omega⟩) (fun y hy => by
          rcases List.mem_append.1 hy with k | k
          · exact hk y k
          · simp at k; subst k; exact h5.1)
        rw [List.map_append, ← List.cons_append, List.map_singleton] at this
        exact this
    · have e : p = s.size := by omega
      subst e
      rw [if_neg (by omega)]
      have e1 : tok m s' (s.size + 2) (lastK ((kT 3, 0, 2) :: T.map shT)) = .ok (kT 4, s.size + 4) := by
        unfold tok
        rw [if_pos (sees_one.2 ⟨by omega, ar_e0 h⟩)]
        unfold esc
        rw [if_neg (by omega), show s.size + 2 + 1 = s.size + 3 by omega, ar_e1 h, if_neg (by decide), if_pos rfl]
      rw [e1]
      simp only
      rw [show f + 3 = (f + 2) + 1 by omega]
      unfold lx
      rw [if_neg (by omega)]
      rfl
theorem ar_lex (m : Md) (hs : s.size ≤ 1996) : ShL s.size (lexM m s) (lexM m s') := by
  have hz := ar_size h
  unfold lexM
  rw [if_neg (by omega), if_neg (by omega)]
  have := ar_lx h m (s.size + 1) 0 [] (by omega) (by omega) (.inl ⟨rfl, rfl⟩) (fun x hx => by cases hx)
  have e : lx m s' (s'.size + 1) 0 [] = lx m s' (s.size + 1 + 3) (0 + 2) [(kT 3, 0, 2)] := by
    conv => lhs; unfold lx
    rw [if_pos (by omega)]
    have e1 : tok m s' 0 (lastK []) = .ok (kT 3, 2) := by
      unfold tok
      rw [if_pos (sees_one.2 ⟨by omega, ar_b0 h⟩)]
      unfold esc
      rw [if_neg (by omega), show 0 + 1 = 1 by omega, ar_b1 h, if_pos rfl]
    rw [e1]
    simp only
    rw [show s'.size = s.size + 1 + 3 by omega]
    rfl
  rw [e]
  exact this
end
end Go.Proofs.YtloeajhmmjdlgaaDoor
