/-
  A text within another one is read as it is alone (where it can be read): mathematics. Patterns within groups, with an or between them, with a sign behind them: mathematics. ParseSound. What Parse may answer; what it answers of patterns within groups, with an or between them, with a sign behind them. Texts whose bytes stand for themselves: mathematics. Rep where it refuses; a set of one character. Intervals of two numbers: mathematics. Rep of a thing; the digits of a number.
-/
import Derived.Test.YtpfdapnfkghgkaaGreatDoorC1
import Derived.Test.YtpfdapnfkghgkaaGreatDoorC18
import Derived.Test.YtpfdapnfkghgkaaGreatDoorC19
import Derived.Test.YtpfdapnfkghgkaaGreatDoorC31
import Derived.Test.YtpfdapnfkghgkaaGreatDoorC13
import Derived.Test.YtpfdapnfkghgkaaGreatDoorC30
import Derived.Test.YtpfdapnfkghgkaaGreatDoorC16
namespace Go.Proofs.YtpfdapnfkghgkaaGreatDoor
open Go

/-- A text stands in another, so many bytes further on. -/
structure Emb (k : Nat) (s s' : ByteArray) : Prop where
  size : s.size + k ≤ s'.size
  get : ∀ p, p < s.size → s'.data.toList[p + k]? = s.data.toList[p]?
theorem emb_of {A B : List UInt8} {s s' : ByteArray} (h : s'.data.toList = A ++ s.data.toList ++ B) : Emb A.length s s' := by
  have hz : s'.size = A.length + s.size + B.length := by rw [← size_list, h, List.length_append, List.length_append, size_list]
  refine ⟨by omega, fun p hp => ?_⟩
  rw [h, List.getElem?_append_left (by rw [List.length_append, size_list]; omega), List.getElem?_append_right (by omega), Nat.add_sub_cancel]
section
variable {k : Nat} {s s' : ByteArray} (h : Emb k s s')
include h
theorem em_bt {p : Nat} (hp : p < s.size) : bt s' (p + k) = bt s p := by
  unfold bt
  rw [List.getD_eq_getElem?_getD, List.getD_eq_getElem?_getD, h.get p hp]
theorem em_one {p : Nat} (hp : p < s.size) {x : UInt8} : sees s' (p + k) [x] = sees s p [x] := by
  rw [Bool.eq_iff_iff, sees_one, sees_one, em_bt h hp]
  have := h.size
  constructor
  · rintro ⟨-, q⟩; exact ⟨hp, q⟩
  · rintro ⟨-, q⟩; exact ⟨by omega, q⟩
theorem em_two {p : Nat} (hp : p + 1 < s.size) {x y : UInt8} : sees s' (p + k) [x, y] = sees s p [x, y] := by
  rw [Bool.eq_iff_iff, sees_two, sees_two, em_bt h (by omega), show p + k + 1 = p + 1 + k by omega, em_bt h hp]
  have := h.size
  constructor
  · rintro ⟨-, q⟩; exact ⟨hp, q⟩
  · rintro ⟨-, q⟩; exact ⟨by omega, q⟩
theorem em_two_t {p : Nat} {x y : UInt8} (hs : sees s p [x, y] = true) : sees s' (p + k) [x, y] = true := by
  rw [em_two h (sees_two.1 hs).1]; exact hs
theorem em_dec {p : Nat} (hp : p < s.size) (hb : bad s p = false) : Utf8.decode s' (p + k) = Utf8.decode s p := by
  have hz := h.size
  have hb' : Utf8.decode s p ≠ (65533, 1) := by simpa [bad] using hb
  rw [dec_eq] at hb'
  rw [dec_eq, dec_eq, em_bt h hp]
  have e1 : 1 < s.size - p → bt s' (p + k + 1) = bt s (p + 1) := fun g => by rw [show p + k + 1 = p + 1 + k by omega, em_bt h (by omega)]
  have e2 : 2 < s.size - p → bt s' (p + k + 2) = bt s (p + 2) := fun g => by rw [show p + k + 2 = p + 2 + k by omega, em_bt h (by omega)]
  have e3 : 3 < s.size - p → bt s' (p + k + 3) = bt s (p + 3) := fun g => by rw [show p + k + 3 = p + 3 + k by omega, em_bt h (by omega)]
  obtain ⟨d, hd⟩ : ∃ d, s'.size - (p + k) = s.size - p + d := ⟨s'.size - (p + k) - (s.size - p), by omega⟩
  rw [hd]
  generalize s.size - p = n at *
  generalize bt s' (p + k + 1) = c1 at *
  generalize bt s' (p + k + 2) = c2 at *
  generalize bt s' (p + k + 3) = c3 at *
  generalize bt s (p + 1) = d1 at *
  generalize bt s (p + 2) = d2 at *
  generalize bt s (p + 3) = d3 at *
  generalize bt s p = b0 at *
  clear hp hb hd hz h
  rcases decN_cases n b0 d1 d2 d3 with e | ⟨f0, e⟩ | ⟨f0, f1, f2, f3, e⟩ | ⟨f0, f1, f2, f3, f4, f5, e⟩ | ⟨f0, f1, f2, f3, f4, f5, f6, e⟩
  · exact absurd e hb'
  · rw [e]
    unfold Lib.decodeN
    rw [if_pos f0]
  · rw [e1 f0]
    unfold Lib.decodeN at e hb' ⊢
    split
    · omega
    · rename_i q0
      rw [if_neg q0] at e hb'
      by_cases q1 : b0 / 32 = 6 ∧ 1 < n ∧ d1 / 64 = 2
      · rw [if_pos q1] at e ⊢
        rw [if_pos (show b0 / 32 = 6 ∧ 1 < n + d ∧ d1 / 64 = 2 from ⟨q1.1, by omega, q1.2.2⟩)]
      · exact absurd ⟨f1, f0, f2⟩ q1
  · rw [e1 (by omega), e2 f0]
    unfold Lib.decodeN at e hb' ⊢
    split
    · omega
    · rename_i q0
      rw [if_neg q0] at e hb'
      rw [if_neg (by omega)] at e hb' ⊢
      by_cases q1 : b0 / 16 = 14 ∧ (1 < n ∧ d1 / 64 = 2) ∧ 2 < n ∧ d2 / 64 = 2
      · rw [if_pos q1] at e ⊢
        rw [if_pos (show b0 / 16 = 14 ∧ (1 < n + d ∧ d1 / 64 = 2) ∧ 2 < n + d ∧ d2 / 64 = 2 from ⟨q1.1, ⟨by omega, q1.2.1.2⟩, by omega, q1.2.2.2⟩), if_neg (show ¬ (b0 / 32 = 6 ∧ 1 < n ∧ d1 / 64 = 2) by omega)]
      · exact absurd ⟨f1, ⟨by omega, f2⟩, f0, f3⟩ q1
  · rw [e1 (by omega), e2 (by omega), e3 f0]
    unfold Lib.decodeN at e hb' ⊢
    split
    · omega
    · rename_i q0
      rw [if_neg q0] at e hb'
      rw [if_neg (by omega)] at e hb' ⊢
      rw [if_neg (by omega)] at e hb' ⊢
      by_cases q1 : b0 / 8 = 30 ∧ (1 < n ∧ d1 / 64 = 2) ∧ (2 < n ∧ d2 / 64 = 2) ∧ 3 < n ∧ d3 / 64 = 2
      · rw [if_pos q1] at e ⊢
        rw [if_pos (show b0 / 8 = 30 ∧ (1 < n + d ∧ d1 / 64 = 2) ∧ (2 < n + d ∧ d2 / 64 = 2) ∧ 3 < n + d ∧ d3 / 64 = 2 from ⟨q1.1, ⟨by omega, q1.2.1.2⟩, ⟨by omega, q1.2.2.1.2⟩, by omega, q1.2.2.2.2⟩), if_neg (show ¬ (b0 / 32 = 6 ∧ 1 < n ∧ d1 / 64 = 2) by omega), if_neg (show ¬ (b0 / 16 = 14 ∧ (1 < n ∧ d1 / 64 = 2) ∧ 2 < n ∧ d2 / 64 = 2) by omega)]
      · exact absurd ⟨f1, ⟨by omega, f2⟩, ⟨by omega, f3⟩, f0, f4⟩ q1
theorem em_un (m : Md) {p : Nat} (hp : p < s.size) (hc : ¬ (un m s p).1 < 0) : un m s' (p + k) = un m s p := by
  unfold un at hc ⊢
  split
  · rename_i hm
    rw [if_pos hm] at hc
    have hb : bad s p = false := by
      cases hx : bad s p with
      | false => rfl
      | true => exact absurd (ch_neg.2 hx) hc
    unfold ch wd bad
    rw [em_dec h hp hb]
  · rw [em_bt h hp]
theorem em_chr (m : Md) {p : Nat} {c : Int} {q : Nat} (hp : p < s.size) (hc : chr m s p = .ok (c, q)) : chr m s' (p + k) = .ok (c, q + k) := by
  unfold chr at hc ⊢
  split at hc
  · cases hc
  · rename_i g
    rw [em_un h m hp g, if_neg g]
    cases hc
    rw [show p + k + (un m s p).2 = p + (un m s p).2 + k by omega]
theorem em_ext {a b : Nat} (hb : b ≤ s.size) : s'.extract (a + k) (b + k) = s.extract a b := by
  apply ByteArray.ext
  apply Array.ext'
  rw [ByteArray.data_extract, ByteArray.data_extract, Array.toList_extract, Array.toList_extract, List.extract_eq_take_drop, List.extract_eq_take_drop]
  apply List.ext_getElem?
  intro i
  rw [List.getElem?_take, List.getElem?_take, List.getElem?_drop, List.getElem?_drop]
  rw [show b + k - (a + k) = b - a by omega]
  split
  · rename_i hi
    rw [show a + k + i = (a + i) + k by omega, h.get (a + i) (by omega)]
  · rfl
theorem em_wit {o p j e : Nat} (hj : j ≤ 1) (hw : wit s o p j = .ok e) : wit s' (o + k) (p + k) j = .ok (e + k) := by
  have hz := h.size
  have hl := wit_le hw
  unfold wit at hw ⊢
  rw [show p + k + 1 = p + 1 + k by omega, em_bt h (by omega)]
  split at hw
  · cases hw
  · rename_i x hx
    cases hw
    obtain ⟨q1, q2, q3⟩ := fnd_some hx
    have hm : p + k + 2 + min j (s'.size - (p + k + 2)) = p + 2 + min j (s.size - (p + 2)) + k := by omega
    rw [hm, fnd_is (e := e + k) (by simp) (by omega) (em_two_t h q2) fun i hi1 hi2 => by
      obtain ⟨i, rfl⟩ : ∃ i', i = i' + k := ⟨i - k, by omega⟩
      rw [em_two h (by omega)]
      exact q3 i (by omega) (by omega)]
theorem em_elem (m : Md) {o p q : Nat} {c : Int} (hw : elem m s o p = .ok (c, q)) : elem m s' (o + k) (p + k) = .ok (c, q + k) := by
  unfold elem at hw ⊢
  cases he : wit s o p 1 with
  | error e => rw [he] at hw; cases hw
  | ok e =>
    rw [he] at hw
    have hl := wit_le he
    rw [em_wit h (by omega) he]
    simp only at hw ⊢
    rw [show p + k + 2 = p + 2 + k by omega, em_ext h (by omega), show e + k - (p + 2 + k) = e - (p + 2) by omega]
    split at hw
    · cases hw
    · rename_i g
      rw [if_neg g]
      cases hw
      rw [show e + 2 + k = e + k + 2 by omega]
theorem em_endI (m : Md) {o p q : Nat} {c : Int} (hp : p ≤ s.size) (hq : q < s.size) (hw : endI m s o p = .ok (c, q)) : endI m s' (o + k) (p + k) = .ok (c, q + k) := by
  have hz := h.size
  have hr := endI_rng m s s.size p (Nat.le_refl _) hp
  unfold endI at hw hr ⊢
  split at hw
  · cases hw
  · rename_i n
    rw [if_neg n] at hr
    rw [if_neg (by omega)]
    split at hw
    · rename_i g
      rw [em_two_t h g, if_pos rfl]
      exact em_elem h m hw
    · rename_i g
      rw [if_neg g, hw] at hr
      have := hr.1
      simp only at this
      rw [em_two h (by omega), if_neg g]
      exact em_chr h m (by omega) hw
theorem em_spn (m : Md) {o p r : Nat} {l : List (Int × Int)} (hp : p ≤ s.size) (ho : o ≤ s.size) (hr : r < s.size) (hw : spn m s o p = .ok (l, r)) : spn m s' (o + k) (p + k) = .ok (l, r + k) := by
  unfold spn at hw ⊢
  have h1 := endI_rng m s o p ho hp
  cases he : endI m s o p with
  | error e => rw [he] at hw; cases hw
  | ok x =>
    obtain ⟨lo, q⟩ := x
    rw [he] at hw h1
    have hq0 : q ≤ s.size := h1.2
    simp only at hw
    split at hw
    · rename_i g
      cases hw
      rw [em_endI h m hp hr he]
      simp only
      have e1 : (sees s' (r + k) [45, 93] || !sees s' (r + k) [45]) = true := by
        rw [em_one h hr]
        rw [Bool.or_eq_true] at g ⊢
        rcases g with g | g
        · exact .inl (em_two_t h g)
        · exact .inr g
      rw [if_pos e1]
    · rename_i g
      have g1 : sees s q [45, 93] = false ∧ sees s q [45] = true := by
        cases a : sees s q [45, 93] <;> cases b : sees s q [45] <;> simp [a, b] at g ⊢
      have hl := sees_len g1.2 (by simp)
      simp at hl
      split at hw
      · cases hw
      · rename_i g2
        cases he2 : endI m s o (q + 1) with
        | error e => rw [he2] at hw; cases hw
        | ok y =>
          obtain ⟨hi, r2⟩ := y
          rw [he2] at hw
          have h2 := endI_rng m s o (q + 1) ho hl
          rw [he2] at h2
          have hr2 : q + 1 < r2 := h2.1
          simp only at hw
          split at hw
          · cases hw
          · rename_i g3
            cases hw
            rw [em_endI h m hp (by omega) he]
            simp only
            have e0 : ¬ (sees s' (q + k) [45, 93] || !sees s' (q + k) [45]) = true := by
              rw [em_two h (by omega), em_one h (by omega), g1.1, g1.2]; simp
            rw [if_neg e0, show q + k + 1 = q + 1 + k by omega]
            have e2 : ¬ (sees s' (q + 1 + k) [91, 58] || sees s' (q + 1 + k) [91, 61]) = true := by
              rw [em_two h (by omega), em_two h (by omega)]; exact g2
            rw [if_neg e2, em_endI h m (by omega) hr he2]
            simp only
            rw [if_neg g3]
theorem em_nam {o p r : Nat} {l : List (Int × Int)} (hw : nam s o p = .ok (l, r)) : nam s' (o + k) (p + k) = .ok (l, r + k) := by
  unfold nam at hw ⊢
  cases he : wit s o p 0 with
  | error e => rw [he] at hw; cases hw
  | ok e =>
    rw [he] at hw
    have hl := wit_le he
    rw [em_wit h (by omega) he]
    simp only at hw ⊢
    rw [show p + k + 2 = p + 2 + k by omega, em_ext h (by omega)]
    split at hw
    · rename_i g
      rw [if_pos g]
      cases hw
      rw [show e + 2 + k = e + k + 2 by omega]
    · cases hw
theorem em_sgl (m : Md) {o p r : Nat} {l : List (Int × Int)} (hp : p ≤ s.size) (ho : o ≤ s.size) (hr : r < s.size) (hw : sgl m s o p = .ok (l, r)) : sgl m s' (o + k) (p + k) = .ok (l, r + k) := by
  have hg := sgl_rng m s o p ho hp
  rw [hw] at hg
  have hpr : p < r := hg.1
  unfold sgl at hw ⊢
  rw [em_two h (by omega), em_two h (by omega)]
  split
  · rename_i g; rw [if_pos g] at hw; exact em_nam h hw
  · rename_i g
    rw [if_neg g] at hw
    split
    · rename_i g2
      rw [if_pos g2] at hw
      cases he : elem m s o p with
      | error e => rw [he] at hw; cases hw
      | ok x =>
        obtain ⟨c, q⟩ := x
        rw [he] at hw
        rw [em_elem h m he]
        cases hw
        rfl
    · rename_i g2
      rw [if_neg g2] at hw
      exact em_spn h m hp ho hr hw
theorem em_itm (m : Md) {o p r : Nat} {l : List (Int × Int)} (hp : p ≤ s.size) (ho : o ≤ s.size) (hr : r < s.size) (hw : itm m s o p = .ok (l, r)) : itm m s' (o + k) (p + k) = .ok (l, r + k) := by
  have hg := itm_rng m s o p ho hp
  rw [hw] at hg
  have hpr : p < r := hg.1
  unfold itm at hw ⊢
  rw [em_one h (by omega), em_two h (by omega)]
  split
  · rename_i g; rw [if_pos g] at hw; exact em_sgl h m hp ho hr hw
  · rename_i g
    rw [if_neg g] at hw
    split at hw <;> cases hw
omit h in
theorem its_lt (m : Md) {o : Nat} (ho : o ≤ s.size) : ∀ (f p : Nat) (l : List (Int × Int)) (x : List (Int × Int) × Nat), p ≤ s.size → its m s o f p l = .ok x → p < s.size
  | 0, p, l, x, _, hw => by unfold its at hw; cases hw
  | f + 1, p, l, x, hp, hw => by
    have := its_rng m s o ho (f + 1) p l hp
    rw [hw] at this
    have h1 := this.1
    have h2 := this.2
    omega
theorem em_its (m : Md) {o : Nat} (ho : o ≤ s.size) : ∀ (f f' p : Nat) (l l2 : List (Int × Int)) (r : Nat), p ≤ s.size → f ≤ f' → its m s o f p l = .ok (l2, r) → its m s' (o + k) f' (p + k) l = .ok (l2, r + k)
  | 0, f', p, l, l2, r, _, _, hw => by unfold its at hw; cases hw
  | f + 1, 0, p, l, l2, r, _, hf, _ => by omega
  | f + 1, f' + 1, p, l, l2, r, hp, hf, hw => by
    have hlt := its_lt m ho (f + 1) p l _ hp hw
    unfold its at hw ⊢
    rw [em_one h hlt]
    split
    · rename_i g
      rw [if_pos g] at hw
      cases hw
      rw [show p + k + 1 = p + 1 + k by omega]
    · rename_i g
      rw [if_neg g] at hw
      have hg := itm_rng m s o p ho hp
      cases he : itm m s o p with
      | error e => rw [he] at hw; cases hw
      | ok x =>
        obtain ⟨l', q⟩ := x
        rw [he] at hw hg
        have hq := its_lt m ho f q (l ++ l') _ hg.2 hw
        rw [em_itm h m hp ho hq he]
        exact em_its m ho f f' q (l ++ l') l2 r hg.2 (by omega) hw
theorem em_brk (m : Md) {p q : Nat} {t : Tk} (hp : p < s.size) (hw : brk m s p = .ok (t, q)) : brk m s' (p + k) = .ok (t, q + k) := by
  have hz := h.size
  unfold brk at hw ⊢
  have hn : p + 1 < s.size := by
    rcases Nat.lt_or_ge (p + 1) s.size with g | g
    · exact g
    · exfalso
      have e0 : sees s (p + 1) [94] = false := by
        cases hx : sees s (p + 1) [94] with
        | false => rfl
        | true => have := (sees_one.1 hx).1; omega
      rw [e0] at hw
      have hs := sgl_rng m s p (p + 1) (by omega) (by omega)
      cases he : sgl m s p (p + 1) with
      | error e => simp [he] at hw
      | ok x =>
        rw [he] at hs
        have h1 := hs.1
        have h2 := hs.2
        omega
  rw [show p + k + 1 = p + 1 + k by omega, em_one h hn]
  have hq : (if sees s (p + 1) [94] then p + k + 2 else p + 1 + k) = (if sees s (p + 1) [94] then p + 2 else p + 1) + k := by split <;> omega
  rw [hq]
  have hb : (if sees s (p + 1) [94] then p + 2 else p + 1) ≤ s.size := by split <;> omega
  have hg := sgl_rng m s p _ (by omega) hb
  cases he : sgl m s p (if sees s (p + 1) [94] then p + 2 else p + 1) with
  | error e => rw [he] at hw; cases hw
  | ok x =>
    obtain ⟨l, r⟩ := x
    rw [he] at hw hg
    simp only at hw
    cases hi : its m s p (s.size + 1) r l with
    | error e => rw [hi] at hw; cases hw
    | ok y =>
      obtain ⟨l2, r2⟩ := y
      rw [hi] at hw
      have hr := its_lt m (by omega) _ r l _ hg.2 hi
      rw [em_sgl h m hb (by omega) hr he]
      simp only
      rw [em_its h m (by omega) (s.size + 1) (s'.size + 1) r l l2 r2 hg.2 (by omega) hi]
      simp only at hw ⊢
      cases hw
      rfl
theorem em_digs {p : Nat} (hp : p + (digs s p).length < s.size) : digs s' (p + k) = digs s p := by
  have e : s'.data.toList.drop (p + k) = s.data.toList.drop p ++ s'.data.toList.drop (s.size + k) := by
    apply List.ext_getElem?
    intro i
    rw [List.getElem?_drop]
    rcases Nat.lt_or_ge (p + i) s.size with g | g
    · rw [List.getElem?_append_left (by rw [List.length_drop, size_list]; omega), List.getElem?_drop, show p + k + i = p + i + k by omega, h.get _ g]
    · rw [List.getElem?_append_right (by rw [List.length_drop, size_list]; omega), List.getElem?_drop, List.length_drop, size_list]
      congr 1
      omega
  unfold digs at hp ⊢
  rw [e]
  have : ∀ (l r : List UInt8), (l.takeWhile dig).length < l.length → (l ++ r).takeWhile dig = l.takeWhile dig := by
    intro l
    induction l with
    | nil => intro r hl; simp at hl
    | cons a l ih =>
      intro r hl
      simp only [List.cons_append, List.takeWhile_cons] at hl ⊢
      split
      · rename_i g
        rw [if_pos g] at hl
        rw [ih r (by simpa using hl)]
      · rfl
  exact this _ _ (by rw [List.length_drop, size_list]; omega)
theorem em_intv {p q : Nat} {t : Tk} (hw : intv s p = .ok (t, q)) : intv s' (p + k) = .ok (t, q + k) := by
  unfold intv at hw
  split at hw
  · cases hw
  rename_i n1
  split at hw
  · cases hw
  rename_i n2
  have hs : sees s (ivR s p) [92, 125] = true := by
    cases hx : sees s (ivR s p) [92, 125] with
    | true => rfl
    | false => exact absurd (.inr hx) n1
  have hl := (sees_two.1 hs).1
  have hQR : ivQ s p ≤ ivR s p := by unfold ivR; split <;> omega
  have d1 : digs s' (p + k + 2) = digs s (p + 2) := by
    rw [show p + k + 2 = p + 2 + k by omega]
    exact em_digs h (by have : p + 2 + (digs s (p + 2)).length = ivQ s p := rfl; omega)
  have e1 : ivQ s' (p + k) = ivQ s p + k := by unfold ivQ; rw [d1]; omega
  have e2 : sees s' (ivQ s p + k) [44] = sees s (ivQ s p) [44] := em_one h (by omega)
  have e3 : ivB s' (p + k) = ivB s p ∧ ivR s' (p + k) = ivR s p + k := by
    have hl' := hl
    unfold ivR at hl'
    unfold ivB ivR
    rw [e1, e2, d1]
    cases hx : sees s (ivQ s p) [44] with
    | false => exact ⟨rfl, rfl⟩
    | true =>
      rw [if_pos hx] at hl'
      have d2 : digs s' (ivQ s p + k + 1) = digs s (ivQ s p + 1) := by
        rw [show ivQ s p + k + 1 = ivQ s p + 1 + k by omega]
        exact em_digs h (by omega)
      simp only [d2, if_true]
      exact ⟨trivial, by omega⟩
  unfold intv
  rw [d1, e3.1, e3.2, em_two_t h hs]
  rw [if_neg (by rintro (q | q); exact n1 (.inl q); cases q), if_neg n2]
  cases hw
  rw [show ivR s p + 2 + k = ivR s p + k + 2 by omega]
theorem em_esc (m : Md) {p q last last' : Nat} {t : Tk} (hp : p < s.size) (hl : atBeg last' = atBeg last) (hw : esc m s p last = .ok (t, q)) : esc m s' (p + k) last' = .ok (t, q + k) := by
  have hz := h.size
  unfold esc at hw ⊢
  split at hw
  · cases hw
  rename_i n
  rw [if_neg (by omega), show p + k + 1 = p + 1 + k by omega, em_bt h (by omega), hl]
  have h2 : ∀ u : Tk, (.ok (u, p + 2) : Rs (Tk × Nat)) = .ok (t, q) → (.ok (u, p + k + 2) : Rs (Tk × Nat)) = .ok (t, q + k) := fun u e => by
    cases e
    rw [show p + 2 + k = p + k + 2 by omega]
  have h3 := em_intv h (p := p) (q := q) (t := t)
  by_cases g1 : bt s (p + 1) = 40
  · rw [if_pos g1] at hw ⊢; exact h2 _ hw
  rw [if_neg g1] at hw ⊢
  by_cases g2 : bt s (p + 1) = 41
  · rw [if_pos g2] at hw ⊢; exact h2 _ hw
  rw [if_neg g2] at hw ⊢
  by_cases g3 : bt s (p + 1) = 124
  · rw [if_pos g3] at hw ⊢; exact h2 _ hw
  rw [if_neg g3] at hw ⊢
  by_cases g4 : 49 ≤ bt s (p + 1) ∧ bt s (p + 1) ≤ 57
  · rw [if_pos g4] at hw ⊢; exact h2 _ hw
  rw [if_neg g4] at hw ⊢
  by_cases g5 : bt s (p + 1) = 43 ∨ bt s (p + 1) = 63 ∨ bt s (p + 1) = 123
  · rw [if_pos g5] at hw ⊢
    by_cases g6 : atBeg last = true
    · rw [if_pos g6] at hw; cases hw
    rw [if_neg g6] at hw ⊢
    by_cases g7 : bt s (p + 1) = 43
    · rw [if_pos g7] at hw ⊢; exact h2 _ hw
    rw [if_neg g7] at hw ⊢
    by_cases g8 : bt s (p + 1) = 63
    · rw [if_pos g8] at hw ⊢; exact h2 _ hw
    rw [if_neg g8] at hw ⊢
    exact h3 hw
  rw [if_neg g5] at hw ⊢
  by_cases g9 : bt s (p + 1) = 46 ∨ bt s (p + 1) = 91 ∨ bt s (p + 1) = 93 ∨ bt s (p + 1) = 42 ∨ bt s (p + 1) = 94 ∨ bt s (p + 1) = 36 ∨ bt s (p + 1) = 92 ∨ bt s (p + 1) = 47
  · rw [if_pos g9] at hw ⊢; exact h2 _ hw
  rw [if_neg g9] at hw
  cases hw
theorem em_tok (m : Md) {p q last last' : Nat} {t : Tk} (hp : p < s.size) (hl : atBeg last' = atBeg last) (hb : (p + k == 0 || last' == 3 || last' == 5) = (p == 0 || last == 3 || last == 5)) (he : bt s p = 36 → endsB s' (p + k) = endsB s p)
    (hw : tok m s p last = .ok (t, q)) : tok m s' (p + k) last' = .ok (t, q + k) := by
  have h2 : ∀ u : Tk, (.ok (u, p + 1) : Rs (Tk × Nat)) = .ok (t, q) → (.ok (u, p + k + 1) : Rs (Tk × Nat)) = .ok (t, q + k) := fun u e => by
    cases e
    rw [show p + 1 + k = p + k + 1 by omega]
  have he' : (sees s p [36] && endsB s' (p + k)) = (sees s p [36] && endsB s p) := by
    cases hx : sees s p [36] with
    | false => rfl
    | true => rw [he (sees_one.1 hx).2]
  unfold tok at hw ⊢
  rw [em_one h hp, em_one h hp, em_one h hp, em_one h hp, em_one h hp, em_one h hp, hl, hb, he']
  split
  · rename_i g; rw [if_pos g] at hw; exact em_esc h m hp hl hw
  rename_i g; rw [if_neg g] at hw
  split
  · rename_i g; rw [if_pos g] at hw; exact h2 _ hw
  rename_i g; rw [if_neg g] at hw
  split
  · rename_i g; rw [if_pos g] at hw; exact h2 _ hw
  rename_i g; rw [if_neg g] at hw
  split
  · rename_i g; rw [if_pos g] at hw; exact h2 _ hw
  rename_i g; rw [if_neg g] at hw
  split
  · rename_i g; rw [if_pos g] at hw; exact h2 _ hw
  rename_i g; rw [if_neg g] at hw
  split
  · rename_i g; rw [if_pos g] at hw; exact em_brk h m hp hw
  rename_i g; rw [if_neg g] at hw
  cases hc : chr m s p with
  | error e => rw [hc] at hw; cases hw
  | ok x =>
    obtain ⟨c, r⟩ := x
    rw [hc] at hw
    rw [em_chr h m hp hc]
    cases hw
    rfl
/-- A token, so many bytes further on. -/
def shk (k : Nat) (t : Tp) : Tp := (t.1, t.2.1 + k, t.2.2 + k)
omit h in
theorem lastK_end (T : List Tp) (x : Tp) : lastK (T ++ [x]) = x.1.kind := by simp [lastK]
/-- How what stands ahead is seen: as nothing, or as it was. -/
def Ahd (k : Nat) (T0 T : List Tp) (p : Nat) : Prop := (T = [] ∧ p = 0 ∧ ((lastK T0 = 0 ∧ k = 0) ∨ lastK T0 = 3 ∨ lastK T0 = 5)) ∨ (T ≠ [] ∧ 0 < p)
theorem em_lx (m : Md) (T0 : List Tp) (he : ∀ p, p < s.size → bt s p = 36 → endsB s' (p + k) = endsB s p) : ∀ (f f' p : Nat) (T T' : List Tp), p ≤ s.size → s.size < f + p → s'.size < f' + (p + k) → Ahd k T0 T p → lx m s f p T = .ok T' →
    ∃ f2, s'.size < f2 + (s.size + k) ∧ lx m s' f' (p + k) (T0 ++ T.map (shk k)) = lx m s' f2 (s.size + k) (T0 ++ T'.map (shk k))
  | 0, f', p, T, T', h1, h2, h3, hA, hw => by omega
  | f + 1, f', p, T, T', h1, h2, h3, hA, hw => by
    have hz := h.size
    rcases Nat.lt_or_ge p s.size with g | g
    · obtain ⟨f', rfl⟩ : ∃ n, f' = n + 1 := ⟨f' - 1, by omega⟩
      unfold lx at hw
      rw [if_pos g] at hw
      have hr := tok_rng m s p (lastK T) g
      cases ht : tok m s p (lastK T) with
      | error e => rw [ht] at hw; cases hw
      | ok x =>
        obtain ⟨t, q⟩ := x
        rw [ht] at hw hr
        simp only at hw
        have q1 : p < q := hr.1
        have q2 : q ≤ s.size := hr.2
        have hc : atBeg (lastK (T0 ++ T.map (shk k))) = atBeg (lastK T) ∧ (p + k == 0 || lastK (T0 ++ T.map (shk k)) == 3 || lastK (T0 ++ T.map (shk k)) == 5) = (p == 0 || lastK T == 3 || lastK T == 5) := by
          rcases hA with ⟨rfl, rfl, hA⟩ | ⟨hA, hp⟩
          · rw [List.map_nil, List.append_nil]
            rcases hA with ⟨h0, rfl⟩ | h0 | h0 <;> (rw [h0]; simp [atBeg, lastK])
          · obtain ⟨Ta, y, rfl⟩ : ∃ Ta y, T = Ta ++ [y] := ⟨T.dropLast, T.getLast hA, (List.dropLast_concat_getLast hA).symm⟩
            rw [List.map_append, List.map_singleton, ← List.append_assoc, lastK_end, lastK_end]
            refine ⟨rfl, ?_⟩
            have e1 : (p == 0) = false := by simp; omega
            have e2 : (p + k == 0) = false := by simp; omega
            rw [e1, e2]
            rfl
        have ht' := em_tok h m g hc.1 hc.2 (he p g) ht
        obtain ⟨f2, hf2, e2⟩ := em_lx m T0 he f f' q (T ++ [(t, p, q)]) T' q2 (by omega) (by omega) (.inr ⟨by simp, by omega⟩) hw
        refine ⟨f2, hf2, ?_⟩
        conv => lhs; unfold lx
        rw [if_pos (by omega), ht']
        simp only
        rw [← e2, List.map_append, List.map_singleton, ← List.append_assoc]
        rfl
    · have hp : p = s.size := by omega
      subst hp
      unfold lx at hw
      rw [if_neg (by omega)] at hw
      cases hw
      exact ⟨f', h3, rfl⟩
end
/-- Where an end of a line is seen as it is alone. -/
theorem ends_in {k : Nat} {s s' : ByteArray} (h : Emb k s s') {p : Nat} (hp : p + 2 < s.size) : endsB s' (p + k) = endsB s p := by
  have hz := h.size
  unfold endsB
  rw [show p + k + 1 = p + 1 + k by omega, em_two h (by omega), em_two h (by omega), decide_eq_false (show ¬ p + 1 + k = s'.size by omega), decide_eq_false (show ¬ p + 1 = s.size by omega)]
/-- Where the text ends, or an or or a group's end stands behind it. -/
theorem ends_at {k : Nat} {s s' : ByteArray} (h : Emb k s s') (hB : s.size + k = s'.size ∨ sees s' (s.size + k) [92, 41] = true ∨ sees s' (s.size + k) [92, 124] = true) {p : Nat} (hp : p < s.size) : endsB s' (p + k) = endsB s p := by
  have hz := h.size
  rcases Nat.lt_or_ge (p + 2) s.size with g | g
  · exact ends_in h g
  unfold endsB
  rw [show p + k + 1 = p + 1 + k by omega]
  rcases Nat.lt_or_ge (p + 1) s.size with g1 | g1
  · have e : p + 2 = s.size := by omega
    have n0 : ∀ y : UInt8, sees s (p + 1) [92, y] = false := fun y => by
      cases hx : sees s (p + 1) [92, y] with
      | false => rfl
      | true => have := (sees_two.1 hx).1; omega
    have n1 : ∀ y : UInt8, y ≠ 92 → sees s' (p + 1 + k) [92, y] = false := fun y hy => by
      cases hx : sees s' (p + 1 + k) [92, y] with
      | false => rfl
      | true =>
        have q := sees_two.1 hx
        exfalso
        rcases hB with b | b | b
        · omega
        · have := (sees_two.1 b).2.1
          rw [show p + 1 + k + 1 = s.size + k by omega, this] at q
          exact hy (UInt8.toNat_inj.1 q.2.2.symm)
        · have := (sees_two.1 b).2.1
          rw [show p + 1 + k + 1 = s.size + k by omega, this] at q
          exact hy (UInt8.toNat_inj.1 q.2.2.symm)
    rw [n0, n0, n1 41 (by decide), n1 124 (by decide), decide_eq_false (show ¬ p + 1 + k = s'.size by omega), decide_eq_false (show ¬ p + 1 = s.size by omega)]
  · have e : p + 1 = s.size := by omega
    rw [decide_eq_true e, e]
    rcases hB with b | b | b
    · rw [decide_eq_true b]; simp
    · rw [b]; simp
    · rw [b]; simp
end Go.Proofs.YtpfdapnfkghgkaaGreatDoor
namespace Go.Proofs.YtpfdapnfkghgkaaGreatDoor
open Go Go.RowKit

/- Lex of what is put together. -/
theorem tok_esc (m : Md) (s : ByteArray) (p last k : Nat) (y : UInt8) (hs : sees s p [92, y] = true) (hk : (y = 40 ∧ k = 3) ∨ (y = 41 ∧ k = 4) ∨ (y = 124 ∧ k = 5)) : tok m s p last = .ok (kT k, p + 2) := by
  have h1 := sees_two.1 hs
  unfold tok
  rw [if_pos (sees_one.2 ⟨by omega, h1.2.1⟩)]
  unfold esc
  rw [if_neg (by omega)]
  rcases hk with ⟨rfl, rfl⟩ | ⟨rfl, rfl⟩ | ⟨rfl, rfl⟩
  · rw [if_pos (by rw [h1.2.2]; decide)]
  · rw [if_neg (by rw [h1.2.2]; decide), if_pos (by rw [h1.2.2]; decide)]
  · rw [if_neg (by rw [h1.2.2]; decide), if_neg (by rw [h1.2.2]; decide), if_pos (by rw [h1.2.2]; decide)]
theorem sees_in {s : ByteArray} {A B : List UInt8} (h : s.data.toList = A ++ B) (t : List UInt8) : sees s A.length t = t.isPrefixOf B := by
  unfold sees Lib.hasPrefix
  rw [h, List.drop_left]
theorem lex_lx {m : Md} {s : ByteArray} {T : List Tp} (h : lexM m s = .ok T) : lx m s (s.size + 1) 0 [] = .ok T := by
  unfold lexM at h
  split at h
  · cases h
  · exact h
theorem lex_group {m : Md} {a s' : ByteArray} {Ta : List Tp} (h : lexM m a = .ok Ta) (hs : s'.data.toList = [92, 40] ++ a.data.toList ++ [92, 41]) (hz : s'.size ≤ 2000) :
    lexM m s' = .ok ((kT 3, 0, 2) :: Ta.map (shk 2) ++ [(kT 4, a.size + 2, a.size + 4)]) := by
  have hE : Emb 2 a s' := emb_of hs
  have hsz : s'.size = a.size + 4 := by rw [← size_list, hs]; simp
  have hend : sees s' (a.size + 2) [92, 41] = true := by
    have := sees_in (s := s') (A := [92, 40] ++ a.data.toList) (B := [92, 41]) hs [92, 41]
    rw [List.length_append, size_list] at this
    rw [show a.size + 2 = ([92, 40] : List UInt8).length + a.size by simp; omega, this]
    rfl
  have hbeg : sees s' 0 [92, 40] = true := by
    have := sees_in (s := s') (A := []) (B := [92, 40] ++ a.data.toList ++ [92, 41]) hs [92, 40]
    rw [List.length_nil] at this
    rw [this]
    rfl
  obtain ⟨f2, hf2, e2⟩ := em_lx hE m [(kT 3, 0, 2)] (fun p hp _ => ends_at hE (.inr (.inl hend)) hp) (a.size + 1) s'.size 0 [] Ta (by omega) (by omega) (by omega) (.inl ⟨rfl, rfl, .inr (.inl rfl)⟩) (lex_lx h)
  unfold lexM
  rw [if_neg (by omega)]
  conv => lhs; unfold lx
  rw [if_pos (by omega), tok_esc m s' 0 _ 3 40 hbeg (.inl ⟨rfl, rfl⟩)]
  simp only [Nat.zero_add, List.nil_append]
  simp only [Nat.zero_add, List.map_nil, List.append_nil] at e2
  rw [e2]
  obtain ⟨f3, rfl⟩ : ∃ n, f2 = n + 1 := ⟨f2 - 1, by omega⟩
  unfold lx
  rw [if_pos (by omega), tok_esc m s' (a.size + 2) _ 4 41 hend (.inr (.inl ⟨rfl, rfl⟩))]
  simp only
  obtain ⟨f4, rfl⟩ : ∃ n, f3 = n + 1 := ⟨f3 - 1, by omega⟩
  unfold lx
  rw [if_neg (by omega)]
  rfl
theorem shk_zero (T : List Tp) : T.map (shk 0) = T := by
  rw [show shk 0 = id from rfl, List.map_id]
theorem lex_alt {m : Md} {a b s' : ByteArray} {Ta Tb : List Tp} (ha : lexM m a = .ok Ta) (hb : lexM m b = .ok Tb) (hs : s'.data.toList = a.data.toList ++ [92, 124] ++ b.data.toList) (hz : s'.size ≤ 2000) :
    lexM m s' = .ok (Ta ++ (kT 5, a.size, a.size + 2) :: Tb.map (shk (a.size + 2))) := by
  have hA : Emb 0 a s' := by
    have := emb_of (A := []) (s := a) (s' := s') (B := [92, 124] ++ b.data.toList) (by rw [hs]; simp)
    exact this
  have hB : Emb (a.size + 2) b s' := by
    have := emb_of (A := a.data.toList ++ [92, 124]) (s := b) (s' := s') (B := []) (by rw [hs]; simp)
    rwa [List.length_append, size_list] at this
  have hsz : s'.size = a.size + 2 + b.size := by rw [← size_list, hs]; simp; omega
  have hmid : sees s' (a.size + 0) [92, 124] = true := by
    have := sees_in (s := s') (A := a.data.toList) (B := [92, 124] ++ b.data.toList) (by rw [hs]; simp) [92, 124]
    rw [size_list] at this
    rw [Nat.add_zero, this]
    simp [List.isPrefixOf]
  obtain ⟨f2, hf2, e2⟩ := em_lx hA m [] (fun p hp _ => ends_at hA (.inr (.inr hmid)) hp) (a.size + 1) (s'.size + 1) 0 [] Ta (by omega) (by omega) (by omega) (.inl ⟨rfl, rfl, .inl ⟨rfl, rfl⟩⟩) (lex_lx ha)
  simp only [List.map_nil, List.append_nil, List.nil_append, shk_zero, Nat.add_zero] at e2 hf2 hmid
  unfold lexM
  rw [if_neg (by omega), e2]
  obtain ⟨f3, rfl⟩ : ∃ n, f2 = n + 1 := ⟨f2 - 1, by omega⟩
  conv => lhs; unfold lx
  rw [if_pos (by omega), tok_esc m s' a.size _ 5 124 hmid (.inr (.inr ⟨rfl, rfl⟩))]
  simp only
  obtain ⟨f4, hf4, e4⟩ := em_lx hB m (Ta ++ [(kT 5, a.size, a.size + 2)]) (fun p hp _ => ends_at hB (.inl (by omega)) hp) (b.size + 1) f3 0 [] Tb (by omega) (by omega) (by omega) (.inl ⟨rfl, rfl, .inr (.inr (by simp [lastK, kT]))⟩) (lex_lx hb)
  simp only [Nat.zero_add, List.map_nil, List.append_nil] at e4
  rw [e4]
  obtain ⟨f5, rfl⟩ : ∃ n, f4 = n + 1 := ⟨f4 - 1, by omega⟩
  unfold lx
  rw [if_neg (by omega)]
  simp
/-- A sign behind a group's end. -/
theorem lex_sign {m : Md} {a s' : ByteArray} {Ta : List Tp} {R : List UInt8} {t : Tk} (ha : lexM m a = .ok Ta) (hs : s'.data.toList = a.data.toList ++ R) (hz : s'.size ≤ 2000) (h2 : 2 ≤ a.size) (he : bt a (a.size - 2) = 92 ∧ bt a (a.size - 1) = 41)
    (ht : tok m s' a.size (lastK Ta) = .ok (t, s'.size)) (hR : R ≠ []) : lexM m s' = .ok (Ta ++ [(t, a.size, s'.size)]) := by
  have hA : Emb 0 a s' := by
    have := emb_of (A := []) (s := a) (s' := s') (B := R) (by rw [hs]; simp)
    exact this
  have hsz : s'.size = a.size + R.length := by rw [← size_list, hs, List.length_append, size_list]
  have hRl : 0 < R.length := List.length_pos_iff.2 hR
  obtain ⟨f2, hf2, e2⟩ := em_lx hA m [] (fun p hp h36 => ends_in hA (by
    rcases Nat.lt_or_ge (p + 2) a.size with g | g
    · exact g
    · exfalso
      have : p = a.size - 2 ∨ p = a.size - 1 := by omega
      rcases this with rfl | rfl
      · rw [he.1] at h36; cases h36
      · rw [he.2] at h36; cases h36)) (a.size + 1) (s'.size + 1) 0 [] Ta (by omega) (by omega) (by omega) (.inl ⟨rfl, rfl, .inl ⟨rfl, rfl⟩⟩) (lex_lx ha)
  simp only [List.map_nil, List.append_nil, List.nil_append, shk_zero, Nat.add_zero] at e2 hf2
  unfold lexM
  rw [if_neg (by omega), e2]
  obtain ⟨f3, rfl⟩ : ∃ n, f2 = n + 1 := ⟨f2 - 1, by omega⟩
  conv => lhs; unfold lx
  rw [if_pos (by omega), ht]
  simp only
  obtain ⟨f4, rfl⟩ : ∃ n, f3 = n + 1 := ⟨f3 - 1, by omega⟩
  unfold lx
  rw [if_neg (by omega)]
/- Groups. -/
theorem hk_gck : ∀ (T : List Tp) (s : GS), (∀ t ∈ T, 1 ≤ t.1.kind ∧ t.1.kind ≤ 8) → hk s.g (s.o.map Prod.fst).reverse s.e (sgns s.g T) → ∃ s', gck s T = .ok s' ∧ s'.o = []
  | [], s, _, h => by
    refine ⟨s, rfl, ?_⟩
    have : (s.o.map Prod.fst).reverse = [] := h
    simpa using this
  | t :: T, s, hT, h => by
    have hk1 := hT t (List.mem_cons_self ..)
    have hT' : ∀ u ∈ T, 1 ≤ u.1.kind ∧ u.1.kind ≤ 8 := fun u hu => hT u (List.mem_cons_of_mem _ hu)
    rw [sgns] at h
    rw [gck]
    rcases kinds_of hk1.1 hk1.2 with e | e | e | e | e | e | e | e
    · simp only [sgT, gnx, e, Nat.reduceEqDiff, if_false, hk] at h
      simp only [glk, e, Nat.reduceEqDiff, if_false]
      exact hk_gck T s hT' h.2
    · simp only [sgT, gnx, e, Nat.reduceEqDiff, if_false, if_true] at h
      simp only [glk, e, Nat.reduceEqDiff, if_false]
      exact hk_gck T s hT' h
    · simp only [sgT, gnx, e, if_true, hk] at h
      have hg : ¬ s.g = 30 := by omega
      simp only [glk, e, if_true, if_neg hg]
      exact hk_gck T ⟨s.g + 1, s.o ++ [(s.g + 1, t.2.1)], s.e⟩ hT' (by simpa using h.2.2)
    · simp only [sgT, gnx, e, Nat.reduceEqDiff, if_false, if_true, hk] at h
      obtain ⟨n, o', h1, h2⟩ := h
      simp only [glk, e, Nat.reduceEqDiff, if_false, if_true]
      cases hl : s.o.getLast? with
      | none =>
        rw [List.getLast?_eq_none_iff.1 hl] at h1
        cases h1
      | some x =>
        have hne : s.o ≠ [] := fun z => by rw [z] at hl; cases hl
        rw [List.getLast?_eq_some_getLast hne] at hl
        cases hl
        simp only
        have hx := (List.dropLast_concat_getLast hne).symm
        rw [hx] at h1
        simp only [List.map_append, List.reverse_append, List.map_cons, List.map_nil, List.reverse_cons, List.reverse_nil, List.nil_append, List.cons_append] at h1
        injection h1 with h3 h4
        refine hk_gck T ⟨s.g, s.o.dropLast, (s.o.getLast hne).1 :: s.e⟩ hT' ?_
        rw [h3, h4]
        exact h2
    · simp only [sgT, gnx, e, Nat.reduceEqDiff, if_false, if_true] at h
      simp only [glk, e, Nat.reduceEqDiff, if_false]
      exact hk_gck T s hT' h
    · simp only [sgT, gnx, e, Nat.reduceEqDiff, if_false, if_true, hk] at h
      obtain ⟨⟨i, hi, he⟩, h2⟩ := (show (∃ i ∈ s.e, (t.1.n : Int) = (i : Int)) ∧ _ from ⟨h.1 trivial, h.2⟩)
      have : t.1.n ∈ s.e := by rw [show t.1.n = i by omega]; exact hi
      simp only [glk, e, Nat.reduceEqDiff, if_false, if_true, if_pos this]
      exact hk_gck T s hT' h2
    · simp only [sgT, gnx, e, Nat.reduceEqDiff, if_false, if_true, hk] at h
      simp only [glk, e, Nat.reduceEqDiff, if_false]
      exact hk_gck T s hT' h.2
    · simp only [sgT, gnx, e, Nat.reduceEqDiff, if_false, if_true, hk] at h
      simp only [glk, e, Nat.reduceEqDiff, if_false]
      exact hk_gck T s hT' h.2
theorem hk_held {T : List Tp} (hT : ∀ t ∈ T, 1 ≤ t.1.kind ∧ t.1.kind ≤ 8) (h : hk 0 [] [] (sgns 0 T)) : heldM T = none := by
  obtain ⟨s', h1, h2⟩ := hk_gck T gs0 hT h
  unfold heldM
  rw [h1]
  simp only [h2]
def plainS : Sgn → Prop
  | .op _ => False
  | .cl => False
  | .lf k _ _ => k ≠ 8
  | _ => True
theorem hk_plain : ∀ {L : List Sgn} {g : Nat} {o e : List Nat} {r : List Sgn}, (∀ s ∈ L, plainS s) → (hk g o e (L ++ r) ↔ hk g o e r)
  | [], g, o, e, r, _ => Iff.rfl
  | s :: L, g, o, e, r, h => by
    have h1 := h s (List.mem_cons_self ..)
    have ih := @hk_plain L g o e r (fun z hz => h z (List.mem_cons_of_mem _ hz))
    cases s with
    | op n => exact h1.elim
    | cl => exact h1.elim
    | lf k n rs =>
      rw [List.cons_append, hk]
      exact ⟨fun z => ih.1 z.2, fun z => ⟨fun e => absurd e h1, ih.2 z⟩⟩
    | al => exact ih
    | rp a b => exact ih
theorem free_plain : ∀ {L : List Sgn} {g : Nat}, nop L = 0 → hk g [] [] L → ∀ s ∈ L, plainS s
  | [], g, _, _, s, hs => by cases hs
  | z :: L, g, hn, h, s, hs => by
    cases z with
    | op n => simp [nop] at hn
    | cl => obtain ⟨n, o', e, -⟩ := h; cases e
    | lf k n rs =>
      rw [hk] at h
      rcases List.mem_cons.1 hs with rfl | hs
      · intro e
        obtain ⟨i, hi, -⟩ := h.1 e
        cases hi
      · exact free_plain (L := L) hn h.2 s hs
    | al =>
      rcases List.mem_cons.1 hs with rfl | hs
      · trivial
      · exact free_plain (L := L) hn h s hs
    | rp a b =>
      rcases List.mem_cons.1 hs with rfl | hs
      · trivial
      · exact free_plain (L := L) hn h s hs
theorem hk_end : ∀ {L : List Sgn} {g : Nat} {o e : List Nat} {a b : Int}, hk g o e L → hk g o e (L ++ [.rp a b])
  | [], g, o, e, a, b, h => h
  | z :: L, g, o, e, a, b, h => by
    cases z with
    | op n => exact ⟨h.1, h.2.1, hk_end h.2.2⟩
    | cl => obtain ⟨n, o', e1, h1⟩ := h; exact ⟨n, o', e1, hk_end h1⟩
    | lf k n rs => exact ⟨h.1, hk_end h.2⟩
    | al => exact hk_end (L := L) h
    | rp c d => exact hk_end (L := L) h
/-- How many groups a tree has. -/
theorem grp_is (x : Ps) : wf x → ∀ (t : Tr) (wy : Way), er t = te x → grpM (pp wy t) = nop (pfl x) := by
  refine Ps.ind (P := fun x => wf x → ∀ (t : Tr) (wy : Way), er t = te x → grpM (pp wy t) = nop (pfl x)) (fun x ih hw t wy h => ?_) x
  have hft : t.f.k = x.kd := by rw [← er_k, h, te_k]
  have hks : t.ks.map er = (te x).ks := by rw [← er_ks, h]
  have hl : ∀ (l : List Ps) (ks : List Tr) (i : Nat), (∀ y ∈ l, y ∈ x.kids) → ks.map er = l.map te → grpM (pps t wy i ks) = nop (pfls l) := by
    intro l
    induction l with
    | nil =>
      intro ks i _ h
      obtain rfl : ks = [] := by simpa using h
      rw [pps_nil, pfls]; rfl
    | cons y l ih2 =>
      intro ks i hm hk
      match ks, hk with
      | u :: ks, hk =>
        rw [List.map_cons, List.map_cons] at hk
        injection hk with h1 h2
        rw [pps_cons, grpM_append, pfls, nop_append, ih y (hm y (List.mem_cons_self ..)) (wf_kid hw (hm y (List.mem_cons_self ..))) u _ h1, ih2 ks (i + 1) (fun z hz => hm z (List.mem_cons_of_mem _ hz)) h2]
  have hlt : ∀ l : List Ps, nop (pflt l) = nop (pfls l) := by
    intro l
    induction l with
    | nil => rw [pflt, pfls]
    | cons y l ih2 => rw [pflt, pfls, show nop (Sgn.al :: (pfl y ++ pflt l)) = nop (pfl y ++ pflt l) from rfl, nop_append, nop_append, ih2]
  rw [pp_eq]
  simp only [grpM, hft]
  cases x with
  | lf k n rs =>
    rw [wf] at hw
    rw [te] at hks
    rw [show t.ks = [] by simpa [Er.ks] using hks, pps_nil, pfl]
    rcases hw with rfl | rfl | rfl | rfl <;> simp [Ps.kd, grpM, nop]
  | grp n k =>
    rw [te] at hks
    rw [hl [k] t.ks 0 (fun y hy => hy) (by simpa [Er.ks] using hks), pfls_one, pfl]
    simp [Ps.kd, nop, nop_append]
    omega
  | rep a b k =>
    rw [te] at hks
    rw [hl [k] t.ks 0 (fun y hy => hy) (by simpa [Er.ks] using hks), pfls_one, pfl]
    simp [Ps.kd, nop, nop_append]
  | row l =>
    rw [te] at hks
    by_cases e : l = []
    · subst e
      rw [if_pos (show ([] : List Ps).isEmpty = true from rfl)] at hks
      rw [show t.ks = [] by simpa [Er.ks] using hks, pps_nil, pfl, pfls]
      simp [Ps.kd, grpM, nop]
    · rw [if_neg (by simpa using e)] at hks
      rw [hl l t.ks 0 (fun y hy => hy) (by rw [← tes_map]; simpa [Er.ks] using hks), pfl]
      simp [Ps.kd, e]
  | alt l =>
    rw [te] at hks
    rw [hl l t.ks 0 (fun y hy => hy) (by rw [← tes_map]; simpa [Er.ks] using hks), pfl]
    rw [wf] at hw
    cases l with
    | nil => simp at hw
    | cons y l =>
      rw [pfla, pfls, nop_append, nop_append, hlt]
      simp [Ps.kd]
theorem sgns_free : ∀ (T : List Tp) (g g' : Nat), nop (sgns g T) = 0 → sgns g' T = sgns g T
  | [], _, _, _ => rfl
  | t :: T, g, g', h => by
    rw [sgns] at h ⊢
    have h3 : t.1.kind ≠ 3 := fun e => by
      simp only [sgT, e, if_true] at h
      simp [nop] at h
    have e1 : sgT g' t.1 = sgT g t.1 := by simp only [sgT, if_neg h3]
    have e2 : gnx g' t.1 = g' ∧ gnx g t.1 = g := ⟨by simp [gnx, h3], by simp [gnx, h3]⟩
    rw [e2.2] at h
    rw [sgns, e1, e2.1, e2.2, sgns_free T g g']
    have hx : nop (sgT g t.1 :: sgns g T) = nop [sgT g t.1] + nop (sgns g T) := by rw [← nop_append]; rfl
    omega
theorem sgns_shk (k g : Nat) (T : List Tp) : sgns g (T.map (shk k)) = sgns g T := sgns_kinds g (by rw [List.map_map]; rfl)
theorem gcnt_is : ∀ (T : List Tp) (g : Nat), gcnt g T = g + nop (sgns g T)
  | [], g => rfl
  | t :: T, g => by
    rw [gcnt, sgns, gcnt_is T]
    have hx : nop (sgT g t.1 :: sgns (gnx g t.1) T) = nop [sgT g t.1] + nop (sgns (gnx g t.1) T) := by rw [← nop_append]; rfl
    have hy : gnx g t.1 = g + nop [sgT g t.1] := by
      unfold gnx sgT
      repeat' split
      all_goals first | rfl | omega
    rw [hx]
    generalize nop (sgns (gnx g t.1) T) = z
    omega
/-- The branches of a tree. -/
def brs : Ps → List Ps
  | .alt l => l
  | x => [x]
theorem brs_flat (x : Ps) : pfla (brs x) = pfl x := by
  cases x <;> simp only [brs] <;> first | (rw [pfla, pflt, List.append_nil]) | rw [pfl]
theorem brs_wf {x : Ps} (h : wf x) : (∀ y ∈ brs x, isBr y = true ∧ wf y) ∧ 1 ≤ (brs x).length := by
  cases x with
  | alt l =>
    rw [wf] at h
    exact ⟨fun y hy => ⟨h.2.1 y hy, (wfs_iff l).1 h.2.2 y hy⟩, by simp only [brs]; omega⟩
  | _ => exact ⟨fun y hy => by simp [brs] at hy; subst hy; exact ⟨rfl, h⟩, by simp [brs]⟩
theorem brs_te {x : Ps} (h : wf x) : tes (brs x) = altE (te x) := by
  cases x with
  | alt l => simp only [brs]; rw [te]; rfl
  | row l => simp only [brs]; rw [altE_one (by rw [te_k]; exact (kd_br rfl h).2), tes, tes]
  | lf k n rs => simp only [brs]; rw [altE_one (by rw [te_k]; exact (kd_br rfl h).2), tes, tes]
  | grp n k => simp only [brs]; rw [altE_one (by rw [te_k]; exact (kd_br rfl h).2), tes, tes]
  | rep a b k => simp only [brs]; rw [altE_one (by rw [te_k]; exact (kd_br rfl h).2), tes, tes]
theorem brs_dp (x : Ps) : pdps (brs x) ≤ x.dp ∧ (∀ l, x = .alt l → pdps (brs x) + 1 = x.dp) := by
  cases x with
  | alt l => simp only [brs]; rw [Ps.dp]; exact ⟨by omega, fun _ _ => rfl⟩
  | _ => exact ⟨by simp [brs, pdps], fun l e => by cases e⟩
/-- An or of two trees. -/
def orP (x y : Ps) : Ps := .alt (brs x ++ brs y)
theorem pfla_app : ∀ (a b : List Ps), a ≠ [] → b ≠ [] → pfla (a ++ b) = pfla a ++ .al :: pfla b
  | [], _, h, _ => absurd rfl h
  | x :: a, [], _, h => absurd rfl h
  | x :: a, y :: b, _, _ => by rw [List.cons_append, pfla, pfla, pfla, pflt_append, pflt]; simp
theorem orP_flat {x y : Ps} (hx : wf x) (hy : wf y) : pfl (orP x y) = pfl x ++ .al :: pfl y := by
  have h1 := (brs_wf hx).2
  have h2 := (brs_wf hy).2
  unfold orP
  rw [pfl, pfla_app _ _ (fun e => by rw [e] at h1; cases h1) (fun e => by rw [e] at h2; cases h2), brs_flat, brs_flat]
theorem orP_wf {x y : Ps} (hx : wf x) (hy : wf y) : wf (orP x y) := by
  have h1 := brs_wf hx
  have h2 := brs_wf hy
  unfold orP
  rw [wf]
  refine ⟨by rw [List.length_append]; omega, fun z hz => ?_, (wfs_iff _).2 fun z hz => ?_⟩
  · rcases List.mem_append.1 hz with q | q
    · exact (h1.1 z q).1
    · exact (h2.1 z q).1
  · rcases List.mem_append.1 hz with q | q
    · exact (h1.1 z q).2
    · exact (h2.1 z q).2
theorem orP_te {x y : Ps} (hx : wf x) (hy : wf y) : te (orP x y) = altX (te x) (te y) := by
  have h1 := (brs_wf hx).2
  have h2 := (brs_wf hy).2
  unfold orP altX
  rw [← brs_te hx, ← brs_te hy, tes_map, tes_map, ← List.map_append, te_alt (by rw [List.length_append]; omega)]
theorem orP_dp {x y : Ps} (h1 : x.dp < 40) (h2 : y.dp < 40) : (orP x y).dp ≤ 40 := by
  unfold orP
  rw [Ps.dp, pdps_append]
  have := (brs_dp x).1
  have := (brs_dp y).1
  omega
end Go.Proofs.YtpfdapnfkghgkaaGreatDoor
namespace Go.Proofs.YtpfdapnfkghgkaaGreatDoor
open Go Go.RowKit
attribute [local go_sem] ext_cell

abbrev boxM9 (w : World) (m : Md) : World := w.alloc (.cells #[.bool m.c, .bool m.f] 23)
set_option maxRecDepth 100000 in
set_option maxHeartbeats 4000000 in
theorem sound_err {w : World} (hG : Glb w) (s : ByteArray) (m : Md) {c a : Nat} (hc : c ≠ 0) (ha : a ≤ s.size) (hp : ∀ W, Below w.heap.size w W → Calls Tryz.prog 9 #[.string s, .agg #[.bool m.c, .bool m.f]] W (ParseErr W c a)) :
    Calls Tryz.prog 3 #[.string s, .agg #[.bool m.c, .bool m.f]] w fun e w' => e = .returned (.bool true) ∧ Below w.heap.size w w' := by
  have BX : Hid (Below w.heap.size w (boxM9 w m)) := (Below.refl _ _).alloc (Nat.le_refl _) _
  have HE := hide (examples9_c (hG.kept BX.out))
  have HP := hide hp
  have k0 : Hid ((boxM9 w m).cell? ⟨w.heap.size, 0, none⟩ = some (.bool m.c) ∧ (boxM9 w m).cell? ⟨w.heap.size, 1, none⟩ = some (.bool m.f) ∧ w.heap.size < (boxM9 w m).heap.size) := ⟨cell_row (alloc_new w _) (i := 0) rfl, cell_row (alloc_new w _) (i := 1) rfl, lt_of_heap (alloc_new w _)⟩
  have n0 : ((c : Int) != 0) = true := by simp; omega
  have n1 : ¬ (c : Int) = 0 := by omega
  have n2 : (0 : Int) ≤ (a : Int) := by omega
  have n3 : (a : Int) ≤ (s.size : Int) := by omega
  clear hG hp
  go_enter Tryz.func3, Tryz.ntmps3
  go_wp2_with first
    | (go_at_call 8; (with_reducible refine (HE.out).mono ?_); rintro e w5 ⟨rfl, h1⟩; have X5 : Hid (Below w.heap.size w w5) := chain BX.out h1 (Nat.le_refl _); have c0 := (h1.cell (p := ⟨w.heap.size, 0, none⟩) k0.out.2.2).trans k0.out.1; have c1 := (h1.cell (p := ⟨w.heap.size, 1, none⟩) k0.out.2.2).trans k0.out.2.1; have l5 : w.heap.size < w5.heap.size := Nat.lt_of_lt_of_le k0.out.2.2 h1.size; clear h1)
    | (go_at_call 9; (with_reducible refine (HP.out _ X5.out).mono ?_); rintro e w6 ⟨g6, h1, rfl, h2, h3⟩; have X6 : Hid (Below w.heap.size w (w6.alloc nodeZ)) := (chain X5.out h3 (Nat.le_refl _)).alloc (Nat.le_trans X5.out.size h3.size) _; have G6 : Hid (BadAt (w6.alloc nodeZ) g6 c a) := (((Below.refl _ _).alloc (Nat.le_refl _) _).block _ (lt_of_heap h2)).trans h2; have N6 := alloc_new w6 nodeZ; have d0 := cell_row N6 (i := 0) rfl; have d5 := cell_row N6 (i := 5) rfl; have l6 := lt_of_heap N6; have HN6 := hide N6; clear h1 h2 h3 N6)
    | (go_at_call 10; (with_reducible refine (told_bad9 G6.out).mono ?_); rintro e w7 ⟨rfl, h1⟩; have X7 := hide (chain X6.out h1 (Nat.le_refl _)); have e0 := (h1.cell (p := ⟨w6.heap.size, 0, none⟩) l6).trans d0; have e5 := (h1.cell (p := ⟨w6.heap.size, 5, none⟩) l6).trans d5; have l7 : w6.heap.size < w7.heap.size := Nat.lt_of_lt_of_le l6 h1.size; clear h1)
  go_ret
  exact ⟨by simp, X7.out⟩
set_option maxRecDepth 100000 in
set_option maxHeartbeats 4000000 in
theorem sound_ok {w : World} (hG : Glb w) (s : ByteArray) (m : Md) {x : Ps} (hr : ∀ t, er t = te x → rightM m.c m.f 0 0 (pp [] t) = 0) (hp : ∀ W, Below w.heap.size w W → Calls Tryz.prog 9 #[.string s, .agg #[.bool m.c, .bool m.f]] W (ParseOk W x)) :
    Calls Tryz.prog 3 #[.string s, .agg #[.bool m.c, .bool m.f]] w fun e w' => e = .returned (.bool true) ∧ Below w.heap.size w w' := by
  have BX : Hid (Below w.heap.size w (boxM9 w m)) := (Below.refl _ _).alloc (Nat.le_refl _) _
  have HE := hide (examples9_c (hG.kept BX.out))
  have HP := hide hp
  have HR := hide hr
  have k0 : Hid ((boxM9 w m).cell? ⟨w.heap.size, 0, none⟩ = some (.bool m.c) ∧ (boxM9 w m).cell? ⟨w.heap.size, 1, none⟩ = some (.bool m.f) ∧ w.heap.size < (boxM9 w m).heap.size) := ⟨cell_row (alloc_new w _) (i := 0) rfl, cell_row (alloc_new w _) (i := 1) rfl, lt_of_heap (alloc_new w _)⟩
  clear hG hp hr
  go_enter Tryz.func3, Tryz.ntmps3
  go_wp2_with first
    | (go_at_call 8; (with_reducible refine (HE.out).mono ?_); rintro e w5 ⟨rfl, h1⟩; have X5 : Hid (Below w.heap.size w w5) := chain BX.out h1 (Nat.le_refl _); have c0 := (h1.cell (p := ⟨w.heap.size, 0, none⟩) k0.out.2.2).trans k0.out.1; have c1 := (h1.cell (p := ⟨w.heap.size, 1, none⟩) k0.out.2.2).trans k0.out.2.1; have l5 : w.heap.size < w5.heap.size := Nat.lt_of_lt_of_le k0.out.2.2 h1.size; clear h1)
    | (go_at_call 9; (with_reducible refine (HP.out _ X5.out).mono ?_); rintro e w6 ⟨t6, rfl, h1, h2, h3, h4⟩; have b6 := ((Below.refl w6.heap.size w6).alloc (Nat.le_refl _) (.cells #[.int .i64 t6.f.k, .int .i64 t6.f.n, .int .i64 t6.f.mn, .int .i64 t6.f.mx, .slice t6.f.rq t6.f.rs.length t6.f.rc, .slice t6.f.kq t6.f.kl t6.f.kc] 28)); have X6 : Hid (Below w.heap.size w (w6.alloc (.cells #[.int .i64 t6.f.k, .int .i64 t6.f.n, .int .i64 t6.f.mn, .int .i64 t6.f.mx, .slice t6.f.rq t6.f.rs.length t6.f.rc, .slice t6.f.kq t6.f.kl t6.f.kc] 28))) := (chain X5.out h4 (Nat.le_refl _)).alloc (Nat.le_trans X5.out.size h4.size) _; have T6 := hide (h1.kept b6); have E6 := hide h2; have N6 : BoxN (w6.alloc (.cells #[.int .i64 t6.f.k, .int .i64 t6.f.n, .int .i64 t6.f.mn, .int .i64 t6.f.mx, .slice t6.f.rq t6.f.rs.length t6.f.rc, .slice t6.f.kq t6.f.kl t6.f.kc] 28)) w6.heap.size t6.f := alloc_new w6 _; have HN6 := hide N6; have l6 := lt_of_heap N6; have f0 := ((h4.trans (b6.mono h4.size)).cell (p := ⟨w.heap.size, 0, none⟩) l5).trans c0; have f1 := ((h4.trans (b6.mono h4.size)).cell (p := ⟨w.heap.size, 1, none⟩) l5).trans c1; have lw6 : w.heap.size < (w6.alloc (.cells #[.int .i64 t6.f.k, .int .i64 t6.f.n, .int .i64 t6.f.mn, .int .i64 t6.f.mx, .slice t6.f.rq t6.f.rs.length t6.f.rc, .slice t6.f.kq t6.f.kl t6.f.kc] 28)).heap.size := Nat.lt_of_lt_of_le l5 (Nat.le_trans h4.size b6.size); clear h1 h2 h3 h4 N6 b6)
    | (go_at_call 10; (with_reducible refine (told_nil9 _).mono ?_); rintro e w7 ⟨rfl, h1⟩; have X7 := hide (chain X6.out h1 (Nat.le_refl _)); have T7 := hide (T6.out.kept h1); have N7 : BoxN w7 w6.heap.size t6.f := (h1.block _ l6).trans HN6.out; obtain ⟨n0, n1, n2, n3, n4, n5⟩ := N7.six; simp only [Nat.zero_add] at n1 n2 n3 n4 n5; have l7 : w6.heap.size < w7.heap.size := Nat.lt_of_lt_of_le l6 h1.size; have g0 := (h1.cell (p := ⟨w.heap.size, 0, none⟩) lw6).trans f0; have g1 := (h1.cell (p := ⟨w.heap.size, 1, none⟩) lw6).trans f1; have lw7 := Nat.lt_of_lt_of_le lw6 h1.size; have RC0 := right8_c (w := w7) m.c m.f T7.out; rw [HR.out t6 E6.out] at RC0; have RC := hide RC0; clear h1 N7 RC0)
    | (go_at_call 11; (with_reducible refine (RC.out).mono ?_); rintro e w8 ⟨rfl, h1⟩; have X8 := hide (chain X7.out h1 (Nat.le_refl _)); clear h1)
  go_ret
  exact ⟨by simp, X8.out⟩
theorem calls_post {P : Program} {f : FuncId} {args : Array Value} {w : World} {Q : Ending → World → Prop} (h : Calls P f args w Q) : ∃ e w', Q e w' := by
  obtain ⟨e, w', fr, hq, -⟩ := h []
  exact ⟨e, w', hq⟩
/-- What a pattern's tokens hold is as a right tree wants it. -/
theorem lex_ok {w : World} (hG : Glb w) {s : ByteArray} {m : Md} {T : List Tp} (hl : lexM m s = .ok T) : ∀ g, ∀ z ∈ sgns g T, sgOK m.c m.f z := by
  have LC := lex_c hG s m
  rw [hl] at LC
  obtain ⟨e, w', -, v, D, -, h3, h4⟩ := calls_post LC
  have h5 := toks_ok hl h4 (fun d hd => (h3.each d hd).2)
  intro g
  rw [← h4]
  exact sg_ok D g (fun d hd => ⟨(h3.each d hd).2, h5.2.2.1 d hd⟩)
theorem law_sound9 {w : World} (hG : Glb w) (s : ByteArray) (m : Md) :
    Calls Tryz.prog 3 #[.string s, .agg #[.bool m.c, .bool m.f]] w fun e w' => e = .returned (.bool true) ∧ Below w.heap.size w w' := by
  have hends := lexM_ends m s
  cases hl : lexM m s with
  | error y =>
    obtain ⟨c, a⟩ := y
    rw [hl] at hends
    obtain ⟨h1, h2⟩ := hends
    exact sound_err hG s m (c := c) (a := a) (by omega) h2 (fun W hW => parse_lex (hG.kept hW) s m hl)
  | ok T =>
    rw [hl] at hends
    have hst : Stands s T s.size := hends
    cases hh : heldM T with
    | some y =>
      obtain ⟨c, a⟩ := y
      have := held_at hst hh
      exact sound_err hG s m (c := c) (a := a) (by omega) this.2.2 (fun W hW => parse_held (hG.kept hW) s m hl hh)
    | none =>
      obtain ⟨x, hw, hx⟩ := tree_of hl hh
      have PT : ∀ W, Below w.heap.size w W → Calls Tryz.prog 9 #[.string s, .agg #[.bool m.c, .bool m.f]] W (ParseIs W x) := fun W hW => parse_tree (hG.kept hW) s m hl hh hw hx
      unfold ParseIs at PT
      by_cases hd : 40 < x.dp
      · simp only [if_pos hd] at PT
        exact sound_err hG s m (c := 43) (a := 0) (by omega) (by omega) PT
      · simp only [if_neg hd] at PT
        by_cases hn : 2000 < x.sz
        · simp only [if_pos hn] at PT
          exact sound_err hG s m (c := 42) (a := 0) (by omega) (by omega) PT
        · simp only [if_neg hn] at PT
          refine sound_ok hG s m (x := x) (fun t ht => ?_) PT
          have hk := held_hk hh
          rw [← hx] at hk
          refine ps_right ht hw ?_ hk (by omega) (by omega)
          rw [hx]
          exact lex_ok hG hl 0
end Go.Proofs.YtpfdapnfkghgkaaGreatDoor
namespace Go.Proofs.YtpfdapnfkghgkaaGreatDoor
open Go Go.RowKit

abbrev PCall (s : ByteArray) (m : Md) (W : World) (Q : Ending → World → Prop) : Prop := Calls Tryz.prog 9 #[.string s, .agg #[.bool m.c, .bool m.f]] W Q
/-- A pattern that Parse takes. -/
structure Takes (m : Md) (s : ByteArray) (x : Ps) (T : List Tp) : Prop where
  lex : lexM m s = .ok T
  held : heldM T = none
  wf : wf x
  pfl : pfl x = sgns 0 T
  dp : x.dp ≤ 40
  sz : x.sz ≤ 2000
theorem Takes.hk {m : Md} {s : ByteArray} {x : Ps} {T : List Tp} (h : Takes m s x T) : hk 0 [] [] (Go.Proofs.YtpfdapnfkghgkaaGreatDoor.pfl x) := by
  have := held_hk h.held
  rw [← h.pfl] at this
  exact this
theorem Takes.len {m : Md} {s : ByteArray} {x : Ps} {T : List Tp} (h : Takes m s x T) : T.length ≤ s.size := by
  have h2 := lexM_ends m s
  rw [h.lex] at h2
  exact (show Stands s T s.size from h2).few
theorem Takes.small {m : Md} {s : ByteArray} {x : Ps} {T : List Tp} (h : Takes m s x T) : x.sz ≤ 2 * s.size + 1 := by
  have h1 := (psz_bound x h.wf).1
  rw [h.pfl, sgns_length] at h1
  have := h.len
  omega
theorem Takes.calls {m : Md} {s : ByteArray} {x : Ps} {T : List Tp} (h : Takes m s x T) {w : World} (hG : Glb w) : PCall s m w (ParseOk w x) := by
  refine (parse_tree hG s m h.lex h.held h.wf h.pfl).mono fun e w' q => ?_
  unfold ParseIs at q
  rw [if_neg (by have := h.dp; omega), if_neg (by have := h.sz; omega)] at q
  exact q
/-- Whatever a pattern is. -/
theorem parse_any {w : World} (hG : Glb w) (s : ByteArray) (m : Md) : (∃ c a, ∀ W, Below w.heap.size w W → PCall s m W (ParseErr W c a)) ∨ ∃ x T, Takes m s x T := by
  cases hl : lexM m s with
  | error y => exact .inl ⟨y.1, y.2, fun W hW => parse_lex (hG.kept hW) s m hl⟩
  | ok T =>
    cases hh : heldM T with
    | some y => exact .inl ⟨y.1, y.2, fun W hW => parse_held (hG.kept hW) s m hl hh⟩
    | none =>
      obtain ⟨x, hw, hx⟩ := tree_of hl hh
      have PT : ∀ W, Below w.heap.size w W → PCall s m W (ParseIs W x) := fun W hW => parse_tree (hG.kept hW) s m hl hh hw hx
      unfold ParseIs at PT
      by_cases hd : 40 < x.dp
      · simp only [if_pos hd] at PT
        exact .inl ⟨43, 0, PT⟩
      · by_cases hn : 2000 < x.sz
        · simp only [if_neg hd, if_pos hn] at PT
          exact .inl ⟨42, 0, PT⟩
        · exact .inr ⟨x, T, hl, hh, hw, hx, by omega, by omega⟩
theorem lex_kinds {m : Md} {s : ByteArray} {T : List Tp} (h : lexM m s = .ok T) : ∀ t ∈ T, 1 ≤ t.1.kind ∧ t.1.kind ≤ 8 := fun t ht => by
  obtain ⟨p, hb⟩ := lex_beside h
  exact ⟨(hb.tok t ht).ok.1, (hb.tok t ht).ok.2.1⟩
theorem takes_group {m : Md} {a s' : ByteArray} {x : Ps} {T : List Tp} (h : Takes m a x T) (hs : s'.data.toList = [92, 40] ++ a.data.toList ++ [92, 41]) (hz : a.size ≤ 900) (hn : nop (pfl x) = 0) (hd : x.dp < 40) : ∃ T', Takes m s' (.grp 1 x) T' := by
  have hsz : s'.size = a.size + 4 := by rw [← size_list, hs]; simp
  have hl := lex_group h.lex hs (by omega)
  have hp : pfl (.grp 1 x) = sgns 0 ((kT 3, 0, 2) :: T.map (shk 2) ++ [(kT 4, a.size + 2, a.size + 4)]) := by
    have e1 : sgns 1 T = sgns 0 T := sgns_free T 0 1 (by rw [← h.pfl]; exact hn)
    rw [List.cons_append, sgns, show gnx 0 (kT 3) = 1 from rfl, show sgT 0 (kT 3) = .op 1 from rfl, sgns_append, sgns_shk, e1, ← h.pfl, pfl]
    rfl
  have hw : wf (.grp 1 x) := by rw [wf]; exact h.wf
  have hk1 : hk 0 [] [] (pfl (.grp 1 x)) := by
    rw [pfl]
    exact ⟨rfl, by omega, (hk_plain (free_plain hn h.hk)).2 ⟨1, [], rfl, rfl⟩⟩
  exact ⟨_, hl, hk_held (lex_kinds hl) (by rw [← hp]; exact hk1), hw, hp, by rw [Ps.dp]; omega, by rw [Ps.sz]; have := h.small; omega⟩
theorem takes_or {m : Md} {a b s' : ByteArray} {x y : Ps} {T U : List Tp} (h : Takes m a x T) (k : Takes m b y U) (hs : s'.data.toList = a.data.toList ++ [92, 124] ++ b.data.toList) (hz : a.size + b.size ≤ 900) (hn : nop (pfl x) = 0) (hd : x.dp < 40) (he : y.dp < 40) : ∃ T', Takes m s' (orP x y) T' := by
  have hsz : s'.size = a.size + 2 + b.size := by rw [← size_list, hs]; simp; omega
  have hl := lex_alt h.lex k.lex hs (by omega)
  have hp : pfl (orP x y) = sgns 0 (T ++ (kT 5, a.size, a.size + 2) :: U.map (shk (a.size + 2))) := by
    rw [orP_flat h.wf k.wf, sgns_append, gcnt_is, ← h.pfl, hn, Nat.add_zero, sgns, show gnx 0 (kT 5) = 0 from rfl, sgns_shk, ← k.pfl]
    rfl
  have hw := orP_wf h.wf k.wf
  have hk1 : hk 0 [] [] (pfl (orP x y)) := by
    rw [orP_flat h.wf k.wf]
    exact (hk_plain (free_plain hn h.hk)).2 k.hk
  refine ⟨_, hl, hk_held (lex_kinds hl) (by rw [← hp]; exact hk1), hw, hp, orP_dp hd he, ?_⟩
  have h1 := (psz_bound _ hw).1
  rw [hp, sgns_length] at h1
  have := h.len
  have := k.len
  simp at h1
  omega
end Go.Proofs.YtpfdapnfkghgkaaGreatDoor
namespace Go.Proofs.YtpfdapnfkghgkaaGreatDoor
open Go

/-- Does a byte stand for itself? -/
def plainB (x : UInt8) : Bool := !(x == 92 || x == 91 || x == 46 || x == 42 || x == 94 || x == 36)
def encP (x : UInt8) : List UInt8 := if plainB x then [x] else [92, x]
def low (x : UInt8) : Bool := decide (x.toNat < 128)
theorem plain_not {x : UInt8} (h : plainB x = true) : x.toNat ≠ 92 ∧ x.toNat ≠ 91 ∧ x.toNat ≠ 46 ∧ x.toNat ≠ 42 ∧ x.toNat ≠ 94 ∧ x.toNat ≠ 36 := by
  unfold plainB at h
  simp only [Bool.not_eq_true', Bool.or_eq_false_iff, beq_eq_false_iff_ne] at h
  obtain ⟨⟨⟨⟨⟨h1, h2⟩, h3⟩, h4⟩, h5⟩, h6⟩ := h
  refine ⟨fun q => h1 ?_, fun q => h2 ?_, fun q => h3 ?_, fun q => h4 ?_, fun q => h5 ?_, fun q => h6 ?_⟩ <;> exact UInt8.toNat_inj.1 q
theorem special {x : UInt8} (h : plainB x = false) : x = 92 ∨ x = 91 ∨ x = 46 ∨ x = 42 ∨ x = 94 ∨ x = 36 := by
  unfold plainB at h
  simp only [Bool.not_eq_false', Bool.or_eq_true, beq_iff_eq] at h
  rcases h with ((((h | h) | h) | h) | h) | h
  all_goals simp [h]
theorem lx_plain (m : Md) (s : ByteArray) : ∀ (R : List UInt8) (f : Nat) (A : List UInt8) (T : List Tp), s.data.toList = A ++ R.flatMap encP → (∀ x ∈ R, x.toNat < 128) → s.size < f + A.length →
    ∃ T', lx m s f A.length T = .ok (T ++ T') ∧ T'.length = R.length ∧ ∀ (i : Nat) (x : UInt8), R[i]? = some x → ∃ a e, T'[i]? = some (setT m [((x.toNat : Int), (x.toNat : Int))] false, a, e)
  | R, 0, A, T, h, hR, hf => by
    have := congrArg List.length h
    rw [size_list, List.length_append] at this
    omega
  | [], f + 1, A, T, h, hR, hf => by
    have hz : s.size = A.length := by rw [← size_list, h]; simp
    exact ⟨[], by rw [lx, if_neg (by omega)]; simp, rfl, fun i x hx => by simp at hx⟩
  | x :: R, f + 1, A, T, h, hR, hf => by
    have hx := hR x (by simp)
    have key : tok m s A.length (lastK T) = .ok (setT m [((x.toNat : Int), (x.toNat : Int))] false, A.length + (encP x).length) ∧ A.length < s.size := by
      cases hp : plainB x with
      | true =>
        have e : encP x = [x] := by unfold encP; rw [hp]; rfl
        have h1 : s.data.toList = A ++ x :: R.flatMap encP := by rw [h, List.flatMap_cons, e]; rfl
        obtain ⟨hlt, hb⟩ := bt_at.1 (show s.data.toList[A.length]? = some x by rw [h1]; simp)
        obtain ⟨n1, n2, n3, n4, n5, n6⟩ := plain_not hp
        refine ⟨?_, hlt⟩
        have sd : ∀ c : UInt8, x.toNat ≠ c.toNat → sees s A.length [c] = false := fun c hc => by rw [sees_dec hlt, hb]; exact decide_eq_false hc
        unfold tok
        rw [sd 92 n1, sd 42 n4, sd 94 n5, sd 36 n6, sd 46 n3, sd 91 n2, chr_ascii m (by omega), hb, e]
        rfl
      | false =>
        have e : encP x = [92, x] := by unfold encP; rw [hp]; rfl
        have h1 : s.data.toList = A ++ 92 :: x :: R.flatMap encP := by rw [h, List.flatMap_cons, e]; rfl
        obtain ⟨hlt, hb⟩ := bt_at.1 (show s.data.toList[A.length]? = some 92 by rw [h1]; simp)
        obtain ⟨hlt2, hb2⟩ := bt_at.1 (show s.data.toList[A.length + 1]? = some x by rw [h1]; simp)
        refine ⟨?_, hlt⟩
        have ht : tok m s A.length (lastK T) = esc m s A.length (lastK T) := by
          unfold tok
          rw [if_pos (sees_one.2 ⟨hlt, hb⟩)]
        rw [ht, esc_set m s A.length (lastK T) (by omega) (by rw [hb2]; rcases special hp with rfl | rfl | rfl | rfl | rfl | rfl <;> decide), hb2, e]
        rfl
    obtain ⟨T', q1, q2, q3⟩ := lx_plain m s R f (A ++ encP x) (T ++ [(setT m [((x.toNat : Int), (x.toNat : Int))] false, A.length, A.length + (encP x).length)]) (by rw [h, List.flatMap_cons, List.append_assoc]) (fun y hy => hR y (by simp [hy])) (by
      have : 0 < (encP x).length := by unfold encP; split <;> simp
      rw [List.length_append]; omega)
    refine ⟨(setT m [((x.toNat : Int), (x.toNat : Int))] false, A.length, A.length + (encP x).length) :: T', ?_, by simp [q2], ?_⟩
    · rw [lx, if_pos key.2, key.1]
      simp only
      rw [List.length_append] at q1
      rw [q1, List.append_assoc]
      rfl
    · intro i y hy
      cases i with
      | zero => simp at hy; subst hy; exact ⟨_, _, rfl⟩
      | succ i => simp at hy; simpa using q3 i y hy
theorem lex_plain (m : Md) (s : ByteArray) (R : List UInt8) (h : s.data.toList = R.flatMap encP) (hR : ∀ x ∈ R, x.toNat < 128) (hs : s.size ≤ 2000) :
    ∃ T, lexM m s = .ok T ∧ T.length = R.length ∧ ∀ (i : Nat) (x : UInt8), R[i]? = some x → ∃ a e, T[i]? = some (setT m [((x.toNat : Int), (x.toNat : Int))] false, a, e) := by
  obtain ⟨T, h1, h2, h3⟩ := lx_plain m s R (s.size + 1) [] [] (by rw [h]; rfl) hR (by simp)
  refine ⟨T, ?_, h2, h3⟩
  unfold lexM
  rw [if_neg (by omega)]
  simpa using h1
/-- The class of a byte below 128. -/
theorem cls_one {m : Md} {C : List (Int × Int)} {x : Int} (h : IsC C (setQ m [(x, x)] false)) (h0 : 0 ≤ x) (h1 : x < 128) (hf : m.f = false ∨ ¬ (65 ≤ x ∧ x ≤ 90) ∧ ¬ (97 ≤ x ∧ x ≤ 122)) : C = [(x, x)] := by
  refine cls_unique _ _ h.cls ⟨by simp, by simp⟩ fun y => (h.mem y).trans ?_
  simp only [setQ, Bool.false_eq_true, if_false, foldQ, in_one]
  constructor
  · rintro ⟨-, k⟩
    cases hm : m.f with
    | false => rw [hm] at k; simpa using k
    | true =>
      rw [hm] at k hf
      simp only [if_true] at k
      simp only [Bool.true_eq_false, false_or] at hf
      omega
  · intro k
    have hy : y = x := by omega
    subst hy
    refine ⟨⟨h0, ?_, fun _ => by omega⟩, ?_⟩
    · unfold top; split <;> omega
    · cases m.f with
      | false => simp
      | true => simp
theorem cls_two {m : Md} {C : List (Int × Int)} {x l : Int} (h : IsC C (setQ m [(x, x)] false)) (hf : m.f = true) (hl : 65 ≤ l ∧ l ≤ 90) (hx : x = l ∨ x = l + 32) : C = [(l, l), (l + 32, l + 32)] := by
  refine cls_unique _ _ h.cls ⟨by simp, by simp⟩ fun y => (h.mem y).trans ?_
  have e1 : In [(l, l), (l + 32, l + 32)] y ↔ y = l ∨ y = l + 32 := by
    rw [in_cons, in_one]
    simp only
    omega
  have e2 : foldQ (In [(x, x)]) y ↔ y = l ∨ y = l + 32 := by
    unfold foldQ
    rw [in_one, in_one, in_one]
    simp only
    omega
  rw [e1]
  unfold setQ
  rw [hf]
  simp only [Bool.false_eq_true, if_false, if_true]
  rw [e2]
  constructor
  · exact fun k => k.2
  · intro k
    refine ⟨⟨by omega, ?_, fun _ => by omega⟩, k⟩
    unfold top; split <;> omega
end Go.Proofs.YtpfdapnfkghgkaaGreatDoor
namespace Go.Proofs.YtpfdapnfkghgkaaGreatDoor
open Go Go.RowKit

theorem ret_rep {R : Ending → World → Prop} {a : Act} {W : World} {b : Nat} {f : Fl} {e : Int} (h : Six W b 0 f) (ha : a.tmps[6]?.getD undef = .pointer (some ⟨b, 0, none⟩)) (he : a.tmps[7]?.getD undef = .int .i64 e) (hd : a.defers = []) (hR : R (.returned (.tuple #[.agg #[.int .i64 f.k, .int .i64 f.n, .int .i64 f.mn, .int .i64 f.mx, .slice f.rq f.rs.length f.rc, .slice f.kq f.kl f.kc], .int .i64 e])) W) : bodyPost Tryz.prog Tryz.f17 R .ret a W := by
  obtain ⟨z0, z1, z2, z3, z4, z5⟩ := h
  simp only [Nat.zero_add] at z1 z2 z3 z4 z5
  refine bodyPost_ret (v := .tuple #[.agg #[.int .i64 f.k, .int .i64 f.n, .int .i64 f.mn, .int .i64 f.mx, .slice f.rq f.rs.length f.rc, .slice f.kq f.kl f.kc], .int .i64 e]) ?_ hd hR
  simp [results, Tryz.results17, go_sem, ha, he, z0, z1, z2, z3, z4, z5]
set_option maxHeartbeats 2000000 in
theorem rep_bad {w : World} (f : Fl) (lo hi : Int) (hb : thingB f.k = false ∨ bndB lo hi = false) :
    Calls Tryz.prog 17 #[.agg #[.int .i64 f.k, .int .i64 f.n, .int .i64 f.mn, .int .i64 f.mx, .slice f.rq f.rs.length f.rc, .slice f.kq f.kl f.kc], .int .i64 lo, .int .i64 hi] w fun e w' => e = .returned (.tuple #[.agg #[.int .i64 0, .int .i64 0, .int .i64 0, .int .i64 0, .slice none 0 0, .slice none 0 0], .int .i64 (if thingB f.k = false then 50 else 1)]) ∧ Below w.heap.size w w' := by
  have B1 : Hid (Below w.heap.size w ((w.alloc (.cells #[.int .i64 f.k, .int .i64 f.n, .int .i64 f.mn, .int .i64 f.mx, .slice f.rq f.rs.length f.rc, .slice f.kq f.kl f.kc] 28)).alloc (.cells #[.int .i64 0, .int .i64 0, .int .i64 0, .int .i64 0, .slice none 0 0, .slice none 0 0] 28))) := ((Below.refl _ _).alloc (Nat.le_refl _) _).alloc (by simp) _
  have N1 : Hid (BoxN ((w.alloc (.cells #[.int .i64 f.k, .int .i64 f.n, .int .i64 f.mn, .int .i64 f.mx, .slice f.rq f.rs.length f.rc, .slice f.kq f.kl f.kc] 28)).alloc (.cells #[.int .i64 0, .int .i64 0, .int .i64 0, .int .i64 0, .slice none 0 0, .slice none 0 0] 28)) w.heap.size f) := (Below.heap_alloc _ _ _ (by simp)).trans (alloc_new w _)
  obtain ⟨c0, -⟩ := N1.out.six
  have HT := hide (mayRepeat_c f.k)
  have HB := hide (rightBounds_c lo hi)
  cases ht : thingB f.k with
  | false =>
    rw [ht] at HT
    rw [if_pos rfl]
    clear ht hb
    go_enter Tryz.func17, Tryz.ntmps17
    go_wp2_with (go_at_call 33; (with_reducible refine (HT.out _).mono ?_); rintro e w5 ⟨rfl, h5⟩; subst w5)
    have Z9 : BoxN ((w.alloc (.cells #[.int .i64 f.k, .int .i64 f.n, .int .i64 f.mn, .int .i64 f.mx, .slice f.rq f.rs.length f.rc, .slice f.kq f.kl f.kc] 28)).alloc (.cells #[.int .i64 0, .int .i64 0, .int .i64 0, .int .i64 0, .slice none 0 0, .slice none 0 0] 28)) (w.heap.size + 1) (bare 0) := (by
      have := alloc_new (w.alloc (.cells #[.int .i64 f.k, .int .i64 f.n, .int .i64 f.mn, .int .i64 f.mx, .slice f.rq f.rs.length f.rc, .slice f.kq f.kl f.kc] 28)) (.cells #[.int .i64 0, .int .i64 0, .int .i64 0, .int .i64 0, .slice none 0 0, .slice none 0 0] 28)
      rwa [World.size_alloc] at this)
    exact ret_rep Z9.six rfl rfl rfl ⟨rfl, B1.out⟩
  | true =>
    have hb2 : bndB lo hi = false := by rcases hb with z | z; rw [ht] at z; cases z; exact z
    rw [ht] at HT
    rw [hb2] at HB
    rw [if_neg (by decide)]
    clear ht hb hb2
    go_enter Tryz.func17, Tryz.ntmps17
    go_wp2_with first | (go_at_call 33; (with_reducible refine (HT.out _).mono ?_); rintro e w5 ⟨rfl, h5⟩; subst w5) | (go_at_call 34; (with_reducible refine (HB.out _).mono ?_); rintro e w5 ⟨rfl, h5⟩; subst w5)
    have Z9 : BoxN ((w.alloc (.cells #[.int .i64 f.k, .int .i64 f.n, .int .i64 f.mn, .int .i64 f.mx, .slice f.rq f.rs.length f.rc, .slice f.kq f.kl f.kc] 28)).alloc (.cells #[.int .i64 0, .int .i64 0, .int .i64 0, .int .i64 0, .slice none 0 0, .slice none 0 0] 28)) (w.heap.size + 1) (bare 0) := (by
      have := alloc_new (w.alloc (.cells #[.int .i64 f.k, .int .i64 f.n, .int .i64 f.mn, .int .i64 f.mx, .slice f.rq f.rs.length f.rc, .slice f.kq f.kl f.kc] 28)) (.cells #[.int .i64 0, .int .i64 0, .int .i64 0, .int .i64 0, .slice none 0 0, .slice none 0 0] 28)
      rwa [World.size_alloc] at this)
    exact ret_rep Z9.six rfl rfl rfl ⟨rfl, B1.out⟩
end Go.Proofs.YtpfdapnfkghgkaaGreatDoor
namespace Go.Proofs.YtpfdapnfkghgkaaGreatDoor
open Go

/-- A number's digits. -/
def natD (n : Nat) : List UInt8 := if h : n < 10 then [UInt8.ofNat (48 + n)] else natD (n / 10) ++ [UInt8.ofNat (48 + n % 10)]
termination_by n
decreasing_by omega
theorem natD_small {n : Nat} (h : n < 10) : natD n = [UInt8.ofNat (48 + n)] := by rw [natD]; simp [h]
theorem natD_big {n : Nat} (h : ¬ n < 10) : natD n = natD (n / 10) ++ [UInt8.ofNat (48 + n % 10)] := by rw [natD]; simp [h]
def intD (z : Int) : List UInt8 := if z < 0 then 45 :: natD (-(z + 1)).toNat else natD z.toNat
theorem dig_of {r : Nat} (h : r < 10) : dig (UInt8.ofNat (48 + r)) = true ∧ (UInt8.ofNat (48 + r)).toNat - 48 = r := by
  have : ∀ r : Fin 10, dig (UInt8.ofNat (48 + r.1)) = true ∧ (UInt8.ofNat (48 + r.1)).toNat - 48 = r.1 := by decide
  exact this ⟨r, h⟩
theorem natD_dig : ∀ (k n : Nat), n ≤ k → ∀ x ∈ natD n, dig x = true
  | k, n, hk, x, hx => by
    by_cases h : n < 10
    · rw [natD_small h] at hx; rw [List.mem_singleton.1 hx]; exact (dig_of h).1
    · rw [natD_big h] at hx
      rcases List.mem_append.1 hx with hx | hx
      · cases k with
        | zero => omega
        | succ k => exact natD_dig k (n / 10) (by omega) x hx
      · rw [List.mem_singleton.1 hx]; exact (dig_of (by omega)).1
theorem natD_pos (n : Nat) : 0 < (natD n).length := by
  by_cases h : n < 10
  · rw [natD_small h]; simp
  · rw [natD_big h]; simp
theorem natD_len : ∀ (k n : Nat), n < 10 ^ k → 1 ≤ k → (natD n).length ≤ k
  | 0, n, h, h1 => by omega
  | k + 1, n, h, _ => by
    by_cases h10 : n < 10
    · rw [natD_small h10]; simp
    · rw [natD_big h10, List.length_append, List.length_singleton]
      have h2 : n / 10 < 10 ^ k := by rw [Nat.pow_succ] at h; omega
      cases k with
      | zero => simp at h2; omega
      | succ k => have := natD_len (k + 1) (n / 10) h2 (by omega); omega
theorem natD_num : ∀ (k n : Nat), n ≤ k → numL (natD n) = min n 256
  | k, n, hk => by
    by_cases h : n < 10
    · rw [natD_small h]
      have := numL_snoc [] (UInt8.ofNat (48 + n))
      rw [List.nil_append] at this
      rw [this, (dig_of h).2]
      simp [numL]
    · rw [natD_big h, numL_snoc, (dig_of (by omega)).2]
      cases k with
      | zero => omega
      | succ k => rw [natD_num k (n / 10) (by omega)]; omega
theorem numL_zeros (z : Nat) (l : List UInt8) : numL (List.replicate z 48 ++ l) = numL l := by
  induction z with
  | zero => rfl
  | succ z ih =>
    rw [List.replicate_succ, List.cons_append]
    have : numL (48 :: (List.replicate z 48 ++ l)) = numL (List.replicate z 48 ++ l) := rfl
    rw [this, ih]
theorem takeWhile_all {p : UInt8 → Bool} (x : UInt8) (hx : p x = false) (r : List UInt8) : ∀ l : List UInt8, (∀ y ∈ l, p y = true) → (l ++ x :: r).takeWhile p = l
  | [], _ => by simp [hx]
  | a :: l, h => by
    rw [List.cons_append, List.takeWhile_cons, if_pos (h a (by simp)), takeWhile_all x hx r l fun y hy => h y (by simp [hy])]
/-- The pattern. -/
def numT (Z M N : List UInt8) : List UInt8 := [97, 92, 123] ++ Z ++ M ++ [44] ++ N ++ [92, 125]
theorem sees_at {s : ByteArray} {A B : List UInt8} (h : s.data.toList = A ++ B) (t : List UInt8) : sees s A.length t = t.isPrefixOf B := by
  unfold sees Lib.hasPrefix
  rw [h, List.drop_left]
theorem digs_at {s : ByteArray} {A B : List UInt8} (h : s.data.toList = A ++ B) : digs s A.length = B.takeWhile dig := by
  unfold digs
  rw [h, List.drop_left]
theorem zeros_dig (z : Nat) : ∀ x ∈ List.replicate z (48 : UInt8), dig x = true := fun x hx => by rw [List.eq_of_mem_replicate hx]; rfl
section
variable {s : ByteArray} {z : Nat}
theorem first_tok {Z M N : List UInt8} (h : s.data.toList = numT Z M N) (hs : s.size ≤ 2000) : lexM ⟨false, false⟩ s = (match intv s 1 with
    | .error e => .error e
    | .ok (t, q) => lx ⟨false, false⟩ s (s.size - 1) q [(setT ⟨false, false⟩ [(97, 97)] false, 0, 1), (t, 1, q)]) := by
  have hsz : 3 ≤ s.size := by rw [← size_list, h]; simp [numT]
  have b0 : bt s 0 = 97 := (bt_at.1 (show s.data.toList[0]? = some 97 by rw [h]; rfl)).2
  have b1 : bt s 1 = 92 := (bt_at.1 (show s.data.toList[1]? = some 92 by rw [h]; rfl)).2
  have b2 : bt s 2 = 123 := (bt_at.1 (show s.data.toList[2]? = some 123 by rw [h]; rfl)).2
  unfold lexM
  rw [if_neg (by omega), lx, if_pos (by omega)]
  have t0 : tok ⟨false, false⟩ s 0 (lastK []) = .ok (setT ⟨false, false⟩ [(97, 97)] false, 1) := by
    have sd : ∀ c : UInt8, sees s 0 [c] = decide (97 = c.toNat) := fun c => by rw [sees_dec (by omega), b0]
    unfold tok
    rw [sd 92, sd 42, sd 94, sd 36, sd 46, sd 91, chr_ascii _ (by omega), b0]
    rfl
  rw [t0]
  simp only [List.nil_append]
  obtain ⟨k, hk⟩ : ∃ k, s.size = k + 1 := ⟨s.size - 1, by omega⟩
  have t1 : tok ⟨false, false⟩ s 1 (lastK [(setT ⟨false, false⟩ [(97, 97)] false, 0, 1)]) = intv s 1 := by
    unfold tok
    rw [if_pos (sees_one.2 ⟨by omega, b1⟩)]
    unfold esc
    rw [if_neg (by omega), show 1 + 1 = 2 from rfl, b2]
    rfl
  rw [hk, lx, if_pos (by omega), t1]
  rfl
theorem iv_neg {M N : List UInt8} {M' : List UInt8} (h : s.data.toList = numT (List.replicate z 48) M N) (hM : M = 45 :: M') : intv s 1 = .error (36, 1) := by
  have e1 : s.data.toList = [97, 92, 123] ++ (List.replicate z 48 ++ 45 :: (M' ++ [44] ++ N ++ [92, 125])) := by rw [h, hM]; simp [numT]
  have d1 : digs s 3 = List.replicate z 48 := by
    rw [show 3 = ([97, 92, 123] : List UInt8).length from rfl, digs_at e1]
    exact takeWhile_all 45 rfl _ _ (zeros_dig z)
  have e2 : s.data.toList = ([97, 92, 123] ++ List.replicate z 48) ++ 45 :: (M' ++ [44] ++ N ++ [92, 125]) := by rw [e1]; simp
  have hQ : ivQ s 1 = ([97, 92, 123] ++ List.replicate z (48 : UInt8)).length := by unfold ivQ; rw [show 1 + 2 = 3 from rfl, d1]; simp; omega
  have s1 : sees s (ivQ s 1) [44] = false := by rw [hQ, sees_at e2]; rfl
  have s2 : sees s (ivQ s 1) [92, 125] = false := by rw [hQ, sees_at e2]; rfl
  have hR : ivR s 1 = ivQ s 1 := by unfold ivR; rw [s1]; rfl
  unfold intv
  rw [hR, if_pos (.inr s2)]
theorem iv_pos {a : Nat} {N : List UInt8} (h : s.data.toList = numT (List.replicate z 48) (natD a) N) : digs s 3 = List.replicate z 48 ++ natD a ∧ ivQ s 1 = 3 + z + (natD a).length ∧ sees s (ivQ s 1) [44] = true ∧ s.data.toList = ([97, 92, 123] ++ List.replicate z 48 ++ natD a ++ [44]) ++ (N ++ [92, 125]) ∧ ivQ s 1 + 1 = ([97, 92, 123] ++ List.replicate z (48 : UInt8) ++ natD a ++ [44]).length := by
  have e1 : s.data.toList = [97, 92, 123] ++ ((List.replicate z 48 ++ natD a) ++ 44 :: (N ++ [92, 125])) := by rw [h]; simp [numT]
  have d1 : digs s 3 = List.replicate z 48 ++ natD a := by
    rw [show 3 = ([97, 92, 123] : List UInt8).length from rfl, digs_at e1]
    refine takeWhile_all 44 rfl _ _ fun y hy => ?_
    rcases List.mem_append.1 hy with hy | hy
    · exact zeros_dig z y hy
    · exact natD_dig a a (Nat.le_refl _) y hy
  have e2 : s.data.toList = ([97, 92, 123] ++ List.replicate z 48 ++ natD a) ++ 44 :: (N ++ [92, 125]) := by rw [e1]; simp
  have hQ : ivQ s 1 = ([97, 92, 123] ++ List.replicate z (48 : UInt8) ++ natD a).length := by unfold ivQ; rw [show 1 + 2 = 3 from rfl, d1]; simp; omega
  refine ⟨d1, by rw [hQ]; simp; omega, by rw [hQ, sees_at e2]; rfl, by rw [e2]; simp, by rw [hQ]; simp; omega⟩
theorem iv_neg2 {a : Nat} {N N' : List UInt8} (h : s.data.toList = numT (List.replicate z 48) (natD a) N) (hN : N = 45 :: N') : intv s 1 = .error (36, 1) := by
  obtain ⟨d1, hQ, s1, e3, hl⟩ := iv_pos h
  have d2 : digs s (ivQ s 1 + 1) = [] := by rw [hl, digs_at e3, hN]; rfl
  have hR : ivR s 1 = ivQ s 1 + 1 := by unfold ivR; rw [s1, d2]; rfl
  have s2 : sees s (ivQ s 1 + 1) [92, 125] = false := by rw [hl, sees_at e3, hN]; rfl
  unfold intv
  rw [hR, if_pos (.inr s2)]
theorem iv_both {a b : Nat} (h : s.data.toList = numT (List.replicate z 48) (natD a) (natD b)) : intv s 1 = if 255 < a ∨ 255 < b ∨ b < a then .error (37, 1) else .ok (repT a b, s.size) := by
  obtain ⟨d1, hQ, s1, e3, hl⟩ := iv_pos h
  have d2 : digs s (ivQ s 1 + 1) = natD b := by
    rw [hl, digs_at e3]
    exact takeWhile_all 92 rfl _ _ (natD_dig b b (Nat.le_refl _))
  have hR : ivR s 1 = ivQ s 1 + 1 + (natD b).length := by unfold ivR; rw [s1, d2]; rfl
  have hB : ivB s 1 = (min b 256 : Nat) := by
    unfold ivB
    rw [s1, d2, if_pos rfl, if_neg (by have := natD_pos b; omega), natD_num b b (Nat.le_refl _)]
  have e4 : s.data.toList = ([97, 92, 123] ++ List.replicate z 48 ++ natD a ++ [44] ++ natD b) ++ [92, 125] := by rw [e3]; simp
  have hl2 : ivR s 1 = ([97, 92, 123] ++ List.replicate z (48 : UInt8) ++ natD a ++ [44] ++ natD b).length := by rw [hR, hl]; simp; omega
  have s2 : sees s (ivR s 1) [92, 125] = true := by rw [hl2, sees_at e4]; rfl
  have hsz : s.size = ivR s 1 + 2 := by rw [← size_list, e4, hl2]; simp; omega
  have hn : numL (digs s (1 + 2)) = min a 256 := by rw [show 1 + 2 = 3 from rfl, d1, numL_zeros, natD_num a a (Nat.le_refl _)]
  have hp : ¬ (digs s (1 + 2)).length = 0 := by rw [show 1 + 2 = 3 from rfl, d1, List.length_append]; have := natD_pos a; omega
  unfold intv
  rw [if_neg (by rw [s2]; simp; simpa using hp), hn, hB, ← hsz]
  by_cases hc : 255 < a ∨ 255 < b ∨ b < a
  · rw [if_pos hc, if_pos (by omega)]
  · rw [if_neg hc, if_neg (by omega), show min a 256 = a by omega, show min b 256 = b by omega]
end
end Go.Proofs.YtpfdapnfkghgkaaGreatDoor
namespace Go.Proofs.YtpfdapnfkghgkaaGreatDoor
open Go Go.RowKit
attribute [local go_sem] ext_cell

/-- What Rep answers of a thing. -/
def RepIs (w : World) (lo hi : Int) (x : Er) (e : Ending) (w' : World) : Prop := ∃ t', e = .returned (.tuple #[.agg #[.int .i64 t'.f.k, .int .i64 t'.f.n, .int .i64 t'.f.mn, .int .i64 t'.f.mx, .slice t'.f.rq t'.f.rs.length t'.f.rc, .slice t'.f.kq t'.f.kl t'.f.kc], .int .i64 0]) ∧ TA w' t' ∧ er t' = .mk 9 0 lo hi [] [x] ∧ Below w.heap.size w w'
set_option maxRecDepth 100000 in
set_option maxHeartbeats 4000000 in
theorem rep_c9 {w : World} {t : Tr} (hta : TA w t) (hsz : t.sz < 1000000) (lo hi : Int) (ht : thingB t.f.k = true) (hbn : bndB lo hi = true) :
    Calls Tryz.prog 17 #[.agg #[.int .i64 t.f.k, .int .i64 t.f.n, .int .i64 t.f.mn, .int .i64 t.f.mx, .slice t.f.rq t.f.rs.length t.f.rc, .slice t.f.kq t.f.kl t.f.kc], .int .i64 lo, .int .i64 hi] w (RepIs w lo hi (er t)) := by
  have B1 : Hid (Below w.heap.size w ((w.alloc (.cells #[.int .i64 t.f.k, .int .i64 t.f.n, .int .i64 t.f.mn, .int .i64 t.f.mx, .slice t.f.rq t.f.rs.length t.f.rc, .slice t.f.kq t.f.kl t.f.kc] 28)).alloc nodeZ)) := ((Below.refl _ _).alloc (Nat.le_refl _) _).alloc (by simp) _
  have N1 : BoxN ((w.alloc (.cells #[.int .i64 t.f.k, .int .i64 t.f.n, .int .i64 t.f.mn, .int .i64 t.f.mx, .slice t.f.rq t.f.rs.length t.f.rc, .slice t.f.kq t.f.kl t.f.kc] 28)).alloc nodeZ) w.heap.size t.f := (Below.heap_alloc _ _ _ (by simp)).trans (alloc_new w _)
  have Z1 : Hid (((w.alloc (.cells #[.int .i64 t.f.k, .int .i64 t.f.n, .int .i64 t.f.mn, .int .i64 t.f.mx, .slice t.f.rq t.f.rs.length t.f.rc, .slice t.f.kq t.f.kl t.f.kc] 28)).alloc nodeZ).heap[w.heap.size + 1]? = some nodeZ) := (by
    have := alloc_new (w.alloc (.cells #[.int .i64 t.f.k, .int .i64 t.f.n, .int .i64 t.f.mn, .int .i64 t.f.mx, .slice t.f.rq t.f.rs.length t.f.rc, .slice t.f.kq t.f.kl t.f.kc] 28)) nodeZ
    rwa [World.size_alloc] at this)
  have CP := hide (copied8_c (hta.kept B1.out) (by omega))
  have HT := hide (mayRepeat_c t.f.k)
  have HBN := hide (rightBounds_c lo hi)
  rw [ht] at HT
  rw [hbn] at HBN
  have HN1 := hide N1
  clear hta ht hbn N1
  go_enter Tryz.func17, Tryz.ntmps17
  go_upto_region 1 with fail
  generalize ((w.alloc (.cells #[.int .i64 t.f.k, .int .i64 t.f.n, .int .i64 t.f.mn, .int .i64 t.f.mx, .slice t.f.rq t.f.rs.length t.f.rc, .slice t.f.kq t.f.kl t.f.kc] 28)).alloc nodeZ) = W1 at B1 HN1 Z1 CP ⊢
  obtain ⟨n0, n1, n2, n3, n4, n5⟩ := HN1.out.six
  simp only [Nat.zero_add] at n1 n2 n3 n4 n5
  have ln := lt_of_heap HN1.out
  go_wp2_with first
    | (go_at_call 33; (with_reducible refine (HT.out _).mono ?_); rintro e w5 ⟨rfl, h5⟩; subst w5)
    | (go_at_call 34; (with_reducible refine (HBN.out _).mono ?_); rintro e w5 ⟨rfl, h5⟩; subst w5)
    | (go_at_call 35; (with_reducible refine (CP.out).mono ?_); rintro e w6 ⟨t6, rfl, h1, h2, h3, h4⟩; have Z6 : w6.heap[w.heap.size + 1]? = some nodeZ := (h4.block _ (lt_of_heap Z1.out)).trans Z1.out; have l6 := lt_of_heap Z6; have r0 := cell_row Z6 (i := 0) rfl; have r1 := cell_row Z6 (i := 1) rfl; have r2 := cell_row Z6 (i := 2) rfl; have r3 := cell_row Z6 (i := 3) rfl; have r4 := cell_row Z6 (i := 4) rfl; have r5 := cell_row Z6 (i := 5) rfl; have fz := fun z => frz_row Z6 z; have HZ6 := hide Z6; have T6 := hide h1; have F6 := hide h2; have E6 := hide h3; have B6 := hide h4; clear h1 h2 h3 h4)
  have sz6 : (put6 w6 (w.heap.size + 1) 0 ⟨9, 0, lo, hi, [], none, 0, some ⟨w6.heap.size, 0, none⟩, 1, 1⟩).heap.size = w6.heap.size := by unfold put6; simp
  have P6 := put6_fr w6 (w.heap.size + 1) 0 ⟨9, 0, lo, hi, [], none, 0, some ⟨w6.heap.size, 0, none⟩, 1, 1⟩
  have S6 : Six (put6 w6 (w.heap.size + 1) 0 ⟨9, 0, lo, hi, [], none, 0, some ⟨w6.heap.size, 0, none⟩, 1, 1⟩) (w.heap.size + 1) 0 ⟨9, 0, lo, hi, [], none, 0, some ⟨w6.heap.size, 0, none⟩, 1, 1⟩ := put6_six (f := bare 0) ⟨r0, r1, r2, r3, r4, r5⟩
  have T7 := T6.out.write ((foot_fk F6.out).mono (M := fun k => k ≠ w.heap.size + 1) (fun k hk => by have := lt_of_heap Z1.out; omega)) ⟨_, HZ6.out⟩ P6
  have b9 : Below (put6 w6 (w.heap.size + 1) 0 ⟨9, 0, lo, hi, [], none, 0, some ⟨w6.heap.size, 0, none⟩, 1, 1⟩).heap.size (put6 w6 (w.heap.size + 1) 0 ⟨9, 0, lo, hi, [], none, 0, some ⟨w6.heap.size, 0, none⟩, 1, 1⟩) ((put6 w6 (w.heap.size + 1) 0 ⟨9, 0, lo, hi, [], none, 0, some ⟨w6.heap.size, 0, none⟩, 1, 1⟩).alloc (.cells #[.int .i64 t6.f.k, .int .i64 t6.f.n, .int .i64 t6.f.mn, .int .i64 t6.f.mx, .slice t6.f.rq t6.f.rs.length t6.f.rc, .slice t6.f.kq t6.f.kl t6.f.kc] 28)) := (Below.refl _ _).alloc (Nat.le_refl _) _
  have N9 : BoxN ((put6 w6 (w.heap.size + 1) 0 ⟨9, 0, lo, hi, [], none, 0, some ⟨w6.heap.size, 0, none⟩, 1, 1⟩).alloc (.cells #[.int .i64 t6.f.k, .int .i64 t6.f.n, .int .i64 t6.f.mn, .int .i64 t6.f.mx, .slice t6.f.rq t6.f.rs.length t6.f.rc, .slice t6.f.kq t6.f.kl t6.f.kc] 28)) w6.heap.size t6.f := (by
    have := alloc_new (put6 w6 (w.heap.size + 1) 0 ⟨9, 0, lo, hi, [], none, 0, some ⟨w6.heap.size, 0, none⟩, 1, 1⟩) (.cells #[.int .i64 t6.f.k, .int .i64 t6.f.n, .int .i64 t6.f.mn, .int .i64 t6.f.mx, .slice t6.f.rq t6.f.rs.length t6.f.rc, .slice t6.f.kq t6.f.kl t6.f.kc] 28)
    rwa [sz6] at this)
  have S9 := S6.ck (CK.of_below b9) (by rw [sz6]; exact l6)
  have hbel : Below w.heap.size w ((put6 w6 (w.heap.size + 1) 0 ⟨9, 0, lo, hi, [], none, 0, some ⟨w6.heap.size, 0, none⟩, 1, 1⟩).alloc (.cells #[.int .i64 t6.f.k, .int .i64 t6.f.n, .int .i64 t6.f.mn, .int .i64 t6.f.mx, .slice t6.f.rq t6.f.rs.length t6.f.rc, .slice t6.f.kq t6.f.kl t6.f.kc] 28)) := chain (chainF (chain B1.out B6.out (Nat.le_refl _)) P6 (Nat.le_refl _) (fun k e => by omega)) b9 (Nat.le_refl _)
  have hTA : TA ((put6 w6 (w.heap.size + 1) 0 ⟨9, 0, lo, hi, [], none, 0, some ⟨w6.heap.size, 0, none⟩, 1, 1⟩).alloc (.cells #[.int .i64 t6.f.k, .int .i64 t6.f.n, .int .i64 t6.f.mn, .int .i64 t6.f.mx, .slice t6.f.rq t6.f.rs.length t6.f.rc, .slice t6.f.kq t6.f.kl t6.f.kc] 28)) (.mk ⟨9, 0, lo, hi, [], none, 0, some ⟨w6.heap.size, 0, none⟩, 1, 1⟩ [t6]) := (every_eq _).2 ⟨⟨.inl ⟨none, 0, rfl, rfl, fun _ => rfl⟩, .inr ⟨w6.heap.size, 0, 1, rfl, lt_of_heap N9, Nat.le_refl _, by unfold maxLen; decide, fun i u hu => by
      (match i, hu with
      | 0, hu => (cases hu; exact N9.six))⟩, fit_nil, by simp [Tr.f], ⟨fun a e => (by cases e), fun a e _ => (by cases e; exact ⟨_, N9⟩)⟩⟩, (everyL_iff _).2 fun u hu => by (rcases List.mem_cons.1 hu with e | e; (subst e; exact T7.kept b9); cases e)⟩
  unfold put6 at S9 hbel hTA
  refine ret_rep S9 rfl rfl rfl ⟨.mk ⟨9, 0, lo, hi, [], none, 0, some ⟨w6.heap.size, 0, none⟩, 1, 1⟩ [t6], rfl, hTA, ?_, hbel⟩
  rw [er_eq]
  show Er.mk 9 0 lo hi [] [er t6] = _
  rw [E6.out]
end Go.Proofs.YtpfdapnfkghgkaaGreatDoor
