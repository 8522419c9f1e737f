/-
  What follows of sets: plain mathematics.
-/
import Derived.Test.YtcaijlmffdfhgabDoorFold
import Derived.Test.YtcaijlmffdfhgabDoorFrom
import Derived.Test.YtcaijlmffdfhgabDoorEach
namespace Go.Proofs.YtcaijlmffdfhgabDoor
open Go Go.RowKit

theorem snoc_ind {α : Type} {p : List α → Prop} (h0 : p []) (h1 : ∀ l x, p l → p (l ++ [x])) : ∀ (n : Nat) (l : List α), l.length = n → p l
  | 0, l, h => by obtain rfl := List.eq_nil_of_length_eq_zero h; exact h0
  | n + 1, l, h => by
    rcases List.eq_nil_or_concat l with rfl | ⟨m, x, rfl⟩
    · exact h0
    · rw [List.concat_eq_append] at h ⊢
      exact h1 m x (snoc_ind h0 h1 n m (by simpa using h))

theorem rngs_cover (l : List B8) : (∀ r ∈ rngs l, 0 ≤ r.1 ∧ r.1 ≤ r.2 ∧ r.2 ≤ 255) ∧ ∀ n : Int, (∃ r ∈ rngs l, r.1 ≤ n ∧ n ≤ r.2) ↔ ∃ x ∈ l, x.1 = n := by
  refine snoc_ind (p := fun l => (∀ r ∈ rngs l, 0 ≤ r.1 ∧ r.1 ≤ r.2 ∧ r.2 ≤ 255) ∧ ∀ n : Int, (∃ r ∈ rngs l, r.1 ≤ n ∧ n ≤ r.2) ↔ ∃ x ∈ l, x.1 = n) ?_ ?_ _ l rfl
  · exact ⟨by simp [rngs], by simp [rngs]⟩
  · rintro l x ⟨h1, h2⟩
    have hx := x.2
    rw [rngs_snoc]
    rcases List.eq_nil_or_concat (rngs l) with hr | ⟨acc, p, hr⟩
    · rw [hr] at h1 h2
      rw [hr, addR_nil]
      refine ⟨by simp; omega, fun n => ?_⟩
      have h3 := h2 n
      simp only [List.not_mem_nil, false_and, exists_false, false_iff] at h3
      constructor
      · rintro ⟨r, hr, ha, hb⟩
        simp at hr; subst hr
        exact ⟨x, by simp, by simp at ha hb; omega⟩
      · rintro ⟨y, hy, rfl⟩
        rcases List.mem_append.1 hy with hy | hy
        · exact absurd ⟨y, hy, rfl⟩ h3
        · simp at hy; subst hy
          exact ⟨(y.1, y.1), by simp, by simp, by simp⟩
    · rw [List.concat_eq_append] at hr
      obtain ⟨lo, hi⟩ := p
      rw [hr] at h1 h2
      have hp := h1 (lo, hi) (by simp)
      dsimp only at hp
      rw [hr]
      by_cases hh : hi = x.1 - 1
      · rw [addR_hit _ _ _ _ hh]
        refine ⟨fun r hm => ?_, fun n => ?_⟩
        · rcases List.mem_append.1 hm with hm | hm
          · exact h1 r (by simp [hm])
          · simp at hm; subst hm; dsimp only; omega
        · constructor
          · rintro ⟨r, hm, ha, hb⟩
            rcases List.mem_append.1 hm with hm | hm
            · obtain ⟨y, hy, rfl⟩ := (h2 n).1 ⟨r, by simp [hm], ha, hb⟩
              exact ⟨y, by simp [hy], rfl⟩
            · simp at hm; subst hm
              dsimp only at ha hb
              by_cases hn : n = x.1
              · exact ⟨x, by simp, hn.symm⟩
              · obtain ⟨y, hy, rfl⟩ := (h2 n).1 ⟨(lo, hi), by simp, ha, by dsimp only; omega⟩
                exact ⟨y, by simp [hy], rfl⟩
          · rintro ⟨y, hy, rfl⟩
            rcases List.mem_append.1 hy with hy | hy
            · obtain ⟨r, hm, ha, hb⟩ := (h2 y.1).2 ⟨y, hy, rfl⟩
              rcases List.mem_append.1 hm with hm | hm
              · exact ⟨r, by simp [hm], ha, hb⟩
              · simp at hm; subst hm
                exact ⟨(lo, x.1), by simp, ha, by dsimp only at hb ⊢; omega⟩
            · simp at hy; subst hy
              exact ⟨(lo, y.1), by simp, by dsimp only; omega, by simp⟩
      · rw [addR_miss _ _ _ _ hh]
        refine ⟨fun r hm => ?_, fun n => ?_⟩
        · rcases List.mem_append.1 hm with hm | hm
          · exact h1 r hm
          · simp at hm; subst hm; dsimp only; omega
        · constructor
          · rintro ⟨r, hm, ha, hb⟩
            rcases List.mem_append.1 hm with hm | hm
            · obtain ⟨y, hy, rfl⟩ := (h2 n).1 ⟨r, hm, ha, hb⟩
              exact ⟨y, by simp [hy], rfl⟩
            · simp at hm; subst hm
              dsimp only at ha hb
              exact ⟨x, by simp, by omega⟩
          · rintro ⟨y, hy, rfl⟩
            rcases List.mem_append.1 hy with hy | hy
            · obtain ⟨r, hm, ha, hb⟩ := (h2 y.1).2 ⟨y, hy, rfl⟩
              exact ⟨r, List.mem_append_left _ hm, ha, hb⟩
            · simp at hy; subst hy
              exact ⟨(y.1, y.1), by simp, by simp, by simp⟩

theorem bit_range (lo hi : Int) (n : Nat) (hn : n < 256) : (srange lo hi).getLsbD n = (decide (lo ≤ (n : Int)) && decide ((n : Int) ≤ hi)) := by
  unfold srange
  rw [bit_less, bit_below, bit_below, Bool.eq_iff_iff]
  simp
  omega

theorem bit_from (rs : List (Int × Int)) (n : Nat) (hn : n < 256) : (fromF rs).getLsbD n = true ↔ ∃ r ∈ rs, r.1 ≤ (n : Int) ∧ (n : Int) ≤ r.2 := by
  refine snoc_ind (p := fun rs => (fromF rs).getLsbD n = true ↔ ∃ r ∈ rs, r.1 ≤ (n : Int) ∧ (n : Int) ≤ r.2) ?_ ?_ _ rs rfl
  · simp [fromF]
  · intro l x h
    rw [fromF_snoc, bit_or, Bool.or_eq_true, h, bit_range _ _ _ hn]
    constructor
    · rintro (⟨r, hm, ha⟩ | ha)
      · exact ⟨r, by simp [hm], ha⟩
      · exact ⟨x, by simp, by simpa using ha⟩
    · rintro ⟨r, hm, ha⟩
      rcases List.mem_append.1 hm with hm | hm
      · exact .inl ⟨r, hm, ha⟩
      · simp at hm; subst hm
        exact .inr (by simpa using ha)

theorem back_from (s : S) : fromF (rngs (elems s)) = s := by
  refine BitVec.eq_of_getLsbD_eq fun n hn => ?_
  rw [Bool.eq_iff_iff, bit_from _ n hn, (rngs_cover (elems s)).2]
  constructor
  · rintro ⟨x, hx, he⟩
    have := (mem_elems s x).1 hx
    rw [he] at this
    simpa using this
  · intro h
    exact ⟨⟨(n : Int), b8_of hn⟩, (mem_elems s _).2 (by simpa using h), rfl⟩
theorem back_ok (s : S) : fromOk (rngs (elems s)) := fun r hr => (rngs_cover (elems s)).1 r hr

theorem bit_not (a : S) (n : Nat) (hn : n < 256) : (snot a).getLsbD n = !a.getLsbD n := by simp [snot, hn]
theorem back_not (a : S) : snot (snot a) = a := by unfold snot; simp
theorem back_or (a b : S) : snot (sor a b) = sand (snot a) (snot b) := by
  refine BitVec.eq_of_getLsbD_eq fun n hn => ?_
  rw [bit_not _ n hn, bit_or, bit_and, bit_not _ n hn, bit_not _ n hn, Bool.not_or]
theorem back_less (a b : S) : sless a b = sand a (snot b) := rfl
theorem filter_both {α : Type} (p : α → Bool) : ∀ l : List α, (l.filter p).length + (l.filter fun x => !p x).length = l.length
  | [] => rfl
  | a :: l => by
    have := filter_both p l
    rw [List.filter_cons, List.filter_cons]
    cases p a <;> simp <;> omega
theorem back_count (a : S) : scount a + scount (snot a) = 256 := by
  unfold scount
  rw [elems_count, elems_count]
  have e : ((List.range 256).filter fun n => (snot a).getLsbD n) = (List.range 256).filter fun n => !a.getLsbD n :=
    List.filter_congr fun n hn => bit_not a n (by simpa using hn)
  rw [e]
  have := filter_both (fun n => a.getLsbD n) (List.range 256)
  rw [List.length_range] at this
  omega
theorem scount_range (a : S) : 0 ≤ scount a ∧ scount a ≤ 256 := by
  unfold scount
  have := elems_length a
  omega

theorem oc_range (b : Int) (h : 0 ≤ b ∧ b ≤ 255) : 0 ≤ oc b ∧ oc b ≤ 255 := by
  unfold oc; split <;> (try split) <;> omega
theorem oc_oc (b : Int) : oc (oc b) = b := by
  unfold oc; split <;> (try split) <;> (try split) <;> (try split) <;> omega
theorem bit_foldF (s : S) (l : List B8) (n : Nat) : (foldF s l).getLsbD n = true ↔ s.getLsbD n = true ∨ ∃ x ∈ l, oc x.1 = (n : Int) := by
  refine snoc_ind (p := fun l => (foldF s l).getLsbD n = true ↔ s.getLsbD n = true ∨ ∃ x ∈ l, oc x.1 = (n : Int)) ?_ ?_ _ l rfl
  · simp [foldF]
  · intro l x h
    have hx := oc_range x.1 x.2
    rw [foldF_snoc, bit_or, Bool.or_eq_true, h, bit_only]
    constructor
    · rintro ((h | ⟨y, hy, he⟩) | h)
      · exact .inl h
      · exact .inr ⟨y, by simp [hy], he⟩
      · exact .inr ⟨x, by simp, by simp at h; omega⟩
    · rintro (h | ⟨y, hy, he⟩)
      · exact .inl (.inl h)
      · rcases List.mem_append.1 hy with hy | hy
        · exact .inl (.inr ⟨y, hy, he⟩)
        · simp at hy; subst hy
          exact .inr (by simp; omega)
theorem bit_fold (s : S) (n : Nat) (hn : n < 256) : (sfold s).getLsbD n = true ↔ s.getLsbD n = true ∨ s.getLsbD (oc (n : Int)).toNat = true := by
  unfold sfold
  rw [bit_foldF]
  refine or_congr Iff.rfl ?_
  have hr := oc_range (n : Int) (b8_of hn)
  constructor
  · rintro ⟨x, hx, he⟩
    rw [← he, oc_oc]
    exact (mem_elems s x).1 hx
  · intro h
    exact ⟨⟨oc (n : Int), hr⟩, (mem_elems s _).2 h, oc_oc _⟩
theorem back_fold (s : S) : sfold (sfold s) = sfold s := by
  refine BitVec.eq_of_getLsbD_eq fun n hn => ?_
  have hr := oc_range (n : Int) (b8_of hn)
  have hn' : (oc (n : Int)).toNat < 256 := by omega
  have hc : ((oc (n : Int)).toNat : Int) = oc (n : Int) := by omega
  rw [Bool.eq_iff_iff, bit_fold _ n hn, bit_fold _ n hn, bit_fold _ _ hn', hc, oc_oc]
  simp only [Int.toNat_natCast]
  constructor
  · rintro ((h | h) | (h | h))
    · exact .inl h
    · exact .inr h
    · exact .inr h
    · exact .inl h
  · rintro (h | h)
    · exact .inl (.inl h)
    · exact .inl (.inr h)
theorem back_fold_or (s : S) : sor (sfold s) s = sfold s := by
  refine BitVec.eq_of_getLsbD_eq fun n hn => ?_
  rw [Bool.eq_iff_iff, bit_or, Bool.or_eq_true, bit_fold _ n hn]
  constructor
  · rintro ((h | h) | h)
    · exact .inl h
    · exact .inr h
    · exact .inl h
  · intro h; exact .inl h
end Go.Proofs.YtcaijlmffdfhgabDoor
