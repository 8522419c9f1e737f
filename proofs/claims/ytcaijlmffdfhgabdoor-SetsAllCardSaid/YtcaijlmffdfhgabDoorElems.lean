/-
  The bytes of a set, rising: plain mathematics.
-/
import Derived.Test.YtcaijlmffdfhgabDoorNext
namespace Go.Proofs.YtcaijlmffdfhgabDoor
open Go Go.RowKit

/-- A byte. -/
abbrev B8 := { x : Int // 0 ≤ x ∧ x ≤ 255 }

theorem b8_of {n : Nat} (h : n < 256) : 0 ≤ (n : Int) ∧ (n : Int) ≤ 255 := by omega

/-- A set's bytes, rising. -/
def elems (s : S) : List B8 := (List.range 256).filterMap fun n => if h : n < 256 ∧ s.getLsbD n = true then some ⟨(n : Int), b8_of h.1⟩ else none

/-- Where one goes on from. -/
def fr (pre : List B8) : Int := match pre.getLast? with | none => 0 | some b => b.1 + 1

theorem mem_elems (s : S) (x : B8) : x ∈ elems s ↔ s.getLsbD x.1.toNat = true := by
  unfold elems
  rw [List.mem_filterMap]
  constructor
  · rintro ⟨n, hn, h⟩
    split at h
    · rename_i g
      cases h
      simpa using g.2
    · cases h
  · intro h
    obtain ⟨v, h0, h1⟩ := x
    refine ⟨v.toNat, by simp; omega, ?_⟩
    rw [dif_pos ⟨by omega, h⟩]
    simp only [Option.some.injEq, Subtype.mk.injEq]
    omega

theorem elems_sorted (s : S) : (elems s).Pairwise (fun a b => a.1 < b.1) := by
  unfold elems
  refine List.Pairwise.filterMap _ ?_ List.pairwise_lt_range
  intro a a' hlt b hb b' hb'
  split at hb
  · cases hb
    split at hb'
    · cases hb'; show (a : Int) < (a' : Int); omega
    · cases hb'
  · cases hb

theorem fr_nil : fr [] = 0 := rfl
theorem fr_snoc (pre : List B8) (x : B8) : fr (pre ++ [x]) = x.1 + 1 := by simp [fr]

theorem lt_fr {pre : List B8} (hs : pre.Pairwise (fun a b => a.1 < b.1)) {y : B8} (hy : y ∈ pre) : y.1 < fr pre := by
  rcases List.eq_nil_or_concat pre with rfl | ⟨l, b, rfl⟩
  · cases hy
  · rw [List.concat_eq_append] at *
    rw [fr_snoc]
    rw [List.pairwise_append] at hs
    rcases List.mem_append.1 hy with h | h
    · have := hs.2.2 y h b (by simp); omega
    · have : y = b := by simpa using h
      subst this; omega

theorem fr_bounds (pre : List B8) : 0 ≤ fr pre ∧ fr pre ≤ 256 := by
  rcases List.eq_nil_or_concat pre with rfl | ⟨l, b, rfl⟩
  · simp [fr_nil]
  · rw [List.concat_eq_append, fr_snoc]; have := b.2; omega

theorem elems_next (s : S) (pre : List B8) (x : B8) (rest : List B8) (h : elems s = pre ++ x :: rest) : snext s (fr pre) = some x.1.toNat := by
  have hso := elems_sorted s
  rw [h, List.pairwise_append, List.pairwise_cons] at hso
  obtain ⟨h1, ⟨h2, _⟩, h3⟩ := hso
  have hx := x.2
  refine find_least (by omega) ?_ ?_
  · have hm : s.getLsbD x.1.toNat = true := (mem_elems s x).1 (by rw [h]; simp)
    rw [hm, Bool.and_true, decide_eq_true_eq]
    rcases List.eq_nil_or_concat pre with rfl | ⟨l, b, rfl⟩
    · rw [fr_nil]; omega
    · rw [List.concat_eq_append, fr_snoc]
      have := h3 b (by simp) x (by simp)
      omega
  · intro j hj
    rw [Bool.and_eq_false_iff]
    by_cases hf : fr pre ≤ (j : Int)
    · right
      rw [Bool.eq_false_iff]
      intro hb
      have hm : (⟨(j : Int), b8_of (by omega)⟩ : B8) ∈ elems s := (mem_elems s _).2 (by simpa using hb)
      rw [h] at hm
      rcases List.mem_append.1 hm with hm | hm
      · have := lt_fr h1 hm; simp at this; omega
      · rcases List.mem_cons.1 hm with hm | hm
        · have := congrArg Subtype.val hm; simp at this; omega
        · have := h2 _ hm; simp at this; omega
    · left; simpa using hf

theorem elems_done (s : S) : snext s (fr (elems s)) = none := by
  unfold snext
  rw [List.find?_eq_none]
  intro n hn hb
  have hn' : n < 256 := by simpa using hn
  simp at hb
  have hm : (⟨(n : Int), b8_of hn'⟩ : B8) ∈ elems s := (mem_elems s _).2 (by simpa using hb.2)
  have := lt_fr (elems_sorted s) hm
  simp at this
  omega

theorem next_some (s : S) (pre : List B8) (x : B8) (rest : List B8) (h : elems s = pre ++ x :: rest) : nextV s (fr pre) = x.1 ∧ nextB s (fr pre) = true := by
  have hx := x.2
  unfold nextV nextB
  rw [elems_next s pre x rest h]
  refine ⟨?_, rfl⟩
  show ((x.1.toNat : Nat) : Int) = x.1
  omega
theorem next_none (s : S) : nextV s (fr (elems s)) = 0 ∧ nextB s (fr (elems s)) = false := by
  unfold nextV nextB
  rw [elems_done s]
  exact ⟨rfl, rfl⟩
theorem elems_length (s : S) : (elems s).length ≤ 256 := by
  unfold elems
  refine Nat.le_trans (List.length_filterMap_le _ _) ?_
  simp
end Go.Proofs.YtcaijlmffdfhgabDoor
