/-
  Parts of the proof.
-/
import Derived.Test.YtbfhahhcacnckaaGreatDoorSamesProofB17
set_option linter.unusedSimpArgs false
namespace Go.Proofs.YtbfhahhcacnckaaGreatDoor
open Go Go.RowKit
abbrev z1_B8 := { x : Int // 0 ≤ x ∧ x ≤ 255 }
theorem z1_b8_of {n : Nat} (h : n < 256) : 0 ≤ (n : Int) ∧ (n : Int) ≤ 255 := by omega
def z1_elems (s : z1_S) : List z1_B8 := (List.range 256).filterMap fun n => if h : n < 256 ∧ s.getLsbD n = true then some ⟨(n : Int), z1_b8_of h.1⟩ else none
def z1_fr (pre : List z1_B8) : Int := match pre.getLast? with | none => 0 | some b => b.1 + 1
theorem z1_mem_elems (s : z1_S) (x : z1_B8) : x ∈ z1_elems s ↔ s.getLsbD x.1.toNat = true := by
  unfold z1_elems
  rw [List.mem_filterMap]
  constructor
  · rintro ⟨n, hn, h⟩
    split at h
    · rename_i g
      cases h
      simpa using g.2
    · cases h
  · intro h
    obtain ⟨v, h0, h1⟩ := x
    refine ⟨v.toNat, by simp; omega, ?_⟩
    rw [dif_pos ⟨by omega, h⟩]
    simp only [Option.some.injEq, Subtype.mk.injEq]
    omega
theorem z1_elems_sorted (s : z1_S) : (z1_elems s).Pairwise (fun a b => a.1 < b.1) := by
  unfold z1_elems
  refine List.Pairwise.filterMap _ ?_ List.pairwise_lt_range
  intro a a' hlt b hb b' hb'
  split at hb
  · cases hb
    split at hb'
    · cases hb'; show (a : Int) < (a' : Int); omega
    · cases hb'
  · cases hb
theorem z1_fr_nil : z1_fr [] = 0 := rfl
theorem z1_fr_snoc (pre : List z1_B8) (x : z1_B8) : z1_fr (pre ++ [x]) = x.1 + 1 := by simp [z1_fr]
theorem z1_lt_fr {pre : List z1_B8} (hs : pre.Pairwise (fun a b => a.1 < b.1)) {y : z1_B8} (hy : y ∈ pre) : y.1 < z1_fr pre := by
  rcases List.eq_nil_or_concat pre with rfl | ⟨l, b, rfl⟩
  · cases hy
  · rw [List.concat_eq_append] at *
    rw [z1_fr_snoc]
    rw [List.pairwise_append] at hs
    rcases List.mem_append.1 hy with h | h
    · have := hs.2.2 y h b (by simp); omega
    · have : y = b := by simpa using h
      subst this; omega
theorem z1_fr_bounds (pre : List z1_B8) : 0 ≤ z1_fr pre ∧ z1_fr pre ≤ 256 := by
  rcases List.eq_nil_or_concat pre with rfl | ⟨l, b, rfl⟩
  · simp [z1_fr_nil]
  · rw [List.concat_eq_append, z1_fr_snoc]; have := b.2; omega
theorem z1_elems_next (s : z1_S) (pre : List z1_B8) (x : z1_B8) (rest : List z1_B8) (h : z1_elems s = pre ++ x :: rest) : z1_snext s (z1_fr pre) = some x.1.toNat := by
  have hso := z1_elems_sorted s
  rw [h, List.pairwise_append, List.pairwise_cons] at hso
  obtain ⟨h1, ⟨h2, _⟩, h3⟩ := hso
  have hx := x.2
  refine z1_find_least (by omega) ?_ ?_
  · have hm : s.getLsbD x.1.toNat = true := (z1_mem_elems s x).1 (by rw [h]; simp)
    rw [hm, Bool.and_true, decide_eq_true_eq]
    rcases List.eq_nil_or_concat pre with rfl | ⟨l, b, rfl⟩
    · rw [z1_fr_nil]; omega
    · rw [List.concat_eq_append, z1_fr_snoc]
      have := h3 b (by simp) x (by simp)
      omega
  · intro j hj
    rw [Bool.and_eq_false_iff]
    by_cases hf : z1_fr pre ≤ (j : Int)
    · right
      rw [Bool.eq_false_iff]
      intro hb
      have hm : (⟨(j : Int), z1_b8_of (by omega)⟩ : z1_B8) ∈ z1_elems s := (z1_mem_elems s _).2 (by simpa using hb)
      rw [h] at hm
      rcases List.mem_append.1 hm with hm | hm
      · have := z1_lt_fr h1 hm; simp at this; omega
      · rcases List.mem_cons.1 hm with hm | hm
        · have := congrArg Subtype.val hm; simp at this; omega
        · have := h2 _ hm; simp at this; omega
    · left; simpa using hf
theorem z1_elems_done (s : z1_S) : z1_snext s (z1_fr (z1_elems s)) = none := by
  unfold z1_snext
  rw [List.find?_eq_none]
  intro n hn hb
  have hn' : n < 256 := by simpa using hn
  simp at hb
  have hm : (⟨(n : Int), z1_b8_of hn'⟩ : z1_B8) ∈ z1_elems s := (z1_mem_elems s _).2 (by simpa using hb.2)
  have := z1_lt_fr (z1_elems_sorted s) hm
  simp at this
  omega
theorem z1_next_some (s : z1_S) (pre : List z1_B8) (x : z1_B8) (rest : List z1_B8) (h : z1_elems s = pre ++ x :: rest) : z1_nextV s (z1_fr pre) = x.1 ∧ z1_nextB s (z1_fr pre) = true := by
  have hx := x.2
  unfold z1_nextV z1_nextB
  rw [z1_elems_next s pre x rest h]
  refine ⟨?_, rfl⟩
  show ((x.1.toNat : Nat) : Int) = x.1
  omega
theorem z1_next_none (s : z1_S) : z1_nextV s (z1_fr (z1_elems s)) = 0 ∧ z1_nextB s (z1_fr (z1_elems s)) = false := by
  unfold z1_nextV z1_nextB
  rw [z1_elems_done s]
  exact ⟨rfl, rfl⟩
theorem z1_elems_length (s : z1_S) : (z1_elems s).length ≤ 256 := by
  unfold z1_elems
  refine Nat.le_trans (List.length_filterMap_le _ _) ?_
  simp
end Go.Proofs.YtbfhahhcacnckaaGreatDoor
