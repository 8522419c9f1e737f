/-
  Rows of three numbers laid into a map one after the other: which place each has, and how many come for the first time.
-/
import Derived.Test.YtmfljfedpdipiaaRows3
namespace Go.Proofs.Ytmfljfedpdipiaa
open Go Go.RowKit

/-- A row as a key. -/
def k3 (x : Int × Int × Int) : List Int := [x.1, x.2.1, x.2.2]
theorem k3_inj {x y : Int × Int × Int} (h : k3 x = k3 y) : x = y := by
  obtain ⟨a, b, c⟩ := x
  obtain ⟨d, e, f⟩ := y
  simp [k3] at h
  simp [h]
theorem k3_len (x : Int × Int × Int) : (k3 x).length = 3 := rfl
/-- Each row that came has its last place. -/
def LastAt (ls : List (Int × Int × Int)) (k : Nat) (m : List Int → Option Int) : Prop :=
  ∀ key v, m key = some v ↔ ∃ (i : Nat) (x : Int × Int × Int), v = i ∧ i < k ∧ ls[i]? = some x ∧ key = k3 x ∧ ∀ j, i < j → j < k → ls[j]? ≠ some x
theorem LastAt.new (ls : List (Int × Int × Int)) : LastAt ls 0 (fun _ => none) := fun key v => by
  constructor
  · intro h; cases h
  · rintro ⟨i, x, _, h, _⟩; omega
theorem LastAt.none_iff {ls : List (Int × Int × Int)} {k : Nat} {m : List Int → Option Int} (h : LastAt ls k m) (x : Int × Int × Int) : m (k3 x) = none ↔ ∀ j, j < k → ls[j]? ≠ some x := by
  constructor
  · intro hm j hj hx
    -- the last place from j on
    have key : ∀ d, ∀ j, k - j = d → j < k → ls[j]? = some x → ∃ i, i < k ∧ ls[i]? = some x ∧ ∀ j', i < j' → j' < k → ls[j']? ≠ some x := by
      intro d
      induction d using Nat.strongRecOn with
      | _ d ih =>
        intro j hd hj hx
        by_cases hq : ∃ j', j < j' ∧ j' < k ∧ ls[j']? = some x
        · obtain ⟨j', h1, h2, h3⟩ := hq
          exact ih (k - j') (by omega) j' rfl h2 h3
        · exact ⟨j, hj, hx, fun j' h1 h2 h3 => hq ⟨j', h1, h2, h3⟩⟩
    obtain ⟨i, h1, h2, h3⟩ := key _ j rfl hj hx
    have := (h (k3 x) i).2 ⟨i, x, rfl, h1, h2, rfl, h3⟩
    rw [hm] at this
    cases this
  · intro hn
    cases hm : m (k3 x) with
    | none => rfl
    | some v =>
      obtain ⟨i, y, _, h2, h3, h4, _⟩ := (h _ _).1 hm
      obtain rfl := k3_inj h4
      exact absurd h3 (hn i h2)
/-- One row more. -/
theorem LastAt.put {ls : List (Int × Int × Int)} {k : Nat} {m m' : List Int → Option Int} (h : LastAt ls k m) {x : Int × Int × Int} (hx : ls[k]? = some x) (h1 : m' (k3 x) = some (k : Int)) (h2 : ∀ key, key ≠ k3 x → m' key = m key) : LastAt ls (k + 1) m' := fun key v => by
  by_cases hk : key = k3 x
  · subst hk
    rw [h1]
    constructor
    · intro q
      cases q
      exact ⟨k, x, rfl, by omega, hx, rfl, fun j hj hj' => by omega⟩
    · rintro ⟨i, y, rfl, h3, h4, h5, h6⟩
      obtain rfl := k3_inj h5
      rcases Nat.lt_or_ge i k with q | q
      · exact absurd hx (h6 k q (by omega))
      · rw [show i = k by omega]
  · rw [h2 key hk, h key v]
    constructor
    · rintro ⟨i, y, rfl, h3, h4, h5, h6⟩
      refine ⟨i, y, rfl, by omega, h4, h5, fun j hj hj' q => ?_⟩
      rcases Nat.lt_or_ge j k with z | z
      · exact h6 j hj z q
      · obtain rfl : j = k := by omega
        rw [hx] at q
        cases q
        exact hk h5
    · rintro ⟨i, y, rfl, h3, h4, h5, h6⟩
      rcases Nat.lt_or_ge i k with z | z
      · exact ⟨i, y, rfl, z, h4, h5, fun j hj hj' => h6 j hj (by omega)⟩
      · obtain rfl : i = k := by omega
        rw [hx] at h4
        cases h4
        exact absurd h5 hk

/-- How many of the first k rows come for the first time. -/
def firsts (ls : List (Int × Int × Int)) : Nat → Nat
  | 0 => 0
  | k + 1 => firsts ls k + (if (List.range k).all (fun j => decide (ls[j]? ≠ ls[k]?)) then 1 else 0)
theorem firsts_le (ls : List (Int × Int × Int)) : ∀ k, firsts ls k ≤ k
  | 0 => Nat.le_refl _
  | k + 1 => by
    have := firsts_le ls k
    unfold firsts
    split <;> omega
theorem fresh_iff {ls : List (Int × Int × Int)} {k : Nat} {x : Int × Int × Int} (hx : ls[k]? = some x) : (List.range k).all (fun j => decide (ls[j]? ≠ ls[k]?)) = true ↔ ∀ j, j < k → ls[j]? ≠ some x := by
  rw [hx]
  simp
theorem LastAt.firsts {ls : List (Int × Int × Int)} {k : Nat} {m : List Int → Option Int} (h : LastAt ls k m) {x : Int × Int × Int} (hx : ls[k]? = some x) :
    Go.Proofs.Ytmfljfedpdipiaa.firsts ls (k + 1) = Go.Proofs.Ytmfljfedpdipiaa.firsts ls k + (if m (k3 x) = none then 1 else 0) := by
  conv => lhs; unfold Go.Proofs.Ytmfljfedpdipiaa.firsts
  by_cases hm : m (k3 x) = none
  · rw [if_pos ((fresh_iff hx).2 ((h.none_iff x).1 hm)), if_pos hm]
  · rw [if_neg (fun q => hm ((h.none_iff x).2 ((fresh_iff hx).1 q))), if_neg hm]
end Go.Proofs.Ytmfljfedpdipiaa
