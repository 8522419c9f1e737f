/-
  A loop whose rounds are walked one by one: if the body, walked n times at most, leaves the loop, then the loop's own rule holds.
-/
import Derived.WalkKit
namespace Go.Proofs.Ytmfljfedpdipiaa
open Go

/-- The body walked at most n times more. -/
def unr (P : Program) (c : Code) (Q : Exit → Act → World → Prop) : Nat → Act → World → Prop
  | 0, _, _ => False
  | n + 1, a, w => c.wp P (Exit.then (unr P c Q n) Q) a w

theorem unr_succ {P : Program} {c : Code} {Q : Exit → Act → World → Prop} {n : Nat} {a : Act} {w : World}
    (h : c.wp P (Exit.then (unr P c Q n) Q) a w) : unr P c Q (n + 1) a w := h

theorem least_of {p : Nat → Prop} : ∀ n, p n → ∃ m, p m ∧ ∀ k, p k → m ≤ k := by
  intro n
  induction n using Nat.strongRecOn with
  | _ n ih =>
    intro h
    by_cases g : ∃ k, k < n ∧ p k
    · obtain ⟨k, hk, hp⟩ := g
      exact ih k hk hp
    · exact ⟨n, h, fun k hk => Nat.le_of_not_lt fun hlt => g ⟨k, hlt, hk⟩⟩

open Classical in
/-- The least round count. -/
noncomputable def leastOf (p : Nat → Prop) : Nat := if h : ∃ m, p m ∧ ∀ k, p k → m ≤ k then Classical.choose h else 0

theorem leastOf_spec {p : Nat → Prop} {n : Nat} (h : p n) : p (leastOf p) ∧ ∀ k, p k → leastOf p ≤ k := by
  have g := least_of n h
  unfold leastOf
  rw [dif_pos g]
  exact Classical.choose_spec g

theorem wp_loop_unr {P : Program} {c : Code} {Q : Exit → Act → World → Prop} (n : Nat) {a : Act} {w : World}
    (h : unr P c Q n a w) : (Code.loop c).wp P Q a w := by
  refine wp_loop (fun a w => ∃ n, unr P c Q n a w) (fun a w => leastOf fun n => unr P c Q n a w) ⟨n, h⟩ ?_
  rintro a w ⟨n, hn⟩
  obtain ⟨hs, -⟩ := leastOf_spec (p := fun n => unr P c Q n a w) hn
  generalize leastOf (fun n => unr P c Q n a w) = m at hs
  cases m with
  | zero => exact hs.elim
  | succ m =>
    refine wp_mono (show c.wp P (Exit.then (unr P c Q m) Q) a w from hs) ?_
    intro e a' w' he
    cases e with
    | normal => exact ⟨⟨m, he⟩, Nat.lt_succ_of_le ((leastOf_spec (p := fun n => unr P c Q n a' w') (n := m) he).2 m he)⟩
    | exit id => exact he
    | goto l => exact he
    | ret => exact he
    | panic ch => exact he
    | outgrown => exact he
end Go.Proofs.Ytmfljfedpdipiaa
