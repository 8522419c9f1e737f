/-
  Parts of the proof.
-/
import Derived.WalkKit
import Derived.Test.YtbfhahhcacnckaaGreatDoorSamesProofB0
import Derived.ProofKit
import Derived.OpenShut
import Derived.Stop.Joined
import Derived.ChangeOld
import Derived.ChangeSlices
import Derived.Carry
set_option linter.unusedSimpArgs false
namespace Go.Proofs.YtbfhahhcacnckaaGreatDoor
open Go
def unr (P : Program) (c : Code) (Q : Exit → Act → World → Prop) : Nat → Act → World → Prop
  | 0, _, _ => False
  | n + 1, a, w => c.wp P (Exit.then (unr P c Q n) Q) a w
theorem unr_succ {P : Program} {c : Code} {Q : Exit → Act → World → Prop} {n : Nat} {a : Act} {w : World}
    (h : c.wp P (Exit.then (unr P c Q n) Q) a w) : unr P c Q (n + 1) a w := h
theorem least_of {p : Nat → Prop} : ∀ n, p n → ∃ m, p m ∧ ∀ k, p k → m ≤ k := by
  intro n
  induction n using Nat.strongRecOn with
  | _ n ih =>
    intro h
    by_cases g : ∃ k, k < n ∧ p k
    · obtain ⟨k, hk, hp⟩ := g
      exact ih k hk hp
    · exact ⟨n, h, fun k hk => Nat.le_of_not_lt fun hlt => g ⟨k, hlt, hk⟩⟩
open Classical in
noncomputable def leastOf (p : Nat → Prop) : Nat := if h : ∃ m, p m ∧ ∀ k, p k → m ≤ k then Classical.choose h else 0
theorem leastOf_spec {p : Nat → Prop} {n : Nat} (h : p n) : p (leastOf p) ∧ ∀ k, p k → leastOf p ≤ k := by
  have g := least_of n h
  unfold leastOf
  rw [dif_pos g]
  exact Classical.choose_spec g
theorem wp_loop_unr {P : Program} {c : Code} {Q : Exit → Act → World → Prop} (n : Nat) {a : Act} {w : World}
    (h : unr P c Q n a w) : (Code.loop c).wp P Q a w := by
  refine wp_loop (fun a w => ∃ n, unr P c Q n a w) (fun a w => leastOf fun n => unr P c Q n a w) ⟨n, h⟩ ?_
  rintro a w ⟨n, hn⟩
  obtain ⟨hs, -⟩ := leastOf_spec (p := fun n => unr P c Q n a w) hn
  generalize leastOf (fun n => unr P c Q n a w) = m at hs
  cases m with
  | zero => exact hs.elim
  | succ m =>
    refine wp_mono (show c.wp P (Exit.then (unr P c Q m) Q) a w from hs) ?_
    intro e a' w' he
    cases e with
    | normal => exact ⟨⟨m, he⟩, Nat.lt_succ_of_le ((leastOf_spec (p := fun n => unr P c Q n a' w') (n := m) he).2 m he)⟩
    | exit id => exact he
    | goto l => exact he
    | ret => exact he
    | panic ch => exact he
    | outgrown => exact he
end Go.Proofs.YtbfhahhcacnckaaGreatDoor
namespace Go.Proofs.YtbfhahhcacnckaaGreatDoor
open Go Go.ChangeShapes Go.WideShapes Go.ChangeAt Go.RowKit
theorem own : ownKnob Tryz.prog.godebug = none := by kernel_rfl
theorem laidOut : laidOutB Tryz.prog = true := by kernel_rfl
theorem cells_int : Tryz.prog.cellsOf 3 = 1 := by kernel_rfl
def ArgI (W : World) (v : Value) (zs : List Int) : Prop :=
  (∃ p cap, v = .slice p 0 cap ∧ zs = []) ∨ ∃ g off cap, v = .slice (some ⟨g, off, none⟩) zs.length cap ∧ g < W.heap.size ∧ zs.length ≤ cap ∧ cap ≤ maxLen ∧ ∀ (i : Nat) (x : Int), zs[i]? = some x → W.cell? ⟨g, off + i, none⟩ = some (.int .i64 x)
theorem ArgI.below {W W' : World} {v : Value} {zs : List Int} {n : Nat} (h : ArgI W v zs) (hb : Below n W W') (hn : n = W.heap.size) : ArgI W' v zs := by
  rcases h with h | ⟨g, off, cap, h1, h2, h3, h4, h5⟩
  · exact .inl h
  · subst hn
    exact .inr ⟨g, off, cap, h1, Nat.lt_of_lt_of_le h2 hb.size, h3, h4, fun i x hx => (hb.cell (p := ⟨g, off + i, none⟩) h2).trans (h5 i x hx)⟩
set_option maxRecDepth 100000 in
theorem open_intsA {H : Type} {enc : TypeId × Value → H} {W : World} {base : Nat} {v : Value} {d : DataW H} {p : List MemPlace} (hok : Value.okWide Tryz.prog W .any base 43 v)
    (h : DataW.Trod enc Tryz.prog W 0 (fun _ => true) true 43 v d p) : ∃ zs : List Int, ArgI W v zs := by
  obtain ⟨a', len', cap', rfl⟩ := okWide_slice Tryz.underlying43 hok
  obtain ⟨fuel, hf⟩ := h
  rcases open_ints Tryz.underlying43 Tryz.underlying3 cells_int hf with ⟨h1, h2⟩ | ⟨a, len, cap, zs, h1, _, hlc, hcap, hm, h2, hx, _⟩
  · have h1' : Value.slice a' len' cap' = .slice none 0 0 := by simpa [Value.cells] using h1
    cases h1'
    exact ⟨[], .inl ⟨none, 0, rfl, rfl⟩⟩
  · have h1' : Value.slice a' len' cap' = .slice (some a) len cap := by simpa [Value.cells] using h1
    cases h1'
    rw [if_pos rfl] at hm
    by_cases hl : len' = 0
    · subst hl
      exact ⟨[], .inl ⟨some a, _, rfl, rfl⟩⟩
    · obtain ⟨b, off, spot⟩ := a
      have c0 := hx 0 (by omega)
      have hs : spot = none := by
        cases spot with
        | none => rfl
        | some k =>
          exfalso
          unfold Addr.add World.cell? at c0
          simp at c0
          split at c0 <;> simp_all
      subst hs
      have hadd : ∀ j, (⟨b, off, none⟩ : Addr).add j = ⟨b, off + j, none⟩ := fun j => by unfold Addr.add; split <;> simp_all
      have hb : b < W.heap.size := by
        rw [hadd] at c0
        rcases Nat.lt_or_ge b W.heap.size with h | h
        · exact h
        · have : W.heap[b]? = none := Array.getElem?_eq_none h
          simp [World.cell?, this] at c0
      have hlen : (zs.take len').length = len' := by simp; omega
      refine ⟨zs.take len', .inr ⟨b, off, cap', by rw [hlen], hb, by omega, hcap, fun i x hi => ?_⟩⟩
      have hil : i < len' := by have := (List.getElem?_eq_some_iff.1 hi).1; omega
      rw [List.getElem?_take_of_lt hil] at hi
      have hxi := hx i (by omega)
      rw [hadd] at hxi
      rw [hxi]
      simp [List.getD, hi]
end Go.Proofs.YtbfhahhcacnckaaGreatDoor
