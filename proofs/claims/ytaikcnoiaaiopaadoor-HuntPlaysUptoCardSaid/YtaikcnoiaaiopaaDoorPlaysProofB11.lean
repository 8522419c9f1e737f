/-
  Parts of the proof.
-/
import Derived.Test.YtaikcnoiaaiopaaDoorPlaysProofB10
set_option linter.unusedSimpArgs false
namespace Go.Proofs.YtaikcnoiaaiopaaDoor
open Go Go.RowKit Go.Shelf
theorem kidsL_le {D : List Nat → Prop} {r : List Nat} {n m : Nat} (h : n ≤ m) : kidsL D r n <+: kidsL D r m := by
  obtain ⟨k, rfl⟩ : ∃ k, m = n + k := ⟨m - n, by omega⟩
  clear h
  induction k with
  | zero => exact List.prefix_refl _
  | succ k ih =>
    refine ih.trans ?_
    by_cases hd : D ((n + k) :: r)
    · rw [show n + (k + 1) = n + k + 1 by omega, (kidsL_next D r (n + k)).1 hd]; exact List.prefix_append _ _
    · rw [show n + (k + 1) = n + k + 1 by omega, (kidsL_next D r (n + k)).2 hd]; exact List.prefix_refl _
theorem kidsL_nodup (D : List Nat → Prop) (r : List Nat) (n : Nat) : (kidsL D r n).Nodup := List.Pairwise.filter _ List.nodup_range
noncomputable def kidsOf (D : List Nat → Prop) (p : List Nat) : List (List Nat) := (kidsL D p 256).map (· :: p)
noncomputable def nextL (D : List Nat → Prop) (L : List (List Nat)) : List (List Nat) := L.flatMap (kidsOf D)
theorem kidsOf_mem {D : List Nat → Prop} (hb : ∀ b r, D (b :: r) → b < 256) {p x : List Nat} : x ∈ kidsOf D p ↔ ∃ b, x = b :: p ∧ D x := by
  simp only [kidsOf, List.mem_map, kidsL_mem]
  constructor
  · rintro ⟨b, ⟨_, h2⟩, rfl⟩; exact ⟨b, rfl, h2⟩
  · rintro ⟨b, rfl, h⟩; exact ⟨b, ⟨hb b p h, h⟩, rfl⟩
theorem nextL_mem {D : List Nat → Prop} (hb : ∀ b r, D (b :: r) → b < 256) {L : List (List Nat)} {x : List Nat} : x ∈ nextL D L ↔ ∃ b p, p ∈ L ∧ x = b :: p ∧ D x := by
  simp only [nextL, List.mem_flatMap, kidsOf_mem hb]
  constructor
  · rintro ⟨p, hp, b, h1, h2⟩; exact ⟨b, p, hp, h1, h2⟩
  · rintro ⟨b, p, hp, h1, h2⟩; exact ⟨p, hp, b, h1, h2⟩
theorem nextL_nodup {D : List Nat → Prop} (hb : ∀ b r, D (b :: r) → b < 256) {L : List (List Nat)} (hL : L.Nodup) : (nextL D L).Nodup := by
  unfold nextL List.Nodup
  rw [List.pairwise_flatMap]
  refine ⟨fun p _ => ?_, ?_⟩
  · unfold kidsOf
    rw [List.pairwise_map]
    exact List.Pairwise.imp (fun h e => h (by injection e)) (kidsL_nodup D p 256)
  · refine List.Pairwise.imp ?_ hL
    intro p q hpq x hx y hy e
    subst e
    obtain ⟨b, h1, _⟩ := (kidsOf_mem hb).1 hx
    obtain ⟨c, h2, _⟩ := (kidsOf_mem hb).1 hy
    rw [h1] at h2
    injection h2 with _ h2
    exact hpq h2
structure IsLv (D : List Nat → Prop) (d : Nat) (L : List (List Nat)) : Prop where
  mem : ∀ x, x ∈ L ↔ D x ∧ x.length = d
  nd : L.Nodup
theorem IsLv.next {D : List Nat → Prop} (hc : Clo D) (hb : ∀ b r, D (b :: r) → b < 256) {d : Nat} {L : List (List Nat)} (h : IsLv D d L) : IsLv D (d + 1) (nextL D L) :=
  ⟨fun x => by
    rw [nextL_mem hb]
    constructor
    · rintro ⟨b, p, hp, rfl, hd⟩
      exact ⟨hd, by simp [((h.mem p).1 hp).2]⟩
    · rintro ⟨hd, hl⟩
      cases x with
      | nil => simp at hl
      | cons b p => exact ⟨b, p, (h.mem p).2 ⟨hc.up b p hd, by simpa using hl⟩, rfl, hd⟩, nextL_nodup hb h.nd⟩
theorem IsLv.root {D : List Nat → Prop} (hc : Clo D) : IsLv D 0 [[]] :=
  ⟨fun x => by
    constructor
    · intro h; rw [List.mem_singleton] at h; subst h; exact ⟨hc.root, rfl⟩
    · rintro ⟨_, h⟩; rw [List.eq_nil_of_length_eq_zero h]; simp, by simp⟩
theorem next_part {D : List Nat → Prop} {L : List (List Nat)} {k b : Nat} {x : List Nat} (hx : L[k]? = some x) (hb : b < 256) (hd : D (b :: x)) : (nextL D (L.take k) ++ (kidsL D x b).map (· :: x)) ++ [b :: x] <+: nextL D L := by
  obtain ⟨h1, h2⟩ := List.getElem?_eq_some_iff.1 hx
  have e1 : nextL D (L.take (k + 1)) = nextL D (L.take k) ++ kidsOf D x := by
    rw [List.take_succ_eq_append_getElem h1, h2]; simp [nextL]
  have p1 : nextL D (L.take (k + 1)) <+: nextL D L := by
    conv => rhs; rw [← List.take_append_drop (k + 1) L]
    rw [nextL, nextL, List.flatMap_append]
    exact List.prefix_append _ _
  refine List.IsPrefix.trans ?_ p1
  rw [e1, List.append_assoc, List.prefix_append_right_inj, ← List.map_singleton (f := (· :: x)), ← List.map_append, ← (kidsL_next D x b).1 hd]
  exact (kidsL_le (by omega)).map _
theorem next_take {D : List Nat → Prop} {L : List (List Nat)} {k : Nat} {x : List Nat} (hx : L[k]? = some x) : nextL D (L.take (k + 1)) = nextL D (L.take k) ++ (kidsL D x 256).map (· :: x) := by
  obtain ⟨h1, h2⟩ := List.getElem?_eq_some_iff.1 hx
  rw [List.take_succ_eq_append_getElem h1, h2]; simp [nextL, kidsOf]
end Go.Proofs.YtaikcnoiaaiopaaDoor
