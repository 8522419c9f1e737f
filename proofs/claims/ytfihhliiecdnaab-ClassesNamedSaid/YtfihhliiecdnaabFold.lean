/-
  Fold; Same, Right; Count.
-/
import Derived.Test.YtfihhliiecdnaabMoved
import Derived.Test.YtfihhliiecdnaabEq6
namespace Go.Proofs.Ytfihhliiecdnaab
open Go Go.RowKit

/-- What Fold tells. -/
def foldP (L : List (Int × Int)) (c : Int) : Prop := In L c ∨ (In L (c - 32) ∧ 65 ≤ c - 32 ∧ c - 32 ≤ 90) ∨ (In L (c + 32) ∧ 97 ≤ c + 32 ∧ c + 32 ≤ 122)
theorem three_args {w : World} {va vb vc : Value} {A B C : List (Int × Int)} (ha : ArgR w va A) (hb : ArgR w vb B) (hc : ArgR w vc C) (t : TypeId) : ∀ (i : Nat) (p : Value × List (Int × Int)), [(va, A), (vb, B), (vc, C)][i]? = some p → (w.alloc (.cells #[va, vb, vc] t)).cell? ⟨w.heap.size, i, none⟩ = some p.1 ∧ ArgR (w.alloc (.cells #[va, vb, vc] t)) p.1 p.2 := by
  have B1 : Below w.heap.size w (w.alloc (.cells #[va, vb, vc] t)) := (Below.refl _ _).alloc (Nat.le_refl _) _
  intro i p hp
  match i, hp with
  | 0, hp => simp at hp; subst hp; exact ⟨cell_row (alloc_new w _) (i := 0) rfl, ha.kept B1⟩
  | 1, hp => simp at hp; subst hp; exact ⟨cell_row (alloc_new w _) (i := 1) rfl, hb.kept B1⟩
  | 2, hp => simp at hp; subst hp; exact ⟨cell_row (alloc_new w _) (i := 2) rfl, hc.kept B1⟩
theorem concat3 {w : World} {va vb vc : Value} {A B C : List (Int × Int)} (ha : ArgR w va A) (hb : ArgR w vb B) (hc : ArgR w vc C) (hl : A.length + B.length + C.length + 1 ≤ 8796093022208) :
    Calls Try.prog 22 #[.slice (some ⟨w.heap.size, 0, none⟩) 3 3] (w.alloc (.cells #[va, vb, vc] 25)) fun e w' => ∃ v, e = .returned v ∧ RR w.heap.size w' v (A ++ (B ++ C)) ∧ Below w.heap.size w w' :=
  (concat_c (V := [(va, A), (vb, B), (vc, C)]) (m := 3) rfl (three_args ha hb hc 25) (by simp) (by omega) (by simp [flat]; omega)).mono fun e w' ⟨v, h1, h2, h3⟩ => ⟨v, h1, by have := h2.mono (base' := w.heap.size) (by simp); simpa [flat] using this, chain ((Below.refl _ _).alloc (Nat.le_refl _) _) h3 (Nat.le_refl _)⟩

set_option maxHeartbeats 1000000 in
theorem fold_c {w : World} {v : Value} {L : List (Int × Int)} (h : ArgR w v L) (hF : Fit L) (hl : 3 * L.length + 9 ≤ 8796093022208) :
    Calls Try.prog 12 #[v] w (Gets w (foldP L) (3 * L.length + 2)) := by
  obtain ⟨q1, k1, e1, -, -, -⟩ := h.slice
  subst e1
  have H : Hid (ArgR w (.slice q1 L.length k1) L ∧ Fit L) := ⟨h, hF⟩
  have hl1 : L.length + 2 ≤ 8796093022208 := by omega
  clear h hF
  go_enter Try.func12, Try.ntmps12
  go_wp2_with first
    | (have hx := X5.out; clear hx; go_at_call 21; have hih := moved_c (a := 97) (b := 122) (d := -32) (H.out.1.kept X5.out.2.2.2.2) H.out.2 hl1 (by omega) (by omega) (by omega) (by omega) (by omega); refine hih.mono ?_; clear hih; rintro e w6 ⟨v6, D6, rfl, h1, h2, h3, h4, h5⟩; obtain ⟨q6, c6, rfl⟩ := h1.shape; have X6 : Hid (RR w5.heap.size w6 (.slice q6 D6.length c6) D6 ∧ Fit D6 ∧ (∀ c, In D6 c ↔ In L (c - -32) ∧ 97 ≤ c - -32 ∧ c - -32 ≤ 122) ∧ D6.length ≤ L.length + 1 ∧ Below w5.heap.size w5 w6) := ⟨h1, h2, h3, h4, h5⟩; clear h1 h2 h3 h4 h5)
    | (go_at_call 21; have hih := moved_c (a := 65) (b := 90) (d := 32) H.out.1 H.out.2 hl1 (by omega) (by omega) (by omega) (by omega) (by omega); refine hih.mono ?_; clear hih; rintro e w5 ⟨v5, D5, rfl, h1, h2, h3, h4, h5⟩; obtain ⟨q5, c5, rfl⟩ := h1.shape; have X5 : Hid (RR w.heap.size w5 (.slice q5 D5.length c5) D5 ∧ Fit D5 ∧ (∀ c, In D5 c ↔ In L (c - 32) ∧ 65 ≤ c - 32 ∧ c - 32 ≤ 90) ∧ D5.length ≤ L.length + 1 ∧ Below w.heap.size w w5) := ⟨h1, h2, h3, h4, h5⟩; clear h1 h2 h3 h4 h5)
    | (go_at_call 22; refine (concat3 ((H.out.1.kept X5.out.2.2.2.2).kept X6.out.2.2.2.2) (X5.out.1.kept X6.out.2.2.2.2).arg X6.out.1.arg (by have := X5.out.2.2.2.1; have := X6.out.2.2.2.1; omega)).mono ?_; rintro e w7 ⟨v7, rfl, h1, h2⟩; have X7 : Hid (RR w6.heap.size w7 v7 (L ++ (D5 ++ D6)) ∧ Below w6.heap.size w6 w7) := ⟨h1, h2⟩; clear h1 h2)
    | (go_at_call 18; refine (classOf_c X7.out.1.arg (fit_append H.out.2 (fit_append X5.out.2.1 X6.out.2.1)) (by have := X5.out.2.2.2.1; have := X6.out.2.2.2.1; simp; omega)).mono ?_; rintro e w8 ⟨v8, C8, rfl, h1, h2, h3, h4⟩; have X8 : Hid (RR w7.heap.size w8 v8 C8 ∧ IsC C8 (In (L ++ (D5 ++ D6))) ∧ C8.length ≤ (L ++ (D5 ++ D6)).length ∧ Below w7.heap.size w7 w8) := ⟨h1, h2, h3, h4⟩; clear h1 h2 h3 h4)
  go_ret
  have B7 := chain (chain X5.out.2.2.2.2 X6.out.2.2.2.2 (Nat.le_refl _)) X7.out.2 (Nat.le_refl _)
  refine ⟨_, _, rfl, X8.out.1.mono B7.size, X8.out.2.1.to fun c => ?_, ?_, chain B7 X8.out.2.2.2 (Nat.le_refl _)⟩
  · rw [in_append, in_append, X5.out.2.2.1, X6.out.2.2.1]
    unfold foldP
    rw [show c - -32 = c + 32 by omega]
  · have := X8.out.2.2.1
    have := X5.out.2.2.2.1
    have := X6.out.2.2.2.1
    simp at *
    omega

end Go.Proofs.Ytfihhliiecdnaab
