/-
  LexerReads.
-/
import Derived.Test.YtloeajhmmjdlgaaGreatDoorReadsProofB12
import Derived.Test.YtloeajhmmjdlgaaGreatDoorReadsProofB13
namespace Go.Proofs.YtloeajhmmjdlgaaGreatDoor
open Go Go.RowKit

theorem law_reads {w : World} (hG : Glb w) (s : ByteArray) (m : Md) : Calls Tryz.prog 3 #[.string s, .agg #[.bool m.c, .bool m.f]] w fun e w' => e = .returned (.bool true) ∧ Below w.heap.size w w' := by
  have HE : Hid (∀ W, Below w.heap.size w W → Calls Tryz.prog 4 #[] W fun e w' => e = .returned (.bool true) ∧ Below W.heap.size W w') := fun W hW => examples_c (hG.kept hW)
  cases hr : lexM m s with
  | error x =>
    obtain ⟨c, a⟩ := x
    refine reads_core s m (cc := c) (aa := a) (TT := []) HE (fun W hW => (lex_c (hG.kept hW) s m).mono ?_) (fun W => (rlex_c s m).mono ?_)
    · rw [hr]
      rintro e w' ⟨h1, g, h2, rfl, h4⟩
      refine ⟨_, _, [], rfl, TL.nil _ _, rfl, h1, fun W' hW' => told_bad ?_⟩
      exact (hW'.block g (lt_of_heap h4)).trans h4
    · rw [hr]
      rintro e w' ⟨h1, rfl⟩
      exact ⟨_, [], rfl, TL.nil _ _, rfl, h1⟩
  | ok T =>
    refine reads_core s m (cc := 0) (aa := 0) (TT := T) HE (fun W hW => (lex_c (hG.kept hW) s m).mono ?_) (fun W => (rlex_c s m).mono ?_)
    · rw [hr]
      rintro e w' ⟨h1, v, D, rfl, h2, h3⟩
      exact ⟨v, _, D, rfl, h2, h3, h1, fun W' _ => told_nil W'⟩
    · rw [hr]
      rintro e w' ⟨h1, v, D, rfl, h2, h3⟩
      exact ⟨v, D, rfl, h2, h3, h1⟩
end Go.Proofs.YtloeajhmmjdlgaaGreatDoor
