/-
  slices.Equal of lists of ranges; dredgeref06.Alike.
-/
import Derived.Test.YtfihhliiecdnaabMem6
import Derived.Test.YtfihhliiecdnaabExt
namespace Go.Proofs.Ytfihhliiecdnaab
open Go Go.RowKit
attribute [local go_sem] ext_cell

theorem take_eq_next {A B : List (Int × Int)} {k : Nat} {a b : Int × Int} (ha : A[k]? = some a) (hb : B[k]? = some b) (h : A.take k = B.take k) : A.take (k + 1) = B.take (k + 1) ↔ a = b := by
  obtain ⟨h1, rfl⟩ := List.getElem?_eq_some_iff.1 ha
  obtain ⟨h2, rfl⟩ := List.getElem?_eq_some_iff.1 hb
  rw [take_next A k h1, take_next B k h2, h]
  simp only [List.append_cancel_left_eq, List.cons.injEq, and_true]

end Go.Proofs.Ytfihhliiecdnaab
