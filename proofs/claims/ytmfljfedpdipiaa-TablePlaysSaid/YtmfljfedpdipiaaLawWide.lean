/-
  The law TableWide, walked.
-/
import Derived.Test.YtmfljfedpdipiaaCmp
namespace Go.Proofs.Ytmfljfedpdipiaa
open Go Go.RowKit

theorem argI_heap {w : World} {g n : Nat} {l : List Int} (h : w.heap[g]? = some (.cells (ints l).toArray 3 (0, 0))) (hl : l.length = n) (hn : n ≤ 1000000) : ArgI w (.slice (some ⟨g, 0, none⟩) n n) l := by
  subst hl
  exact KeyAt.argI ⟨g, rfl, h⟩ (by unfold maxLen; omega)
/-- A list of the call's own is no old block's. -/
theorem apart_arg {w : World} {v : Value} {zs : List Int} (h : ArgI w v zs) {b : Nat} (hb : w.heap.size ≤ b) : Apart v b := fun p n c e hn => by
  rcases h with ⟨p', cap, rfl, rfl⟩ | ⟨g, off, cap, rfl, h2, _⟩
  · cases e; exact absurd rfl hn
  · cases e
    simp only
    omega
end Go.Proofs.Ytmfljfedpdipiaa
