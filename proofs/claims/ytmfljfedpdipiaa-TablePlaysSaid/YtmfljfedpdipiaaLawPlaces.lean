/-
  The law TablePlaces, walked.
-/
import Derived.Test.YtmfljfedpdipiaaLawFull
namespace Go.Proofs.Ytmfljfedpdipiaa
open Go Go.RowKit

section
variable {base : Nat} {w : World} {b W M c n : Nat} {m : List Int → Option Int}
theorem puts1 (h : TS base w b 1 M c n m) (x z : Int) :
    Calls Try.prog 11 #[.pointer (some ⟨b, 0, none⟩), .slice (some ⟨w.heap.size, 0, none⟩) 1 1, .int .i64 z] (w.alloc (.cells #[.int .i64 x] 3)) fun e w' => ∃ r c' n' m', e = .returned (.int .i64 r) ∧ TS base w' b 1 M c' n' m' ∧ c ≤ c' ∧ c' ≤ c + 1 ∧ (n' = n ∨ c' = c + 1 ∧ n < 2 * (c + 1) ∧ n' = max 16 (2 * n)) ∧ Out base w w' :=
  (put_s (h.alloc _) (lay1 w x) (apart_new h.lt) z).mono fun _ _ ⟨h1, h2, h3⟩ => ⟨_, _, _, _, h1, h2, by unfold putC; split <;> omega, by unfold putC; split <;> omega, by
    unfold putN putC
    split
    · rename_i q
      rw [if_pos ⟨q.1, q.2.1⟩]
      exact .inr ⟨rfl, q.2.2, rfl⟩
    · exact .inl rfl, h3.laid h.base_le⟩
theorem drops1 (h : TS base w b 1 M c n m) (x : Int) :
    Calls Try.prog 14 #[.pointer (some ⟨b, 0, none⟩), .slice (some ⟨w.heap.size, 0, none⟩) 1 1] (w.alloc (.cells #[.int .i64 x] 3)) fun e w' => ∃ r c' m', e = .returned (.bool r) ∧ TS base w' b 1 M c' n m' ∧ c' ≤ c ∧ Out base w w' :=
  (drop1 h x).mono fun _ _ ⟨h1, h2, h3⟩ => ⟨_, _, _, h1, h2, by unfold dropC; split <;> omega, h3⟩
end

end Go.Proofs.Ytmfljfedpdipiaa
