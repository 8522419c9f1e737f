/-
  Parts of the proof.
-/
import Derived.Test.YtbfhahhcacnckaaGreatDoorSamesProofB42
set_option linter.unusedSimpArgs false
namespace Go.Proofs.YtbfhahhcacnckaaGreatDoor
open Go Go.RowKit
theorem new_any (room : Int) (h0 : 0 ≤ room) (h1 : room ≤ 100000) (w : World) :
    Calls Tryz.prog 28 #[.int .i64 room] w fun e w' => ∃ b o p, e = .returned (.tuple #[.pointer (some ⟨b, 0, none⟩), .int .i64 0]) ∧ MAt w' b o p room.toNat [] ∧ New3 w.heap.size b o p ∧ Below w.heap.size w w' := by
  have := new_c room.toNat (by omega) w
  rw [show ((room.toNat : Nat) : Int) = room by omega] at this
  exact this
theorem New3.own {n b o p : Nat} (h : New3 n b o p) : ∀ k, own3 b o p k → n ≤ k := fun k hk => by
  rcases hk with rfl | rfl | rfl
  · exact h.b
  · exact h.o
  · exact h.p
end Go.Proofs.YtbfhahhcacnckaaGreatDoor
