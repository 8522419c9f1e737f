/-
  The chapter's examples, as the statements ask them first.
-/
import Derived.Test.YtofiidfnjgoenaaRising
namespace Go.Proofs.Ytofiidfnjgoenaa
open Go Go.RowKit

theorem new_any (room : Int) (h0 : 0 ≤ room) (h1 : room ≤ 100000) (w : World) :
    Calls Try.prog 10 #[.int .i64 room] w fun e w' => ∃ b o p, e = .returned (.tuple #[.pointer (some ⟨b, 0, none⟩), .int .i64 0]) ∧ MAt w' b o p room.toNat [] ∧ New3 w.heap.size b o p ∧ Below w.heap.size w w' := by
  have := new_c room.toNat (by omega) w
  rw [show ((room.toNat : Nat) : Int) = room by omega] at this
  exact this

theorem New3.own {n b o p : Nat} (h : New3 n b o p) : ∀ k, own3 b o p k → n ≤ k := fun k hk => by
  rcases hk with rfl | rfl | rfl
  · exact h.b
  · exact h.o
  · exact h.p
/-- What was kept below stays kept. -/
theorem chain {n : Nat} {a b c : World} (h : Below n a b) (k : Below b.heap.size b c) (hn : n ≤ a.heap.size) : Below n a c := h.trans (k.mono (Nat.le_trans hn h.size))
theorem chainF {n : Nat} {a b c : World} {S : Nat → Prop} (h : Below n a b) (k : Fr S b c) (hn : n ≤ a.heap.size) (hs : ∀ k, S k → n ≤ k) : Below n a c := h.trans (k.below (Nat.le_trans hn h.size) hs)

theorem sort20 : sortI [2, 0] = [0, 2] := by simp [sortI, List.mergeSort, List.MergeSort.Internal.splitInTwo]

set_option maxRecDepth 100000 in
set_option maxHeartbeats 4000000 in
theorem known_c (w : World) : Calls Try.prog 9 #[] w fun e w' => e = .returned (.bool true) ∧ Below w.heap.size w w' := by
  have a1 : atB [2, 0] 1 = true := by decide
  have a2 : atB [2, 0] 2 = false := by decide
  have a3 : atV [2, 0] 1 = 0 := by decide
  have a4 : atV [2, 0] 2 = 0 := by decide
  go_enter Try.func9, Try.ntmps9
  go_wp2_with first | (go_at_call 10; refine (new_any 4 (by decide) (by decide) _).mono ?_; rintro e w0 ⟨b, o, p, rfl, hm, hn, hb⟩; have M0 : Hid (MAt w0 b o p 4 []) := hm; have N0 : Hid (New3 w.heap.size b o p) := hn; have B0 : Hid (Below w.heap.size w w0) := hb; clear hm hn hb) | (go_at_call 13; refine (put_c M3.out _).mono ?_; rw [show putB 4 [2, 0] 4 = false by decide, show putL 4 [2, 0] 4 = [2, 0] by decide]; rintro e w4 ⟨rfl, hm, hf⟩; have M4 : Hid (MAt w4 b o p 4 [2, 0]) := hm; have B4 : Hid (Below w.heap.size w w4) := chainF B3.out hf (Nat.le_refl _) N0.out.own; clear hm hf) | (go_at_call 13; refine (put_c M2.out _).mono ?_; rw [show putB 4 [2, 0] 2 = false by decide, show putL 4 [2, 0] 2 = [2, 0] by decide]; rintro e w3 ⟨rfl, hm, hf⟩; have M3 : Hid (MAt w3 b o p 4 [2, 0]) := hm; have B3 : Hid (Below w.heap.size w w3) := chainF B2.out hf (Nat.le_refl _) N0.out.own; clear hm hf) | (go_at_call 13; refine (put_c M1.out _).mono ?_; rw [show putB 4 [2] 0 = true by decide, show putL 4 [2] 0 = [2, 0] by decide]; rintro e w2 ⟨rfl, hm, hf⟩; have M2 : Hid (MAt w2 b o p 4 [2, 0]) := hm; have B2 : Hid (Below w.heap.size w w2) := chainF B1.out hf (Nat.le_refl _) N0.out.own; clear hm hf) | (go_at_call 13; refine (put_c M0.out _).mono ?_; rw [show putB 4 [] 2 = true by decide, show putL 4 [] 2 = [2] by decide]; rintro e w1 ⟨rfl, hm, hf⟩; have M1 : Hid (MAt w1 b o p 4 [2]) := hm; have B1 : Hid (Below w.heap.size w w1) := chainF B0.out hf (Nat.le_refl _) N0.out.own; clear hm hf) | (go_at_call 19; refine (at_c M4.out _).mono ?_; rintro e w5 ⟨rfl, rfl⟩) | (go_at_call 20; refine (rising_c M4.out).mono ?_; rw [sort20]; rintro e w6 ⟨rfl, hrow, hb⟩; have M6 : Hid (MAt w6 b o p 4 [2, 0]) := M4.out.kept hb; have B6 : Hid (Below w.heap.size w w6) := chain B4.out hb (Nat.le_refl _); have r0 := hrow.cell (i := 0) rfl; have r1 := hrow.cell (i := 1) rfl; clear hrow hb) | (go_at_call 12; refine (len_c M6.out).mono ?_; rintro e w7 ⟨rfl, rfl⟩) | (go_at_call 18; refine (has_c M6.out 2).mono ?_; rw [show decide ((2 : Int) ∈ [2, 0]) = true by decide]; rintro e w7 ⟨rfl, rfl⟩) | (go_at_call 11; refine (room_c M6.out).mono ?_; rintro e w7 ⟨rfl, rfl⟩)
  go_ret
  exact ⟨rfl, B6.out⟩
end Go.Proofs.Ytofiidfnjgoenaa
