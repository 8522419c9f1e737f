/-
  The law MarksNew, walked: New of any room.
-/
import Derived.Test.YtbpphdjienpiaaaKnown
namespace Go.Proofs.Ytbpphdjienpiaaa
open Go Go.RowKit

theorem putB_no {room : Nat} {L : List Int} {n : Int} (h : n < 0 ∨ room ≤ n) : putB room L n = false := decide_eq_false (by omega)
theorem putL_no {room : Nat} {L : List Int} {n : Int} (h : n < 0 ∨ room ≤ n) : putL room L n = L := if_neg (by omega)

set_option maxRecDepth 100000 in
set_option maxHeartbeats 4000000 in
theorem law_new (room : Int) (_ : (Lit.int .i64 room).wf = true) (w : World) : Calls Try.prog 3 #[.int .i64 room] w fun e w' => e = .returned (.bool true) ∧ Below w.heap.size w w' := by
  by_cases hbad : room < 0 ∨ 100000 < room
  · have HB : Hid (room < 0 ∨ 100000 < room) := hbad
    go_enter Try.func3, Try.ntmps3
    rcases hbad with h | h
    · go_wp2_with first | (go_at_call 9; refine (known_c _).mono ?_; rintro e w0 ⟨rfl, hb⟩; have B0 : Hid (Below w.heap.size w w0) := hb; clear hb) | (go_at_call 10; refine (new_bad room HB.out _).mono ?_; rintro e w1 ⟨rfl, rfl⟩)
      go_ret
      exact ⟨rfl, B0.out⟩
    · have h' : (0 : Int) ≤ room := by omega
      go_wp2_with first | (go_at_call 9; refine (known_c _).mono ?_; rintro e w0 ⟨rfl, hb⟩; have B0 : Hid (Below w.heap.size w w0) := hb; clear hb) | (go_at_call 10; refine (new_bad room HB.out _).mono ?_; rintro e w1 ⟨rfl, rfl⟩)
      go_ret
      exact ⟨rfl, B0.out⟩
  · obtain ⟨r, rfl⟩ : ∃ r : Nat, room = r := ⟨room.toNat, by omega⟩
    have hr : r ≤ 100000 := by omega
    have h0 : (0 : Int) ≤ (r : Int) := by omega
    have h1 : (r : Int) ≤ 100000 := by omega
    have hw : IntKind.i64.wrap ((r : Int) - 1) = (r : Int) - 1 := by rw [IntKind.wrap_i64]; omega
    clear hbad
    have PB : Hid (putB r [] ((r : Int) - 1) = decide (0 < (r : Int))) := (show putB r [] ((r : Int) - 1) = decide (0 < (r : Int)) by
      unfold putB
      by_cases hz : 0 < (r : Int)
      · rw [decide_eq_true hz, decide_eq_true]
        exact ⟨by omega, by omega, by simp⟩
      · rw [decide_eq_false hz, decide_eq_false]
        rintro ⟨a, b, _⟩
        omega)
    go_enter Try.func3, Try.ntmps3
    go_wp2_with first | (go_at_call 9; refine (known_c _).mono ?_; rintro e w0 ⟨rfl, hb⟩; have B0 : Hid (Below w.heap.size w w0) := hb; clear hb) | (go_at_call 10; refine (new_c r hr _).mono ?_; rintro e w1 ⟨b, o, p, rfl, hm, hn, hb⟩; have M1 : Hid (MAt w1 b o p r []) := hm; have N1 : Hid (∀ k, own3 b o p k → w.heap.size ≤ k) := (fun k hk => Nat.le_trans B0.out.size (hn.own k hk)); have B1 : Hid (Below w.heap.size w w1) := chain B0.out hb (Nat.le_refl _); clear hm hn hb) | (go_at_call 11; refine (room_c M1.out).mono ?_; rintro e w5 ⟨rfl, rfl⟩) | (go_at_call 12; refine (len_c M3.out).mono ?_; rintro e w5 ⟨rfl, rfl⟩) | (go_at_call 12; refine (len_c M1.out).mono ?_; rintro e w5 ⟨rfl, rfl⟩) | (go_at_call 13; refine (put_c M3.out _).mono ?_; rw [PB.out]; rintro e w4 ⟨rfl, hm, hf⟩; have B4 : Hid (Below w.heap.size w w4) := chainF B3.out hf (Nat.le_refl _) N1.out; clear hm hf) | (go_at_call 13; refine (put_c M2.out _).mono ?_; rw [putB_no (by omega), putL_no (by omega)]; rintro e w3 ⟨rfl, hm, hf⟩; have M3 : Hid (MAt w3 b o p r []) := hm; have B3 : Hid (Below w.heap.size w w3) := chainF B2.out hf (Nat.le_refl _) N1.out; clear hm hf) | (go_at_call 13; refine (put_c M1.out _).mono ?_; rw [putB_no (by omega), putL_no (by omega)]; rintro e w2 ⟨rfl, hm, hf⟩; have M2 : Hid (MAt w2 b o p r []) := hm; have B2 : Hid (Below w.heap.size w w2) := chainF B1.out hf (Nat.le_refl _) N1.out; clear hm hf)
    go_ret
    exact ⟨rfl, B4.out⟩
end Go.Proofs.Ytbpphdjienpiaaa
