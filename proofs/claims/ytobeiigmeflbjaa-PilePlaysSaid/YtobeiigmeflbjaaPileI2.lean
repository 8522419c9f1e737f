/-
  A pile of numbers: At, Top, Pop.
-/
import Derived.Test.YtobeiigmeflbjaaPileI
namespace Go.Proofs.Ytobeiigmeflbjaa
open Go Go.RowKit

set_option maxRecDepth 100000 in
set_option maxHeartbeats 1000000 in
theorem atI {base : Nat} {w : World} {b : Nat} {v : Value} {L : List Int} (h : PI base w b v L) {k : Nat} {x : Int} (hk : L[k]? = some x) :
    Calls Try.prog 35 #[.pointer (some ⟨b, 0, none⟩), .int .i64 k] w fun e w' => e = .returned (.tuple #[.int .i64 x, .bool true]) ∧ w' = w := by
  have H : Hid (PI base w b v L) := h
  have hkl : k < L.length := (List.getElem?_eq_some_iff.1 hk).1
  obtain ⟨g, c, rfl⟩ := ownsRow_some h.own (by omega)
  have c0 : w.cell? ⟨b, 0, none⟩ = some (.slice (some ⟨g, 0, none⟩) L.length c) := cell_row h.hb (i := 0) rfl
  have ck : w.cell? ⟨g, k, none⟩ = some (.int .i64 x) := ownsRow_cell h.own (ints_get hk)
  have n0 : ¬ (k : Int) < 0 := by omega
  have n1 : ¬ (L.length : Int) ≤ (k : Int) := by omega
  have n2 : (k : Int) < (L.length : Int) := by omega
  clear h hk
  go_enter Try.func35, Try.ntmps35
  go_wp2_with (go_at_call 34; (with_reducible refine (lenI H.out).mono ?_); rintro e w5 ⟨rfl, h5⟩; subst w5)
  go_ret2
  exact ⟨rfl, rfl⟩

set_option maxRecDepth 100000 in
set_option maxHeartbeats 1000000 in
theorem atI_bad {base : Nat} {w : World} {b : Nat} {v : Value} {L : List Int} (h : PI base w b v L) {k : Int} (hk : k < 0 ∨ (L.length : Int) ≤ k) :
    Calls Try.prog 35 #[.pointer (some ⟨b, 0, none⟩), .int .i64 k] w fun e w' => e = .returned (.tuple #[.int .i64 0, .bool false]) ∧ w' = w := by
  have H : Hid (PI base w b v L) := h
  clear h
  rcases hk with hk | hk
  · go_enter Try.func35, Try.ntmps35
    go_wp2
    go_ret2
    exact ⟨rfl, rfl⟩
  · have n0 : ¬ k < 0 := by omega
    go_enter Try.func35, Try.ntmps35
    go_wp2_with (go_at_call 34; (with_reducible refine (lenI H.out).mono ?_); rintro e w5 ⟨rfl, h5⟩; subst w5)
    go_ret2
    exact ⟨rfl, rfl⟩

set_option maxRecDepth 100000 in
set_option maxHeartbeats 1000000 in
theorem topI {base : Nat} {w : World} {b : Nat} {v : Value} {L : List Int} {x : Int} (h : PI base w b v (L ++ [x])) :
    Calls Try.prog 36 #[.pointer (some ⟨b, 0, none⟩)] w fun e w' => e = .returned (.tuple #[.int .i64 x, .bool true]) ∧ w' = w := by
  have hL : (L.length : Int) ≤ 9223372036854775807 := by have := ownsRow_len h.own; simp [maxLen] at this; omega
  have A : Hid (Calls Try.prog 35 #[.pointer (some ⟨b, 0, none⟩), .int .i64 (L.length : Int)] w fun e w' => e = .returned (.tuple #[.int .i64 x, .bool true]) ∧ w' = w) := atI h (k := L.length) (x := x) (by simp)
  have B : Hid (Calls Try.prog 34 #[.pointer (some ⟨b, 0, none⟩)] w fun e w' => e = .returned (.int .i64 ((L.length : Int) + 1)) ∧ w' = w) := by
    have := lenI h
    rw [show (((L ++ [x]).length : Nat) : Int) = (L.length : Int) + 1 by simp] at this
    exact this
  clear h
  go_enter Try.func36, Try.ntmps36
  go_wp2_with first | (go_at_call 34; (with_reducible refine B.out.mono ?_); rintro e w5 ⟨rfl, h5⟩; subst w5) | (go_at_call 35; (with_reducible refine A.out.mono ?_); rintro e w5 ⟨rfl, h5⟩; subst w5)
  go_ret2
  exact ⟨rfl, rfl⟩

set_option maxRecDepth 100000 in
set_option maxHeartbeats 1000000 in
theorem topI_none {base : Nat} {w : World} {b : Nat} {v : Value} (h : PI base w b v []) :
    Calls Try.prog 36 #[.pointer (some ⟨b, 0, none⟩)] w fun e w' => e = .returned (.tuple #[.int .i64 0, .bool false]) ∧ w' = w := by
  have H : Hid (PI base w b v []) := h
  have B : Hid (Calls Try.prog 34 #[.pointer (some ⟨b, 0, none⟩)] w fun e w' => e = .returned (.int .i64 0) ∧ w' = w) := lenI h
  clear h
  go_enter Try.func36, Try.ntmps36
  go_wp2_with first | (go_at_call 34; (with_reducible refine B.out.mono ?_); rintro e w5 ⟨rfl, h5⟩; subst w5) | (go_at_call 35; (refine (atI_bad H.out (k := -1) (.inl (by decide))).mono ?_); rintro e w5 ⟨rfl, h5⟩; subst w5)
  go_ret2
  exact ⟨rfl, rfl⟩

set_option maxRecDepth 100000 in
set_option maxHeartbeats 1000000 in
theorem popI {base : Nat} {w : World} {b : Nat} {v : Value} {L : List Int} {x : Int} (h : PI base w b v (L ++ [x])) :
    Calls Try.prog 37 #[.pointer (some ⟨b, 0, none⟩)] w fun e w' => e = .returned (.tuple #[.int .i64 x, .bool true]) ∧ ∃ v', PI base w' b v' L ∧ v'.ownBlock = v.ownBlock ∧ Fr (foot b v) w w' := by
  have H : Hid (PI base w b v (L ++ [x])) := h
  have hL : (L.length : Int) ≤ 9223372036854775807 := by have := ownsRow_len h.own; simp [maxLen] at this; omega
  have B : Hid (Calls Try.prog 34 #[.pointer (some ⟨b, 0, none⟩)] w fun e w' => e = .returned (.int .i64 ((L.length : Int) + 1)) ∧ w' = w) := by
    have := lenI h
    rw [show (((L ++ [x]).length : Nat) : Int) = (L.length : Int) + 1 by simp] at this
    exact this
  have C : Hid (Calls Try.prog 33 #[.pointer (some ⟨b, 0, none⟩), .int .i64 (L.length : Int)] w fun e w' => e = .returned (.int .i64 0) ∧ ∃ v', PI base w' b v' L ∧ v'.ownBlock = v.ownBlock ∧ Fr (foot b v) w w') := by
    have := cutI h (n := L.length) (by simp)
    rw [List.take_left' rfl] at this
    exact this
  clear h
  go_enter Try.func37, Try.ntmps37
  go_wp2_with first | (go_at_call 36; (with_reducible refine (topI H.out).mono ?_); rintro e w5 ⟨rfl, h5⟩; subst w5) | (go_at_call 34; (with_reducible refine B.out.mono ?_); rintro e w5 ⟨rfl, h5⟩; subst w5) | (go_at_call 33; (with_reducible refine C.out.mono ?_); rintro e w6 ⟨rfl, h6⟩; have H6 : Hid (∃ v', PI base w6 b v' L ∧ v'.ownBlock = v.ownBlock ∧ Fr (foot b v) w w6) := h6; clear h6)
  go_ret2
  exact ⟨rfl, H6.out⟩

set_option maxRecDepth 100000 in
set_option maxHeartbeats 1000000 in
theorem popI_none {base : Nat} {w : World} {b : Nat} {v : Value} (h : PI base w b v []) :
    Calls Try.prog 37 #[.pointer (some ⟨b, 0, none⟩)] w fun e w' => e = .returned (.tuple #[.int .i64 0, .bool false]) ∧ w' = w := by
  have H : Hid (PI base w b v []) := h
  clear h
  go_enter Try.func37, Try.ntmps37
  go_wp2_with (go_at_call 36; (with_reducible refine (topI_none H.out).mono ?_); rintro e w5 ⟨rfl, h5⟩; subst w5)
  go_ret2
  exact ⟨rfl, rfl⟩
end Go.Proofs.Ytobeiigmeflbjaa
