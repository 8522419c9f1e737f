/-
  Parts of the proof.
-/
import Derived.Test.YtbfhahhcacnckaaGreatDoorSamesProofB7
import Derived.Test.YtbfhahhcacnckaaGreatDoorSamesProofB8
set_option linter.unusedSimpArgs false
namespace Go.Proofs.YtbfhahhcacnckaaGreatDoor
open Go Go.RowKit
attribute [local go_sem] Oper.semAt_some ext_cell
def shW (o : Int) : List UInt8 :=
  if o = 1 then [98, 121, 116, 101] else if o = 2 then [115, 112, 108, 105, 116] else if o = 3 then [106, 117, 109, 112] else if o = 4 then [98, 101, 103, 105, 110] else if o = 5 then [101, 110, 100] else if o = 6 then [111, 112, 101, 110] else if o = 7 then [99, 108, 111, 115, 101] else if o = 8 then [98, 97, 99, 107] else if o = 9 then [122, 101, 114, 111] else if o = 10 then [116, 117, 114, 110] else if o = 11 then [109, 97, 116, 99, 104] else []
def shT (o : Int) : Int := if o = 1 then 65 else if o = 2 then 6 else if o = 3 then 2 else if o = 4 then 64 else if o = 5 then 64 else if o = 6 then 72 else if o = 7 then 72 else if o = 8 then 72 else if o = 9 then 80 else if o = 10 then 54 else 0
def trs : List Int := [65, 6, 2, 64, 72, 80, 54, 0]
theorem shT_mem (o : Int) : shT o ∈ trs := by
  unfold shT
  repeat' split
  all_goals decide
set_option maxRecDepth 100000 in
set_option maxHeartbeats 4000000 in
theorem shape_c (o : Int) (w : World) : Calls Tryz.prog 32 #[.int .i64 o] w fun e w' => e = .returned (.tuple #[.string (txt (shW o)), .int .i64 (shT o)]) ∧ w' = w := by
  by_cases h1 : o = 1
  · subst h1; go_enter Tryz.func32, Tryz.ntmps32; go_wp2; go_ret2; exact ⟨rfl, rfl⟩
  by_cases h2 : o = 2
  · subst h2; go_enter Tryz.func32, Tryz.ntmps32; go_wp2; go_ret2; exact ⟨rfl, rfl⟩
  by_cases h3 : o = 3
  · subst h3; go_enter Tryz.func32, Tryz.ntmps32; go_wp2; go_ret2; exact ⟨rfl, rfl⟩
  by_cases h4 : o = 4
  · subst h4; go_enter Tryz.func32, Tryz.ntmps32; go_wp2; go_ret2; exact ⟨rfl, rfl⟩
  by_cases h5 : o = 5
  · subst h5; go_enter Tryz.func32, Tryz.ntmps32; go_wp2; go_ret2; exact ⟨rfl, rfl⟩
  by_cases h6 : o = 6
  · subst h6; go_enter Tryz.func32, Tryz.ntmps32; go_wp2; go_ret2; exact ⟨rfl, rfl⟩
  by_cases h7 : o = 7
  · subst h7; go_enter Tryz.func32, Tryz.ntmps32; go_wp2; go_ret2; exact ⟨rfl, rfl⟩
  by_cases h8 : o = 8
  · subst h8; go_enter Tryz.func32, Tryz.ntmps32; go_wp2; go_ret2; exact ⟨rfl, rfl⟩
  by_cases h9 : o = 9
  · subst h9; go_enter Tryz.func32, Tryz.ntmps32; go_wp2; go_ret2; exact ⟨rfl, rfl⟩
  by_cases h10 : o = 10
  · subst h10; go_enter Tryz.func32, Tryz.ntmps32; go_wp2; go_ret2; exact ⟨rfl, rfl⟩
  by_cases h11 : o = 11
  · subst h11; go_enter Tryz.func32, Tryz.ntmps32; go_wp2; go_ret2; exact ⟨rfl, rfl⟩
  have e1 : shW o = [] := by unfold shW; simp [h1, h2, h3, h4, h5, h6, h7, h8, h9, h10, h11]
  have e2 : shT o = 0 := by unfold shT; simp [h1, h2, h3, h4, h5, h6, h7, h8, h9, h10]
  rw [e1, e2]
  clear e1 e2
  go_enter Tryz.func32, Tryz.ntmps32
  go_wp2
  go_ret2
  exact ⟨rfl, rfl⟩
def hsT (t m : Int) : Bool := bits .and .i64 t m != 0
set_option maxRecDepth 100000 in
set_option maxHeartbeats 1000000 in
theorem has_t (t m : Int) (w : World) : Calls Tryz.prog 33 #[.int .i64 t, .int .i64 m] w fun e w' => e = .returned (.bool (hsT t m)) ∧ w' = w := by
  go_enter Tryz.func33, Tryz.ntmps33
  go_wp2
  go_ret
  exact ⟨rfl, rfl⟩
def blw (n m : Int) : Bool := decide (0 ≤ n) && decide (n < m)
set_option maxRecDepth 100000 in
set_option maxHeartbeats 1000000 in
theorem below_c (n m : Int) (w : World) : Calls Tryz.prog 22 #[.int .i64 n, .int .i64 m] w fun e w' => e = .returned (.bool (blw n m)) ∧ w' = w := by
  unfold blw
  by_cases h : 0 ≤ n
  · rw [decide_eq_true h, Bool.true_and]
    go_enter Tryz.func22, Tryz.ntmps22
    go_wp2
    go_ret
    exact ⟨rfl, rfl⟩
  · rw [decide_eq_false h, Bool.false_and]
    go_enter Tryz.func22, Tryz.ntmps22
    go_wp2
    go_ret
    exact ⟨rfl, rfl⟩
def rbd (a b : Int) : Bool := blw a 256 && (b == -1 || (decide (a ≤ b) && decide (b ≤ 255)))
set_option maxRecDepth 100000 in
set_option maxHeartbeats 1000000 in
theorem bounds_c (a b : Int) (w : World) : Calls Tryz.prog 41 #[.int .i64 a, .int .i64 b] w fun e w' => e = .returned (.bool (rbd a b)) ∧ w' = w := by
  unfold rbd
  have HB := hide (below_c a 256 w)
  obtain ⟨r, hr⟩ : ∃ r, blw a 256 = r := ⟨_, rfl⟩
  rw [hr] at HB ⊢
  clear hr
  cases r with
  | false =>
    go_enter Tryz.func41, Tryz.ntmps41
    go_wp2_with (go_at_call 22; (with_reducible refine (HB.out).mono ?_); rintro e w5 ⟨rfl, rfl⟩)
    go_ret
    exact ⟨rfl, rfl⟩
  | true =>
    by_cases h1 : b = -1
    · subst h1
      go_enter Tryz.func41, Tryz.ntmps41
      go_wp2_with (go_at_call 22; (with_reducible refine (HB.out).mono ?_); rintro e w5 ⟨rfl, rfl⟩)
      go_ret
      exact ⟨rfl, rfl⟩
    · rw [Bool.true_and]
      by_cases h2 : a ≤ b
      · rw [decide_eq_true h2, Bool.true_and]
        go_enter Tryz.func41, Tryz.ntmps41
        go_wp2_with (go_at_call 22; (with_reducible refine (HB.out).mono ?_); rintro e w5 ⟨rfl, rfl⟩)
        go_ret
        first | exact ⟨rfl, rfl⟩ | exact ⟨by simp, rfl⟩
      · rw [decide_eq_false h2, Bool.false_and]
        go_enter Tryz.func41, Tryz.ntmps41
        go_wp2_with (go_at_call 22; (with_reducible refine (HB.out).mono ?_); rintro e w5 ⟨rfl, rfl⟩)
        go_ret
        first | exact ⟨rfl, rfl⟩ | exact ⟨by simp, rfl⟩
end Go.Proofs.YtbfhahhcacnckaaGreatDoor
