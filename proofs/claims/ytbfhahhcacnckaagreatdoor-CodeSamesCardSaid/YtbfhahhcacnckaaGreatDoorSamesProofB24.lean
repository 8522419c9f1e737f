/-
  Parts of the proof.
-/
import Derived.Test.YtbfhahhcacnckaaGreatDoorSamesProofB9
set_option linter.unusedSimpArgs false
namespace Go.Proofs.YtbfhahhcacnckaaGreatDoor
open Go Go.RowKit
attribute [local go_sem] Oper.semAt_some
set_option maxRecDepth 100000 in
set_option maxHeartbeats 4000000 in
theorem opn_1 (w : World) : Calls Tryz.prog 70 #[.string ⟨#[98, 121, 116, 101]⟩] w fun e w' => e = .returned (.tuple #[.int .i64 1, .bool true]) ∧ w' = w := by
  have hs1 := (show Calls Tryz.prog 32 #[.int .i64 1] w fun e w' => e = .returned (.tuple #[.string ⟨#[98, 121, 116, 101]⟩, .int .i64 65]) ∧ w' = w from shape_c 1 w)
  go_enter Tryz.func70, Tryz.ntmps70
  go_wp2
  refine wp_loop_unr 1 (unr_succ ?_)
  go_wp2_with (go_at_call 32; (with_reducible refine (hs1).mono ?_); rintro e w5 ⟨rfl, h5⟩; subst h5)
  go_ret2
  exact ⟨rfl, rfl⟩
set_option maxRecDepth 100000 in
set_option maxHeartbeats 4000000 in
theorem opn_2 (w : World) : Calls Tryz.prog 70 #[.string ⟨#[115, 112, 108, 105, 116]⟩] w fun e w' => e = .returned (.tuple #[.int .i64 2, .bool true]) ∧ w' = w := by
  have hs1 := (show Calls Tryz.prog 32 #[.int .i64 1] w fun e w' => e = .returned (.tuple #[.string ⟨#[98, 121, 116, 101]⟩, .int .i64 65]) ∧ w' = w from shape_c 1 w)
  have hs2 := (show Calls Tryz.prog 32 #[.int .i64 2] w fun e w' => e = .returned (.tuple #[.string ⟨#[115, 112, 108, 105, 116]⟩, .int .i64 6]) ∧ w' = w from shape_c 2 w)
  go_enter Tryz.func70, Tryz.ntmps70
  go_wp2
  refine wp_loop_unr 2 (unr_succ ?_)
  go_wp2_with (go_at_call 32; (with_reducible refine (hs1).mono ?_); rintro e w5 ⟨rfl, h5⟩; subst h5)
  refine unr_succ ?_
  go_wp2_with (go_at_call 32; (with_reducible refine (hs2).mono ?_); rintro e w5 ⟨rfl, h5⟩; subst h5)
  go_ret2
  exact ⟨rfl, rfl⟩
set_option maxRecDepth 100000 in
set_option maxHeartbeats 4000000 in
theorem opn_3 (w : World) : Calls Tryz.prog 70 #[.string ⟨#[106, 117, 109, 112]⟩] w fun e w' => e = .returned (.tuple #[.int .i64 3, .bool true]) ∧ w' = w := by
  have hs1 := (show Calls Tryz.prog 32 #[.int .i64 1] w fun e w' => e = .returned (.tuple #[.string ⟨#[98, 121, 116, 101]⟩, .int .i64 65]) ∧ w' = w from shape_c 1 w)
  have hs2 := (show Calls Tryz.prog 32 #[.int .i64 2] w fun e w' => e = .returned (.tuple #[.string ⟨#[115, 112, 108, 105, 116]⟩, .int .i64 6]) ∧ w' = w from shape_c 2 w)
  have hs3 := (show Calls Tryz.prog 32 #[.int .i64 3] w fun e w' => e = .returned (.tuple #[.string ⟨#[106, 117, 109, 112]⟩, .int .i64 2]) ∧ w' = w from shape_c 3 w)
  go_enter Tryz.func70, Tryz.ntmps70
  go_wp2
  refine wp_loop_unr 3 (unr_succ ?_)
  go_wp2_with (go_at_call 32; (with_reducible refine (hs1).mono ?_); rintro e w5 ⟨rfl, h5⟩; subst h5)
  refine unr_succ ?_
  go_wp2_with (go_at_call 32; (with_reducible refine (hs2).mono ?_); rintro e w5 ⟨rfl, h5⟩; subst h5)
  refine unr_succ ?_
  go_wp2_with (go_at_call 32; (with_reducible refine (hs3).mono ?_); rintro e w5 ⟨rfl, h5⟩; subst h5)
  go_ret2
  exact ⟨rfl, rfl⟩
set_option maxRecDepth 100000 in
set_option maxHeartbeats 4000000 in
theorem opn_11 (w : World) : Calls Tryz.prog 70 #[.string ⟨#[109, 97, 116, 99, 104]⟩] w fun e w' => e = .returned (.tuple #[.int .i64 11, .bool true]) ∧ w' = w := by
  have hs1 := (show Calls Tryz.prog 32 #[.int .i64 1] w fun e w' => e = .returned (.tuple #[.string ⟨#[98, 121, 116, 101]⟩, .int .i64 65]) ∧ w' = w from shape_c 1 w)
  have hs2 := (show Calls Tryz.prog 32 #[.int .i64 2] w fun e w' => e = .returned (.tuple #[.string ⟨#[115, 112, 108, 105, 116]⟩, .int .i64 6]) ∧ w' = w from shape_c 2 w)
  have hs3 := (show Calls Tryz.prog 32 #[.int .i64 3] w fun e w' => e = .returned (.tuple #[.string ⟨#[106, 117, 109, 112]⟩, .int .i64 2]) ∧ w' = w from shape_c 3 w)
  have hs4 := (show Calls Tryz.prog 32 #[.int .i64 4] w fun e w' => e = .returned (.tuple #[.string ⟨#[98, 101, 103, 105, 110]⟩, .int .i64 64]) ∧ w' = w from shape_c 4 w)
  have hs5 := (show Calls Tryz.prog 32 #[.int .i64 5] w fun e w' => e = .returned (.tuple #[.string ⟨#[101, 110, 100]⟩, .int .i64 64]) ∧ w' = w from shape_c 5 w)
  have hs6 := (show Calls Tryz.prog 32 #[.int .i64 6] w fun e w' => e = .returned (.tuple #[.string ⟨#[111, 112, 101, 110]⟩, .int .i64 72]) ∧ w' = w from shape_c 6 w)
  have hs7 := (show Calls Tryz.prog 32 #[.int .i64 7] w fun e w' => e = .returned (.tuple #[.string ⟨#[99, 108, 111, 115, 101]⟩, .int .i64 72]) ∧ w' = w from shape_c 7 w)
  have hs8 := (show Calls Tryz.prog 32 #[.int .i64 8] w fun e w' => e = .returned (.tuple #[.string ⟨#[98, 97, 99, 107]⟩, .int .i64 72]) ∧ w' = w from shape_c 8 w)
  have hs9 := (show Calls Tryz.prog 32 #[.int .i64 9] w fun e w' => e = .returned (.tuple #[.string ⟨#[122, 101, 114, 111]⟩, .int .i64 80]) ∧ w' = w from shape_c 9 w)
  have hs10 := (show Calls Tryz.prog 32 #[.int .i64 10] w fun e w' => e = .returned (.tuple #[.string ⟨#[116, 117, 114, 110]⟩, .int .i64 54]) ∧ w' = w from shape_c 10 w)
  have hs11 := (show Calls Tryz.prog 32 #[.int .i64 11] w fun e w' => e = .returned (.tuple #[.string ⟨#[109, 97, 116, 99, 104]⟩, .int .i64 0]) ∧ w' = w from shape_c 11 w)
  go_enter Tryz.func70, Tryz.ntmps70
  go_wp2
  refine wp_loop_unr 11 (unr_succ ?_)
  go_wp2_with (go_at_call 32; (with_reducible refine (hs1).mono ?_); rintro e w5 ⟨rfl, h5⟩; subst h5)
  refine unr_succ ?_
  go_wp2_with (go_at_call 32; (with_reducible refine (hs2).mono ?_); rintro e w5 ⟨rfl, h5⟩; subst h5)
  refine unr_succ ?_
  go_wp2_with (go_at_call 32; (with_reducible refine (hs3).mono ?_); rintro e w5 ⟨rfl, h5⟩; subst h5)
  refine unr_succ ?_
  go_wp2_with (go_at_call 32; (with_reducible refine (hs4).mono ?_); rintro e w5 ⟨rfl, h5⟩; subst h5)
  refine unr_succ ?_
  go_wp2_with (go_at_call 32; (with_reducible refine (hs5).mono ?_); rintro e w5 ⟨rfl, h5⟩; subst h5)
  refine unr_succ ?_
  go_wp2_with (go_at_call 32; (with_reducible refine (hs6).mono ?_); rintro e w5 ⟨rfl, h5⟩; subst h5)
  refine unr_succ ?_
  go_wp2_with (go_at_call 32; (with_reducible refine (hs7).mono ?_); rintro e w5 ⟨rfl, h5⟩; subst h5)
  refine unr_succ ?_
  go_wp2_with (go_at_call 32; (with_reducible refine (hs8).mono ?_); rintro e w5 ⟨rfl, h5⟩; subst h5)
  refine unr_succ ?_
  go_wp2_with (go_at_call 32; (with_reducible refine (hs9).mono ?_); rintro e w5 ⟨rfl, h5⟩; subst h5)
  refine unr_succ ?_
  go_wp2_with (go_at_call 32; (with_reducible refine (hs10).mono ?_); rintro e w5 ⟨rfl, h5⟩; subst h5)
  refine unr_succ ?_
  go_wp2_with (go_at_call 32; (with_reducible refine (hs11).mono ?_); rintro e w5 ⟨rfl, h5⟩; subst h5)
  go_ret2
  exact ⟨rfl, rfl⟩
end Go.Proofs.YtbfhahhcacnckaaGreatDoor
