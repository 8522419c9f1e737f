/-
  Parts of the proof.
-/
import Derived.Test.YtbfhahhcacnckaaGreatDoorUnreachedProofB3
set_option linter.unusedSimpArgs false
namespace Go.Proofs.YtbfhahhcacnckaaGreatDoor
open Go Go.RowKit
attribute [local go_sem] Oper.semAt_some ext_cell
theorem tm2 (x : Int) : -2 < x.tmod 2 ∧ x.tmod 2 < 2 := ⟨by have := Int.lt_tmod_of_pos x (b := 2) (by decide); omega, Int.tmod_lt_of_pos x (by decide)⟩
def IdP (j : Ins) (w : World) (e : Ending) (w' : World) : Prop := e = .returned (.agg #[.int .i64 j.op, .int .i64 j.x, .int .i64 j.y, .int .i64 j.n, .int .i64 j.mn, .int .i64 j.mx, .int .u64 (z1_wd j.s 0), .int .u64 (z1_wd j.s 1), .int .u64 (z1_wd j.s 2), .int .u64 (z1_wd j.s 3)]) ∧ Below w.heap.size w w'
set_option maxRecDepth 100000 in
set_option maxHeartbeats 4000000 in
theorem idle_1o (x y n mn mx : Int) (s : z1_S) (which : Int) (w : World) (hz : ¬ which.tmod 2 = 0) : Calls Tryz.prog 13 #[.agg #[.int .i64 1, .int .i64 x, .int .i64 y, .int .i64 n, .int .i64 mn, .int .i64 mx, .int .u64 (z1_wd s 0), .int .u64 (z1_wd s 1), .int .u64 (z1_wd s 2), .int .u64 (z1_wd s 3)], .int .i64 which] w (IdP ⟨1, 1, y, n, mn, mx, s⟩ w) := by
  have e3 : IntKind.i64.wrap (which.tmod 2) = which.tmod 2 := by have h2 := tm2 which; rw [IntKind.wrap_i64]; omega
  go_enter Tryz.func13, Tryz.ntmps13
  go_wp2
  all_goals refine bodyPost_ret (v := .agg #[.int .i64 1, .int .i64 1, .int .i64 y, .int .i64 n, .int .i64 mn, .int .i64 mx, .int .u64 (z1_wd s 0), .int .u64 (z1_wd s 1), .int .u64 (z1_wd s 2), .int .u64 (z1_wd s 3)]) (by simp [results, Tryz.results13, go_sem]) rfl ?_
  all_goals refine ⟨rfl, ?_⟩
  all_goals repeat' (first | exact Below.refl _ _ | refine Below.drew ?_ | refine Below.alloc ?_ (by simp <;> omega) _)
set_option maxRecDepth 100000 in
set_option maxHeartbeats 4000000 in
theorem idle_1e (x y n mn mx : Int) (s : z1_S) (which : Int) (w : World) (hz : which.tmod 2 = 0) : Calls Tryz.prog 13 #[.agg #[.int .i64 1, .int .i64 x, .int .i64 y, .int .i64 n, .int .i64 mn, .int .i64 mx, .int .u64 (z1_wd s 0), .int .u64 (z1_wd s 1), .int .u64 (z1_wd s 2), .int .u64 (z1_wd s 3)], .int .i64 which] w (IdP ⟨1, 0, y, 1, mn, mx, s⟩ w) := by
  have e3 : IntKind.i64.wrap (which.tmod 2) = which.tmod 2 := by have h2 := tm2 which; rw [IntKind.wrap_i64]; omega
  go_enter Tryz.func13, Tryz.ntmps13
  go_wp2
  all_goals refine bodyPost_ret (v := .agg #[.int .i64 1, .int .i64 0, .int .i64 y, .int .i64 1, .int .i64 mn, .int .i64 mx, .int .u64 (z1_wd s 0), .int .u64 (z1_wd s 1), .int .u64 (z1_wd s 2), .int .u64 (z1_wd s 3)]) (by simp [results, Tryz.results13, go_sem]) rfl ?_
  all_goals refine ⟨rfl, ?_⟩
  all_goals repeat' (first | exact Below.refl _ _ | refine Below.drew ?_ | refine Below.alloc ?_ (by simp <;> omega) _)
set_option maxRecDepth 100000 in
set_option maxHeartbeats 4000000 in
theorem idle_2 (x y n mn mx : Int) (s : z1_S) (which : Int) (w : World) : Calls Tryz.prog 13 #[.agg #[.int .i64 2, .int .i64 x, .int .i64 y, .int .i64 n, .int .i64 mn, .int .i64 mx, .int .u64 (z1_wd s 0), .int .u64 (z1_wd s 1), .int .u64 (z1_wd s 2), .int .u64 (z1_wd s 3)], .int .i64 which] w (IdP ⟨2, x, y, n, 1, mx, s⟩ w) := by
  go_enter Tryz.func13, Tryz.ntmps13
  go_wp2
  all_goals refine bodyPost_ret (v := .agg #[.int .i64 2, .int .i64 x, .int .i64 y, .int .i64 n, .int .i64 1, .int .i64 mx, .int .u64 (z1_wd s 0), .int .u64 (z1_wd s 1), .int .u64 (z1_wd s 2), .int .u64 (z1_wd s 3)]) (by simp [results, Tryz.results13, go_sem]) rfl ?_
  all_goals refine ⟨rfl, ?_⟩
  all_goals repeat' (first | exact Below.refl _ _ | refine Below.drew ?_ | refine Below.alloc ?_ (by simp <;> omega) _)
set_option maxRecDepth 100000 in
set_option maxHeartbeats 4000000 in
theorem idle_3 (x y n mn mx : Int) (s : z1_S) (which : Int) (w : World) : Calls Tryz.prog 13 #[.agg #[.int .i64 3, .int .i64 x, .int .i64 y, .int .i64 n, .int .i64 mn, .int .i64 mx, .int .u64 (z1_wd s 0), .int .u64 (z1_wd s 1), .int .u64 (z1_wd s 2), .int .u64 (z1_wd s 3)], .int .i64 which] w (IdP ⟨3, x, 1, n, mn, mx, s⟩ w) := by
  go_enter Tryz.func13, Tryz.ntmps13
  go_wp2
  all_goals refine bodyPost_ret (v := .agg #[.int .i64 3, .int .i64 x, .int .i64 1, .int .i64 n, .int .i64 mn, .int .i64 mx, .int .u64 (z1_wd s 0), .int .u64 (z1_wd s 1), .int .u64 (z1_wd s 2), .int .u64 (z1_wd s 3)]) (by simp [results, Tryz.results13, go_sem]) rfl ?_
  all_goals refine ⟨rfl, ?_⟩
  all_goals repeat' (first | exact Below.refl _ _ | refine Below.drew ?_ | refine Below.alloc ?_ (by simp <;> omega) _)
set_option maxRecDepth 100000 in
set_option maxHeartbeats 4000000 in
theorem idle_4o (x y n mn mx : Int) (s : z1_S) (which : Int) (w : World) (hz : ¬ which.tmod 2 = 0) : Calls Tryz.prog 13 #[.agg #[.int .i64 4, .int .i64 x, .int .i64 y, .int .i64 n, .int .i64 mn, .int .i64 mx, .int .u64 (z1_wd s 0), .int .u64 (z1_wd s 1), .int .u64 (z1_wd s 2), .int .u64 (z1_wd s 3)], .int .i64 which] w (IdP ⟨4, x, y, n, mn, (-1), s⟩ w) := by
  have e3 : IntKind.i64.wrap (which.tmod 2) = which.tmod 2 := by have h2 := tm2 which; rw [IntKind.wrap_i64]; omega
  go_enter Tryz.func13, Tryz.ntmps13
  go_wp2
  all_goals refine bodyPost_ret (v := .agg #[.int .i64 4, .int .i64 x, .int .i64 y, .int .i64 n, .int .i64 mn, .int .i64 (-1), .int .u64 (z1_wd s 0), .int .u64 (z1_wd s 1), .int .u64 (z1_wd s 2), .int .u64 (z1_wd s 3)]) (by simp [results, Tryz.results13, go_sem]) rfl ?_
  all_goals refine ⟨rfl, ?_⟩
  all_goals repeat' (first | exact Below.refl _ _ | refine Below.drew ?_ | refine Below.alloc ?_ (by simp <;> omega) _)
set_option maxRecDepth 100000 in
set_option maxHeartbeats 4000000 in
theorem idle_4e (x y n mn mx : Int) (s : z1_S) (which : Int) (w : World) (hz : which.tmod 2 = 0) : Calls Tryz.prog 13 #[.agg #[.int .i64 4, .int .i64 x, .int .i64 y, .int .i64 n, .int .i64 mn, .int .i64 mx, .int .u64 (z1_wd s 0), .int .u64 (z1_wd s 1), .int .u64 (z1_wd s 2), .int .u64 (z1_wd s 3)], .int .i64 which] w (IdP ⟨4, x, y, n, mn, 0, 1#256⟩ w) := by
  have e3 : IntKind.i64.wrap (which.tmod 2) = which.tmod 2 := by have h2 := tm2 which; rw [IntKind.wrap_i64]; omega
  go_enter Tryz.func13, Tryz.ntmps13
  go_wp2
  all_goals refine bodyPost_ret (v := .agg #[.int .i64 4, .int .i64 x, .int .i64 y, .int .i64 n, .int .i64 mn, .int .i64 0, .int .u64 1, .int .u64 0, .int .u64 0, .int .u64 0]) (by simp [results, Tryz.results13, go_sem]) rfl ?_
  all_goals have k0 : z1_wd (1#256) 0 = 1 := rfl
  all_goals have k1 : z1_wd (1#256) 1 = 0 := rfl
  all_goals have k2 : z1_wd (1#256) 2 = 0 := rfl
  all_goals have k3 : z1_wd (1#256) 3 = 0 := rfl
  all_goals refine ⟨show _ = Ending.returned (.agg #[.int .i64 4, .int .i64 x, .int .i64 y, .int .i64 n, .int .i64 mn, .int .i64 0, .int .u64 (z1_wd (1#256) 0), .int .u64 (z1_wd (1#256) 1), .int .u64 (z1_wd (1#256) 2), .int .u64 (z1_wd (1#256) 3)]) from by rw [k0, k1, k2, k3], ?_⟩
  all_goals repeat' (first | exact Below.refl _ _ | refine Below.drew ?_ | refine Below.alloc ?_ (by simp <;> omega) _)
set_option maxRecDepth 100000 in
set_option maxHeartbeats 4000000 in
theorem idle_5o (x y n mn mx : Int) (s : z1_S) (which : Int) (w : World) (hz : ¬ which.tmod 2 = 0) : Calls Tryz.prog 13 #[.agg #[.int .i64 5, .int .i64 x, .int .i64 y, .int .i64 n, .int .i64 mn, .int .i64 mx, .int .u64 (z1_wd s 0), .int .u64 (z1_wd s 1), .int .u64 (z1_wd s 2), .int .u64 (z1_wd s 3)], .int .i64 which] w (IdP ⟨5, x, y, n, mn, (-1), s⟩ w) := by
  have e3 : IntKind.i64.wrap (which.tmod 2) = which.tmod 2 := by have h2 := tm2 which; rw [IntKind.wrap_i64]; omega
  go_enter Tryz.func13, Tryz.ntmps13
  go_wp2
  all_goals refine bodyPost_ret (v := .agg #[.int .i64 5, .int .i64 x, .int .i64 y, .int .i64 n, .int .i64 mn, .int .i64 (-1), .int .u64 (z1_wd s 0), .int .u64 (z1_wd s 1), .int .u64 (z1_wd s 2), .int .u64 (z1_wd s 3)]) (by simp [results, Tryz.results13, go_sem]) rfl ?_
  all_goals refine ⟨rfl, ?_⟩
  all_goals repeat' (first | exact Below.refl _ _ | refine Below.drew ?_ | refine Below.alloc ?_ (by simp <;> omega) _)
set_option maxRecDepth 100000 in
set_option maxHeartbeats 4000000 in
theorem idle_5e (x y n mn mx : Int) (s : z1_S) (which : Int) (w : World) (hz : which.tmod 2 = 0) : Calls Tryz.prog 13 #[.agg #[.int .i64 5, .int .i64 x, .int .i64 y, .int .i64 n, .int .i64 mn, .int .i64 mx, .int .u64 (z1_wd s 0), .int .u64 (z1_wd s 1), .int .u64 (z1_wd s 2), .int .u64 (z1_wd s 3)], .int .i64 which] w (IdP ⟨5, x, y, n, mn, 0, 1#256⟩ w) := by
  have e3 : IntKind.i64.wrap (which.tmod 2) = which.tmod 2 := by have h2 := tm2 which; rw [IntKind.wrap_i64]; omega
  go_enter Tryz.func13, Tryz.ntmps13
  go_wp2
  all_goals refine bodyPost_ret (v := .agg #[.int .i64 5, .int .i64 x, .int .i64 y, .int .i64 n, .int .i64 mn, .int .i64 0, .int .u64 1, .int .u64 0, .int .u64 0, .int .u64 0]) (by simp [results, Tryz.results13, go_sem]) rfl ?_
  all_goals have k0 : z1_wd (1#256) 0 = 1 := rfl
  all_goals have k1 : z1_wd (1#256) 1 = 0 := rfl
  all_goals have k2 : z1_wd (1#256) 2 = 0 := rfl
  all_goals have k3 : z1_wd (1#256) 3 = 0 := rfl
  all_goals refine ⟨show _ = Ending.returned (.agg #[.int .i64 5, .int .i64 x, .int .i64 y, .int .i64 n, .int .i64 mn, .int .i64 0, .int .u64 (z1_wd (1#256) 0), .int .u64 (z1_wd (1#256) 1), .int .u64 (z1_wd (1#256) 2), .int .u64 (z1_wd (1#256) 3)]) from by rw [k0, k1, k2, k3], ?_⟩
  all_goals repeat' (first | exact Below.refl _ _ | refine Below.drew ?_ | refine Below.alloc ?_ (by simp <;> omega) _)
set_option maxRecDepth 100000 in
set_option maxHeartbeats 4000000 in
theorem idle_6o (x y n mn mx : Int) (s : z1_S) (which : Int) (w : World) (hz : ¬ which.tmod 2 = 0) : Calls Tryz.prog 13 #[.agg #[.int .i64 6, .int .i64 x, .int .i64 y, .int .i64 n, .int .i64 mn, .int .i64 mx, .int .u64 (z1_wd s 0), .int .u64 (z1_wd s 1), .int .u64 (z1_wd s 2), .int .u64 (z1_wd s 3)], .int .i64 which] w (IdP ⟨6, 1, y, n, mn, mx, s⟩ w) := by
  have e3 : IntKind.i64.wrap (which.tmod 2) = which.tmod 2 := by have h2 := tm2 which; rw [IntKind.wrap_i64]; omega
  go_enter Tryz.func13, Tryz.ntmps13
  go_wp2
  all_goals refine bodyPost_ret (v := .agg #[.int .i64 6, .int .i64 1, .int .i64 y, .int .i64 n, .int .i64 mn, .int .i64 mx, .int .u64 (z1_wd s 0), .int .u64 (z1_wd s 1), .int .u64 (z1_wd s 2), .int .u64 (z1_wd s 3)]) (by simp [results, Tryz.results13, go_sem]) rfl ?_
  all_goals refine ⟨rfl, ?_⟩
  all_goals repeat' (first | exact Below.refl _ _ | refine Below.drew ?_ | refine Below.alloc ?_ (by simp <;> omega) _)
set_option maxRecDepth 100000 in
set_option maxHeartbeats 4000000 in
theorem idle_6e (x y n mn mx : Int) (s : z1_S) (which : Int) (w : World) (hz : which.tmod 2 = 0) : Calls Tryz.prog 13 #[.agg #[.int .i64 6, .int .i64 x, .int .i64 y, .int .i64 n, .int .i64 mn, .int .i64 mx, .int .u64 (z1_wd s 0), .int .u64 (z1_wd s 1), .int .u64 (z1_wd s 2), .int .u64 (z1_wd s 3)], .int .i64 which] w (IdP ⟨6, 0, y, n, mn, mx, 57896044618658097711785492504343953926634992332820282019728792003956564819968#256⟩ w) := by
  have e3 : IntKind.i64.wrap (which.tmod 2) = which.tmod 2 := by have h2 := tm2 which; rw [IntKind.wrap_i64]; omega
  go_enter Tryz.func13, Tryz.ntmps13
  go_wp2
  all_goals refine bodyPost_ret (v := .agg #[.int .i64 6, .int .i64 0, .int .i64 y, .int .i64 n, .int .i64 mn, .int .i64 mx, .int .u64 0, .int .u64 0, .int .u64 0, .int .u64 9223372036854775808]) (by simp [results, Tryz.results13, go_sem]) rfl ?_
  all_goals have k0 : z1_wd (57896044618658097711785492504343953926634992332820282019728792003956564819968#256) 0 = 0 := rfl
  all_goals have k1 : z1_wd (57896044618658097711785492504343953926634992332820282019728792003956564819968#256) 1 = 0 := rfl
  all_goals have k2 : z1_wd (57896044618658097711785492504343953926634992332820282019728792003956564819968#256) 2 = 0 := rfl
  all_goals have k3 : z1_wd (57896044618658097711785492504343953926634992332820282019728792003956564819968#256) 3 = 9223372036854775808 := rfl
  all_goals refine ⟨show _ = Ending.returned (.agg #[.int .i64 6, .int .i64 0, .int .i64 y, .int .i64 n, .int .i64 mn, .int .i64 mx, .int .u64 (z1_wd (57896044618658097711785492504343953926634992332820282019728792003956564819968#256) 0), .int .u64 (z1_wd (57896044618658097711785492504343953926634992332820282019728792003956564819968#256) 1), .int .u64 (z1_wd (57896044618658097711785492504343953926634992332820282019728792003956564819968#256) 2), .int .u64 (z1_wd (57896044618658097711785492504343953926634992332820282019728792003956564819968#256) 3)]) from by rw [k0, k1, k2, k3], ?_⟩
  all_goals repeat' (first | exact Below.refl _ _ | refine Below.drew ?_ | refine Below.alloc ?_ (by simp <;> omega) _)
set_option maxRecDepth 100000 in
set_option maxHeartbeats 4000000 in
theorem idle_7o (x y n mn mx : Int) (s : z1_S) (which : Int) (w : World) (hz : ¬ which.tmod 2 = 0) : Calls Tryz.prog 13 #[.agg #[.int .i64 7, .int .i64 x, .int .i64 y, .int .i64 n, .int .i64 mn, .int .i64 mx, .int .u64 (z1_wd s 0), .int .u64 (z1_wd s 1), .int .u64 (z1_wd s 2), .int .u64 (z1_wd s 3)], .int .i64 which] w (IdP ⟨7, 1, y, n, mn, mx, s⟩ w) := by
  have e3 : IntKind.i64.wrap (which.tmod 2) = which.tmod 2 := by have h2 := tm2 which; rw [IntKind.wrap_i64]; omega
  go_enter Tryz.func13, Tryz.ntmps13
  go_wp2
  all_goals refine bodyPost_ret (v := .agg #[.int .i64 7, .int .i64 1, .int .i64 y, .int .i64 n, .int .i64 mn, .int .i64 mx, .int .u64 (z1_wd s 0), .int .u64 (z1_wd s 1), .int .u64 (z1_wd s 2), .int .u64 (z1_wd s 3)]) (by simp [results, Tryz.results13, go_sem]) rfl ?_
  all_goals refine ⟨rfl, ?_⟩
  all_goals repeat' (first | exact Below.refl _ _ | refine Below.drew ?_ | refine Below.alloc ?_ (by simp <;> omega) _)
set_option maxRecDepth 100000 in
set_option maxHeartbeats 4000000 in
theorem idle_7e (x y n mn mx : Int) (s : z1_S) (which : Int) (w : World) (hz : which.tmod 2 = 0) : Calls Tryz.prog 13 #[.agg #[.int .i64 7, .int .i64 x, .int .i64 y, .int .i64 n, .int .i64 mn, .int .i64 mx, .int .u64 (z1_wd s 0), .int .u64 (z1_wd s 1), .int .u64 (z1_wd s 2), .int .u64 (z1_wd s 3)], .int .i64 which] w (IdP ⟨7, 0, y, n, mn, mx, 57896044618658097711785492504343953926634992332820282019728792003956564819968#256⟩ w) := by
  have e3 : IntKind.i64.wrap (which.tmod 2) = which.tmod 2 := by have h2 := tm2 which; rw [IntKind.wrap_i64]; omega
  go_enter Tryz.func13, Tryz.ntmps13
  go_wp2
  all_goals refine bodyPost_ret (v := .agg #[.int .i64 7, .int .i64 0, .int .i64 y, .int .i64 n, .int .i64 mn, .int .i64 mx, .int .u64 0, .int .u64 0, .int .u64 0, .int .u64 9223372036854775808]) (by simp [results, Tryz.results13, go_sem]) rfl ?_
  all_goals have k0 : z1_wd (57896044618658097711785492504343953926634992332820282019728792003956564819968#256) 0 = 0 := rfl
  all_goals have k1 : z1_wd (57896044618658097711785492504343953926634992332820282019728792003956564819968#256) 1 = 0 := rfl
  all_goals have k2 : z1_wd (57896044618658097711785492504343953926634992332820282019728792003956564819968#256) 2 = 0 := rfl
  all_goals have k3 : z1_wd (57896044618658097711785492504343953926634992332820282019728792003956564819968#256) 3 = 9223372036854775808 := rfl
  all_goals refine ⟨show _ = Ending.returned (.agg #[.int .i64 7, .int .i64 0, .int .i64 y, .int .i64 n, .int .i64 mn, .int .i64 mx, .int .u64 (z1_wd (57896044618658097711785492504343953926634992332820282019728792003956564819968#256) 0), .int .u64 (z1_wd (57896044618658097711785492504343953926634992332820282019728792003956564819968#256) 1), .int .u64 (z1_wd (57896044618658097711785492504343953926634992332820282019728792003956564819968#256) 2), .int .u64 (z1_wd (57896044618658097711785492504343953926634992332820282019728792003956564819968#256) 3)]) from by rw [k0, k1, k2, k3], ?_⟩
  all_goals repeat' (first | exact Below.refl _ _ | refine Below.drew ?_ | refine Below.alloc ?_ (by simp <;> omega) _)
set_option maxRecDepth 100000 in
set_option maxHeartbeats 4000000 in
theorem idle_8o (x y n mn mx : Int) (s : z1_S) (which : Int) (w : World) (hz : ¬ which.tmod 2 = 0) : Calls Tryz.prog 13 #[.agg #[.int .i64 8, .int .i64 x, .int .i64 y, .int .i64 n, .int .i64 mn, .int .i64 mx, .int .u64 (z1_wd s 0), .int .u64 (z1_wd s 1), .int .u64 (z1_wd s 2), .int .u64 (z1_wd s 3)], .int .i64 which] w (IdP ⟨8, 1, y, n, mn, mx, s⟩ w) := by
  have e3 : IntKind.i64.wrap (which.tmod 2) = which.tmod 2 := by have h2 := tm2 which; rw [IntKind.wrap_i64]; omega
  go_enter Tryz.func13, Tryz.ntmps13
  go_wp2
  all_goals refine bodyPost_ret (v := .agg #[.int .i64 8, .int .i64 1, .int .i64 y, .int .i64 n, .int .i64 mn, .int .i64 mx, .int .u64 (z1_wd s 0), .int .u64 (z1_wd s 1), .int .u64 (z1_wd s 2), .int .u64 (z1_wd s 3)]) (by simp [results, Tryz.results13, go_sem]) rfl ?_
  all_goals refine ⟨rfl, ?_⟩
  all_goals repeat' (first | exact Below.refl _ _ | refine Below.drew ?_ | refine Below.alloc ?_ (by simp <;> omega) _)
set_option maxRecDepth 100000 in
set_option maxHeartbeats 4000000 in
theorem idle_8e (x y n mn mx : Int) (s : z1_S) (which : Int) (w : World) (hz : which.tmod 2 = 0) : Calls Tryz.prog 13 #[.agg #[.int .i64 8, .int .i64 x, .int .i64 y, .int .i64 n, .int .i64 mn, .int .i64 mx, .int .u64 (z1_wd s 0), .int .u64 (z1_wd s 1), .int .u64 (z1_wd s 2), .int .u64 (z1_wd s 3)], .int .i64 which] w (IdP ⟨8, 0, y, n, mn, mx, 57896044618658097711785492504343953926634992332820282019728792003956564819968#256⟩ w) := by
  have e3 : IntKind.i64.wrap (which.tmod 2) = which.tmod 2 := by have h2 := tm2 which; rw [IntKind.wrap_i64]; omega
  go_enter Tryz.func13, Tryz.ntmps13
  go_wp2
  all_goals refine bodyPost_ret (v := .agg #[.int .i64 8, .int .i64 0, .int .i64 y, .int .i64 n, .int .i64 mn, .int .i64 mx, .int .u64 0, .int .u64 0, .int .u64 0, .int .u64 9223372036854775808]) (by simp [results, Tryz.results13, go_sem]) rfl ?_
  all_goals have k0 : z1_wd (57896044618658097711785492504343953926634992332820282019728792003956564819968#256) 0 = 0 := rfl
  all_goals have k1 : z1_wd (57896044618658097711785492504343953926634992332820282019728792003956564819968#256) 1 = 0 := rfl
  all_goals have k2 : z1_wd (57896044618658097711785492504343953926634992332820282019728792003956564819968#256) 2 = 0 := rfl
  all_goals have k3 : z1_wd (57896044618658097711785492504343953926634992332820282019728792003956564819968#256) 3 = 9223372036854775808 := rfl
  all_goals refine ⟨show _ = Ending.returned (.agg #[.int .i64 8, .int .i64 0, .int .i64 y, .int .i64 n, .int .i64 mn, .int .i64 mx, .int .u64 (z1_wd (57896044618658097711785492504343953926634992332820282019728792003956564819968#256) 0), .int .u64 (z1_wd (57896044618658097711785492504343953926634992332820282019728792003956564819968#256) 1), .int .u64 (z1_wd (57896044618658097711785492504343953926634992332820282019728792003956564819968#256) 2), .int .u64 (z1_wd (57896044618658097711785492504343953926634992332820282019728792003956564819968#256) 3)]) from by rw [k0, k1, k2, k3], ?_⟩
  all_goals repeat' (first | exact Below.refl _ _ | refine Below.drew ?_ | refine Below.alloc ?_ (by simp <;> omega) _)
set_option maxRecDepth 100000 in
set_option maxHeartbeats 4000000 in
theorem idle_9o (x y n mn mx : Int) (s : z1_S) (which : Int) (w : World) (hz : ¬ which.tmod 2 = 0) : Calls Tryz.prog 13 #[.agg #[.int .i64 9, .int .i64 x, .int .i64 y, .int .i64 n, .int .i64 mn, .int .i64 mx, .int .u64 (z1_wd s 0), .int .u64 (z1_wd s 1), .int .u64 (z1_wd s 2), .int .u64 (z1_wd s 3)], .int .i64 which] w (IdP ⟨9, 1, y, n, mn, mx, s⟩ w) := by
  have e3 : IntKind.i64.wrap (which.tmod 2) = which.tmod 2 := by have h2 := tm2 which; rw [IntKind.wrap_i64]; omega
  go_enter Tryz.func13, Tryz.ntmps13
  go_wp2
  all_goals refine bodyPost_ret (v := .agg #[.int .i64 9, .int .i64 1, .int .i64 y, .int .i64 n, .int .i64 mn, .int .i64 mx, .int .u64 (z1_wd s 0), .int .u64 (z1_wd s 1), .int .u64 (z1_wd s 2), .int .u64 (z1_wd s 3)]) (by simp [results, Tryz.results13, go_sem]) rfl ?_
  all_goals refine ⟨rfl, ?_⟩
  all_goals repeat' (first | exact Below.refl _ _ | refine Below.drew ?_ | refine Below.alloc ?_ (by simp <;> omega) _)
set_option maxRecDepth 100000 in
set_option maxHeartbeats 4000000 in
theorem idle_9e (x y n mn mx : Int) (s : z1_S) (which : Int) (w : World) (hz : which.tmod 2 = 0) : Calls Tryz.prog 13 #[.agg #[.int .i64 9, .int .i64 x, .int .i64 y, .int .i64 n, .int .i64 mn, .int .i64 mx, .int .u64 (z1_wd s 0), .int .u64 (z1_wd s 1), .int .u64 (z1_wd s 2), .int .u64 (z1_wd s 3)], .int .i64 which] w (IdP ⟨9, 0, y, n, mn, mx, 57896044618658097711785492504343953926634992332820282019728792003956564819968#256⟩ w) := by
  have e3 : IntKind.i64.wrap (which.tmod 2) = which.tmod 2 := by have h2 := tm2 which; rw [IntKind.wrap_i64]; omega
  go_enter Tryz.func13, Tryz.ntmps13
  go_wp2
  all_goals refine bodyPost_ret (v := .agg #[.int .i64 9, .int .i64 0, .int .i64 y, .int .i64 n, .int .i64 mn, .int .i64 mx, .int .u64 0, .int .u64 0, .int .u64 0, .int .u64 9223372036854775808]) (by simp [results, Tryz.results13, go_sem]) rfl ?_
  all_goals have k0 : z1_wd (57896044618658097711785492504343953926634992332820282019728792003956564819968#256) 0 = 0 := rfl
  all_goals have k1 : z1_wd (57896044618658097711785492504343953926634992332820282019728792003956564819968#256) 1 = 0 := rfl
  all_goals have k2 : z1_wd (57896044618658097711785492504343953926634992332820282019728792003956564819968#256) 2 = 0 := rfl
  all_goals have k3 : z1_wd (57896044618658097711785492504343953926634992332820282019728792003956564819968#256) 3 = 9223372036854775808 := rfl
  all_goals refine ⟨show _ = Ending.returned (.agg #[.int .i64 9, .int .i64 0, .int .i64 y, .int .i64 n, .int .i64 mn, .int .i64 mx, .int .u64 (z1_wd (57896044618658097711785492504343953926634992332820282019728792003956564819968#256) 0), .int .u64 (z1_wd (57896044618658097711785492504343953926634992332820282019728792003956564819968#256) 1), .int .u64 (z1_wd (57896044618658097711785492504343953926634992332820282019728792003956564819968#256) 2), .int .u64 (z1_wd (57896044618658097711785492504343953926634992332820282019728792003956564819968#256) 3)]) from by rw [k0, k1, k2, k3], ?_⟩
  all_goals repeat' (first | exact Below.refl _ _ | refine Below.drew ?_ | refine Below.alloc ?_ (by simp <;> omega) _)
set_option maxRecDepth 100000 in
set_option maxHeartbeats 4000000 in
theorem idle_10 (x y n mn mx : Int) (s : z1_S) (which : Int) (w : World) : Calls Tryz.prog 13 #[.agg #[.int .i64 10, .int .i64 x, .int .i64 y, .int .i64 n, .int .i64 mn, .int .i64 mx, .int .u64 (z1_wd s 0), .int .u64 (z1_wd s 1), .int .u64 (z1_wd s 2), .int .u64 (z1_wd s 3)], .int .i64 which] w (IdP ⟨10, x, y, n, mn, mx, 18446744073709551616#256⟩ w) := by
  go_enter Tryz.func13, Tryz.ntmps13
  go_wp2
  all_goals refine bodyPost_ret (v := .agg #[.int .i64 10, .int .i64 x, .int .i64 y, .int .i64 n, .int .i64 mn, .int .i64 mx, .int .u64 0, .int .u64 1, .int .u64 0, .int .u64 0]) (by simp [results, Tryz.results13, go_sem]) rfl ?_
  all_goals have k0 : z1_wd (18446744073709551616#256) 0 = 0 := rfl
  all_goals have k1 : z1_wd (18446744073709551616#256) 1 = 1 := rfl
  all_goals have k2 : z1_wd (18446744073709551616#256) 2 = 0 := rfl
  all_goals have k3 : z1_wd (18446744073709551616#256) 3 = 0 := rfl
  all_goals refine ⟨show _ = Ending.returned (.agg #[.int .i64 10, .int .i64 x, .int .i64 y, .int .i64 n, .int .i64 mn, .int .i64 mx, .int .u64 (z1_wd (18446744073709551616#256) 0), .int .u64 (z1_wd (18446744073709551616#256) 1), .int .u64 (z1_wd (18446744073709551616#256) 2), .int .u64 (z1_wd (18446744073709551616#256) 3)]) from by rw [k0, k1, k2, k3], ?_⟩
  all_goals repeat' (first | exact Below.refl _ _ | refine Below.drew ?_ | refine Below.alloc ?_ (by simp <;> omega) _)
set_option maxRecDepth 100000 in
set_option maxHeartbeats 4000000 in
theorem idle_11o (x y n mn mx : Int) (s : z1_S) (which : Int) (w : World) (hz : ¬ which.tmod 2 = 0) : Calls Tryz.prog 13 #[.agg #[.int .i64 11, .int .i64 x, .int .i64 y, .int .i64 n, .int .i64 mn, .int .i64 mx, .int .u64 (z1_wd s 0), .int .u64 (z1_wd s 1), .int .u64 (z1_wd s 2), .int .u64 (z1_wd s 3)], .int .i64 which] w (IdP ⟨11, x, y, n, mn, (-1), s⟩ w) := by
  have e3 : IntKind.i64.wrap (which.tmod 2) = which.tmod 2 := by have h2 := tm2 which; rw [IntKind.wrap_i64]; omega
  go_enter Tryz.func13, Tryz.ntmps13
  go_wp2
  all_goals refine bodyPost_ret (v := .agg #[.int .i64 11, .int .i64 x, .int .i64 y, .int .i64 n, .int .i64 mn, .int .i64 (-1), .int .u64 (z1_wd s 0), .int .u64 (z1_wd s 1), .int .u64 (z1_wd s 2), .int .u64 (z1_wd s 3)]) (by simp [results, Tryz.results13, go_sem]) rfl ?_
  all_goals refine ⟨rfl, ?_⟩
  all_goals repeat' (first | exact Below.refl _ _ | refine Below.drew ?_ | refine Below.alloc ?_ (by simp <;> omega) _)
set_option maxRecDepth 100000 in
set_option maxHeartbeats 4000000 in
theorem idle_11e (x y n mn mx : Int) (s : z1_S) (which : Int) (w : World) (hz : which.tmod 2 = 0) : Calls Tryz.prog 13 #[.agg #[.int .i64 11, .int .i64 x, .int .i64 y, .int .i64 n, .int .i64 mn, .int .i64 mx, .int .u64 (z1_wd s 0), .int .u64 (z1_wd s 1), .int .u64 (z1_wd s 2), .int .u64 (z1_wd s 3)], .int .i64 which] w (IdP ⟨11, x, y, n, mn, 0, 1#256⟩ w) := by
  have e3 : IntKind.i64.wrap (which.tmod 2) = which.tmod 2 := by have h2 := tm2 which; rw [IntKind.wrap_i64]; omega
  go_enter Tryz.func13, Tryz.ntmps13
  go_wp2
  all_goals refine bodyPost_ret (v := .agg #[.int .i64 11, .int .i64 x, .int .i64 y, .int .i64 n, .int .i64 mn, .int .i64 0, .int .u64 1, .int .u64 0, .int .u64 0, .int .u64 0]) (by simp [results, Tryz.results13, go_sem]) rfl ?_
  all_goals have k0 : z1_wd (1#256) 0 = 1 := rfl
  all_goals have k1 : z1_wd (1#256) 1 = 0 := rfl
  all_goals have k2 : z1_wd (1#256) 2 = 0 := rfl
  all_goals have k3 : z1_wd (1#256) 3 = 0 := rfl
  all_goals refine ⟨show _ = Ending.returned (.agg #[.int .i64 11, .int .i64 x, .int .i64 y, .int .i64 n, .int .i64 mn, .int .i64 0, .int .u64 (z1_wd (1#256) 0), .int .u64 (z1_wd (1#256) 1), .int .u64 (z1_wd (1#256) 2), .int .u64 (z1_wd (1#256) 3)]) from by rw [k0, k1, k2, k3], ?_⟩
  all_goals repeat' (first | exact Below.refl _ _ | refine Below.drew ?_ | refine Below.alloc ?_ (by simp <;> omega) _)
end Go.Proofs.YtbfhahhcacnckaaGreatDoor
