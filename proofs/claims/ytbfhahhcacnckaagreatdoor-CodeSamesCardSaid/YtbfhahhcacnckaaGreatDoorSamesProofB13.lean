/-
  Parts of the proof.
-/
import Derived.Test.YtbfhahhcacnckaaGreatDoorSamesProofB5
set_option linter.unusedSimpArgs false
namespace Go.Proofs.YtbfhahhcacnckaaGreatDoor
open Go.RowKit
attribute [local go_sem] z1_idx0 z1_idx1 z1_idx2 z1_idx3 z1_bits_or z1_bits_and z1_bits_andNot0 z1_bits_andNot1 z1_bits_andNot2 z1_bits_andNot3 z1_bits_not0 z1_bits_not1 z1_bits_not2 z1_bits_not3 z1_u64_signed
set_option maxHeartbeats 400000 in
theorem z1_or_any (a b : z1_S) (w : World) :
    Calls Tryz.prog 91 #[.agg #[.int .u64 (z1_wd (a) 0), .int .u64 (z1_wd (a) 1), .int .u64 (z1_wd (a) 2), .int .u64 (z1_wd (a) 3)], .agg #[.int .u64 (z1_wd (b) 0), .int .u64 (z1_wd (b) 1), .int .u64 (z1_wd (b) 2), .int .u64 (z1_wd (b) 3)]] w fun e w' => e = .returned (.agg #[.int .u64 (z1_wd (z1_sor a b) 0), .int .u64 (z1_wd (z1_sor a b) 1), .int .u64 (z1_wd (z1_sor a b) 2), .int .u64 (z1_wd (z1_sor a b) 3)]) ∧ Below w.heap.size w w' := by
  go_enter Tryz.func91, Tryz.ntmps91
  go_wp2
  refine z1_wp_loop_unr 5 ?_
  refine z1_unr_succ ?_
  go_wp2
  refine z1_unr_succ ?_
  go_wp2
  refine z1_unr_succ ?_
  go_wp2
  refine z1_unr_succ ?_
  go_wp2
  refine z1_unr_succ ?_
  go_wp2
  exact bodyPost_ret (v := .agg #[.int .u64 (z1_wd (z1_sor a b) 0), .int .u64 (z1_wd (z1_sor a b) 1), .int .u64 (z1_wd (z1_sor a b) 2), .int .u64 (z1_wd (z1_sor a b) 3)]) (by simp [results, Tryz.results91, go_sem]) rfl ⟨rfl, (((Below.refl _ _).alloc (Nat.le_refl _) _).alloc (by simp) _).alloc (by simp; omega) _⟩
set_option maxHeartbeats 400000 in
theorem z1_less_any (a b : z1_S) (w : World) :
    Calls Tryz.prog 114 #[.agg #[.int .u64 (z1_wd (a) 0), .int .u64 (z1_wd (a) 1), .int .u64 (z1_wd (a) 2), .int .u64 (z1_wd (a) 3)], .agg #[.int .u64 (z1_wd (b) 0), .int .u64 (z1_wd (b) 1), .int .u64 (z1_wd (b) 2), .int .u64 (z1_wd (b) 3)]] w fun e w' => e = .returned (.agg #[.int .u64 (z1_wd (z1_sless a b) 0), .int .u64 (z1_wd (z1_sless a b) 1), .int .u64 (z1_wd (z1_sless a b) 2), .int .u64 (z1_wd (z1_sless a b) 3)]) ∧ Below w.heap.size w w' := by
  go_enter Tryz.func114, Tryz.ntmps114
  go_wp2
  refine z1_wp_loop_unr 5 ?_
  refine z1_unr_succ ?_
  go_wp2
  refine z1_unr_succ ?_
  go_wp2
  refine z1_unr_succ ?_
  go_wp2
  refine z1_unr_succ ?_
  go_wp2
  refine z1_unr_succ ?_
  go_wp2
  exact bodyPost_ret (v := .agg #[.int .u64 (z1_wd (z1_sless a b) 0), .int .u64 (z1_wd (z1_sless a b) 1), .int .u64 (z1_wd (z1_sless a b) 2), .int .u64 (z1_wd (z1_sless a b) 3)]) (by simp [results, Tryz.results114, go_sem]) rfl ⟨rfl, (((Below.refl _ _).alloc (Nat.le_refl _) _).alloc (by simp) _).alloc (by simp; omega) _⟩
end Go.Proofs.YtbfhahhcacnckaaGreatDoor
