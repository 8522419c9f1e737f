/-
  What sets.Or, And, Less and Not answer, of any sets: the world behind has new blocks alone.
-/
import Derived.Test.YtcaijlmffdfhgabDoorBase
namespace Go.Proofs.YtcaijlmffdfhgabDoor
open Go.RowKit
attribute [local go_sem] idx0 idx1 idx2 idx3 bits_or bits_and bits_andNot0 bits_andNot1 bits_andNot2 bits_andNot3 bits_not0 bits_not1 bits_not2 bits_not3 u64_signed

set_option maxHeartbeats 400000 in
theorem or_any (a b : S) (w : World) :
    Calls Tryd.prog 24 #[.agg #[.int .u64 (wd (a) 0), .int .u64 (wd (a) 1), .int .u64 (wd (a) 2), .int .u64 (wd (a) 3)], .agg #[.int .u64 (wd (b) 0), .int .u64 (wd (b) 1), .int .u64 (wd (b) 2), .int .u64 (wd (b) 3)]] w fun e w' => e = .returned (.agg #[.int .u64 (wd (sor a b) 0), .int .u64 (wd (sor a b) 1), .int .u64 (wd (sor a b) 2), .int .u64 (wd (sor a b) 3)]) ∧ Below w.heap.size w w' := by
  go_enter Tryd.func24, Tryd.ntmps24
  go_wp2
  refine wp_loop_unr 5 ?_
  refine unr_succ ?_
  go_wp2
  refine unr_succ ?_
  go_wp2
  refine unr_succ ?_
  go_wp2
  refine unr_succ ?_
  go_wp2
  refine unr_succ ?_
  go_wp2
  exact bodyPost_ret (v := .agg #[.int .u64 (wd (sor a b) 0), .int .u64 (wd (sor a b) 1), .int .u64 (wd (sor a b) 2), .int .u64 (wd (sor a b) 3)]) (by simp [results, Tryd.results24, go_sem]) rfl ⟨rfl, (((Below.refl _ _).alloc (Nat.le_refl _) _).alloc (by simp) _).alloc (by simp; omega) _⟩

set_option maxHeartbeats 400000 in
theorem and_any (a b : S) (w : World) :
    Calls Tryd.prog 22 #[.agg #[.int .u64 (wd (a) 0), .int .u64 (wd (a) 1), .int .u64 (wd (a) 2), .int .u64 (wd (a) 3)], .agg #[.int .u64 (wd (b) 0), .int .u64 (wd (b) 1), .int .u64 (wd (b) 2), .int .u64 (wd (b) 3)]] w fun e w' => e = .returned (.agg #[.int .u64 (wd (sand a b) 0), .int .u64 (wd (sand a b) 1), .int .u64 (wd (sand a b) 2), .int .u64 (wd (sand a b) 3)]) ∧ Below w.heap.size w w' := by
  go_enter Tryd.func22, Tryd.ntmps22
  go_wp2
  refine wp_loop_unr 5 ?_
  refine unr_succ ?_
  go_wp2
  refine unr_succ ?_
  go_wp2
  refine unr_succ ?_
  go_wp2
  refine unr_succ ?_
  go_wp2
  refine unr_succ ?_
  go_wp2
  exact bodyPost_ret (v := .agg #[.int .u64 (wd (sand a b) 0), .int .u64 (wd (sand a b) 1), .int .u64 (wd (sand a b) 2), .int .u64 (wd (sand a b) 3)]) (by simp [results, Tryd.results22, go_sem]) rfl ⟨rfl, (((Below.refl _ _).alloc (Nat.le_refl _) _).alloc (by simp) _).alloc (by simp; omega) _⟩

set_option maxHeartbeats 400000 in
theorem less_any (a b : S) (w : World) :
    Calls Tryd.prog 18 #[.agg #[.int .u64 (wd (a) 0), .int .u64 (wd (a) 1), .int .u64 (wd (a) 2), .int .u64 (wd (a) 3)], .agg #[.int .u64 (wd (b) 0), .int .u64 (wd (b) 1), .int .u64 (wd (b) 2), .int .u64 (wd (b) 3)]] w fun e w' => e = .returned (.agg #[.int .u64 (wd (sless a b) 0), .int .u64 (wd (sless a b) 1), .int .u64 (wd (sless a b) 2), .int .u64 (wd (sless a b) 3)]) ∧ Below w.heap.size w w' := by
  go_enter Tryd.func18, Tryd.ntmps18
  go_wp2
  refine wp_loop_unr 5 ?_
  refine unr_succ ?_
  go_wp2
  refine unr_succ ?_
  go_wp2
  refine unr_succ ?_
  go_wp2
  refine unr_succ ?_
  go_wp2
  refine unr_succ ?_
  go_wp2
  exact bodyPost_ret (v := .agg #[.int .u64 (wd (sless a b) 0), .int .u64 (wd (sless a b) 1), .int .u64 (wd (sless a b) 2), .int .u64 (wd (sless a b) 3)]) (by simp [results, Tryd.results18, go_sem]) rfl ⟨rfl, (((Below.refl _ _).alloc (Nat.le_refl _) _).alloc (by simp) _).alloc (by simp; omega) _⟩

end Go.Proofs.YtcaijlmffdfhgabDoor
