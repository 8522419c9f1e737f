/-
  Parts of the proof.
-/
import Derived.Test.YtaikcnoiaaiopaaDoorPlaysProofB4
set_option linter.unusedSimpArgs false
namespace Go.Proofs.YtaikcnoiaaiopaaDoor
open Go.RowKit
attribute [local go_sem] z1_idx0 z1_idx1 z1_idx2 z1_idx3 z1_u64_signed
theorem z1_wrap_only (b : Int) (i : Nat) (h0 : 64 * i ≤ b) (h1 : b < 64 * i + 64) (h2 : i < 4) : IntKind.u64.wrap (2 ^ (b % 64).toNat) = z1_wd (z1_sonly b) i := by
  have e := z1_only_one b i h0 h1 h2
  have r := z1_wd_range (z1_sonly b) i
  rw [e, IntKind.wrap_u64]; omega
theorem z1_wrap_full (m : Int) (i : Nat) (hi : i < 4) (h0 : 64 * i + 64 ≤ m) : IntKind.u64.wrap (IntKind.u64.wrap 18446744073709551616 - 1) = z1_wd (z1_sbelow m) i := by
  rw [← z1_below_full m i hi h0]; decide
theorem z1_wrap_part (m : Int) (i : Nat) (k : Int) (hi : i < 4) (h0 : m = 64 * i + k) (h1 : 0 ≤ k) (h2 : k ≤ 64) : IntKind.u64.wrap (IntKind.u64.wrap (2 ^ k.toNat) - 1) = z1_wd (z1_sbelow m) i := by
  obtain ⟨j, rfl⟩ := Int.eq_ofNat_of_zero_le h1
  have e := z1_below_part m i j hi (by omega) (by omega)
  have r := z1_wd_range (z1_sbelow m) i
  rw [IntKind.wrap_u64, IntKind.wrap_u64, Int.toNat_natCast]; omega
set_option maxHeartbeats 1000000 in
theorem z1_only_any (b : Int) (w : World) :
    Calls Tryd.prog 55 #[.int .i64 b] w fun e w' => e = .returned (.agg #[.int .u64 (z1_wd (z1_sonly b) 0), .int .u64 (z1_wd (z1_sonly b) 1), .int .u64 (z1_wd (z1_sonly b) 2), .int .u64 (z1_wd (z1_sonly b) 3)]) ∧ Below w.heap.size w w' := by
  have hB : ∀ c : Array Value, ∀ d : Array Value, Below w.heap.size w ((w.alloc (.cells c 63)).alloc (.cells d 63)) := fun c d => ((Below.refl _ _).alloc (Nat.le_refl _) _).alloc (by simp) _
  have HB : Hid (∀ c : Array Value, ∀ d : Array Value, Below w.heap.size w ((w.alloc (.cells c 63)).alloc (.cells d 63))) := hB
  clear hB
  by_cases h1 : b < 0
  · go_enter Tryd.func55, Tryd.ntmps55
    go_wp2
    simp [bodyPost, results, Tryd.results55, go_sem]
    exact ⟨⟨z1_only_zero b 0 (by omega), z1_only_zero b 1 (by omega), z1_only_zero b 2 (by omega), z1_only_zero b 3 (by omega)⟩, HB.out _ _⟩
  by_cases h2 : 255 < b
  · go_enter Tryd.func55, Tryd.ntmps55
    go_wp2
    simp [bodyPost, results, Tryd.results55, go_sem]
    exact ⟨⟨z1_only_zero b 0 (by omega), z1_only_zero b 1 (by omega), z1_only_zero b 2 (by omega), z1_only_zero b 3 (by omega)⟩, HB.out _ _⟩
  have hq : b / 64 = 0 ∨ b / 64 = 1 ∨ b / 64 = 2 ∨ b / 64 = 3 := by omega
  rcases hq with hq | hq | hq | hq
  · go_enter Tryd.func55, Tryd.ntmps55
    go_wp2
    simp [bodyPost, results, Tryd.results55, go_sem]
    exact ⟨⟨z1_wrap_only b 0 (by omega) (by omega) (by decide), z1_only_zero b 1 (by omega), z1_only_zero b 2 (by omega), z1_only_zero b 3 (by omega)⟩, HB.out _ _⟩
  · go_enter Tryd.func55, Tryd.ntmps55
    go_wp2
    simp [bodyPost, results, Tryd.results55, go_sem]
    exact ⟨⟨z1_only_zero b 0 (by omega), z1_wrap_only b 1 (by omega) (by omega) (by decide), z1_only_zero b 2 (by omega), z1_only_zero b 3 (by omega)⟩, HB.out _ _⟩
  · go_enter Tryd.func55, Tryd.ntmps55
    go_wp2
    simp [bodyPost, results, Tryd.results55, go_sem]
    exact ⟨⟨z1_only_zero b 0 (by omega), z1_only_zero b 1 (by omega), z1_wrap_only b 2 (by omega) (by omega) (by decide), z1_only_zero b 3 (by omega)⟩, HB.out _ _⟩
  · go_enter Tryd.func55, Tryd.ntmps55
    go_wp2
    simp [bodyPost, results, Tryd.results55, go_sem]
    exact ⟨⟨z1_only_zero b 0 (by omega), z1_only_zero b 1 (by omega), z1_only_zero b 2 (by omega), z1_wrap_only b 3 (by omega) (by omega) (by decide)⟩, HB.out _ _⟩
set_option maxHeartbeats 2000000 in
theorem z1_below_any (n : Int) (w : World) :
    Calls Tryd.prog 51 #[.int .i64 n] w fun e w' => e = .returned (.agg #[.int .u64 (z1_wd (z1_sbelow n) 0), .int .u64 (z1_wd (z1_sbelow n) 1), .int .u64 (z1_wd (z1_sbelow n) 2), .int .u64 (z1_wd (z1_sbelow n) 3)]) ∧ Below w.heap.size w w' := by
  have HB : Hid (∀ c : Array Value, ∀ d : Array Value, Below w.heap.size w ((w.alloc (.cells c 63)).alloc (.cells d 63))) := fun c d => ((Below.refl _ _).alloc (Nat.le_refl _) _).alloc (by simp) _
  have hq : n ≤ 0 ∨ (0 < n ∧ n < 64) ∨ n = 64 ∨ (64 < n ∧ n < 128) ∨ n = 128 ∨ (128 < n ∧ n < 192) ∨ n = 192 ∨ (192 < n ∧ n < 256) ∨ 256 ≤ n := by omega
  rcases hq with hq | hq | hq | hq | hq | hq | hq | hq | hq
  all_goals
    (first | obtain ⟨hq1, hq2⟩ := hq | subst hq | skip)
    go_enter Tryd.func51, Tryd.ntmps51
    go_wp2
  all_goals
    refine z1_wp_loop_unr 5 ?_
    refine z1_unr_succ ?_
    go_wp2
  all_goals
    refine z1_unr_succ ?_
    go_wp2
  all_goals
    refine z1_unr_succ ?_
    go_wp2
  all_goals
    refine z1_unr_succ ?_
    go_wp2
  all_goals
    refine z1_unr_succ ?_
    go_wp2
  all_goals
    simp [bodyPost, results, Tryd.results51, go_sem]
    refine ⟨⟨?_, ?_, ?_, ?_⟩, HB.out _ _⟩
    · first | exact z1_wrap_full _ 0 (by decide) (by omega) | exact z1_below_zero _ 0 (by omega) | exact z1_wrap_part _ 0 _ (by decide) (by omega) (by omega) (by omega)
    · first | exact z1_wrap_full _ 1 (by decide) (by omega) | exact z1_below_zero _ 1 (by omega) | exact z1_wrap_part _ 1 _ (by decide) (by omega) (by omega) (by omega)
    · first | exact z1_wrap_full _ 2 (by decide) (by omega) | exact z1_below_zero _ 2 (by omega) | exact z1_wrap_part _ 2 _ (by decide) (by omega) (by omega) (by omega)
    · first | exact z1_wrap_full _ 3 (by decide) (by omega) | exact z1_below_zero _ 3 (by omega) | exact z1_wrap_part _ 3 _ (by decide) (by omega) (by omega) (by omega)
end Go.Proofs.YtaikcnoiaaiopaaDoor
