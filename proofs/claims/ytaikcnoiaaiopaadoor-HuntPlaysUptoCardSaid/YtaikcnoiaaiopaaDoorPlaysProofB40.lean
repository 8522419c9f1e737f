/-
  Parts of the proof.
-/
import Derived.Test.YtaikcnoiaaiopaaDoorPlaysProofB13
set_option linter.unusedSimpArgs false
namespace Go.Proofs.YtaikcnoiaaiopaaDoor
open Go Go.RowKit
def pk (c : Int) (n : Int) : Int := (if c < 0 then -(c + 1) else c).tmod n
theorem pk_range {c : Int} {n : Nat} (hn : 0 < n) : 0 ≤ pk c n ∧ pk c n < n := by
  unfold pk
  have h0 : 0 ≤ (if c < 0 then -(c + 1) else c) := by split <;> omega
  rw [Int.tmod_eq_emod_of_nonneg h0]
  exact ⟨Int.emod_nonneg _ (by omega), Int.emod_lt_of_pos _ (by omega)⟩
theorem wf_range {x : Int} (h : (Lit.int .i64 x).wf = true) : -9223372036854775808 ≤ x ∧ x ≤ 9223372036854775807 := by
  simp [Lit.wf, IntKind.min, IntKind.max, IntKind.signed, IntKind.bits] at h
  omega
set_option maxHeartbeats 1000000 in
theorem pick_c (c : Int) (n : Nat) (hn : 0 < n) (hs : n ≤ 1000000000000000000) (hc : (Lit.int .i64 c).wf = true) (w : World) :
    Calls Tryd.prog 18 #[.int .i64 c, .int .i64 n] w fun e w' => (∃ m : Nat, e = .returned (.int .i64 (m : Int)) ∧ m < n) ∧ w' = w := by
  have hr := wf_range hc
  have hq := pk_range (c := c) hn
  have hz : ¬ ((n : Int) = 0) := by omega
  by_cases h0 : c < 0
  · have e1 : IntKind.i64.wrap (c + 1) = c + 1 := by rw [IntKind.wrap_i64]; omega
    have e2 : IntKind.i64.wrap (-(c + 1)) = -(c + 1) := by rw [IntKind.wrap_i64]; omega
    have e4 : pk c n = (-(c + 1)).tmod n := by unfold pk; rw [if_pos h0]
    have e3 : IntKind.i64.wrap ((-(c + 1)).tmod n) = (-(c + 1)).tmod n := by rw [← e4, IntKind.wrap_i64]; omega
    have HE : Hid _ := e4
    have HQ : Hid _ := hq
    clear e4 hq
    go_enter Tryd.func18, Tryd.ntmps18
    go_wp2
    go_ret
    refine ⟨⟨(pk c n).toNat, ?_, ?_⟩, rfl⟩
    · have := HQ.out
      rw [Int.toNat_of_nonneg this.1, HE.out, Int.neg_tmod]; rfl
    · have := HQ.out; omega
  · have e4 : pk c n = c.tmod n := by unfold pk; rw [if_neg h0]
    have e3 : IntKind.i64.wrap (c.tmod n) = c.tmod n := by rw [← e4, IntKind.wrap_i64]; omega
    have HE : Hid _ := e4
    have HQ : Hid _ := hq
    clear e4 hq
    go_enter Tryd.func18, Tryd.ntmps18
    go_wp2
    go_ret
    refine ⟨⟨(pk c n).toNat, ?_, ?_⟩, rfl⟩
    · have := HQ.out
      rw [Int.toNat_of_nonneg this.1, HE.out, Int.tmod_eq_emod_of_nonneg h0]; rfl
    · have := HQ.out; omega
end Go.Proofs.YtaikcnoiaaiopaaDoor
