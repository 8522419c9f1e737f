/-
  Parts of the proof.
-/
import Derived.Test.YtaikcnoiaaiopaaDoorPlaysProofB6
import Derived.Lib.TrailingZeros
import Derived.Laws.Bits64b
set_option linter.unusedSimpArgs false
namespace Go.Proofs.YtaikcnoiaaiopaaDoor
open Go Go.RowKit
def z1_Tab (w : World) : Prop := 0 < w.heap.size ∧ ∀ j, j < 64 → w.cell? ⟨0, j, none⟩ = some (.int .u8 (Lib.deBruijn64tab.getD j 0))
theorem z1_Tab.below {w w' : World} (h : z1_Tab w) (hb : Below w.heap.size w w') : z1_Tab w' :=
  ⟨Nat.lt_of_lt_of_le h.1 hb.size, fun j hj => (hb.cell (p := ⟨0, j, none⟩) h.1).trans (h.2 j hj)⟩
theorem z1_Tab.ext {W : World} (h : z1_Tab W) (x : z1_Ext W) : z1_Tab x.val := h.below x.2
set_option maxHeartbeats 1000000 in
theorem z1_tz_core (x k idx : Nat) (w : World) (hx0 : ((x : Int) == 0) = false)
    (key : IntKind.u64.wrap (bits BinOp.and IntKind.u64 (x : Int) (IntKind.u64.wrap (-(x : Int))) * 285870213051353865) / 288230376151711744 = (idx : Int))
    (hi : idx < 64) (hk : k < 64) (hcell : w.cell? ⟨0, idx, none⟩ = some (.int .u8 k)) :
    Calls Tryd.prog 52 #[.int .u64 x] w fun e w' => e = .returned (.int .i64 k) ∧ w' = w := by
  go_enter Tryd.func52, Tryd.ntmps52
  go_wp2_with (simp only [key])
  go_ret
  exact ⟨rfl, rfl⟩
theorem z1_tz_key (x a : Nat) (hx : x < 18446744073709551616) (hx0 : x ≠ 0) (hlow : x &&& (18446744073709551616 - x) = a) :
    IntKind.u64.wrap (bits BinOp.and IntKind.u64 (x : Int) (IntKind.u64.wrap (-(x : Int))) * 285870213051353865) / 288230376151711744 = ((a * 285870213051353865 % 18446744073709551616 / 288230376151711744 : Nat) : Int) := by
  have e1 : IntKind.u64.wrap (-(x : Int)) = ((18446744073709551616 - x : Nat) : Int) := by rw [IntKind.wrap_u64]; omega
  rw [e1, bits_and_u64_nat x _ hx (by omega), hlow, IntKind.wrap_u64]
  omega
def z1_tzI (v : Int) : Int := (Lib.ctz 64 v.toNat : Int)
theorem z1_tz_any (v : Int) (w : World) (h0 : (v != 0) = true) (h1 : 0 ≤ v) (h2 : v < 18446744073709551616) (hT : z1_Tab w) :
    Calls Tryd.prog 52 #[.int .u64 v] w fun e w' => e = .returned (.int .i64 (z1_tzI v)) ∧ w' = w := by
  obtain ⟨x, rfl⟩ := Int.eq_ofNat_of_zero_le h1
  have hx0 : x ≠ 0 := by rintro rfl; simp at h0
  have hx : x < 2 ^ 64 := by omega
  obtain ⟨hlow, hk⟩ := Lib.lowest_bit 64 x hx0 hx
  obtain ⟨hi, htab⟩ := Lib.deBruijn64_at _ hk
  have hcell := hT.2 _ hi
  rw [htab] at hcell
  exact z1_tz_core x _ _ w (by simpa using hx0) (z1_tz_key x _ (by omega) hx0 hlow) hi hk hcell
theorem z1_tzI_range (v : Int) (h0 : v ≠ 0) (h1 : 0 ≤ v) (h2 : v < 18446744073709551616) : 0 ≤ z1_tzI v ∧ z1_tzI v < 64 := by
  obtain ⟨x, rfl⟩ := Int.eq_ofNat_of_zero_le h1
  have hx0 : x ≠ 0 := by rintro rfl; simp at h0
  obtain ⟨_, hk⟩ := Lib.lowest_bit 64 x hx0 (by omega)
  unfold z1_tzI; simp; omega
theorem z1_tz_bits (x : BitVec 64) (h : x.toNat ≠ 0) : x.getLsbD (Lib.ctz 64 x.toNat) = true ∧ ∀ j, j < Lib.ctz 64 x.toNat → x.getLsbD j = false := by
  have hlt := x.isLt
  obtain ⟨m, hm, hk⟩ := Lib.ctzFrom_spec 64 x.toNat (by omega) hlt
  have e : Lib.ctz 64 x.toNat = Lib.ctzFrom 64 x.toNat := by unfold Lib.ctz; rw [if_neg h]
  rw [e]
  generalize hz : Lib.ctzFrom 64 x.toNat = k at *
  have tb : ∀ j, x.getLsbD j = (2 ^ k * (2 * m + 1)).testBit j := fun j => by rw [← hm]; rfl
  refine ⟨?_, fun j hj => ?_⟩
  · rw [tb, Nat.testBit_two_pow_mul]; simp
  · rw [tb, Nat.testBit_two_pow_mul]; simp; omega
end Go.Proofs.YtaikcnoiaaiopaaDoor
