/-
  What math/bits.OnesCount64 answers, of any word.
-/
import Derived.Test.YtcaijlmffdfhgabDoorExt
import Derived.Test.YtcaijlmffdfhgabDoorPop
import Derived.Laws.Bits64b
namespace Go.Proofs.YtcaijlmffdfhgabDoor
open Go Go.RowKit

set_option maxHeartbeats 1000000 in
theorem ones_core (x y1 y2 y3 y4 y5 y6 r : Int) (w : World)
    (e1 : IntKind.u64.wrap (bits .and .u64 (x / 2) 6148914691236517205 + bits .and .u64 x 6148914691236517205) = y1)
    (e2 : IntKind.u64.wrap (bits .and .u64 (y1 / 4) 3689348814741910323 + bits .and .u64 y1 3689348814741910323) = y2)
    (e3 : bits .and .u64 (IntKind.u64.wrap (y2 / 16 + y2)) 1085102592571150095 = y3)
    (e4 : IntKind.u64.wrap (y3 + y3 / 256) = y4)
    (e5 : IntKind.u64.wrap (y4 + y4 / 65536) = y5)
    (e6 : IntKind.u64.wrap (y5 + y5 / 4294967296) = y6)
    (e7 : bits .and .i64 (wrap64 y6) 127 = r) :
    Calls Tryd.prog 21 #[.int .u64 x] w fun e w' => e = .returned (.int .i64 r) ∧ w' = w := by
  go_enter Tryd.func21, Tryd.ntmps21
  go_wp2
  go_ret
  exact ⟨rfl, rfl⟩

theorem one_e1 (x : Nat) (hx : x < 18446744073709551616) : IntKind.u64.wrap (bits .and .u64 ((x : Int) / 2) 6148914691236517205 + bits .and .u64 (x : Int) 6148914691236517205) = (x1 x : Nat) := by
  have h1 := bits_and_u64_nat (x / 2) 6148914691236517205 (by omega) (by decide)
  have h2 := bits_and_u64_nat x 6148914691236517205 hx (by decide)
  have h3 := x1_lt x hx
  have h4 : (x / 2 &&& 6148914691236517205) + (x &&& 6148914691236517205) = x1 x := rfl
  have h5 : ((x / 2 : Nat) : Int) = (x : Int) / 2 := by omega
  rw [h5] at h1
  rw [IntKind.wrap_u64]
  generalize x1 x = X at *
  generalize (x / 2 &&& 6148914691236517205) = a at *
  generalize (x &&& 6148914691236517205) = b at *
  rw [show bits .and .u64 ((x : Int) / 2) 6148914691236517205 = (a : Int) from h1, show bits .and .u64 (x : Int) 6148914691236517205 = (b : Int) from h2]
  omega
theorem one_e2 (x : Nat) (hx : x < 18446744073709551616) (hy : x2 x < 18446744073709551616) : IntKind.u64.wrap (bits .and .u64 ((x : Int) / 4) 3689348814741910323 + bits .and .u64 (x : Int) 3689348814741910323) = (x2 x : Nat) := by
  have h1 := bits_and_u64_nat (x / 4) 3689348814741910323 (by omega) (by decide)
  have h2 := bits_and_u64_nat x 3689348814741910323 hx (by decide)
  have h4 : (x / 4 &&& 3689348814741910323) + (x &&& 3689348814741910323) = x2 x := rfl
  have h5 : ((x / 4 : Nat) : Int) = (x : Int) / 4 := by omega
  rw [h5] at h1
  rw [IntKind.wrap_u64]
  generalize x2 x = X at *
  generalize (x / 4 &&& 3689348814741910323) = a at *
  generalize (x &&& 3689348814741910323) = b at *
  rw [show bits .and .u64 ((x : Int) / 4) 3689348814741910323 = (a : Int) from h1, show bits .and .u64 (x : Int) 3689348814741910323 = (b : Int) from h2]
  omega
theorem one_e3 (x : Nat) (hx : x / 16 + x < 18446744073709551616) : bits .and .u64 (IntKind.u64.wrap ((x : Int) / 16 + (x : Int))) 1085102592571150095 = (x3 x : Nat) := by
  have h1 := bits_and_u64_nat (x / 16 + x) 1085102592571150095 hx (by decide)
  have h5 : IntKind.u64.wrap ((x : Int) / 16 + (x : Int)) = ((x / 16 + x : Nat) : Int) := by rw [IntKind.wrap_u64]; omega
  rw [h5]
  exact h1
theorem one_e7 (y p : Nat) (hy : y < 18446744073709551616) (hp : y % 128 = p) : bits .and .i64 (wrap64 (y : Int)) 127 = (p : Int) := by
  show IntKind.i64.wrap ((BitVec.ofInt 64 (wrap64 y) &&& BitVec.ofInt 64 127).toNat : Int) = _
  have e : BitVec.ofInt 64 (wrap64 (y : Int)) = BitVec.ofNat 64 y := by
    apply BitVec.eq_of_toNat_eq
    rw [BitVec.toNat_ofInt, BitVec.toNat_ofNat]
    have : wrap64 (y : Int) % 18446744073709551616 = y := by unfold wrap64; omega
    omega
  rw [e]
  have t : (BitVec.ofNat 64 y &&& BitVec.ofInt 64 127).toNat = y % 128 := by
    rw [BitVec.toNat_and, BitVec.toNat_ofNat, show (BitVec.ofInt 64 127).toNat = 2 ^ 7 - 1 from rfl, Nat.and_two_pow_sub_one_eq_mod]
    omega
  rw [t, hp, IntKind.wrap_i64]
  omega

theorem ones_nat (x : Nat) (w : World) (hx : x < 18446744073709551616) :
    Calls Tryd.prog 21 #[.int .u64 x] w fun e w' => e = .returned (.int .i64 (pcN 64 x : Nat)) ∧ w' = w := by
  have k1 := x1_lt x hx
  have k2 := x2_lt x hx
  have q3 := x3_val x hx
  have f1 := one_e1 x hx
  have f2 := one_e2 (x1 x) k1 (by omega)
  have f3 := one_e3 (x2 (x1 x)) (by omega)
  obtain ⟨y4, h4⟩ : ∃ y4, y4 = x3 (x2 (x1 x)) + x3 (x2 (x1 x)) / 256 := ⟨_, rfl⟩
  obtain ⟨y5, h5⟩ : ∃ y5, y5 = y4 + y4 / 65536 := ⟨_, rfl⟩
  obtain ⟨y6, h6⟩ : ∃ y6, y6 = y5 + y5 / 4294967296 := ⟨_, rfl⟩
  obtain ⟨l4, l5, l6, l7⟩ := last8 x y4 y5 y6 (by rw [← q3]; exact h4) h5 h6
  have f7 := one_e7 y6 _ l6 l7
  generalize x3 (x2 (x1 x)) = a3 at *
  generalize x2 (x1 x) = a2 at *
  generalize x1 x = a1 at *
  exact ones_core (x : Int) (a1 : Nat) (a2 : Nat) (a3 : Nat) (y4 : Nat) (y5 : Nat) (y6 : Nat) (pcN 64 x : Nat) w f1 f2 f3 (by rw [IntKind.wrap_u64]; omega) (by rw [IntKind.wrap_u64]; omega) (by rw [IntKind.wrap_u64]; omega) f7
end Go.Proofs.YtcaijlmffdfhgabDoor
