/-
  The small laws that the walks over package sets lean on.
-/
import Derived.Test.YtcaijlmffdfhgabDoorRows
import Derived.Test.YtcaijlmffdfhgabDoorLoops
import Derived.Test.YtcaijlmffdfhgabDoorMath
import Derived.WalkKit
import Derived.WalkSpells
import Derived.WalkLawsBesides
namespace Go.Proofs.YtcaijlmffdfhgabDoor
open Go.RowKit

theorem idx0 (x0 x1 x2 x3 : Value) (w : World) : (Instr.index 24 (.agg #[x0, x1, x2, x3]) (.int .i64 0)).run Tryd.prog w = .ok x0 w := by kernel_rfl
theorem idx1 (x0 x1 x2 x3 : Value) (w : World) : (Instr.index 24 (.agg #[x0, x1, x2, x3]) (.int .i64 1)).run Tryd.prog w = .ok x1 w := by kernel_rfl
theorem idx2 (x0 x1 x2 x3 : Value) (w : World) : (Instr.index 24 (.agg #[x0, x1, x2, x3]) (.int .i64 2)).run Tryd.prog w = .ok x2 w := by kernel_rfl
theorem idx3 (x0 x1 x2 x3 : Value) (w : World) : (Instr.index 24 (.agg #[x0, x1, x2, x3]) (.int .i64 3)).run Tryd.prog w = .ok x3 w := by kernel_rfl

theorem wrap_toNat (r : BitVec 64) : IntKind.u64.wrap (r.toNat : Int) = (r.toNat : Int) := by
  have := r.isLt
  simp [IntKind.wrap, IntKind.bits, IntKind.signed]
  omega
theorem bits_or (a b : S) (i : Nat) : bits .or .u64 (wd a i) (wd b i) = wd (sor a b) i := by
  show IntKind.u64.wrap ((BitVec.ofInt 64 (wd a i) ||| BitVec.ofInt 64 (wd b i)).toNat : Int) = _
  rw [ofInt_wd, ofInt_wd, wrap_toNat, ← ext_or]; rfl
theorem bits_and (a b : S) (i : Nat) : bits .and .u64 (wd a i) (wd b i) = wd (sand a b) i := by
  show IntKind.u64.wrap ((BitVec.ofInt 64 (wd a i) &&& BitVec.ofInt 64 (wd b i)).toNat : Int) = _
  rw [ofInt_wd, ofInt_wd, wrap_toNat, ← ext_and]; rfl
theorem bits_andNot_lt (a b : S) (i : Nat) (hi : i < 4) : bits .andNot .u64 (wd a i) (wd b i) = wd (sless a b) i := by
  show IntKind.u64.wrap ((BitVec.ofInt 64 (wd a i) &&& ~~~BitVec.ofInt 64 (wd b i)).toNat : Int) = _
  rw [ofInt_wd, ofInt_wd, wrap_toNat, ← ext_less _ _ _ hi]; rfl
theorem bits_not_lt (a : S) (i : Nat) (hi : i < 4) : bits .xor .u64 IntKind.u64.max (wd a i) = wd (snot a) i := by
  show IntKind.u64.wrap ((BitVec.ofInt 64 IntKind.u64.max ^^^ BitVec.ofInt 64 (wd a i)).toNat : Int) = _
  have e : BitVec.ofInt 64 IntKind.u64.max = BitVec.allOnes 64 := by decide
  rw [e, ofInt_wd, wrap_toNat, BitVec.allOnes_xor, ← ext_not _ _ hi]; rfl
theorem bits_andNot0 (a b : S) : bits .andNot .u64 (wd a 0) (wd b 0) = wd (sless a b) 0 := bits_andNot_lt a b 0 (by decide)
theorem bits_andNot1 (a b : S) : bits .andNot .u64 (wd a 1) (wd b 1) = wd (sless a b) 1 := bits_andNot_lt a b 1 (by decide)
theorem bits_andNot2 (a b : S) : bits .andNot .u64 (wd a 2) (wd b 2) = wd (sless a b) 2 := bits_andNot_lt a b 2 (by decide)
theorem bits_andNot3 (a b : S) : bits .andNot .u64 (wd a 3) (wd b 3) = wd (sless a b) 3 := bits_andNot_lt a b 3 (by decide)
theorem bits_not0 (a : S) : bits .xor .u64 IntKind.u64.max (wd a 0) = wd (snot a) 0 := bits_not_lt a 0 (by decide)
theorem bits_not1 (a : S) : bits .xor .u64 IntKind.u64.max (wd a 1) = wd (snot a) 1 := bits_not_lt a 1 (by decide)
theorem bits_not2 (a : S) : bits .xor .u64 IntKind.u64.max (wd a 2) = wd (snot a) 2 := bits_not_lt a 2 (by decide)
theorem bits_not3 (a : S) : bits .xor .u64 IntKind.u64.max (wd a 3) = wd (snot a) 3 := bits_not_lt a 3 (by decide)
theorem u64_signed : IntKind.u64.signed = false := rfl
end Go.Proofs.YtcaijlmffdfhgabDoor
