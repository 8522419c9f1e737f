/-
  Parts of the proof.
-/
import Derived.Test.YtbfhahhcacnckaaGreatDoorProg
import Derived.Test.YtbfhahhcacnckaaGreatDoorSamesProofB4
import Derived.WalkKit
import Derived.WalkSpells
import Derived.WalkLawsBesides
set_option linter.unusedSimpArgs false
namespace Go.Proofs.YtbfhahhcacnckaaGreatDoor
open Go.RowKit
theorem z1_idx0 (x0 z1_x1 z1_x2 z1_x3 : Value) (w : World) : (Instr.index 33 (.agg #[x0, z1_x1, z1_x2, z1_x3]) (.int .i64 0)).run Tryz.prog w = .ok x0 w := by kernel_rfl
theorem z1_idx1 (x0 z1_x1 z1_x2 z1_x3 : Value) (w : World) : (Instr.index 33 (.agg #[x0, z1_x1, z1_x2, z1_x3]) (.int .i64 1)).run Tryz.prog w = .ok z1_x1 w := by kernel_rfl
theorem z1_idx2 (x0 z1_x1 z1_x2 z1_x3 : Value) (w : World) : (Instr.index 33 (.agg #[x0, z1_x1, z1_x2, z1_x3]) (.int .i64 2)).run Tryz.prog w = .ok z1_x2 w := by kernel_rfl
theorem z1_idx3 (x0 z1_x1 z1_x2 z1_x3 : Value) (w : World) : (Instr.index 33 (.agg #[x0, z1_x1, z1_x2, z1_x3]) (.int .i64 3)).run Tryz.prog w = .ok z1_x3 w := by kernel_rfl
theorem z1_wrap_toNat (r : BitVec 64) : IntKind.u64.wrap (r.toNat : Int) = (r.toNat : Int) := by
  have := r.isLt
  simp [IntKind.wrap, IntKind.bits, IntKind.signed]
  omega
theorem z1_bits_or (a b : z1_S) (i : Nat) : bits .or .u64 (z1_wd a i) (z1_wd b i) = z1_wd (z1_sor a b) i := by
  show IntKind.u64.wrap ((BitVec.ofInt 64 (z1_wd a i) ||| BitVec.ofInt 64 (z1_wd b i)).toNat : Int) = _
  rw [z1_ofInt_wd, z1_ofInt_wd, z1_wrap_toNat, ← z1_ext_or]; rfl
theorem z1_bits_and (a b : z1_S) (i : Nat) : bits .and .u64 (z1_wd a i) (z1_wd b i) = z1_wd (z1_sand a b) i := by
  show IntKind.u64.wrap ((BitVec.ofInt 64 (z1_wd a i) &&& BitVec.ofInt 64 (z1_wd b i)).toNat : Int) = _
  rw [z1_ofInt_wd, z1_ofInt_wd, z1_wrap_toNat, ← z1_ext_and]; rfl
theorem z1_bits_andNot_lt (a b : z1_S) (i : Nat) (hi : i < 4) : bits .andNot .u64 (z1_wd a i) (z1_wd b i) = z1_wd (z1_sless a b) i := by
  show IntKind.u64.wrap ((BitVec.ofInt 64 (z1_wd a i) &&& ~~~BitVec.ofInt 64 (z1_wd b i)).toNat : Int) = _
  rw [z1_ofInt_wd, z1_ofInt_wd, z1_wrap_toNat, ← z1_ext_less _ _ _ hi]; rfl
theorem z1_bits_not_lt (a : z1_S) (i : Nat) (hi : i < 4) : bits .xor .u64 IntKind.u64.max (z1_wd a i) = z1_wd (z1_snot a) i := by
  show IntKind.u64.wrap ((BitVec.ofInt 64 IntKind.u64.max ^^^ BitVec.ofInt 64 (z1_wd a i)).toNat : Int) = _
  have e : BitVec.ofInt 64 IntKind.u64.max = BitVec.allOnes 64 := by decide
  rw [e, z1_ofInt_wd, z1_wrap_toNat, BitVec.allOnes_xor, ← z1_ext_not _ _ hi]; rfl
theorem z1_bits_andNot0 (a b : z1_S) : bits .andNot .u64 (z1_wd a 0) (z1_wd b 0) = z1_wd (z1_sless a b) 0 := z1_bits_andNot_lt a b 0 (by decide)
theorem z1_bits_andNot1 (a b : z1_S) : bits .andNot .u64 (z1_wd a 1) (z1_wd b 1) = z1_wd (z1_sless a b) 1 := z1_bits_andNot_lt a b 1 (by decide)
theorem z1_bits_andNot2 (a b : z1_S) : bits .andNot .u64 (z1_wd a 2) (z1_wd b 2) = z1_wd (z1_sless a b) 2 := z1_bits_andNot_lt a b 2 (by decide)
theorem z1_bits_andNot3 (a b : z1_S) : bits .andNot .u64 (z1_wd a 3) (z1_wd b 3) = z1_wd (z1_sless a b) 3 := z1_bits_andNot_lt a b 3 (by decide)
theorem z1_bits_not0 (a : z1_S) : bits .xor .u64 IntKind.u64.max (z1_wd a 0) = z1_wd (z1_snot a) 0 := z1_bits_not_lt a 0 (by decide)
theorem z1_bits_not1 (a : z1_S) : bits .xor .u64 IntKind.u64.max (z1_wd a 1) = z1_wd (z1_snot a) 1 := z1_bits_not_lt a 1 (by decide)
theorem z1_bits_not2 (a : z1_S) : bits .xor .u64 IntKind.u64.max (z1_wd a 2) = z1_wd (z1_snot a) 2 := z1_bits_not_lt a 2 (by decide)
theorem z1_bits_not3 (a : z1_S) : bits .xor .u64 IntKind.u64.max (z1_wd a 3) = z1_wd (z1_snot a) 3 := z1_bits_not_lt a 3 (by decide)
theorem z1_u64_signed : IntKind.u64.signed = false := rfl
end Go.Proofs.YtbfhahhcacnckaaGreatDoor
namespace Go.Proofs.YtbfhahhcacnckaaGreatDoor
open Go Go.RowKit
theorem z1_eqg_set : Tryz.prog.eqGuardType Tryz.prog.depth 33 = false := by kernel_rfl
theorem z1_eqg_range : Tryz.prog.eqGuardType Tryz.prog.depth 115 = false := by kernel_rfl
theorem z1_eqIn_words (x0 z1_x1 z1_x2 z1_x3 y0 y1 y2 y3 : Int) (w : World) :
    (Op.equalIn 10000 33 (.agg #[.int .u64 x0, .int .u64 z1_x1, .int .u64 z1_x2, .int .u64 z1_x3]) (.agg #[.int .u64 y0, .int .u64 y1, .int .u64 y2, .int .u64 y3])).run Tryz.prog w
      = .ok (x0 == y0 && z1_x1 == y1 && z1_x2 == y2 && z1_x3 == y3) w := by
  have u22 := Tryz.underlying31
  have a22 := Tryz.isAgg31
  have z22 := Tryz.sizeOf31
  have hu : Tryz.prog.underlying 33 = some (.array 4 31) := by kernel_rfl
  rw [show (10000 : Nat) = 9999 + 1 from rfl, Op.equalIn]
  simp only [Sem.run_bind, run_underlying hu, Result.andThen_ok]
  simp only [Std.Legacy.Range.forIn_eq_forIn_range', Std.Legacy.Range.size, Nat.sub_zero, Nat.add_sub_cancel, Nat.div_one, List.range'_succ, List.range'_zero, List.forIn_cons, List.forIn_nil]
  go_simp
  by_cases h0 : x0 = y0 <;> by_cases h1 : z1_x1 = y1 <;> by_cases h2 : z1_x2 = y2 <;> by_cases h3 : z1_x3 = y3 <;> simp [h0, h1, h2, h3]
theorem z1_wd_beq (a b : z1_S) : (z1_wd a 0 == z1_wd b 0 && z1_wd a 1 == z1_wd b 1 && z1_wd a 2 == z1_wd b 2 && z1_wd a 3 == z1_wd b 3) = decide (a = b) := by
  by_cases h : a = b
  · subst h; simp
  · rw [decide_eq_false h, Bool.eq_false_iff]
    intro g
    simp at g
    exact h (z1_wd_ext g.1.1.1 g.1.1.2 g.1.2 g.2)
theorem z1_eqIn_set (a b : z1_S) (w : World) : (Op.equalIn 10000 33 (.agg #[.int .u64 (z1_wd (a) 0), .int .u64 (z1_wd (a) 1), .int .u64 (z1_wd (a) 2), .int .u64 (z1_wd (a) 3)]) (.agg #[.int .u64 (z1_wd (b) 0), .int .u64 (z1_wd (b) 1), .int .u64 (z1_wd (b) 2), .int .u64 (z1_wd (b) 3)])).run Tryz.prog w = .ok (decide (a = b)) w := by
  rw [z1_eqIn_words, z1_wd_beq]
theorem z1_wd_nil (i : Nat) : z1_wd (0#256) i = 0 := by simp [z1_wd]
theorem z1_eqIn_nil (a : z1_S) (w : World) : (Op.equalIn 10000 33 (.agg #[.int .u64 (z1_wd (a) 0), .int .u64 (z1_wd (a) 1), .int .u64 (z1_wd (a) 2), .int .u64 (z1_wd (a) 3)]) (.agg #[.int .u64 0, .int .u64 0, .int .u64 0, .int .u64 0])).run Tryz.prog w = .ok (decide (a = 0#256)) w := by
  have := z1_eqIn_set a (0#256) w
  rwa [z1_wd_nil, z1_wd_nil, z1_wd_nil, z1_wd_nil] at this
theorem z1_eqIn_range (a b c d : Int) (w : World) : (Op.equalIn 10000 115 (.agg #[.int .i64 a, .int .i64 b]) (.agg #[.int .i64 c, .int .i64 d])).run Tryz.prog w = .ok (a == c && b == d) w := by
  have u3 := Tryz.underlying3
  have a3 := Tryz.isAgg3
  have z3 := Tryz.sizeOf3
  have hS : Tryz.prog.underlying 115 = some (.struct (Tryz.prog.fieldsOf 115)) := by kernel_rfl
  have hp : Tryz.prog.stoodInHeld 115 = false := by kernel_rfl
  rw [show (10000 : Nat) = 9999 + 1 from rfl, run_equalIn_agg w 9999 115 _ _ hS hp]
  simp only [Program.fieldsOf, Tryz.underlying115]
  go_simp
  by_cases h1 : a = c <;> by_cases h2 : b = d <;> simp [h1, h2]
end Go.Proofs.YtbfhahhcacnckaaGreatDoor
