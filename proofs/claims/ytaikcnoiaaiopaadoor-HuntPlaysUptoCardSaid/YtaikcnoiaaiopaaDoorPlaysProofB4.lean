/-
  Parts of the proof.
-/
import Derived.Test.YtaikcnoiaaiopaaDoorProg
import Derived.Test.YtaikcnoiaaiopaaDoorPlaysProofB3
import Derived.WalkKit
import Derived.WalkSpells
import Derived.WalkLawsBesides
set_option linter.unusedSimpArgs false
namespace Go.Proofs.YtaikcnoiaaiopaaDoor
abbrev z1_S := BitVec 256
def z1_wd (s : z1_S) (i : Nat) : Int := ((s.extractLsb' (64 * i) 64).toNat : Int)
theorem z1_wd_range (s : z1_S) (i : Nat) : 0 ≤ z1_wd s i ∧ z1_wd s i < 18446744073709551616 := by
  unfold z1_wd
  have := (s.extractLsb' (64 * i) 64).isLt
  omega
theorem z1_ofInt_wd (s : z1_S) (i : Nat) : BitVec.ofInt 64 (z1_wd s i) = s.extractLsb' (64 * i) 64 := by
  unfold z1_wd
  rw [BitVec.ofInt_natCast, BitVec.ofNat_toNat, BitVec.setWidth_eq]
theorem z1_wd_ext {s t : z1_S} (h0 : z1_wd s 0 = z1_wd t 0) (h1 : z1_wd s 1 = z1_wd t 1) (h2 : z1_wd s 2 = z1_wd t 2) (h3 : z1_wd s 3 = z1_wd t 3) : s = t := by
  have g : ∀ i, z1_wd s i = z1_wd t i → s.extractLsb' (64 * i) 64 = t.extractLsb' (64 * i) 64 := fun i h => by
    unfold z1_wd at h; exact BitVec.eq_of_toNat_eq (by omega)
  have k : ∀ i, i < 4 → s.extractLsb' (64 * i) 64 = t.extractLsb' (64 * i) 64 := fun i hi => by
    match i, hi with
    | 0, _ => exact g 0 h0
    | 1, _ => exact g 1 h1
    | 2, _ => exact g 2 h2
    | 3, _ => exact g 3 h3
  refine BitVec.eq_of_getLsbD_eq fun n hn => ?_
  have e := congrArg (fun z => z.getLsbD (n % 64)) (k (n / 64) (by omega))
  simp only [BitVec.getLsbD_extractLsb'] at e
  have hl : n % 64 < 64 := Nat.mod_lt _ (by decide)
  have hs : 64 * (n / 64) + n % 64 = n := Nat.div_add_mod n 64
  simpa [hl, hs] using e
theorem z1_wd_eq (s : z1_S) (i : Nat) (x : BitVec 64) (h : ∀ n, n < 64 → s.getLsbD (64 * i + n) = x.getLsbD n) : z1_wd s i = (x.toNat : Int) := by
  have e : s.extractLsb' (64 * i) 64 = x := BitVec.eq_of_getLsbD_eq fun n hn => by
    rw [BitVec.getLsbD_extractLsb']; simp [hn, h n hn]
  unfold z1_wd; rw [e]
theorem z1_wd_of (x0 z1_x1 z1_x2 z1_x3 : Int) (a0 : 0 ≤ x0) (b0 : x0 < 18446744073709551616) (a1 : 0 ≤ z1_x1) (z1_b1 : z1_x1 < 18446744073709551616)
    (a2 : 0 ≤ z1_x2) (z1_b2 : z1_x2 < 18446744073709551616) (a3 : 0 ≤ z1_x3) (z1_b3 : z1_x3 < 18446744073709551616) :
    ∃ s : z1_S, x0 = z1_wd s 0 ∧ z1_x1 = z1_wd s 1 ∧ z1_x2 = z1_wd s 2 ∧ z1_x3 = z1_wd s 3 := by
  obtain ⟨y0, rfl⟩ := Int.eq_ofNat_of_zero_le a0
  obtain ⟨y1, rfl⟩ := Int.eq_ofNat_of_zero_le a1
  obtain ⟨y2, rfl⟩ := Int.eq_ofNat_of_zero_le a2
  obtain ⟨y3, rfl⟩ := Int.eq_ofNat_of_zero_le a3
  obtain ⟨N, hN⟩ : ∃ N : Nat, N = y0 + 18446744073709551616 * (y1 + 18446744073709551616 * (y2 + 18446744073709551616 * y3)) := ⟨_, rfl⟩
  have hlt : N < 2 ^ 256 := by
    have : (2 : Nat) ^ 256 = 18446744073709551616 * (18446744073709551616 * (18446744073709551616 * 18446744073709551616)) := by decide
    rw [this]; omega
  have w : ∀ i, z1_wd (BitVec.ofNat 256 N) i = ((N / 2 ^ (64 * i) % 18446744073709551616 : Nat) : Int) := fun i => by
    unfold z1_wd
    rw [BitVec.extractLsb'_toNat, BitVec.toNat_ofNat, Nat.mod_eq_of_lt hlt, Nat.shiftRight_eq_div_pow]
  have d1 : N / 18446744073709551616 = y1 + 18446744073709551616 * (y2 + 18446744073709551616 * y3) := by omega
  have d2 : N / 18446744073709551616 / 18446744073709551616 = y2 + 18446744073709551616 * y3 := by omega
  have d3 : N / 18446744073709551616 / 18446744073709551616 / 18446744073709551616 = y3 := by omega
  refine ⟨BitVec.ofNat 256 N, ?_, ?_, ?_, ?_⟩
  · rw [w 0]; simp; omega
  · rw [w 1, show (2 : Nat) ^ (64 * 1) = 18446744073709551616 by decide, d1]; omega
  · rw [w 2, show (2 : Nat) ^ (64 * 2) = 18446744073709551616 * 18446744073709551616 by decide, ← Nat.div_div_eq_div_mul, d2]; omega
  · rw [w 3, show (2 : Nat) ^ (64 * 3) = 18446744073709551616 * 18446744073709551616 * 18446744073709551616 by decide, ← Nat.div_div_eq_div_mul, ← Nat.div_div_eq_div_mul, d3]; omega
def z1_sor (a b : z1_S) : z1_S := a ||| b
def z1_sand (a b : z1_S) : z1_S := a &&& b
def z1_sless (a b : z1_S) : z1_S := a &&& ~~~b
def z1_snot (a : z1_S) : z1_S := ~~~a
def z1_sonly (b : Int) : z1_S := if 0 ≤ b ∧ b ≤ 255 then BitVec.ofNat 256 (2 ^ b.toNat) else 0
def z1_clampTo (n m : Int) : Nat := (min (max n 0) m).toNat
def z1_sbelow (n : Int) : z1_S := BitVec.ofNat 256 (2 ^ z1_clampTo n 256 - 1)
theorem z1_ext_or (a b : z1_S) (i : Nat) : (z1_sor a b).extractLsb' (64 * i) 64 = a.extractLsb' (64 * i) 64 ||| b.extractLsb' (64 * i) 64 := by
  unfold z1_sor; refine BitVec.eq_of_getLsbD_eq fun n hn => ?_; simp [hn]
theorem z1_ext_and (a b : z1_S) (i : Nat) : (z1_sand a b).extractLsb' (64 * i) 64 = a.extractLsb' (64 * i) 64 &&& b.extractLsb' (64 * i) 64 := by
  unfold z1_sand; refine BitVec.eq_of_getLsbD_eq fun n hn => ?_; simp [hn]
theorem z1_ext_less (a b : z1_S) (i : Nat) (hi : i < 4) : (z1_sless a b).extractLsb' (64 * i) 64 = a.extractLsb' (64 * i) 64 &&& ~~~b.extractLsb' (64 * i) 64 := by
  unfold z1_sless; refine BitVec.eq_of_getLsbD_eq fun n hn => ?_; have h2 : 64 * i + n < 256 := by omega
  simp [hn, h2]
theorem z1_ext_not (a : z1_S) (i : Nat) (hi : i < 4) : (z1_snot a).extractLsb' (64 * i) 64 = ~~~a.extractLsb' (64 * i) 64 := by
  unfold z1_snot; refine BitVec.eq_of_getLsbD_eq fun n hn => ?_; have h2 : 64 * i + n < 256 := by omega
  simp [hn, h2]
theorem z1_bit_only (b : Int) (n : Nat) : (z1_sonly b).getLsbD n = decide (0 ≤ b ∧ b ≤ 255 ∧ b = n) := by
  unfold z1_sonly
  split
  · rename_i h
    obtain ⟨k, rfl⟩ := Int.eq_ofNat_of_zero_le h.1
    rw [BitVec.getLsbD_ofNat]
    simp only [Int.toNat_natCast, Nat.testBit_two_pow]
    rw [Bool.eq_iff_iff]; simp; omega
  · rename_i h
    simp; omega
theorem z1_bit_below (m : Int) (n : Nat) : (z1_sbelow m).getLsbD n = decide (n < 256 ∧ (n : Int) < m) := by
  unfold z1_sbelow z1_clampTo
  rw [BitVec.getLsbD_ofNat, Nat.testBit_two_pow_sub_one, Bool.eq_iff_iff]; simp; omega
theorem z1_wd_zero_of (s : z1_S) (i : Nat) (h : ∀ n, n < 64 → s.getLsbD (64 * i + n) = false) : 0 = z1_wd s i := by
  rw [z1_wd_eq s i 0#64 (fun n hn => by rw [h n hn]; simp)]; rfl
theorem z1_only_zero (b : Int) (i : Nat) (h : b < 64 * i ∨ 64 * i + 64 ≤ b ∨ b < 0 ∨ 255 < b) : 0 = z1_wd (z1_sonly b) i :=
  z1_wd_zero_of _ _ fun n hn => by rw [z1_bit_only]; simp; omega
theorem z1_only_one (b : Int) (i : Nat) (h0 : 64 * i ≤ b) (h1 : b < 64 * i + 64) (h2 : i < 4) : (2 : Int) ^ (b % 64).toNat = z1_wd (z1_sonly b) i := by
  obtain ⟨k, rfl⟩ := Int.eq_ofNat_of_zero_le (show 0 ≤ b by omega)
  have hk : ((k : Int) % 64).toNat = k % 64 := by omega
  have hl : k % 64 < 64 := Nat.mod_lt _ (by decide)
  have hlt : 2 ^ (k % 64) < 2 ^ 64 := Nat.pow_lt_pow_right (by decide) hl
  rw [hk, z1_wd_eq _ i (BitVec.ofNat 64 (2 ^ (k % 64)))]
  · rw [BitVec.toNat_ofNat, Nat.mod_eq_of_lt hlt]; simp
  · intro n hn
    rw [z1_bit_only, BitVec.getLsbD_ofNat, Nat.testBit_two_pow, Bool.eq_iff_iff]; simp; omega
theorem z1_below_zero (m : Int) (i : Nat) (h : m ≤ 64 * i) : 0 = z1_wd (z1_sbelow m) i :=
  z1_wd_zero_of _ _ fun n hn => by rw [z1_bit_below]; simp; omega
theorem z1_below_part (m : Int) (i k : Nat) (hi : i < 4) (h0 : m = 64 * i + k) (h1 : k ≤ 64) : (2 : Int) ^ k - 1 = z1_wd (z1_sbelow m) i := by
  have hle : 2 ^ k ≤ 2 ^ 64 := Nat.pow_le_pow_right (by decide) h1
  have hpos : 0 < 2 ^ k := Nat.pow_pos (by decide)
  rw [z1_wd_eq _ i (BitVec.ofNat 64 (2 ^ k - 1))]
  · rw [BitVec.toNat_ofNat, Nat.mod_eq_of_lt (by omega), Int.ofNat_sub hpos]; simp
  · intro n hn
    rw [z1_bit_below, BitVec.getLsbD_ofNat, Nat.testBit_two_pow_sub_one, Bool.eq_iff_iff]; simp; omega
theorem z1_below_full (m : Int) (i : Nat) (hi : i < 4) (h0 : 64 * i + 64 ≤ m) : 18446744073709551615 = z1_wd (z1_sbelow m) i := by
  rw [z1_wd_eq _ i (BitVec.allOnes 64)]
  · rfl
  · intro n hn
    rw [z1_bit_below, BitVec.getLsbD_allOnes, Bool.eq_iff_iff]; simp; omega
end Go.Proofs.YtaikcnoiaaiopaaDoor
namespace Go.Proofs.YtaikcnoiaaiopaaDoor
open Go.RowKit
theorem z1_idx0 (x0 z1_x1 z1_x2 z1_x3 : Value) (w : World) : (Instr.index 63 (.agg #[x0, z1_x1, z1_x2, z1_x3]) (.int .i64 0)).run Tryd.prog w = .ok x0 w := by kernel_rfl
theorem z1_idx1 (x0 z1_x1 z1_x2 z1_x3 : Value) (w : World) : (Instr.index 63 (.agg #[x0, z1_x1, z1_x2, z1_x3]) (.int .i64 1)).run Tryd.prog w = .ok z1_x1 w := by kernel_rfl
theorem z1_idx2 (x0 z1_x1 z1_x2 z1_x3 : Value) (w : World) : (Instr.index 63 (.agg #[x0, z1_x1, z1_x2, z1_x3]) (.int .i64 2)).run Tryd.prog w = .ok z1_x2 w := by kernel_rfl
theorem z1_idx3 (x0 z1_x1 z1_x2 z1_x3 : Value) (w : World) : (Instr.index 63 (.agg #[x0, z1_x1, z1_x2, z1_x3]) (.int .i64 3)).run Tryd.prog w = .ok z1_x3 w := by kernel_rfl
theorem z1_wrap_toNat (r : BitVec 64) : IntKind.u64.wrap (r.toNat : Int) = (r.toNat : Int) := by
  have := r.isLt
  simp [IntKind.wrap, IntKind.bits, IntKind.signed]
  omega
theorem z1_bits_or (a b : z1_S) (i : Nat) : bits .or .u64 (z1_wd a i) (z1_wd b i) = z1_wd (z1_sor a b) i := by
  show IntKind.u64.wrap ((BitVec.ofInt 64 (z1_wd a i) ||| BitVec.ofInt 64 (z1_wd b i)).toNat : Int) = _
  rw [z1_ofInt_wd, z1_ofInt_wd, z1_wrap_toNat, ← z1_ext_or]; rfl
theorem z1_bits_and (a b : z1_S) (i : Nat) : bits .and .u64 (z1_wd a i) (z1_wd b i) = z1_wd (z1_sand a b) i := by
  show IntKind.u64.wrap ((BitVec.ofInt 64 (z1_wd a i) &&& BitVec.ofInt 64 (z1_wd b i)).toNat : Int) = _
  rw [z1_ofInt_wd, z1_ofInt_wd, z1_wrap_toNat, ← z1_ext_and]; rfl
theorem z1_bits_andNot_lt (a b : z1_S) (i : Nat) (hi : i < 4) : bits .andNot .u64 (z1_wd a i) (z1_wd b i) = z1_wd (z1_sless a b) i := by
  show IntKind.u64.wrap ((BitVec.ofInt 64 (z1_wd a i) &&& ~~~BitVec.ofInt 64 (z1_wd b i)).toNat : Int) = _
  rw [z1_ofInt_wd, z1_ofInt_wd, z1_wrap_toNat, ← z1_ext_less _ _ _ hi]; rfl
theorem z1_bits_not_lt (a : z1_S) (i : Nat) (hi : i < 4) : bits .xor .u64 IntKind.u64.max (z1_wd a i) = z1_wd (z1_snot a) i := by
  show IntKind.u64.wrap ((BitVec.ofInt 64 IntKind.u64.max ^^^ BitVec.ofInt 64 (z1_wd a i)).toNat : Int) = _
  have e : BitVec.ofInt 64 IntKind.u64.max = BitVec.allOnes 64 := by decide
  rw [e, z1_ofInt_wd, z1_wrap_toNat, BitVec.allOnes_xor, ← z1_ext_not _ _ hi]; rfl
theorem z1_bits_andNot0 (a b : z1_S) : bits .andNot .u64 (z1_wd a 0) (z1_wd b 0) = z1_wd (z1_sless a b) 0 := z1_bits_andNot_lt a b 0 (by decide)
theorem z1_bits_andNot1 (a b : z1_S) : bits .andNot .u64 (z1_wd a 1) (z1_wd b 1) = z1_wd (z1_sless a b) 1 := z1_bits_andNot_lt a b 1 (by decide)
theorem z1_bits_andNot2 (a b : z1_S) : bits .andNot .u64 (z1_wd a 2) (z1_wd b 2) = z1_wd (z1_sless a b) 2 := z1_bits_andNot_lt a b 2 (by decide)
theorem z1_bits_andNot3 (a b : z1_S) : bits .andNot .u64 (z1_wd a 3) (z1_wd b 3) = z1_wd (z1_sless a b) 3 := z1_bits_andNot_lt a b 3 (by decide)
theorem z1_bits_not0 (a : z1_S) : bits .xor .u64 IntKind.u64.max (z1_wd a 0) = z1_wd (z1_snot a) 0 := z1_bits_not_lt a 0 (by decide)
theorem z1_bits_not1 (a : z1_S) : bits .xor .u64 IntKind.u64.max (z1_wd a 1) = z1_wd (z1_snot a) 1 := z1_bits_not_lt a 1 (by decide)
theorem z1_bits_not2 (a : z1_S) : bits .xor .u64 IntKind.u64.max (z1_wd a 2) = z1_wd (z1_snot a) 2 := z1_bits_not_lt a 2 (by decide)
theorem z1_bits_not3 (a : z1_S) : bits .xor .u64 IntKind.u64.max (z1_wd a 3) = z1_wd (z1_snot a) 3 := z1_bits_not_lt a 3 (by decide)
theorem z1_u64_signed : IntKind.u64.signed = false := rfl
end Go.Proofs.YtaikcnoiaaiopaaDoor
namespace Go.Proofs.YtaikcnoiaaiopaaDoor
open Go.RowKit
attribute [local go_sem] z1_idx0 z1_idx1 z1_idx2 z1_idx3 z1_bits_or z1_bits_and z1_bits_andNot0 z1_bits_andNot1 z1_bits_andNot2 z1_bits_andNot3 z1_bits_not0 z1_bits_not1 z1_bits_not2 z1_bits_not3 z1_u64_signed
set_option maxHeartbeats 400000 in
theorem z1_or_any (a b : z1_S) (w : World) :
    Calls Tryd.prog 46 #[.agg #[.int .u64 (z1_wd (a) 0), .int .u64 (z1_wd (a) 1), .int .u64 (z1_wd (a) 2), .int .u64 (z1_wd (a) 3)], .agg #[.int .u64 (z1_wd (b) 0), .int .u64 (z1_wd (b) 1), .int .u64 (z1_wd (b) 2), .int .u64 (z1_wd (b) 3)]] w fun e w' => e = .returned (.agg #[.int .u64 (z1_wd (z1_sor a b) 0), .int .u64 (z1_wd (z1_sor a b) 1), .int .u64 (z1_wd (z1_sor a b) 2), .int .u64 (z1_wd (z1_sor a b) 3)]) ∧ Below w.heap.size w w' := by
  go_enter Tryd.func46, Tryd.ntmps46
  go_wp2
  refine z1_wp_loop_unr 5 ?_
  refine z1_unr_succ ?_
  go_wp2
  refine z1_unr_succ ?_
  go_wp2
  refine z1_unr_succ ?_
  go_wp2
  refine z1_unr_succ ?_
  go_wp2
  refine z1_unr_succ ?_
  go_wp2
  exact bodyPost_ret (v := .agg #[.int .u64 (z1_wd (z1_sor a b) 0), .int .u64 (z1_wd (z1_sor a b) 1), .int .u64 (z1_wd (z1_sor a b) 2), .int .u64 (z1_wd (z1_sor a b) 3)]) (by simp [results, Tryd.results46, go_sem]) rfl ⟨rfl, (((Below.refl _ _).alloc (Nat.le_refl _) _).alloc (by simp) _).alloc (by simp; omega) _⟩
set_option maxHeartbeats 400000 in
theorem z1_less_any (a b : z1_S) (w : World) :
    Calls Tryd.prog 50 #[.agg #[.int .u64 (z1_wd (a) 0), .int .u64 (z1_wd (a) 1), .int .u64 (z1_wd (a) 2), .int .u64 (z1_wd (a) 3)], .agg #[.int .u64 (z1_wd (b) 0), .int .u64 (z1_wd (b) 1), .int .u64 (z1_wd (b) 2), .int .u64 (z1_wd (b) 3)]] w fun e w' => e = .returned (.agg #[.int .u64 (z1_wd (z1_sless a b) 0), .int .u64 (z1_wd (z1_sless a b) 1), .int .u64 (z1_wd (z1_sless a b) 2), .int .u64 (z1_wd (z1_sless a b) 3)]) ∧ Below w.heap.size w w' := by
  go_enter Tryd.func50, Tryd.ntmps50
  go_wp2
  refine z1_wp_loop_unr 5 ?_
  refine z1_unr_succ ?_
  go_wp2
  refine z1_unr_succ ?_
  go_wp2
  refine z1_unr_succ ?_
  go_wp2
  refine z1_unr_succ ?_
  go_wp2
  refine z1_unr_succ ?_
  go_wp2
  exact bodyPost_ret (v := .agg #[.int .u64 (z1_wd (z1_sless a b) 0), .int .u64 (z1_wd (z1_sless a b) 1), .int .u64 (z1_wd (z1_sless a b) 2), .int .u64 (z1_wd (z1_sless a b) 3)]) (by simp [results, Tryd.results50, go_sem]) rfl ⟨rfl, (((Below.refl _ _).alloc (Nat.le_refl _) _).alloc (by simp) _).alloc (by simp; omega) _⟩
end Go.Proofs.YtaikcnoiaaiopaaDoor
