/-
  LexerNumbers: an interval of any two numbers.
-/
import Derived.Test.YtloeajhmmjdlgaaDoorPlainProofB0
import Derived.Test.YtloeajhmmjdlgaaDoorPlainProofB1
namespace Go.Proofs.YtloeajhmmjdlgaaDoor
open Go Go.RowKit
attribute [local go_sem] ext_cell

abbrev tenD : ByteArray := ⟨#[48, 49, 50, 51, 52, 53, 54, 55, 56, 57]⟩
theorem ten_ext {r : Nat} (h : r < 10) : tenD.extract r (r + 1) = ⟨#[UInt8.ofNat (48 + r)]⟩ := by
  match r, h with
  | 0, _ => rfl
  | 1, _ => rfl
  | 2, _ => rfl
  | 3, _ => rfl
  | 4, _ => rfl
  | 5, _ => rfl
  | 6, _ => rfl
  | 7, _ => rfl
  | 8, _ => rfl
  | 9, _ => rfl
theorem ba_app (l r : List UInt8) : (⟨l.toArray⟩ : ByteArray) ++ ⟨r.toArray⟩ = ⟨(l ++ r).toArray⟩ := by
  apply ByteArray.ext
  rw [ByteArray.data_append]
  simp
/-- A list of bytes as a text. -/
def ofL (l : List UInt8) : ByteArray := ⟨l.toArray⟩
theorem ofL_size (l : List UInt8) : (ofL l).size = l.length := by simp [ofL, ByteArray.size]
theorem ofL_app (l r : List UInt8) : ofL l ++ ofL r = ofL (l ++ r) := ba_app l r
theorem natD_le {n : Nat} (h : n < 9223372036854775808) : (natD n).length ≤ 19 := natD_len 19 n (by omega) (by omega)
theorem intD_le {z : Int} (h0 : -9223372036854775808 ≤ z) (h1 : z ≤ 9223372036854775807) : (intD z).length ≤ 20 := by
  unfold intD
  split
  · have := natD_le (n := (-(z + 1)).toNat) (by omega)
    simp; omega
  · have := natD_le (n := z.toNat) (by omega)
    omega
set_option maxRecDepth 100000 in
set_option maxHeartbeats 2000000 in
theorem digits_small {n : Nat} (h : n < 10) (w : World) : Calls Tryd.prog 11 #[.int .i64 (n : Int)] w fun e w' => e = .returned (.string (ofL (natD n))) ∧ Below w.heap.size w w' := by
  have e : Hid (tenD.extract n (n + 1) = ofL (natD n)) := (ten_ext h).trans (by rw [natD_small h]; rfl)
  have i0 : ¬ (n : Int) < 0 := by omega
  have i1 : (n : Int) < 10 := by omega
  have i2 : (0 : Int) ≤ (n : Int) := by omega
  have i3 : (n : Int) ≤ (n : Int) + 1 := by omega
  have i4 : (n : Int) + 1 ≤ 10 := by omega
  have i5 : ((n : Int) + 1).toNat = n + 1 := by omega
  have hw : IntKind.wrap .i64 ((n : Int) + 1) = (n : Int) + 1 := wrap_small _ (by omega) (by omega)
  generalize ofL (natD n) = DN at *
  go_enter Tryd.func11, Tryd.ntmps11
  go_wp2
  go_ret
  refine ⟨?_, Below.refl _ _⟩
  exact congrArg (fun x => Ending.returned (.string x)) e.out
set_option maxRecDepth 100000 in
set_option maxHeartbeats 2000000 in
theorem digits_nat : ∀ (k n : Nat), n ≤ k → n < 9223372036854775808 → ∀ w : World, Calls Tryd.prog 11 #[.int .i64 (n : Int)] w fun e w' => e = .returned (.string (ofL (natD n))) ∧ Below w.heap.size w w'
  | k, n, hk, hn, w => by
    by_cases h : n < 10
    · exact digits_small h w
    cases k with
    | zero => omega
    | succ k =>
      obtain ⟨q, hq⟩ : ∃ q, q = n / 10 := ⟨_, rfl⟩
      obtain ⟨r, hr⟩ : ∃ r, r = n % 10 := ⟨_, rfl⟩
      have ih : ∀ W, Calls Tryd.prog 11 #[.int .i64 (q : Int)] W fun e w' => e = .returned (.string (ofL (natD q))) ∧ Below W.heap.size W w' := fun W => digits_nat k q (by omega) (by omega) W
      have e := ten_ext (r := r) (by omega)
      have i0 : ¬ (n : Int) < 0 := by omega
      have i1 : ¬ (n : Int) < 10 := by omega
      have t1 : (n : Int).tdiv 10 = (q : Int) := by rw [Int.tdiv_eq_ediv_of_nonneg (by omega)]; omega
      have t2 : (n : Int).tmod 10 = (r : Int) := by rw [Int.tmod_eq_emod_of_nonneg (by omega)]; omega
      have hw1 : IntKind.wrap .i64 (q : Int) = (q : Int) := wrap_small _ (by omega) (by omega)
      have hw2 : IntKind.wrap .i64 (r : Int) = (r : Int) := wrap_small _ (by omega) (by omega)
      have hw3 : IntKind.wrap .i64 ((r : Int) + 1) = (r : Int) + 1 := wrap_small _ (by omega) (by omega)
      have i2 : (0 : Int) ≤ (r : Int) := by omega
      have i3 : (r : Int) ≤ (r : Int) + 1 := by omega
      have i4 : (r : Int) + 1 ≤ 10 := by omega
      have i5 : ((r : Int) + 1).toNat = r + 1 := by omega
      have E : Hid (ofL (natD q) ++ tenD.extract r (r + 1) = ofL (natD n)) := by
        show _ = _
        rw [e, natD_big h, ← hq, ← hr]
        exact ofL_app (natD q) [UInt8.ofNat (48 + r)]
      have zq : (ofL (natD q)).size ≤ 19 := by rw [ofL_size]; exact natD_le (by omega)
      generalize ofL (natD q) = DQ at *
      generalize ofL (natD n) = DN at *
      have zs : DQ.size + 1 ≤ 9223372036854775807 := by omega
      have zt : (tenD.extract r (r + 1)).size = 1 := by rw [e]; rfl
      have hadd : ∀ W : World, (binOp .add 9 (.string DQ) (.string (tenD.extract r (r + 1)))).run Tryd.prog W = .ok (.string (DQ ++ tenD.extract r (r + 1))) W := fun W => by
        have : DQ.size + (tenD.extract r (r + 1)).size ≤ 9223372036854775807 := by omega
        simp [go_sem]
        omega
      clear hq hr e
      go_enter Tryd.func11, Tryd.ntmps11
      go_wp2
      refine wp_region_ext (by kernel_rfl) (by kernel_rfl) ?_
      repeat (go_big_quiet_step (first | exact rfl | (go_at_call 11; exact ext_call (ih _))))
      refine wpQuiet_nil ?_
      intro w5 hw5
      have B5 : Hid (Below w.heap.size w w5) := ext_of hw5
      clear hw5
      go_wp2
      go_ret
      refine ⟨?_, B5.out⟩
      exact congrArg (fun x => Ending.returned (.string x)) E.out
set_option maxRecDepth 100000 in
set_option maxHeartbeats 2000000 in
theorem digits_c {z : Int} (h0 : -9223372036854775808 ≤ z) (h1 : z ≤ 9223372036854775807) (w : World) : Calls Tryd.prog 11 #[.int .i64 z] w fun e w' => e = .returned (.string (ofL (intD z))) ∧ Below w.heap.size w w' := by
  unfold intD
  by_cases hz : z < 0
  · rw [if_pos hz]
    obtain ⟨n, hn⟩ : ∃ n : Nat, (n : Int) = -(z + 1) := ⟨(-(z + 1)).toNat, by omega⟩
    rw [show (-(z + 1)).toNat = n by omega]
    have hc := digits_nat n n (Nat.le_refl _) (by omega)
    have w1 : IntKind.wrap .i64 (z + 1) = z + 1 := by rw [IntKind.wrap_i64]; omega
    have w2 : IntKind.wrap .i64 (-(z + 1)) = (n : Int) := by rw [IntKind.wrap_i64]; omega
    have zn : (ofL (natD n)).size ≤ 19 := by rw [ofL_size]; exact natD_le (by omega)
    have E : Hid ((⟨#[45]⟩ : ByteArray) ++ ofL (natD n) = ofL (45 :: natD n)) := ofL_app [45] (natD n)
    clear hn
    generalize ofL (45 :: natD n) = DZ at *
    generalize ofL (natD n) = DN at *
    have zs : ¬ 9223372036854775807 < 1 + DN.size := by omega
    go_enter Tryd.func11, Tryd.ntmps11
    go_wp2_with (go_at_call 11; refine (hc _).mono ?_; rintro e w5 ⟨rfl, h5⟩; have X5 : Hid (Below w.heap.size w w5) := h5; clear h5)
    go_ret
    refine ⟨?_, X5.out⟩
    exact congrArg (fun x => Ending.returned (.string x)) E.out
  · rw [if_neg hz]
    have hc := digits_nat z.toNat z.toNat (Nat.le_refl _) (by omega) w
    rw [show ((z.toNat : Nat) : Int) = z by omega] at hc
    exact hc
end Go.Proofs.YtloeajhmmjdlgaaDoor
