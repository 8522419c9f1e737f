/-
  addRows, Rows: contracts, second part.
-/
import Derived.Test.YtihmnibopeljaaaDoorRows5
namespace Go.Proofs.YtihmnibopeljaaaDoor
open Go Go.RowKit
attribute [local go_sem] ext_cell

set_option maxHeartbeats 8000000 in
set_option maxRecDepth 1000000 in
theorem addRows_c (m : Nat) : ∀ {base n a b p q : Nat} {w : World} {v : Value} {R : List Rw} (_ : InS n a b) (_ : EA n a p) (_ : EB n b q) (_ : (n - 1 - p) + (n - 1 - q) < m) (_ : RA base w v R) (_ : base ≤ w.heap.size) (_ : R.length + m ≤ 100),
    Calls Tryd.prog 31 #[v, .int .i64 (a : Int), .int .i64 (b : Int)] w fun e w' => ∃ v' R', e = .returned v' ∧ RA base w' v' (R ++ R') ∧ Cov (a : Int) (b : Int) R' ∧ R'.length ≤ m ∧ Below base w w' ∧ base ≤ w'.heap.size := by
  induction m with
  | zero => intros; omega
  | succ m ih =>
    intro base n a b p q w v R hs ha hb hm h hbw hl
    by_cases hpc : Piece n a b
    · refine (addRows_one hpc h hbw (by omega)).mono ?_
      rintro e w' ⟨v', R', h1, h2, h3, h4, h5⟩
      exact ⟨v', R', h1, h2, h3, by omega, h5⟩
    have hn := hs.n
    have hcut := cutAt_c hs w
    obtain ⟨qv, cv, rfl⟩ := ownsRow_shape h.own
    have HS : Hid (InS n a b) := hs
    have HA : Hid (EA n a p) := ha
    have HB : Hid (EB n b q) := hb
    have HP : Hid (¬ Piece n a b) := hpc
    have H : Hid (RA base w (.slice qv R.length cv) R) := h
    have HW : Hid (base ≤ w.heap.size) := hbw
    have HL : Hid (R.length + (m + 1) ≤ 100) := hl
    have HM : Hid ((n - 1 - p) + (n - 1 - q) < m + 1) := hm
    have hab : ¬ (b : Int) < (a : Int) := by omega
    have hb4 : b ≤ 1114111 := hn.2.2.2
    clear hs ha hb hpc h hbw hl hm hn
    go_enter Tryd.func31, Tryd.ntmps31
    go_upto_region 4 with (go_at_call 42; refine hcut.mono ?_; rintro e w' ⟨c, rfl, hc, h5⟩; subst w'; have HC : Hid (CutP n a b c) := hc; clear hc)
    clear hcut
    rcases cut_cases HS.out HA.out HB.out HC.out with ⟨_, q1⟩ | ⟨c1, c2, c3, c4, p', c5, c6⟩ | ⟨c1, c2, c3, c4, p', c5, c6⟩
    · exact absurd q1 HP.out
    · obtain ⟨d, hd⟩ : ∃ d, c + 1 = d := ⟨_, rfl⟩
      rw [hd] at c4 c6
      have hwc : IntKind.wrap .i64 ((c : Int) + 1) = (d : Int) := by rw [wrap_small _ (by omega) (by omega)]; omega
      have hlt : (c : Int) < (b : Int) := by omega
      have P3 : Hid (Piece n a c) := c3
      have I4 : Hid (InS n d b) := c4
      have A6 : Hid (EA n d p') := c6
      have C5 : Hid (p < p' ∧ c + 1 = d ∧ a ≤ c ∧ c < b) := ⟨c5, hd, c2, c1⟩
      clear c1 c2 c3 c4 c5 c6 hd
      go_wp2_with first
        | (have hx1 := X1.out; clear hx1; go_at_call 31; have hih := ih I4.out A6.out HB.out (by have := HM.out; have := C5.out; have := A6.out.1; omega) X1.out W1.out (by have := L1.out; have := HL.out; simp; omega); (with_reducible refine hih.mono ?_); clear hih; rintro e w2 ⟨v2, R2, rfl, k1, k2, k3, k4, k5⟩; have X2 : Hid (RA base w2 v2 (R ++ R1 ++ R2)) := k1; have V2 : Hid (Cov (d : Int) (b : Int) R2) := k2; have L2 : Hid (R2.length ≤ m) := k3; have B2 : Hid (Below base w w2) := B1.out.trans k4; have W2 : Hid (base ≤ w2.heap.size) := k5; clear k1 k2 k3 k4 k5)
        | (go_at_call 31; have hih := addRows_one P3.out H.out HW.out (by have := HL.out; omega); (with_reducible refine hih.mono ?_); clear hih; rintro e w1 ⟨v1, R1, rfl, k1, k2, k3, k4, k5⟩; have X1 : Hid (RA base w1 v1 (R ++ R1)) := k1; have V1 : Hid (Cov (a : Int) (c : Int) R1) := k2; have L1 : Hid (R1.length ≤ 1) := k3; have B1 : Hid (Below base w w1) := k4; have W1 : Hid (base ≤ w1.heap.size) := k5; clear k1 k2 k3 k4 k5)
      go_ret
      have e1 := C5.out
      refine ⟨_, R1 ++ R2, rfl, by rw [← List.append_assoc]; exact X2.out, V1.out.app (m := (c : Int)) (by rw [show (c : Int) + 1 = (d : Int) by omega]; exact V2.out) (by omega) (by omega), by have := L1.out; have := L2.out; simp; omega, B2.out, W2.out⟩
    · obtain ⟨d, hd⟩ : ∃ d, c + 1 = d := ⟨_, rfl⟩
      rw [hd] at c3
      have hwc : IntKind.wrap .i64 ((c : Int) + 1) = (d : Int) := by rw [wrap_small _ (by omega) (by omega)]; omega
      have hlt : (c : Int) < (b : Int) := by omega
      have P3 : Hid (Piece n d b) := c3
      have I4 : Hid (InS n a c) := c4
      have A6 : Hid (EB n c p') := c6
      have C5 : Hid (q < p' ∧ c + 1 = d ∧ a ≤ c ∧ c < b) := ⟨c5, hd, c2, c1⟩
      clear c1 c2 c3 c4 c5 c6 hd
      go_wp2_with first
        | (have hx1 := X1.out; clear hx1; go_at_call 31; have hih := addRows_one P3.out X1.out W1.out (by have := L1.out; have := HL.out; simp; omega); (with_reducible refine hih.mono ?_); clear hih; rintro e w2 ⟨v2, R2, rfl, k1, k2, k3, k4, k5⟩; have X2 : Hid (RA base w2 v2 (R ++ R1 ++ R2)) := k1; have V2 : Hid (Cov (d : Int) (b : Int) R2) := k2; have L2 : Hid (R2.length ≤ 1) := k3; have B2 : Hid (Below base w w2) := B1.out.trans k4; have W2 : Hid (base ≤ w2.heap.size) := k5; clear k1 k2 k3 k4 k5)
        | (go_at_call 31; have hih := ih I4.out HA.out A6.out (by have := HM.out; have := C5.out; have := A6.out.1; omega) H.out HW.out (by have := HL.out; omega); (with_reducible refine hih.mono ?_); clear hih; rintro e w1 ⟨v1, R1, rfl, k1, k2, k3, k4, k5⟩; have X1 : Hid (RA base w1 v1 (R ++ R1)) := k1; have V1 : Hid (Cov (a : Int) (c : Int) R1) := k2; have L1 : Hid (R1.length ≤ m) := k3; have B1 : Hid (Below base w w1) := k4; have W1 : Hid (base ≤ w1.heap.size) := k5; clear k1 k2 k3 k4 k5)
      go_ret
      have e1 := C5.out
      refine ⟨_, R1 ++ R2, rfl, by rw [← List.append_assoc]; exact X2.out, V1.out.app (m := (c : Int)) (by rw [show (c : Int) + 1 = (d : Int) by omega]; exact V2.out) (by omega) (by omega), by have := L1.out; have := L2.out; simp; omega, B2.out, W2.out⟩

theorem addRows_any {n x y base : Nat} (hsp : Spn n x y) {lo hi : Int} (h1 : (x : Int) ≤ lo) (h2 : hi ≤ (y : Int)) {w : World} {v : Value} {R : List Rw} (h : RA base w v R) (hb : base ≤ w.heap.size) (hl : R.length ≤ 90) :
    Calls Tryd.prog 31 #[v, .int .i64 lo, .int .i64 hi] w fun e w' => ∃ v' R', e = .returned v' ∧ RA base w' v' (R ++ R') ∧ Cov lo hi R' ∧ R'.length ≤ 2 * n - 1 ∧ Below base w w' ∧ base ≤ w'.heap.size := by
  by_cases hlt : hi < lo
  · refine (addRows_none v lo hi hlt w).mono ?_
    rintro e w' ⟨rfl, rfl⟩
    exact ⟨v, [], rfl, by simpa using h, Cov.none hlt, Nat.zero_le _, Below.refl _ _, hb⟩
  · obtain ⟨a, rfl⟩ : ∃ a : Nat, lo = (a : Int) := ⟨lo.toNat, by omega⟩
    obtain ⟨b, rfl⟩ : ∃ b : Nat, hi = (b : Int) := ⟨hi.toNat, by omega⟩
    have hs : InS n a b := ⟨x, y, hsp, by omega, by omega, by omega⟩
    have hn := hs.n
    exact addRows_c (2 * n - 1) (p := 0) (q := 0) hs ⟨by omega, by simp; omega⟩ ⟨by omega, by simp; omega⟩ (by omega) h hb (by omega)
end Go.Proofs.YtihmnibopeljaaaDoor
