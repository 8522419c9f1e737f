/-
  cutAt: contract. (Made by wip/mkcut.py.)
-/
import Derived.Test.YtihmnibopeljaaaDoorCut5
namespace Go.Proofs.YtihmnibopeljaaaDoor
open Go Go.RowKit

set_option maxHeartbeats 8000000 in
set_option maxRecDepth 1000000 in
theorem cutAt_c {n a b : Nat} (hs : InS n a b) (w : World) : Calls Tryd.prog 42 #[.int .i64 (a : Int), .int .i64 (b : Int)] w fun e w' => ∃ c : Nat, e = .returned (.int .i64 (c : Int)) ∧ CutP n a b c ∧ w' = w := by
  have hn := hs.n
  have hr : Hid (Lib.runeLen (a : Int) = (n : Int)) := (enc_byt (hs.sub (Nat.le_refl _) (Nat.le_refl _) hn.2.2.1)).2.2.1
  have hwa : IntKind.wrap .i32 (a : Int) = (a : Int) := by rw [IntKind.wrap_i32]; omega
  obtain ⟨hn1, hn4, hab, hb⟩ := hn
  clear hs
  go_enter Tryd.func42, Tryd.ntmps42
  go_wp2
  go_loopw [5] (fun i wr => ∃ k : Nat, i = .int .i64 (k : Int) ∧ 1 ≤ k ∧ k ≤ n ∧ a % 64 ^ (k - 1) = 0 ∧ b % 64 ^ (k - 1) = 64 ^ (k - 1) - 1 ∧ wr = w) (fun i _ => n - (intOf i).toNat)
  case atStart => exact ⟨1, rfl, by omega, by omega, by simp; omega, by simp; omega, by first | rfl | trivial⟩
  case round =>
    obtain ⟨k, rfl, hk1, hkn, ha, hb, rfl⟩ := hrel
    by_cases hlt : k < n
    · have hk : k = 1 ∨ k = 2 ∨ k = 3 := by omega
      rcases hk with rfl | rfl | rfl
      · -- 1
        obtain ⟨o1, n1, x1⟩ := bits_6 a (by omega)
        obtain ⟨o2, n2, x2⟩ := bits_6 b (by omega)
        have hw1 : IntKind.wrap .i64 ((1 : Int) + 1) = 2 := by decide +kernel
        simp only [Nat.reducePow, Nat.reduceSub] at ha hb
        have hlt' : (1 : Int) < (n : Int) := by omega
        by_cases q1 : a / 64 = b / 64
        · rw [← q1] at o2
          clear n1 n2 x1 x2
          go_wp2_with (go_at_call 49; refine (Tryd.utf8_RuneLen _ _).mono ?_; rw [hr.out]; rintro e w' ⟨rfl, h5⟩; subst w')
          go_ret
          refine ⟨_, rfl, .inl ⟨rfl, 1, by omega, by omega, fun _ => ?_, ?_, ?_⟩, rfl⟩ <;> simp only [Nat.reducePow, Nat.reduceSub] <;> omega
        · have hq : a / 64 < b / 64 := by omega
          obtain ⟨A, hA⟩ : ∃ A : Int, ((a / 64 * 64 + 63 : Nat) : Int) = A := ⟨_, rfl⟩
          obtain ⟨B, hB⟩ : ∃ B : Int, ((b / 64 * 64 + 63 : Nat) : Int) = B := ⟨_, rfl⟩
          rw [hA] at o1
          rw [hB] at o2
          have hAB : ¬ A = B := by omega
          by_cases q2 : a % 64 = 0
          · rw [q2] at n1
            have n1' : bits .and .i64 (a : Int) 63 = 0 := n1
            clear n1
            by_cases q3 : b % 64 = 63
            · rw [q3] at n2
              have n2' : bits .and .i64 (b : Int) 63 = 63 := n2
              clear n2 x1 x2 hA hB
              go_wp2_with (go_at_call 49; refine (Tryd.utf8_RuneLen _ _).mono ?_; rw [hr.out]; rintro e w' ⟨rfl, h5⟩; subst w')
              go_roundw
              case rel => exact ⟨2, by go_num, by omega, by omega, by simp only [Nat.reducePow, Nat.reduceSub]; omega, by simp only [Nat.reducePow, Nat.reduceSub]; omega, by first | rfl | trivial⟩
              case measure => simp only [intOf]; omega
            · obtain ⟨K, hK⟩ : ∃ K : Int, ((b % 64 : Nat) : Int) = K := ⟨_, rfl⟩
              rw [hK] at n2
              have hK' : ¬ K = 63 := by omega
              obtain ⟨X, hX⟩ : ∃ X : Int, ((b / 64 * 64 : Nat) : Int) = X := ⟨_, rfl⟩
              rw [hX] at x2
              have hwx : IntKind.wrap .i64 (X - 1) = X - 1 := wrap_small _ (by omega) (by omega)
              have HX : Hid (X - 1 = ((b / 64 * 64 - 1 : Nat) : Int)) := by show X - 1 = ((b / 64 * 64 - 1 : Nat) : Int); omega
              have Q1 : Hid (¬ a / 64 = b / 64 ∧ a % 64 = 0 ∧ ¬ b % 64 = 63) := ⟨q1, q2, q3⟩
              clear x1 hA hB hX hK q1 q3
              go_wp2_with (go_at_call 49; refine (Tryd.utf8_RuneLen _ _).mono ?_; rw [hr.out]; rintro e w' ⟨rfl, h5⟩; subst w')
              go_ret
              rw [HX.out]
              refine ⟨_, rfl, .inr (.inr ⟨1, by omega, by omega, ?_, ?_, ?_, ?_, rfl⟩), rfl⟩ <;> simp only [Nat.reducePow, Nat.reduceSub] <;> (have := Q1.out; omega)
          · obtain ⟨M, hM⟩ : ∃ M : Int, ((a % 64 : Nat) : Int) = M := ⟨_, rfl⟩
            rw [hM] at n1
            have hM' : ¬ M = 0 := by omega
            have HA : Hid (((a / 64 * 64 + 63 : Nat) : Int) = A) := hA
            clear x1 x2 n2 hA hB hM
            go_wp2_with (go_at_call 49; refine (Tryd.utf8_RuneLen _ _).mono ?_; rw [hr.out]; rintro e w' ⟨rfl, h5⟩; subst w')
            go_ret
            rw [← HA.out]
            refine ⟨_, rfl, .inr (.inl ⟨1, by omega, by omega, ?_, ?_, ?_, rfl⟩), rfl⟩ <;> simp only [Nat.reducePow, Nat.reduceSub] <;> omega
      · -- 2
        obtain ⟨o1, n1, x1⟩ := bits_12 a (by omega)
        obtain ⟨o2, n2, x2⟩ := bits_12 b (by omega)
        have hw1 : IntKind.wrap .i64 ((2 : Int) + 1) = 3 := by decide +kernel
        simp only [Nat.reducePow, Nat.reduceSub] at ha hb
        have hlt' : (2 : Int) < (n : Int) := by omega
        by_cases q1 : a / 4096 = b / 4096
        · rw [← q1] at o2
          clear n1 n2 x1 x2
          go_wp2_with (go_at_call 49; refine (Tryd.utf8_RuneLen _ _).mono ?_; rw [hr.out]; rintro e w' ⟨rfl, h5⟩; subst w')
          go_ret
          refine ⟨_, rfl, .inl ⟨rfl, 2, by omega, by omega, fun _ => ?_, ?_, ?_⟩, rfl⟩ <;> simp only [Nat.reducePow, Nat.reduceSub] <;> omega
        · have hq : a / 4096 < b / 4096 := by omega
          obtain ⟨A, hA⟩ : ∃ A : Int, ((a / 4096 * 4096 + 4095 : Nat) : Int) = A := ⟨_, rfl⟩
          obtain ⟨B, hB⟩ : ∃ B : Int, ((b / 4096 * 4096 + 4095 : Nat) : Int) = B := ⟨_, rfl⟩
          rw [hA] at o1
          rw [hB] at o2
          have hAB : ¬ A = B := by omega
          by_cases q2 : a % 4096 = 0
          · rw [q2] at n1
            have n1' : bits .and .i64 (a : Int) 4095 = 0 := n1
            clear n1
            by_cases q3 : b % 4096 = 4095
            · rw [q3] at n2
              have n2' : bits .and .i64 (b : Int) 4095 = 4095 := n2
              clear n2 x1 x2 hA hB
              go_wp2_with (go_at_call 49; refine (Tryd.utf8_RuneLen _ _).mono ?_; rw [hr.out]; rintro e w' ⟨rfl, h5⟩; subst w')
              go_roundw
              case rel => exact ⟨3, by go_num, by omega, by omega, by simp only [Nat.reducePow, Nat.reduceSub]; omega, by simp only [Nat.reducePow, Nat.reduceSub]; omega, by first | rfl | trivial⟩
              case measure => simp only [intOf]; omega
            · obtain ⟨K, hK⟩ : ∃ K : Int, ((b % 4096 : Nat) : Int) = K := ⟨_, rfl⟩
              rw [hK] at n2
              have hK' : ¬ K = 4095 := by omega
              obtain ⟨X, hX⟩ : ∃ X : Int, ((b / 4096 * 4096 : Nat) : Int) = X := ⟨_, rfl⟩
              rw [hX] at x2
              have hwx : IntKind.wrap .i64 (X - 1) = X - 1 := wrap_small _ (by omega) (by omega)
              have HX : Hid (X - 1 = ((b / 4096 * 4096 - 1 : Nat) : Int)) := by show X - 1 = ((b / 4096 * 4096 - 1 : Nat) : Int); omega
              have Q1 : Hid (¬ a / 4096 = b / 4096 ∧ a % 4096 = 0 ∧ ¬ b % 4096 = 4095) := ⟨q1, q2, q3⟩
              clear x1 hA hB hX hK q1 q3
              go_wp2_with (go_at_call 49; refine (Tryd.utf8_RuneLen _ _).mono ?_; rw [hr.out]; rintro e w' ⟨rfl, h5⟩; subst w')
              go_ret
              rw [HX.out]
              refine ⟨_, rfl, .inr (.inr ⟨2, by omega, by omega, ?_, ?_, ?_, ?_, rfl⟩), rfl⟩ <;> simp only [Nat.reducePow, Nat.reduceSub] <;> (have := Q1.out; omega)
          · obtain ⟨M, hM⟩ : ∃ M : Int, ((a % 4096 : Nat) : Int) = M := ⟨_, rfl⟩
            rw [hM] at n1
            have hM' : ¬ M = 0 := by omega
            have HA : Hid (((a / 4096 * 4096 + 4095 : Nat) : Int) = A) := hA
            clear x1 x2 n2 hA hB hM
            go_wp2_with (go_at_call 49; refine (Tryd.utf8_RuneLen _ _).mono ?_; rw [hr.out]; rintro e w' ⟨rfl, h5⟩; subst w')
            go_ret
            rw [← HA.out]
            refine ⟨_, rfl, .inr (.inl ⟨2, by omega, by omega, ?_, ?_, ?_, rfl⟩), rfl⟩ <;> simp only [Nat.reducePow, Nat.reduceSub] <;> omega
      · -- 3
        obtain ⟨o1, n1, x1⟩ := bits_18 a (by omega)
        obtain ⟨o2, n2, x2⟩ := bits_18 b (by omega)
        have hw1 : IntKind.wrap .i64 ((3 : Int) + 1) = 4 := by decide +kernel
        simp only [Nat.reducePow, Nat.reduceSub] at ha hb
        have hlt' : (3 : Int) < (n : Int) := by omega
        by_cases q1 : a / 262144 = b / 262144
        · rw [← q1] at o2
          clear n1 n2 x1 x2
          go_wp2_with (go_at_call 49; refine (Tryd.utf8_RuneLen _ _).mono ?_; rw [hr.out]; rintro e w' ⟨rfl, h5⟩; subst w')
          go_ret
          refine ⟨_, rfl, .inl ⟨rfl, 3, by omega, by omega, fun _ => ?_, ?_, ?_⟩, rfl⟩ <;> simp only [Nat.reducePow, Nat.reduceSub] <;> omega
        · have hq : a / 262144 < b / 262144 := by omega
          obtain ⟨A, hA⟩ : ∃ A : Int, ((a / 262144 * 262144 + 262143 : Nat) : Int) = A := ⟨_, rfl⟩
          obtain ⟨B, hB⟩ : ∃ B : Int, ((b / 262144 * 262144 + 262143 : Nat) : Int) = B := ⟨_, rfl⟩
          rw [hA] at o1
          rw [hB] at o2
          have hAB : ¬ A = B := by omega
          by_cases q2 : a % 262144 = 0
          · rw [q2] at n1
            have n1' : bits .and .i64 (a : Int) 262143 = 0 := n1
            clear n1
            by_cases q3 : b % 262144 = 262143
            · rw [q3] at n2
              have n2' : bits .and .i64 (b : Int) 262143 = 262143 := n2
              clear n2 x1 x2 hA hB
              go_wp2_with (go_at_call 49; refine (Tryd.utf8_RuneLen _ _).mono ?_; rw [hr.out]; rintro e w' ⟨rfl, h5⟩; subst w')
              go_roundw
              case rel => exact ⟨4, by go_num, by omega, by omega, by simp only [Nat.reducePow, Nat.reduceSub]; omega, by simp only [Nat.reducePow, Nat.reduceSub]; omega, by first | rfl | trivial⟩
              case measure => simp only [intOf]; omega
            · obtain ⟨K, hK⟩ : ∃ K : Int, ((b % 262144 : Nat) : Int) = K := ⟨_, rfl⟩
              rw [hK] at n2
              have hK' : ¬ K = 262143 := by omega
              obtain ⟨X, hX⟩ : ∃ X : Int, ((b / 262144 * 262144 : Nat) : Int) = X := ⟨_, rfl⟩
              rw [hX] at x2
              have hwx : IntKind.wrap .i64 (X - 1) = X - 1 := wrap_small _ (by omega) (by omega)
              have HX : Hid (X - 1 = ((b / 262144 * 262144 - 1 : Nat) : Int)) := by show X - 1 = ((b / 262144 * 262144 - 1 : Nat) : Int); omega
              have Q1 : Hid (¬ a / 262144 = b / 262144 ∧ a % 262144 = 0 ∧ ¬ b % 262144 = 262143) := ⟨q1, q2, q3⟩
              clear x1 hA hB hX hK q1 q3
              go_wp2_with (go_at_call 49; refine (Tryd.utf8_RuneLen _ _).mono ?_; rw [hr.out]; rintro e w' ⟨rfl, h5⟩; subst w')
              go_ret
              rw [HX.out]
              refine ⟨_, rfl, .inr (.inr ⟨3, by omega, by omega, ?_, ?_, ?_, ?_, rfl⟩), rfl⟩ <;> simp only [Nat.reducePow, Nat.reduceSub] <;> (have := Q1.out; omega)
          · obtain ⟨M, hM⟩ : ∃ M : Int, ((a % 262144 : Nat) : Int) = M := ⟨_, rfl⟩
            rw [hM] at n1
            have hM' : ¬ M = 0 := by omega
            have HA : Hid (((a / 262144 * 262144 + 262143 : Nat) : Int) = A) := hA
            clear x1 x2 n2 hA hB hM
            go_wp2_with (go_at_call 49; refine (Tryd.utf8_RuneLen _ _).mono ?_; rw [hr.out]; rintro e w' ⟨rfl, h5⟩; subst w')
            go_ret
            rw [← HA.out]
            refine ⟨_, rfl, .inr (.inl ⟨3, by omega, by omega, ?_, ?_, ?_, rfl⟩), rfl⟩ <;> simp only [Nat.reducePow, Nat.reduceSub] <;> omega
    · obtain rfl : k = n := by omega
      have i3 : ¬ (k : Int) < (k : Int) := by omega
      have HA : Hid (a % 64 ^ (k - 1) = 0 ∧ b % 64 ^ (k - 1) = 64 ^ (k - 1) - 1) := ⟨ha, hb⟩
      clear ha hb
      go_wp2_with (go_at_call 49; refine (Tryd.utf8_RuneLen _ _).mono ?_; rw [hr.out]; rintro e w' ⟨rfl, h5⟩; subst w')
      go_ret
      exact ⟨_, rfl, .inl ⟨rfl, k, hk1, Nat.le_refl _, fun h => absurd h (Nat.lt_irrefl _), HA.out.1, HA.out.2⟩, rfl⟩
end Go.Proofs.YtihmnibopeljaaaDoor
