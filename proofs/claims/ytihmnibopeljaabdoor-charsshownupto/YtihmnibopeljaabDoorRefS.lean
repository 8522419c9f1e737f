/-
  The document's own answer: plain, digit, hex.
-/
import Derived.Test.YtihmnibopeljaabDoorRef6
import Derived.Test.YtihmnibopeljaabDoorRefN
namespace Go.Proofs.YtihmnibopeljaabDoor
open Go Go.RowKit
attribute [local go_sem] ext_cell

set_option maxHeartbeats 4000000 in
set_option maxRecDepth 1000000 in
theorem rPlain_c (c : Int) (w : World) : Calls Tryd.prog 16 #[.int .i64 c] w fun e w' => e = .returned (.bool (plainI c)) ∧ w' = w := by
  by_cases h0 : 32 ≤ c
  · by_cases h1 : c ≤ 126
    · have hc : Hid (plainI c = true) := by show plainI c = true; simp [plainI]; omega
      go_enter Tryd.func16, Tryd.ntmps16
      go_wp2
      go_ret
      exact ⟨by rw [hc.out]; rfl, rfl⟩
    · by_cases h2 : 159 < c
      · have hc : Hid (plainI c = true) := by show plainI c = true; simp [plainI]; omega
        go_enter Tryd.func16, Tryd.ntmps16
        go_wp2
        go_ret
        exact ⟨by rw [hc.out]; rfl, rfl⟩
      · have hc : Hid (plainI c = false) := by show plainI c = false; simp [plainI]; omega
        go_enter Tryd.func16, Tryd.ntmps16
        go_wp2
        go_ret
        exact ⟨by rw [hc.out]; rfl, rfl⟩
  · have h2 : ¬ 159 < c := by omega
    have hc : Hid (plainI c = false) := by show plainI c = false; simp [plainI]; omega
    go_enter Tryd.func16, Tryd.ntmps16
    go_wp2
    go_ret
    exact ⟨by rw [hc.out]; rfl, rfl⟩

theorem hexv_none : ∀ b : Fin 256, (∀ j : Fin 16, (hexd j.val).toNat ≠ b.val) → hexv (b.val : Int) = -1 := by decide +kernel
set_option maxHeartbeats 4000000 in
set_option maxRecDepth 1000000 in
theorem rDigit_c (b : Nat) (hb : b < 256) (w : World) : Calls Tryd.prog 28 #[.int .u8 (b : Int)] w fun e w' => e = .returned (.int .i64 (hexv (b : Int))) ∧ w' = w := by
  go_enter Tryd.func28, Tryd.ntmps28
  go_wp2
  go_loopw [3] (fun i wr => ∃ k : Nat, k ≤ 16 ∧ i = .int .i64 (k : Int) ∧ (∀ j, j < k → (hexd j).toNat ≠ b) ∧ wr = w) (fun i _ => 16 - (intOf i).toNat)
  case atStart => exact ⟨0, by omega, rfl, fun j hj => by omega, rfl⟩
  case round =>
    obtain ⟨k, hk, rfl, hn, hw⟩ := hrel
    subst hw
    have N : Hid (∀ j, j < k → (hexd j).toNat ≠ b) := hn
    clear hn
    by_cases hlt : k < 16
    · have edx : (⟨#[48, 49, 50, 51, 52, 53, 54, 55, 56, 57, 97, 98, 99, 100, 101, 102]⟩ : ByteArray)[k]'(hlt) = hexd k := digs_at hlt
      have hs := (hexd_small ⟨k, hlt⟩).2
      simp only at hs
      obtain ⟨d, hd⟩ : ∃ d, hexd k = d := ⟨_, rfl⟩
      rw [hd] at edx hs
      have HS : Hid (hexv (d.toNat : Int) = (k : Int)) := hs
      have HD : Hid (hexd k = d) := hd
      clear hs hd
      have x0 : (0 : Int) ≤ (k : Int) := by omega
      have x1 : (k : Int) < 16 := by omega
      have hwr : IntKind.wrap .i64 ((k : Int) + 1) = (k : Int) + 1 := wrap_small _ (by omega) (by omega)
      by_cases he : d.toNat = b
      · have bq : ((d.toNat : Int) == (b : Int)) = true := by rw [he]; simp
        go_wp2
        go_ret
        have := HS.out
        rw [he] at this
        exact ⟨by rw [this]; rfl, rfl⟩
      · have bq : ((d.toNat : Int) == (b : Int)) = false := by simp; omega
        go_wp2
        go_roundw
        case rel =>
          refine ⟨k + 1, by omega, by go_num, fun j hj => ?_, by first | rfl | trivial⟩
          by_cases e : j < k
          · exact N.out j e
          · obtain rfl : j = k := by omega
            rw [HD.out]; exact he
        case measure => simp only [intOf]; omega
    · obtain rfl : k = 16 := by omega
      have x1 : ¬ ((16 : Nat) : Int) < 16 := by omega
      have H : Hid (hexv (b : Int) = -1) := hexv_none ⟨b, hb⟩ (fun j => N.out j.val j.isLt)
      go_wp2
      go_ret
      exact ⟨by rw [H.out]; rfl, rfl⟩

/-- What two digits tell. -/
def hxErr (s : ByteArray) (p : Nat) : Int :=
  if s.size ≤ p + 2 then 31 else if hexv (bt s (p + 2) : Int) < 0 then 32 else if s.size ≤ p + 3 then 31 else if hexv (bt s (p + 3) : Int) < 0 then 32 else 0
def hxPl (s : ByteArray) (p : Nat) : Int :=
  if s.size ≤ p + 2 then (s.size : Int) else if hexv (bt s (p + 2) : Int) < 0 then (p : Int) else if s.size ≤ p + 3 then (s.size : Int) else if hexv (bt s (p + 3) : Int) < 0 then (p : Int) else 0
def hxB (s : ByteArray) (p : Nat) : UInt8 := if hxErr s p = 0 then byteS (hexv (bt s (p + 2) : Int)) (hexv (bt s (p + 3) : Int)) else 0

set_option maxHeartbeats 4000000 in
set_option maxRecDepth 1000000 in
theorem rHex_c (s : ByteArray) (p : Nat) (w : World) (hp : p < s.size) (hs : s.size ≤ 1048576) : Calls Tryd.prog 17 #[.string s, .int .i64 (p : Int)] w fun e w' => e = .returned (.tuple #[.int .u8 ((hxB s p).toNat : Int), .int .i64 (hxErr s p), .int .i64 (hxPl s p)]) ∧ w' = w := by
  have w2 : IntKind.wrap .i64 ((p : Int) + 2) = ((p + 2 : Nat) : Int) := by rw [wrap_small _ (by omega) (by omega)]; omega
  have w4 : IntKind.wrap .i64 ((p : Int) + 4) = ((p + 4 : Nat) : Int) := by rw [wrap_small _ (by omega) (by omega)]; omega
  obtain ⟨p2, hp2⟩ : ∃ x, p + 2 = x := ⟨_, rfl⟩
  obtain ⟨p3, hp3⟩ : ∃ x, p + 3 = x := ⟨_, rfl⟩
  obtain ⟨p4, hp4⟩ : ∃ x, p + 4 = x := ⟨_, rfl⟩
  rw [hp2] at w2
  rw [hp4] at w4
  have v1 : IntKind.wrap .i64 ((p2 : Int) + 1) = (p3 : Int) := by rw [wrap_small _ (by omega) (by omega)]; omega
  have v2 : IntKind.wrap .i64 ((p3 : Int) + 1) = (p4 : Int) := by rw [wrap_small _ (by omega) (by omega)]; omega
  have l1 : (p2 : Int) < (p4 : Int) := by omega
  have l2 : (p3 : Int) < (p4 : Int) := by omega
  have l3 : ¬ (p4 : Int) < (p4 : Int) := by omega
  have E : Hid (hxErr s p = if s.size ≤ p2 then 31 else if hexv (bt s p2 : Int) < 0 then 32 else if s.size ≤ p3 then 31 else if hexv (bt s p3 : Int) < 0 then 32 else 0) := by show hxErr s p = _; unfold hxErr; rw [hp2, hp3]
  have P : Hid (hxPl s p = if s.size ≤ p2 then (s.size : Int) else if hexv (bt s p2 : Int) < 0 then (p : Int) else if s.size ≤ p3 then (s.size : Int) else if hexv (bt s p3 : Int) < 0 then (p : Int) else 0) := by show hxPl s p = _; unfold hxPl; rw [hp2, hp3]
  have Bq : Hid (hxB s p = if hxErr s p = 0 then byteS (hexv (bt s p2 : Int)) (hexv (bt s p3 : Int)) else 0) := by show hxB s p = _; unfold hxB; rw [hp2, hp3]
  have hpp : p < p2 ∧ p2 < p3 := by omega
  clear hp2 hp3 hp4
  by_cases s2 : s.size ≤ p2
  · have e1 : hxErr s p = 31 := by rw [E.out, if_pos s2]
    have e2 : hxPl s p = (s.size : Int) := by rw [P.out, if_pos s2]
    have e3 : hxB s p = 0 := by rw [Bq.out, e1]; rfl
    have q1 : (s.size : Int) ≤ (p2 : Int) := by omega
    rw [e1, e2, e3]
    go_enter Tryd.func17, Tryd.ntmps17
    go_wp2
    refine wp_loop_unr 1 ?_
    refine unr_succ ?_
    go_wp2
    go_ret3
    exact ⟨rfl, rfl⟩
  have hl2 : p2 < s.size := by omega
  have g2 := bt_get s p2 hl2
  have hb2 := bt_lt s p2
  obtain ⟨b2, hb2e⟩ : ∃ b, bt s p2 = b := ⟨_, rfl⟩
  rw [hb2e] at g2 hb2
  have hd2 := rDigit_c b2 hb2
  have r2 := hexv_range (b2 : Int)
  obtain ⟨d2, hd2e⟩ : ∃ d, hexv (b2 : Int) = d := ⟨_, rfl⟩
  rw [hd2e] at hd2 r2
  have q1 : ¬ (s.size : Int) ≤ (p2 : Int) := by omega
  have q0 : (0 : Int) ≤ (p2 : Int) := by omega
  have q2 : (p2 : Int) < (s.size : Int) := by omega
  by_cases n2 : d2 < 0
  · have e1 : hxErr s p = 32 := by rw [E.out, if_neg s2, hb2e, hd2e, if_pos n2]
    have e2 : hxPl s p = (p : Int) := by rw [P.out, if_neg s2, hb2e, hd2e, if_pos n2]
    have e3 : hxB s p = 0 := by rw [Bq.out, e1]; rfl
    rw [e1, e2, e3]
    clear hb2e hd2e e1 e2 e3 s2
    go_enter Tryd.func17, Tryd.ntmps17
    go_wp2
    refine wp_loop_unr 1 ?_
    refine unr_succ ?_
    go_wp2_with (go_at_call 28; (with_reducible refine (hd2 _).mono ?_); rintro e w5 ⟨rfl, h5⟩; subst w5)
    go_ret3
    exact ⟨rfl, rfl⟩
  have u1 : IntKind.wrap .i64 d2 = d2 := wrap_small _ (by omega) (by omega)
  by_cases s3 : s.size ≤ p3
  · have e1 : hxErr s p = 31 := by rw [E.out, if_neg s2, hb2e, hd2e, if_neg n2, if_pos s3]
    have e2 : hxPl s p = (s.size : Int) := by rw [P.out, if_neg s2, hb2e, hd2e, if_neg n2, if_pos s3]
    have e3 : hxB s p = 0 := by rw [Bq.out, e1]; rfl
    have q3 : (s.size : Int) ≤ (p3 : Int) := by omega
    rw [e1, e2, e3]
    clear hb2e hd2e e1 e2 e3 s2 s3
    go_enter Tryd.func17, Tryd.ntmps17
    go_wp2
    refine wp_loop_unr 2 ?_
    refine unr_succ ?_
    go_wp2_with (go_at_call 28; (with_reducible refine (hd2 _).mono ?_); rintro e w5 ⟨rfl, h5⟩; subst w5)
    refine unr_succ ?_
    go_wp2
    go_ret3
    exact ⟨rfl, rfl⟩
  have hl3 : p3 < s.size := by omega
  have g3 := bt_get s p3 hl3
  have hb3 := bt_lt s p3
  obtain ⟨b3, hb3e⟩ : ∃ b, bt s p3 = b := ⟨_, rfl⟩
  rw [hb3e] at g3 hb3
  have hd3 := rDigit_c b3 hb3
  have r3 := hexv_range (b3 : Int)
  obtain ⟨d3, hd3e⟩ : ∃ d, hexv (b3 : Int) = d := ⟨_, rfl⟩
  rw [hd3e] at hd3 r3
  have q3 : ¬ (s.size : Int) ≤ (p3 : Int) := by omega
  have q4 : (0 : Int) ≤ (p3 : Int) := by omega
  have q5 : (p3 : Int) < (s.size : Int) := by omega
  by_cases n3 : d3 < 0
  · have e1 : hxErr s p = 32 := by rw [E.out, if_neg s2, hb2e, hd2e, if_neg n2, if_neg s3, hb3e, hd3e, if_pos n3]
    have e2 : hxPl s p = (p : Int) := by rw [P.out, if_neg s2, hb2e, hd2e, if_neg n2, if_neg s3, hb3e, hd3e, if_pos n3]
    have e3 : hxB s p = 0 := by rw [Bq.out, e1]; rfl
    rw [e1, e2, e3]
    clear hb2e hd2e hb3e hd3e e1 e2 e3 s2 s3
    go_enter Tryd.func17, Tryd.ntmps17
    go_wp2
    refine wp_loop_unr 2 ?_
    refine unr_succ ?_
    go_wp2_with (go_at_call 28; (with_reducible refine (hd2 _).mono ?_); rintro e w5 ⟨rfl, h5⟩; subst w5)
    refine unr_succ ?_
    go_wp2_with (go_at_call 28; (with_reducible refine (hd3 _).mono ?_); rintro e w5 ⟨rfl, h5⟩; subst w5)
    go_ret3
    exact ⟨rfl, rfl⟩
  · have e1 : hxErr s p = 0 := by rw [E.out, if_neg s2, hb2e, hd2e, if_neg n2, if_neg s3, hb3e, hd3e, if_neg n3]
    have e2 : hxPl s p = 0 := by rw [P.out, if_neg s2, hb2e, hd2e, if_neg n2, if_neg s3, hb3e, hd3e, if_neg n3]
    have e3 : hxB s p = byteS d2 d3 := by rw [Bq.out, e1, if_pos rfl, hb2e, hb3e, hd2e, hd3e]
    have hbv : ((byteS d2 d3).toNat : Int) = 16 * d2 + d3 := by
      unfold byteS
      rw [UInt8.toNat_ofNat']
      omega
    rw [e1, e2, e3, hbv]
    have u2 : IntKind.wrap .i64 (16 * d2) = 16 * d2 := wrap_small _ (by omega) (by omega)
    have u3 : IntKind.wrap .i64 (16 * d2 + d3) = 16 * d2 + d3 := wrap_small _ (by omega) (by omega)
    have u4 : IntKind.wrap .u8 (16 * d2 + d3) = 16 * d2 + d3 := by rw [IntKind.wrap_u8]; omega
    clear hb2e hd2e hb3e hd3e e1 e2 e3 s2 s3 hbv
    go_enter Tryd.func17, Tryd.ntmps17
    go_wp2
    refine wp_loop_unr 3 ?_
    refine unr_succ ?_
    go_wp2_with (go_at_call 28; (with_reducible refine (hd2 _).mono ?_); rintro e w5 ⟨rfl, h5⟩; subst w5)
    refine unr_succ ?_
    go_wp2_with (go_at_call 28; (with_reducible refine (hd3 _).mono ?_); rintro e w5 ⟨rfl, h5⟩; subst w5)
    refine unr_succ ?_
    go_wp2
    go_ret3
    exact ⟨rfl, rfl⟩
end Go.Proofs.YtihmnibopeljaabDoor
