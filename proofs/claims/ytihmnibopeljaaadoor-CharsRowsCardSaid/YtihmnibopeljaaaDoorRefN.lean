/-
  The document's own answer: Next.
-/
import Derived.Test.YtihmnibopeljaaaDoorRefX
import Derived.Test.YtihmnibopeljaaaDoorDec2
namespace Go.Proofs.YtihmnibopeljaaaDoor
open Go Go.RowKit
attribute [local go_sem] ext_cell

theorem ch_of_bad {s : ByteArray} {p : Nat} (h : bad s p = true) : ch s p = -1 ∧ wd s p = 1 := ⟨(ch_bad h).1, (ch_bad h).2.1⟩
theorem ext_toList (s : ByteArray) (p n : Nat) : (s.extract p (p + n)).toList = sl s p n := by rw [Lib.toList_data, ext_sl]

set_option maxHeartbeats 8000000 in
set_option maxRecDepth 1000000 in
theorem rNext_c (s : ByteArray) (p : Nat) (w : World) (hp : p < s.size) (hs : s.size ≤ 1099511627776) :
    Calls Tryd.prog 25 #[.string s, .int .i64 (p : Int)] w fun e w' => e = .returned (.tuple #[.int .i64 (ch s p), .int .i64 (wd s p : Int)]) ∧ Below w.heap.size w w' := by
  have h0 : ¬ (p : Int) < 0 := by omega
  have h1 : ¬ (s.size : Int) ≤ (p : Int) := by omega
  have h2 : (0 : Int) ≤ (p : Int) := by omega
  have h3 : (p : Int) < (s.size : Int) := by omega
  have g0 := bt_get s p hp
  obtain ⟨b0, hb0⟩ : ∃ b, bt s p = b := ⟨_, rfl⟩
  have hbl := bt_lt s p
  rw [hb0] at g0 hbl
  have wb : IntKind.wrap .i64 (b0 : Int) = (b0 : Int) := wrap_small _ (by omega) (by omega)
  have HB : Hid (bt s p = b0) := hb0
  clear hb0
  by_cases k1 : (b0 : Int) < 128
  · have E : Hid (ch s p = (b0 : Int) ∧ wd s p = 1) := by
      show ch s p = (b0 : Int) ∧ wd s p = 1
      have e : Utf8.decode s p = (b0, 1) := by
        rw [dec_eq, HB.out]
        unfold Lib.decodeN
        rw [if_pos (by omega)]
      have hb : bad s p = false := by unfold bad; rw [e]; simp; omega
      exact ⟨by rw [ch_good hb, e], by unfold wd; rw [e]⟩
    go_enter Tryd.func25, Tryd.ntmps25
    go_wp2
    go_ret2
    rw [E.out.1, E.out.2]
    exact ⟨rfl, Below.refl _ _⟩
  by_cases k2 : ¬ ((192 : Int) ≤ (b0 : Int) ∧ (b0 : Int) < 248)
  · have E : Hid (ch s p = -1 ∧ wd s p = 1) := ch_of_bad (bad_lead (by rw [HB.out]; omega))
    have k5 : ¬ ((192 : Int) ≤ (b0 : Int) ∧ (b0 : Int) < 224) := by omega
    have k6 : ¬ ((224 : Int) ≤ (b0 : Int) ∧ (b0 : Int) < 240) := by omega
    have k7 : ¬ ((240 : Int) ≤ (b0 : Int) ∧ (b0 : Int) < 248) := by omega
    by_cases k3 : (b0 : Int) < 192
    · have k4 : ¬ (192 : Int) ≤ (b0 : Int) := by omega
      have k8 : ¬ (224 : Int) ≤ (b0 : Int) := by omega
      have k9 : ¬ (240 : Int) ≤ (b0 : Int) := by omega
      clear k2 k5 k6 k7
      go_enter Tryd.func25, Tryd.ntmps25
      go_wp2
      go_ret2
      rw [E.out.1, E.out.2]
      exact ⟨rfl, Below.refl _ _⟩
    · have j1 : (192 : Int) ≤ (b0 : Int) := by omega
      have j2 : (224 : Int) ≤ (b0 : Int) := by omega
      have j3 : (240 : Int) ≤ (b0 : Int) := by omega
      have j4 : ¬ (b0 : Int) < 224 := by omega
      have j5 : ¬ (b0 : Int) < 240 := by omega
      have j6 : ¬ (b0 : Int) < 248 := by omega
      clear k2 k5 k6 k7
      go_enter Tryd.func25, Tryd.ntmps25
      go_wp2
      go_ret2
      rw [E.out.1, E.out.2]
      exact ⟨rfl, Below.refl _ _⟩
  -- a leading byte
  obtain ⟨n, c0, hLd⟩ : ∃ n c0, Lead b0 n c0 := by
    by_cases q1 : b0 < 224
    · exact ⟨2, _, .inl ⟨rfl, by omega, q1, rfl⟩⟩
    by_cases q2 : b0 < 240
    · exact ⟨3, _, .inr (.inl ⟨rfl, by omega, q2, rfl⟩)⟩
    · exact ⟨4, _, .inr (.inr ⟨rfl, by omega, by omega, rfl⟩)⟩
  have LD : Hid (Lead (bt s p) n c0) := by show Lead (bt s p) n c0; rw [HB.out]; exact hLd
  have hc0 : 0 ≤ c0 ∧ c0 ≤ 31 := by rcases hLd with h | h | h <;> omega
  have hwsp : IntKind.wrap .i64 ((s.size : Int) - (p : Int)) = (s.size : Int) - (p : Int) := wrap_small _ (by omega) (by omega)
  go_enter Tryd.func25, Tryd.ntmps25
  rcases hLd with ⟨rfl, l1, l2, l3⟩ | ⟨rfl, l1, l2, l3⟩ | ⟨rfl, l1, l2, l3⟩
  · have j1 : (192 : Int) ≤ (b0 : Int) := by omega
    have j4 : (b0 : Int) < 224 := by omega
    have v1 : IntKind.wrap .i64 ((b0 : Int) - 192) = c0 := by rw [wrap_small _ (by omega) (by omega)]; omega
    clear k2 l1 l2 l3
    go_upto_region 16 with fail
    by_cases hsh : s.size - p < 2
    · have E : Hid (ch s p = -1 ∧ wd s p = 1) := ch_of_bad (bad_short LD.out hsh)
      have q1 : (s.size : Int) - (p : Int) < 2 := by omega
      go_wp2
      go_ret2
      rw [E.out.1, E.out.2]
      exact ⟨rfl, Below.refl _ _⟩
    have q1 : ¬ (s.size : Int) - (p : Int) < 2 := by omega
    have hpn : p + 2 ≤ s.size := by omega
    clear hsh
    go_wp2
    go_loopw [7, 8] (fun t i wr => ∃ k : Nat, 1 ≤ k ∧ k ≤ 2 ∧ i = .int .i64 (k : Int) ∧ t = .int .i64 (cvF s p c0 (k - 1)) ∧ Conts s p k ∧ wr = w) (fun _ i _ => 2 - (intOf i).toNat)
    case atStart => exact ⟨1, by omega, by omega, rfl, rfl, fun j h1 h2 => by omega, rfl⟩
    case round =>
      obtain ⟨k, hk1, hk, rfl, rfl, hct, hw⟩ := hrel
      subst hw
      obtain ⟨j, rfl⟩ : ∃ j, k = j + 1 := ⟨k - 1, by omega⟩
      rw [Nat.add_sub_cancel]
      have C : Hid (Conts s p (j + 1)) := hct
      have hcr := cvF_range (s := s) (p := p) hc0.1 hc0.2 j (by omega) hct
      obtain ⟨cv, hcv⟩ : ∃ cv, cvF s p c0 j = cv := ⟨_, rfl⟩
      have HCV : Hid (cvF s p c0 j = cv) := hcv
      rw [hcv] at hcr ⊢
      clear hcv hct
      by_cases hlt : j + 1 < 2
      · have gk := bt_get s (p + (j + 1)) (by omega)
        obtain ⟨bk, hbk⟩ : ∃ b, bt s (p + (j + 1)) = b := ⟨_, rfl⟩
        have hbkl := bt_lt s (p + (j + 1))
        rw [hbk] at gk hbkl
        have HBK : Hid (bt s (p + (j + 1)) = bk) := hbk
        clear hbk
        have i1 : ((j + 1 : Nat) : Int) < 2 := by omega
        have wbk : IntKind.wrap .i64 (bk : Int) = (bk : Int) := wrap_small _ (by omega) (by omega)
        have wix : IntKind.wrap .i64 ((p : Int) + ((j + 1 : Nat) : Int)) = ((p + (j + 1) : Nat) : Int) := by rw [wrap_small _ (by omega) (by omega)]; omega
        have x0 : (0 : Int) ≤ ((p + (j + 1) : Nat) : Int) := by omega
        have x1 : ((p + (j + 1) : Nat) : Int) < (s.size : Int) := by omega
        have x2 : ((p + (j + 1) : Nat) : Int).toNat = p + (j + 1) := by omega
        obtain ⟨ix, hix⟩ : ∃ ix, p + (j + 1) = ix := ⟨_, rfl⟩
        obtain ⟨jj, hjj⟩ : ∃ jj, j + 1 = jj := ⟨_, rfl⟩
        have ixl : ix < s.size := by omega
        have gx : (s[ix]'ixl).toNat = bk := by subst hix; exact gk
        clear gk
        rw [hix] at wix x0 x1 x2
        rw [hjj] at wix i1 ⊢
        have HJ : Hid (j + 1 = jj) := hjj
        have HIX : Hid (p + (j + 1) = ix) := hix
        clear hjj hix
        by_cases b1 : (bk : Int) < 128
        · have E : Hid (ch s p = -1 ∧ wd s p = 1) := ch_of_bad (bad_cont LD.out (j := j + 1) (by omega) hlt (.inl (by rw [HBK.out]; omega)))
          go_wp2
          go_ret2
          rw [E.out.1, E.out.2]
          exact ⟨rfl, Below.refl _ _⟩
        by_cases b2 : (191 : Int) < (bk : Int)
        · have E : Hid (ch s p = -1 ∧ wd s p = 1) := ch_of_bad (bad_cont LD.out (j := j + 1) (by omega) hlt (.inr (by rw [HBK.out]; omega)))
          go_wp2
          go_ret2
          rw [E.out.1, E.out.2]
          exact ⟨rfl, Below.refl _ _⟩
        have y1 : IntKind.wrap .i64 (64 * cv) = 64 * cv := wrap_small _ (by omega) (by omega)
        have y2 : IntKind.wrap .i64 (64 * cv + (bk : Int)) = 64 * cv + (bk : Int) := wrap_small _ (by omega) (by omega)
        have y3 : IntKind.wrap .i64 (64 * cv + (bk : Int) - 128) = 64 * cv + (bk : Int) - 128 := wrap_small _ (by omega) (by omega)
        have y4 : IntKind.wrap .i64 ((jj : Int) + 1) = (jj : Int) + 1 := wrap_small _ (by omega) (by omega)
        go_wp2
        go_roundw
        case rel =>
          refine ⟨jj + 1, by omega, by have := HJ.out; omega, by go_num, ?_, fun i q1 q2 => ?_, by first | rfl | trivial⟩
          · rw [Nat.add_sub_cancel, ← HJ.out, cvF, HCV.out, HBK.out]
          · by_cases e : i < j + 1
            · exact C.out i q1 e
            · obtain rfl : i = j + 1 := by have := HJ.out; omega
              rw [HBK.out]; omega
        case measure => simp only [intOf]; have := HJ.out; omega
      · obtain rfl : j = 2 - 1 := by omega
        have i1 : ¬ (((2 : Nat) - 1 + 1 : Nat) : Int) < 2 := by omega
        have his := rIs_c cv
        have wpn : IntKind.wrap .i64 ((p : Int) + 2) = (p : Int) + 2 := wrap_small _ (by omega) (by omega)
        have z1 : (p : Int) ≤ (p : Int) + 2 := by omega
        have z2 : (p : Int) + 2 ≤ (s.size : Int) := by omega
        have z3 : ((p : Int) + 2).toNat = p + 2 := by omega
        rcases hcx : isC cv with _ | _
        · rw [hcx] at his
          have E : Hid (ch s p = -1 ∧ wd s p = 1) := by
            refine ch_of_bad ?_
            rcases hb : bad s p with _ | _
            · exfalso
              have gv := good_val LD.out C.out hb
              have hv := dec_valid s p
              rw [gv.1, HCV.out] at hv
              simp [isC] at hcx
              simp [Lib.validRune] at hv
              omega
            · rfl
          go_wp2_with (go_at_call 40; (with_reducible refine (his _).mono ?_); rintro e w5 ⟨rfl, h5⟩; subst w5)
          refine wp_region_ext (by kernel_rfl) (by kernel_rfl) ?_
          repeat (go_big_quiet_step (first | exact rfl))
          refine wpQuiet_nil ?_
          intro w5 hw5
          have B5 : Hid (Below wr.heap.size wr w5) := ext_of hw5
          clear hw5
          go_wp2
          go_ret2
          rw [E.out.1, E.out.2]
          exact ⟨rfl, B5.out⟩
        · rw [hcx] at his
          have hEx : Hid (∀ W, Calls Tryd.prog 41 #[.int .i64 cv] W fun e w' => e = .returned (.string (txt (Lib.encodeRune cv))) ∧ Below W.heap.size W w') := fun W => rText_c cv W hcx
          have hir : 0 ≤ cv ∧ cv ≤ 1114111 ∧ (cv < 55296 ∨ 57343 < cv) := by simpa [isC] using hcx
          have HIR : Hid _ := hir
          obtain ⟨T, hT⟩ : ∃ T, txt (Lib.encodeRune cv) = T := ⟨_, rfl⟩
          rw [hT] at hEx
          have hTl : T.toList = Lib.encodeRune cv := by rw [← hT, Lib.toList_data]; rfl
          have hsl := ext_toList s p 2
          by_cases heq : Lib.encodeRune cv = sl s p 2
          · have hcmp : (T.toList == (s.extract p (p + 2)).toList) = true := by rw [hTl, hsl, heq]; simp
            have E : Hid (ch s p = cv ∧ wd s p = 2) := by
              show ch s p = cv ∧ wd s p = 2
              have hl : (Lib.encodeRune cv).length = 2 := by rw [heq]; unfold sl; rw [List.length_take, List.length_drop, size_list]; omega
              have d := dec_of_enc HIR.out (by rw [hl]; exact heq.symm)
              exact ⟨by rw [ch_good d.2.2, d.1], by rw [d.2.1, hl]⟩
            clear hT hTl hsl heq hir
            go_wp2_with (go_at_call 40; (with_reducible refine (his _).mono ?_); rintro e w5 ⟨rfl, h5⟩; subst w5)
            refine wp_region_ext (by kernel_rfl) (by kernel_rfl) ?_
            repeat (go_big_quiet_step (first | exact rfl | (go_at_call 41; exact ext_call (hEx.out _))))
            refine wpQuiet_nil ?_
            intro w5 hw5
            have B5 : Hid (Below wr.heap.size wr w5) := ext_of hw5
            clear hw5
            go_wp2
            go_ret2
            rw [E.out.1, E.out.2]
            exact ⟨rfl, B5.out⟩
          · have hcmp : (T.toList == (s.extract p (p + 2)).toList) = false := by rw [hTl, hsl]; simpa using heq
            have E : Hid (ch s p = -1 ∧ wd s p = 1) := by
              refine ch_of_bad ?_
              rcases hb : bad s p with _ | _
              · exfalso
                have gv := good_val LD.out C.out hb
                have es := enc_sl s p hp hb
                rw [gv.2, gv.1, HCV.out] at es
                exact heq es
              · rfl
            clear hT hTl hsl heq hir
            go_wp2_with (go_at_call 40; (with_reducible refine (his _).mono ?_); rintro e w5 ⟨rfl, h5⟩; subst w5)
            refine wp_region_ext (by kernel_rfl) (by kernel_rfl) ?_
            repeat (go_big_quiet_step (first | exact rfl | (go_at_call 41; exact ext_call (hEx.out _))))
            refine wpQuiet_nil ?_
            intro w5 hw5
            have B5 : Hid (Below wr.heap.size wr w5) := ext_of hw5
            clear hw5
            go_wp2
            go_ret2
            rw [E.out.1, E.out.2]
            exact ⟨rfl, B5.out⟩
  · have j1 : (224 : Int) ≤ (b0 : Int) := by omega
    have j4 : (b0 : Int) < 240 := by omega
    have j6 : (192 : Int) ≤ (b0 : Int) := by omega
    have j7 : ¬ (b0 : Int) < 224 := by omega
    have v1 : IntKind.wrap .i64 ((b0 : Int) - 224) = c0 := by rw [wrap_small _ (by omega) (by omega)]; omega
    clear k2 l1 l2 l3
    go_upto_region 16 with fail
    by_cases hsh : s.size - p < 3
    · have E : Hid (ch s p = -1 ∧ wd s p = 1) := ch_of_bad (bad_short LD.out hsh)
      have q1 : (s.size : Int) - (p : Int) < 3 := by omega
      go_wp2
      go_ret2
      rw [E.out.1, E.out.2]
      exact ⟨rfl, Below.refl _ _⟩
    have q1 : ¬ (s.size : Int) - (p : Int) < 3 := by omega
    have hpn : p + 3 ≤ s.size := by omega
    clear hsh
    go_wp2
    go_loopw [7, 8] (fun t i wr => ∃ k : Nat, 1 ≤ k ∧ k ≤ 3 ∧ i = .int .i64 (k : Int) ∧ t = .int .i64 (cvF s p c0 (k - 1)) ∧ Conts s p k ∧ wr = w) (fun _ i _ => 3 - (intOf i).toNat)
    case atStart => exact ⟨1, by omega, by omega, rfl, rfl, fun j h1 h2 => by omega, rfl⟩
    case round =>
      obtain ⟨k, hk1, hk, rfl, rfl, hct, hw⟩ := hrel
      subst hw
      obtain ⟨j, rfl⟩ : ∃ j, k = j + 1 := ⟨k - 1, by omega⟩
      rw [Nat.add_sub_cancel]
      have C : Hid (Conts s p (j + 1)) := hct
      have hcr := cvF_range (s := s) (p := p) hc0.1 hc0.2 j (by omega) hct
      obtain ⟨cv, hcv⟩ : ∃ cv, cvF s p c0 j = cv := ⟨_, rfl⟩
      have HCV : Hid (cvF s p c0 j = cv) := hcv
      rw [hcv] at hcr ⊢
      clear hcv hct
      by_cases hlt : j + 1 < 3
      · have gk := bt_get s (p + (j + 1)) (by omega)
        obtain ⟨bk, hbk⟩ : ∃ b, bt s (p + (j + 1)) = b := ⟨_, rfl⟩
        have hbkl := bt_lt s (p + (j + 1))
        rw [hbk] at gk hbkl
        have HBK : Hid (bt s (p + (j + 1)) = bk) := hbk
        clear hbk
        have i1 : ((j + 1 : Nat) : Int) < 3 := by omega
        have wbk : IntKind.wrap .i64 (bk : Int) = (bk : Int) := wrap_small _ (by omega) (by omega)
        have wix : IntKind.wrap .i64 ((p : Int) + ((j + 1 : Nat) : Int)) = ((p + (j + 1) : Nat) : Int) := by rw [wrap_small _ (by omega) (by omega)]; omega
        have x0 : (0 : Int) ≤ ((p + (j + 1) : Nat) : Int) := by omega
        have x1 : ((p + (j + 1) : Nat) : Int) < (s.size : Int) := by omega
        have x2 : ((p + (j + 1) : Nat) : Int).toNat = p + (j + 1) := by omega
        obtain ⟨ix, hix⟩ : ∃ ix, p + (j + 1) = ix := ⟨_, rfl⟩
        obtain ⟨jj, hjj⟩ : ∃ jj, j + 1 = jj := ⟨_, rfl⟩
        have ixl : ix < s.size := by omega
        have gx : (s[ix]'ixl).toNat = bk := by subst hix; exact gk
        clear gk
        rw [hix] at wix x0 x1 x2
        rw [hjj] at wix i1 ⊢
        have HJ : Hid (j + 1 = jj) := hjj
        have HIX : Hid (p + (j + 1) = ix) := hix
        clear hjj hix
        by_cases b1 : (bk : Int) < 128
        · have E : Hid (ch s p = -1 ∧ wd s p = 1) := ch_of_bad (bad_cont LD.out (j := j + 1) (by omega) hlt (.inl (by rw [HBK.out]; omega)))
          go_wp2
          go_ret2
          rw [E.out.1, E.out.2]
          exact ⟨rfl, Below.refl _ _⟩
        by_cases b2 : (191 : Int) < (bk : Int)
        · have E : Hid (ch s p = -1 ∧ wd s p = 1) := ch_of_bad (bad_cont LD.out (j := j + 1) (by omega) hlt (.inr (by rw [HBK.out]; omega)))
          go_wp2
          go_ret2
          rw [E.out.1, E.out.2]
          exact ⟨rfl, Below.refl _ _⟩
        have y1 : IntKind.wrap .i64 (64 * cv) = 64 * cv := wrap_small _ (by omega) (by omega)
        have y2 : IntKind.wrap .i64 (64 * cv + (bk : Int)) = 64 * cv + (bk : Int) := wrap_small _ (by omega) (by omega)
        have y3 : IntKind.wrap .i64 (64 * cv + (bk : Int) - 128) = 64 * cv + (bk : Int) - 128 := wrap_small _ (by omega) (by omega)
        have y4 : IntKind.wrap .i64 ((jj : Int) + 1) = (jj : Int) + 1 := wrap_small _ (by omega) (by omega)
        go_wp2
        go_roundw
        case rel =>
          refine ⟨jj + 1, by omega, by have := HJ.out; omega, by go_num, ?_, fun i q1 q2 => ?_, by first | rfl | trivial⟩
          · rw [Nat.add_sub_cancel, ← HJ.out, cvF, HCV.out, HBK.out]
          · by_cases e : i < j + 1
            · exact C.out i q1 e
            · obtain rfl : i = j + 1 := by have := HJ.out; omega
              rw [HBK.out]; omega
        case measure => simp only [intOf]; have := HJ.out; omega
      · obtain rfl : j = 3 - 1 := by omega
        have i1 : ¬ (((3 : Nat) - 1 + 1 : Nat) : Int) < 3 := by omega
        have his := rIs_c cv
        have wpn : IntKind.wrap .i64 ((p : Int) + 3) = (p : Int) + 3 := wrap_small _ (by omega) (by omega)
        have z1 : (p : Int) ≤ (p : Int) + 3 := by omega
        have z2 : (p : Int) + 3 ≤ (s.size : Int) := by omega
        have z3 : ((p : Int) + 3).toNat = p + 3 := by omega
        rcases hcx : isC cv with _ | _
        · rw [hcx] at his
          have E : Hid (ch s p = -1 ∧ wd s p = 1) := by
            refine ch_of_bad ?_
            rcases hb : bad s p with _ | _
            · exfalso
              have gv := good_val LD.out C.out hb
              have hv := dec_valid s p
              rw [gv.1, HCV.out] at hv
              simp [isC] at hcx
              simp [Lib.validRune] at hv
              omega
            · rfl
          go_wp2_with (go_at_call 40; (with_reducible refine (his _).mono ?_); rintro e w5 ⟨rfl, h5⟩; subst w5)
          refine wp_region_ext (by kernel_rfl) (by kernel_rfl) ?_
          repeat (go_big_quiet_step (first | exact rfl))
          refine wpQuiet_nil ?_
          intro w5 hw5
          have B5 : Hid (Below wr.heap.size wr w5) := ext_of hw5
          clear hw5
          go_wp2
          go_ret2
          rw [E.out.1, E.out.2]
          exact ⟨rfl, B5.out⟩
        · rw [hcx] at his
          have hEx : Hid (∀ W, Calls Tryd.prog 41 #[.int .i64 cv] W fun e w' => e = .returned (.string (txt (Lib.encodeRune cv))) ∧ Below W.heap.size W w') := fun W => rText_c cv W hcx
          have hir : 0 ≤ cv ∧ cv ≤ 1114111 ∧ (cv < 55296 ∨ 57343 < cv) := by simpa [isC] using hcx
          have HIR : Hid _ := hir
          obtain ⟨T, hT⟩ : ∃ T, txt (Lib.encodeRune cv) = T := ⟨_, rfl⟩
          rw [hT] at hEx
          have hTl : T.toList = Lib.encodeRune cv := by rw [← hT, Lib.toList_data]; rfl
          have hsl := ext_toList s p 3
          by_cases heq : Lib.encodeRune cv = sl s p 3
          · have hcmp : (T.toList == (s.extract p (p + 3)).toList) = true := by rw [hTl, hsl, heq]; simp
            have E : Hid (ch s p = cv ∧ wd s p = 3) := by
              show ch s p = cv ∧ wd s p = 3
              have hl : (Lib.encodeRune cv).length = 3 := by rw [heq]; unfold sl; rw [List.length_take, List.length_drop, size_list]; omega
              have d := dec_of_enc HIR.out (by rw [hl]; exact heq.symm)
              exact ⟨by rw [ch_good d.2.2, d.1], by rw [d.2.1, hl]⟩
            clear hT hTl hsl heq hir
            go_wp2_with (go_at_call 40; (with_reducible refine (his _).mono ?_); rintro e w5 ⟨rfl, h5⟩; subst w5)
            refine wp_region_ext (by kernel_rfl) (by kernel_rfl) ?_
            repeat (go_big_quiet_step (first | exact rfl | (go_at_call 41; exact ext_call (hEx.out _))))
            refine wpQuiet_nil ?_
            intro w5 hw5
            have B5 : Hid (Below wr.heap.size wr w5) := ext_of hw5
            clear hw5
            go_wp2
            go_ret2
            rw [E.out.1, E.out.2]
            exact ⟨rfl, B5.out⟩
          · have hcmp : (T.toList == (s.extract p (p + 3)).toList) = false := by rw [hTl, hsl]; simpa using heq
            have E : Hid (ch s p = -1 ∧ wd s p = 1) := by
              refine ch_of_bad ?_
              rcases hb : bad s p with _ | _
              · exfalso
                have gv := good_val LD.out C.out hb
                have es := enc_sl s p hp hb
                rw [gv.2, gv.1, HCV.out] at es
                exact heq es
              · rfl
            clear hT hTl hsl heq hir
            go_wp2_with (go_at_call 40; (with_reducible refine (his _).mono ?_); rintro e w5 ⟨rfl, h5⟩; subst w5)
            refine wp_region_ext (by kernel_rfl) (by kernel_rfl) ?_
            repeat (go_big_quiet_step (first | exact rfl | (go_at_call 41; exact ext_call (hEx.out _))))
            refine wpQuiet_nil ?_
            intro w5 hw5
            have B5 : Hid (Below wr.heap.size wr w5) := ext_of hw5
            clear hw5
            go_wp2
            go_ret2
            rw [E.out.1, E.out.2]
            exact ⟨rfl, B5.out⟩
  · have j1 : (240 : Int) ≤ (b0 : Int) := by omega
    have j4 : (b0 : Int) < 248 := by omega
    have j6 : (192 : Int) ≤ (b0 : Int) := by omega
    have j7 : ¬ (b0 : Int) < 224 := by omega
    have j8 : (224 : Int) ≤ (b0 : Int) := by omega
    have j9 : ¬ (b0 : Int) < 240 := by omega
    have v1 : IntKind.wrap .i64 ((b0 : Int) - 240) = c0 := by rw [wrap_small _ (by omega) (by omega)]; omega
    clear k2 l1 l2 l3
    go_upto_region 16 with fail
    by_cases hsh : s.size - p < 4
    · have E : Hid (ch s p = -1 ∧ wd s p = 1) := ch_of_bad (bad_short LD.out hsh)
      have q1 : (s.size : Int) - (p : Int) < 4 := by omega
      go_wp2
      go_ret2
      rw [E.out.1, E.out.2]
      exact ⟨rfl, Below.refl _ _⟩
    have q1 : ¬ (s.size : Int) - (p : Int) < 4 := by omega
    have hpn : p + 4 ≤ s.size := by omega
    clear hsh
    go_wp2
    go_loopw [7, 8] (fun t i wr => ∃ k : Nat, 1 ≤ k ∧ k ≤ 4 ∧ i = .int .i64 (k : Int) ∧ t = .int .i64 (cvF s p c0 (k - 1)) ∧ Conts s p k ∧ wr = w) (fun _ i _ => 4 - (intOf i).toNat)
    case atStart => exact ⟨1, by omega, by omega, rfl, rfl, fun j h1 h2 => by omega, rfl⟩
    case round =>
      obtain ⟨k, hk1, hk, rfl, rfl, hct, hw⟩ := hrel
      subst hw
      obtain ⟨j, rfl⟩ : ∃ j, k = j + 1 := ⟨k - 1, by omega⟩
      rw [Nat.add_sub_cancel]
      have C : Hid (Conts s p (j + 1)) := hct
      have hcr := cvF_range (s := s) (p := p) hc0.1 hc0.2 j (by omega) hct
      obtain ⟨cv, hcv⟩ : ∃ cv, cvF s p c0 j = cv := ⟨_, rfl⟩
      have HCV : Hid (cvF s p c0 j = cv) := hcv
      rw [hcv] at hcr ⊢
      clear hcv hct
      by_cases hlt : j + 1 < 4
      · have gk := bt_get s (p + (j + 1)) (by omega)
        obtain ⟨bk, hbk⟩ : ∃ b, bt s (p + (j + 1)) = b := ⟨_, rfl⟩
        have hbkl := bt_lt s (p + (j + 1))
        rw [hbk] at gk hbkl
        have HBK : Hid (bt s (p + (j + 1)) = bk) := hbk
        clear hbk
        have i1 : ((j + 1 : Nat) : Int) < 4 := by omega
        have wbk : IntKind.wrap .i64 (bk : Int) = (bk : Int) := wrap_small _ (by omega) (by omega)
        have wix : IntKind.wrap .i64 ((p : Int) + ((j + 1 : Nat) : Int)) = ((p + (j + 1) : Nat) : Int) := by rw [wrap_small _ (by omega) (by omega)]; omega
        have x0 : (0 : Int) ≤ ((p + (j + 1) : Nat) : Int) := by omega
        have x1 : ((p + (j + 1) : Nat) : Int) < (s.size : Int) := by omega
        have x2 : ((p + (j + 1) : Nat) : Int).toNat = p + (j + 1) := by omega
        obtain ⟨ix, hix⟩ : ∃ ix, p + (j + 1) = ix := ⟨_, rfl⟩
        obtain ⟨jj, hjj⟩ : ∃ jj, j + 1 = jj := ⟨_, rfl⟩
        have ixl : ix < s.size := by omega
        have gx : (s[ix]'ixl).toNat = bk := by subst hix; exact gk
        clear gk
        rw [hix] at wix x0 x1 x2
        rw [hjj] at wix i1 ⊢
        have HJ : Hid (j + 1 = jj) := hjj
        have HIX : Hid (p + (j + 1) = ix) := hix
        clear hjj hix
        by_cases b1 : (bk : Int) < 128
        · have E : Hid (ch s p = -1 ∧ wd s p = 1) := ch_of_bad (bad_cont LD.out (j := j + 1) (by omega) hlt (.inl (by rw [HBK.out]; omega)))
          go_wp2
          go_ret2
          rw [E.out.1, E.out.2]
          exact ⟨rfl, Below.refl _ _⟩
        by_cases b2 : (191 : Int) < (bk : Int)
        · have E : Hid (ch s p = -1 ∧ wd s p = 1) := ch_of_bad (bad_cont LD.out (j := j + 1) (by omega) hlt (.inr (by rw [HBK.out]; omega)))
          go_wp2
          go_ret2
          rw [E.out.1, E.out.2]
          exact ⟨rfl, Below.refl _ _⟩
        have y1 : IntKind.wrap .i64 (64 * cv) = 64 * cv := wrap_small _ (by omega) (by omega)
        have y2 : IntKind.wrap .i64 (64 * cv + (bk : Int)) = 64 * cv + (bk : Int) := wrap_small _ (by omega) (by omega)
        have y3 : IntKind.wrap .i64 (64 * cv + (bk : Int) - 128) = 64 * cv + (bk : Int) - 128 := wrap_small _ (by omega) (by omega)
        have y4 : IntKind.wrap .i64 ((jj : Int) + 1) = (jj : Int) + 1 := wrap_small _ (by omega) (by omega)
        go_wp2
        go_roundw
        case rel =>
          refine ⟨jj + 1, by omega, by have := HJ.out; omega, by go_num, ?_, fun i q1 q2 => ?_, by first | rfl | trivial⟩
          · rw [Nat.add_sub_cancel, ← HJ.out, cvF, HCV.out, HBK.out]
          · by_cases e : i < j + 1
            · exact C.out i q1 e
            · obtain rfl : i = j + 1 := by have := HJ.out; omega
              rw [HBK.out]; omega
        case measure => simp only [intOf]; have := HJ.out; omega
      · obtain rfl : j = 4 - 1 := by omega
        have i1 : ¬ (((4 : Nat) - 1 + 1 : Nat) : Int) < 4 := by omega
        have his := rIs_c cv
        have wpn : IntKind.wrap .i64 ((p : Int) + 4) = (p : Int) + 4 := wrap_small _ (by omega) (by omega)
        have z1 : (p : Int) ≤ (p : Int) + 4 := by omega
        have z2 : (p : Int) + 4 ≤ (s.size : Int) := by omega
        have z3 : ((p : Int) + 4).toNat = p + 4 := by omega
        rcases hcx : isC cv with _ | _
        · rw [hcx] at his
          have E : Hid (ch s p = -1 ∧ wd s p = 1) := by
            refine ch_of_bad ?_
            rcases hb : bad s p with _ | _
            · exfalso
              have gv := good_val LD.out C.out hb
              have hv := dec_valid s p
              rw [gv.1, HCV.out] at hv
              simp [isC] at hcx
              simp [Lib.validRune] at hv
              omega
            · rfl
          go_wp2_with (go_at_call 40; (with_reducible refine (his _).mono ?_); rintro e w5 ⟨rfl, h5⟩; subst w5)
          refine wp_region_ext (by kernel_rfl) (by kernel_rfl) ?_
          repeat (go_big_quiet_step (first | exact rfl))
          refine wpQuiet_nil ?_
          intro w5 hw5
          have B5 : Hid (Below wr.heap.size wr w5) := ext_of hw5
          clear hw5
          go_wp2
          go_ret2
          rw [E.out.1, E.out.2]
          exact ⟨rfl, B5.out⟩
        · rw [hcx] at his
          have hEx : Hid (∀ W, Calls Tryd.prog 41 #[.int .i64 cv] W fun e w' => e = .returned (.string (txt (Lib.encodeRune cv))) ∧ Below W.heap.size W w') := fun W => rText_c cv W hcx
          have hir : 0 ≤ cv ∧ cv ≤ 1114111 ∧ (cv < 55296 ∨ 57343 < cv) := by simpa [isC] using hcx
          have HIR : Hid _ := hir
          obtain ⟨T, hT⟩ : ∃ T, txt (Lib.encodeRune cv) = T := ⟨_, rfl⟩
          rw [hT] at hEx
          have hTl : T.toList = Lib.encodeRune cv := by rw [← hT, Lib.toList_data]; rfl
          have hsl := ext_toList s p 4
          by_cases heq : Lib.encodeRune cv = sl s p 4
          · have hcmp : (T.toList == (s.extract p (p + 4)).toList) = true := by rw [hTl, hsl, heq]; simp
            have E : Hid (ch s p = cv ∧ wd s p = 4) := by
              show ch s p = cv ∧ wd s p = 4
              have hl : (Lib.encodeRune cv).length = 4 := by rw [heq]; unfold sl; rw [List.length_take, List.length_drop, size_list]; omega
              have d := dec_of_enc HIR.out (by rw [hl]; exact heq.symm)
              exact ⟨by rw [ch_good d.2.2, d.1], by rw [d.2.1, hl]⟩
            clear hT hTl hsl heq hir
            go_wp2_with (go_at_call 40; (with_reducible refine (his _).mono ?_); rintro e w5 ⟨rfl, h5⟩; subst w5)
            refine wp_region_ext (by kernel_rfl) (by kernel_rfl) ?_
            repeat (go_big_quiet_step (first | exact rfl | (go_at_call 41; exact ext_call (hEx.out _))))
            refine wpQuiet_nil ?_
            intro w5 hw5
            have B5 : Hid (Below wr.heap.size wr w5) := ext_of hw5
            clear hw5
            go_wp2
            go_ret2
            rw [E.out.1, E.out.2]
            exact ⟨rfl, B5.out⟩
          · have hcmp : (T.toList == (s.extract p (p + 4)).toList) = false := by rw [hTl, hsl]; simpa using heq
            have E : Hid (ch s p = -1 ∧ wd s p = 1) := by
              refine ch_of_bad ?_
              rcases hb : bad s p with _ | _
              · exfalso
                have gv := good_val LD.out C.out hb
                have es := enc_sl s p hp hb
                rw [gv.2, gv.1, HCV.out] at es
                exact heq es
              · rfl
            clear hT hTl hsl heq hir
            go_wp2_with (go_at_call 40; (with_reducible refine (his _).mono ?_); rintro e w5 ⟨rfl, h5⟩; subst w5)
            refine wp_region_ext (by kernel_rfl) (by kernel_rfl) ?_
            repeat (go_big_quiet_step (first | exact rfl | (go_at_call 41; exact ext_call (hEx.out _))))
            refine wpQuiet_nil ?_
            intro w5 hw5
            have B5 : Hid (Below wr.heap.size wr w5) := ext_of hw5
            clear hw5
            go_wp2
            go_ret2
            rw [E.out.1, E.out.2]
            exact ⟨rfl, B5.out⟩
end Go.Proofs.YtihmnibopeljaaaDoor
