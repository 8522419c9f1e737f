/-
  The document's own answer: Next. dredgeref06.sorted, as mathematics: two rising lists, the lesser one first. dredgeref06.sorted, as it runs.
-/
import Derived.Test.YtlodjinejeajcabLitProofB1
import Derived.Test.YtlodjinejeajcabC9
import Derived.Test.YtlodjinejeajcabC10
import Derived.Laws.AppendOwnNone
namespace Go.Proofs.Ytlodjinejeajcab
open Go Go.RowKit
attribute [local go_sem] ext_cell

theorem ch_of_bad {s : ByteArray} {p : Nat} (h : bad s p = true) : ch s p = -1 ∧ wd s p = 1 := ⟨(ch_bad h).1, (ch_bad h).2.1⟩
theorem ext_toList (s : ByteArray) (p n : Nat) : (s.extract p (p + n)).toList = sl s p n := by rw [Lib.toList_data, ext_sl]

set_option maxHeartbeats 8000000 in
set_option maxRecDepth 1000000 in
theorem rNext_c (s : ByteArray) (p : Nat) (w : World) (hp : p < s.size) (hs : s.size ≤ 1099511627776) :
    Calls Try.prog 46 #[.string s, .int .i64 (p : Int)] w fun e w' => e = .returned (.tuple #[.int .i64 (ch s p), .int .i64 (wd s p : Int)]) ∧ Below w.heap.size w w' := by
  have h0 : ¬ (p : Int) < 0 := by omega
  have h1 : ¬ (s.size : Int) ≤ (p : Int) := by omega
  have h2 : (0 : Int) ≤ (p : Int) := by omega
  have h3 : (p : Int) < (s.size : Int) := by omega
  have g0 := bt_get s p hp
  obtain ⟨b0, hb0⟩ : ∃ b, bt s p = b := ⟨_, rfl⟩
  have hbl := bt_lt s p
  rw [hb0] at g0 hbl
  have wb : IntKind.wrap .i64 (b0 : Int) = (b0 : Int) := wrap_small _ (by omega) (by omega)
  have HB : Hid (bt s p = b0) := hb0
  clear hb0
  by_cases k1 : (b0 : Int) < 128
  · have E : Hid (ch s p = (b0 : Int) ∧ wd s p = 1) := by
      show ch s p = (b0 : Int) ∧ wd s p = 1
      have e : Utf8.decode s p = (b0, 1) := by
        rw [dec_eq, HB.out]
        unfold Lib.decodeN
        rw [if_pos (by omega)]
      have hb : bad s p = false := by unfold bad; rw [e]; simp; omega
      exact ⟨by rw [ch_good hb, e], by unfold wd; rw [e]⟩
    go_enter Try.func46, Try.ntmps46
    go_wp2
    go_ret2
    rw [E.out.1, E.out.2]
    exact ⟨rfl, Below.refl _ _⟩
  by_cases k2 : ¬ ((192 : Int) ≤ (b0 : Int) ∧ (b0 : Int) < 248)
  · have E : Hid (ch s p = -1 ∧ wd s p = 1) := ch_of_bad (bad_lead (by rw [HB.out]; omega))
    have k5 : ¬ ((192 : Int) ≤ (b0 : Int) ∧ (b0 : Int) < 224) := by omega
    have k6 : ¬ ((224 : Int) ≤ (b0 : Int) ∧ (b0 : Int) < 240) := by omega
    have k7 : ¬ ((240 : Int) ≤ (b0 : Int) ∧ (b0 : Int) < 248) := by omega
    by_cases k3 : (b0 : Int) < 192
    · have k4 : ¬ (192 : Int) ≤ (b0 : Int) := by omega
      have k8 : ¬ (224 : Int) ≤ (b0 : Int) := by omega
      have k9 : ¬ (240 : Int) ≤ (b0 : Int) := by omega
      clear k2 k5 k6 k7
      go_enter Try.func46, Try.ntmps46
      go_wp2
      go_ret2
      rw [E.out.1, E.out.2]
      exact ⟨rfl, Below.refl _ _⟩
    · have j1 : (192 : Int) ≤ (b0 : Int) := by omega
      have j2 : (224 : Int) ≤ (b0 : Int) := by omega
      have j3 : (240 : Int) ≤ (b0 : Int) := by omega
      have j4 : ¬ (b0 : Int) < 224 := by omega
      have j5 : ¬ (b0 : Int) < 240 := by omega
      have j6 : ¬ (b0 : Int) < 248 := by omega
      clear k2 k5 k6 k7
      go_enter Try.func46, Try.ntmps46
      go_wp2
      go_ret2
      rw [E.out.1, E.out.2]
      exact ⟨rfl, Below.refl _ _⟩
  -- a leading byte
  obtain ⟨n, c0, hLd⟩ : ∃ n c0, Lead b0 n c0 := by
    by_cases q1 : b0 < 224
    · exact ⟨2, _, .inl ⟨rfl, by omega, q1, rfl⟩⟩
    by_cases q2 : b0 < 240
    · exact ⟨3, _, .inr (.inl ⟨rfl, by omega, q2, rfl⟩)⟩
    · exact ⟨4, _, .inr (.inr ⟨rfl, by omega, by omega, rfl⟩)⟩
  have LD : Hid (Lead (bt s p) n c0) := by show Lead (bt s p) n c0; rw [HB.out]; exact hLd
  have hc0 : 0 ≤ c0 ∧ c0 ≤ 31 := by rcases hLd with h | h | h <;> omega
  have hwsp : IntKind.wrap .i64 ((s.size : Int) - (p : Int)) = (s.size : Int) - (p : Int) := wrap_small _ (by omega) (by omega)
  go_enter Try.func46, Try.ntmps46
  rcases hLd with ⟨rfl, l1, l2, l3⟩ | ⟨rfl, l1, l2, l3⟩ | ⟨rfl, l1, l2, l3⟩
  · have j1 : (192 : Int) ≤ (b0 : Int) := by omega
    have j4 : (b0 : Int) < 224 := by omega
    have v1 : IntKind.wrap .i64 ((b0 : Int) - 192) = c0 := by rw [wrap_small _ (by omega) (by omega)]; omega
    clear k2 l1 l2 l3
    go_upto_region 16 with fail
    by_cases hsh : s.size - p < 2
    · have E : Hid (ch s p = -1 ∧ wd s p = 1) := ch_of_bad (bad_short LD.out hsh)
      have q1 : (s.size : Int) - (p : Int) < 2 := by omega
      go_wp2
      go_ret2
      rw [E.out.1, E.out.2]
      exact ⟨rfl, Below.refl _ _⟩
    have q1 : ¬ (s.size : Int) - (p : Int) < 2 := by omega
    have hpn : p + 2 ≤ s.size := by omega
    clear hsh
    go_wp2
    go_loopw [7, 8] (fun t i wr => ∃ k : Nat, 1 ≤ k ∧ k ≤ 2 ∧ i = .int .i64 (k : Int) ∧ t = .int .i64 (cvF s p c0 (k - 1)) ∧ Conts s p k ∧ wr = w) (fun _ i _ => 2 - (intOf i).toNat)
    case atStart => exact ⟨1, by omega, by omega, rfl, rfl, fun j h1 h2 => by omega, rfl⟩
    case round =>
      obtain ⟨k, hk1, hk, rfl, rfl, hct, hw⟩ := hrel
      subst hw
      obtain ⟨j, rfl⟩ : ∃ j, k = j + 1 := ⟨k - 1, by omega⟩
      rw [Nat.add_sub_cancel]
      have C : Hid (Conts s p (j + 1)) := hct
      have hcr := cvF_range (s := s) (p := p) hc0.1 hc0.2 j (by omega) hct
      obtain ⟨cv, hcv⟩ : ∃ cv, cvF s p c0 j = cv := ⟨_, rfl⟩
      have HCV : Hid (cvF s p c0 j = cv) := hcv
      rw [hcv] at hcr ⊢
      clear hcv hct
      by_cases hlt : j + 1 < 2
      · have gk := bt_get s (p + (j + 1)) (by omega)
        obtain ⟨bk, hbk⟩ : ∃ b, bt s (p + (j + 1)) = b := ⟨_, rfl⟩
        have hbkl := bt_lt s (p + (j + 1))
        rw [hbk] at gk hbkl
        have HBK : Hid (bt s (p + (j + 1)) = bk) := hbk
        clear hbk
        have i1 : ((j + 1 : Nat) : Int) < 2 := by omega
        have wbk : IntKind.wrap .i64 (bk : Int) = (bk : Int) := wrap_small _ (by omega) (by omega)
        have wix : IntKind.wrap .i64 ((p : Int) + ((j + 1 : Nat) : Int)) = ((p + (j + 1) : Nat) : Int) := by rw [wrap_small _ (by omega) (by omega)]; omega
        have x0 : (0 : Int) ≤ ((p + (j + 1) : Nat) : Int) := by omega
        have x1 : ((p + (j + 1) : Nat) : Int) < (s.size : Int) := by omega
        have x2 : ((p + (j + 1) : Nat) : Int).toNat = p + (j + 1) := by omega
        obtain ⟨ix, hix⟩ : ∃ ix, p + (j + 1) = ix := ⟨_, rfl⟩
        obtain ⟨jj, hjj⟩ : ∃ jj, j + 1 = jj := ⟨_, rfl⟩
        have ixl : ix < s.size := by omega
        have gx : (s[ix]'ixl).toNat = bk := by subst hix; exact gk
        clear gk
        rw [hix] at wix x0 x1 x2
        rw [hjj] at wix i1 ⊢
        have HJ : Hid (j + 1 = jj) := hjj
        have HIX : Hid (p + (j + 1) = ix) := hix
        clear hjj hix
        by_cases b1 : (bk : Int) < 128
        · have E : Hid (ch s p = -1 ∧ wd s p = 1) := ch_of_bad (bad_cont LD.out (j := j + 1) (by omega) hlt (.inl (by rw [HBK.out]; omega)))
          go_wp2
          go_ret2
          rw [E.out.1, E.out.2]
          exact ⟨rfl, Below.refl _ _⟩
        by_cases b2 : (191 : Int) < (bk : Int)
        · have E : Hid (ch s p = -1 ∧ wd s p = 1) := ch_of_bad (bad_cont LD.out (j := j + 1) (by omega) hlt (.inr (by rw [HBK.out]; omega)))
          go_wp2
          go_ret2
          rw [E.out.1, E.out.2]
          exact ⟨rfl, Below.refl _ _⟩
        have y1 : IntKind.wrap .i64 (64 * cv) = 64 * cv := wrap_small _ (by omega) (by omega)
        have y2 : IntKind.wrap .i64 (64 * cv + (bk : Int)) = 64 * cv + (bk : Int) := wrap_small _ (by omega) (by omega)
        have y3 : IntKind.wrap .i64 (64 * cv + (bk : Int) - 128) = 64 * cv + (bk : Int) - 128 := wrap_small _ (by omega) (by omega)
        have y4 : IntKind.wrap .i64 ((jj : Int) + 1) = (jj : Int) + 1 := wrap_small _ (by omega) (by omega)
        go_wp2
        go_roundw
        case rel =>
          refine ⟨jj + 1, by omega, by have := HJ.out; omega, by go_num, ?_, fun i q1 q2 => ?_, by first | rfl | trivial⟩
          · rw [Nat.add_sub_cancel, ← HJ.out, cvF, HCV.out, HBK.out]
          · by_cases e : i < j + 1
            · exact C.out i q1 e
            · obtain rfl : i = j + 1 := by have := HJ.out; omega
              rw [HBK.out]; omega
        case measure => simp only [intOf]; have := HJ.out; omega
      · obtain rfl : j = 2 - 1 := by omega
        have i1 : ¬ (((2 : Nat) - 1 + 1 : Nat) : Int) < 2 := by omega
        have his := rIs_c cv
        have wpn : IntKind.wrap .i64 ((p : Int) + 2) = (p : Int) + 2 := wrap_small _ (by omega) (by omega)
        have z1 : (p : Int) ≤ (p : Int) + 2 := by omega
        have z2 : (p : Int) + 2 ≤ (s.size : Int) := by omega
        have z3 : ((p : Int) + 2).toNat = p + 2 := by omega
        rcases hcx : isC cv with _ | _
        · rw [hcx] at his
          have E : Hid (ch s p = -1 ∧ wd s p = 1) := by
            refine ch_of_bad ?_
            rcases hb : bad s p with _ | _
            · exfalso
              have gv := good_val LD.out C.out hb
              have hv := dec_valid s p
              rw [gv.1, HCV.out] at hv
              simp [isC] at hcx
              simp [Lib.validRune] at hv
              omega
            · rfl
          go_wp2_with (go_at_call 64; (with_reducible refine (his _).mono ?_); rintro e w5 ⟨rfl, h5⟩; subst w5)
          refine wp_region_ext (by kernel_rfl) (by kernel_rfl) ?_
          repeat (go_big_quiet_step (first | exact rfl))
          refine wpQuiet_nil ?_
          intro w5 hw5
          have B5 : Hid (Below wr.heap.size wr w5) := ext_of hw5
          clear hw5
          go_wp2
          go_ret2
          rw [E.out.1, E.out.2]
          exact ⟨rfl, B5.out⟩
        · rw [hcx] at his
          have hEx : Hid (∀ W, Calls Try.prog 65 #[.int .i64 cv] W fun e w' => e = .returned (.string (txt (Lib.encodeRune cv))) ∧ Below W.heap.size W w') := fun W => rText_c cv W hcx
          have hir : 0 ≤ cv ∧ cv ≤ 1114111 ∧ (cv < 55296 ∨ 57343 < cv) := by simpa [isC] using hcx
          have HIR : Hid _ := hir
          obtain ⟨T, hT⟩ : ∃ T, txt (Lib.encodeRune cv) = T := ⟨_, rfl⟩
          rw [hT] at hEx
          have hTl : T.toList = Lib.encodeRune cv := by rw [← hT, Lib.toList_data]; rfl
          have hsl := ext_toList s p 2
          by_cases heq : Lib.encodeRune cv = sl s p 2
          · have hcmp : (T.toList == (s.extract p (p + 2)).toList) = true := by rw [hTl, hsl, heq]; simp
            have E : Hid (ch s p = cv ∧ wd s p = 2) := by
              show ch s p = cv ∧ wd s p = 2
              have hl : (Lib.encodeRune cv).length = 2 := by rw [heq]; unfold sl; rw [List.length_take, List.length_drop, size_list]; omega
              have d := dec_of_enc HIR.out (by rw [hl]; exact heq.symm)
              exact ⟨by rw [ch_good d.2.2, d.1], by rw [d.2.1, hl]⟩
            clear hT hTl hsl heq hir
            go_wp2_with (go_at_call 64; (with_reducible refine (his _).mono ?_); rintro e w5 ⟨rfl, h5⟩; subst w5)
            refine wp_region_ext (by kernel_rfl) (by kernel_rfl) ?_
            repeat (go_big_quiet_step (first | exact rfl | (go_at_call 65; exact ext_call (hEx.out _))))
            refine wpQuiet_nil ?_
            intro w5 hw5
            have B5 : Hid (Below wr.heap.size wr w5) := ext_of hw5
            clear hw5
            go_wp2
            go_ret2
            rw [E.out.1, E.out.2]
            exact ⟨rfl, B5.out⟩
          · have hcmp : (T.toList == (s.extract p (p + 2)).toList) = false := by rw [hTl, hsl]; simpa using heq
            have E : Hid (ch s p = -1 ∧ wd s p = 1) := by
              refine ch_of_bad ?_
              rcases hb : bad s p with _ | _
              · exfalso
                have gv := good_val LD.out C.out hb
                have es := enc_sl s p hp hb
                rw [gv.2, gv.1, HCV.out] at es
                exact heq es
              · rfl
            clear hT hTl hsl heq hir
            go_wp2_with (go_at_call 64; (with_reducible refine (his _).mono ?_); rintro e w5 ⟨rfl, h5⟩; subst w5)
            refine wp_region_ext (by kernel_rfl) (by kernel_rfl) ?_
            repeat (go_big_quiet_step (first | exact rfl | (go_at_call 65; exact ext_call (hEx.out _))))
            refine wpQuiet_nil ?_
            intro w5 hw5
            have B5 : Hid (Below wr.heap.size wr w5) := ext_of hw5
            clear hw5
            go_wp2
            go_ret2
            rw [E.out.1, E.out.2]
            exact ⟨rfl, B5.out⟩
  · have j1 : (224 : Int) ≤ (b0 : Int) := by omega
    have j4 : (b0 : Int) < 240 := by omega
    have j6 : (192 : Int) ≤ (b0 : Int) := by omega
    have j7 : ¬ (b0 : Int) < 224 := by omega
    have v1 : IntKind.wrap .i64 ((b0 : Int) - 224) = c0 := by rw [wrap_small _ (by omega) (by omega)]; omega
    clear k2 l1 l2 l3
    go_upto_region 16 with fail
    by_cases hsh : s.size - p < 3
    · have E : Hid (ch s p = -1 ∧ wd s p = 1) := ch_of_bad (bad_short LD.out hsh)
      have q1 : (s.size : Int) - (p : Int) < 3 := by omega
      go_wp2
      go_ret2
      rw [E.out.1, E.out.2]
      exact ⟨rfl, Below.refl _ _⟩
    have q1 : ¬ (s.size : Int) - (p : Int) < 3 := by omega
    have hpn : p + 3 ≤ s.size := by omega
    clear hsh
    go_wp2
    go_loopw [7, 8] (fun t i wr => ∃ k : Nat, 1 ≤ k ∧ k ≤ 3 ∧ i = .int .i64 (k : Int) ∧ t = .int .i64 (cvF s p c0 (k - 1)) ∧ Conts s p k ∧ wr = w) (fun _ i _ => 3 - (intOf i).toNat)
    case atStart => exact ⟨1, by omega, by omega, rfl, rfl, fun j h1 h2 => by omega, rfl⟩
    case round =>
      obtain ⟨k, hk1, hk, rfl, rfl, hct, hw⟩ := hrel
      subst hw
      obtain ⟨j, rfl⟩ : ∃ j, k = j + 1 := ⟨k - 1, by omega⟩
      rw [Nat.add_sub_cancel]
      have C : Hid (Conts s p (j + 1)) := hct
      have hcr := cvF_range (s := s) (p := p) hc0.1 hc0.2 j (by omega) hct
      obtain ⟨cv, hcv⟩ : ∃ cv, cvF s p c0 j = cv := ⟨_, rfl⟩
      have HCV : Hid (cvF s p c0 j = cv) := hcv
      rw [hcv] at hcr ⊢
      clear hcv hct
      by_cases hlt : j + 1 < 3
      · have gk := bt_get s (p + (j + 1)) (by omega)
        obtain ⟨bk, hbk⟩ : ∃ b, bt s (p + (j + 1)) = b := ⟨_, rfl⟩
        have hbkl := bt_lt s (p + (j + 1))
        rw [hbk] at gk hbkl
        have HBK : Hid (bt s (p + (j + 1)) = bk) := hbk
        clear hbk
        have i1 : ((j + 1 : Nat) : Int) < 3 := by omega
        have wbk : IntKind.wrap .i64 (bk : Int) = (bk : Int) := wrap_small _ (by omega) (by omega)
        have wix : IntKind.wrap .i64 ((p : Int) + ((j + 1 : Nat) : Int)) = ((p + (j + 1) : Nat) : Int) := by rw [wrap_small _ (by omega) (by omega)]; omega
        have x0 : (0 : Int) ≤ ((p + (j + 1) : Nat) : Int) := by omega
        have x1 : ((p + (j + 1) : Nat) : Int) < (s.size : Int) := by omega
        have x2 : ((p + (j + 1) : Nat) : Int).toNat = p + (j + 1) := by omega
        obtain ⟨ix, hix⟩ : ∃ ix, p + (j + 1) = ix := ⟨_, rfl⟩
        obtain ⟨jj, hjj⟩ : ∃ jj, j + 1 = jj := ⟨_, rfl⟩
        have ixl : ix < s.size := by omega
        have gx : (s[ix]'ixl).toNat = bk := by subst hix; exact gk
        clear gk
        rw [hix] at wix x0 x1 x2
        rw [hjj] at wix i1 ⊢
        have HJ : Hid (j + 1 = jj) := hjj
        have HIX : Hid (p + (j + 1) = ix) := hix
        clear hjj hix
        by_cases b1 : (bk : Int) < 128
        · have E : Hid (ch s p = -1 ∧ wd s p = 1) := ch_of_bad (bad_cont LD.out (j := j + 1) (by omega) hlt (.inl (by rw [HBK.out]; omega)))
          go_wp2
          go_ret2
          rw [E.out.1, E.out.2]
          exact ⟨rfl, Below.refl _ _⟩
        by_cases b2 : (191 : Int) < (bk : Int)
        · have E : Hid (ch s p = -1 ∧ wd s p = 1) := ch_of_bad (bad_cont LD.out (j := j + 1) (by omega) hlt (.inr (by rw [HBK.out]; omega)))
          go_wp2
          go_ret2
          rw [E.out.1, E.out.2]
          exact ⟨rfl, Below.refl _ _⟩
        have y1 : IntKind.wrap .i64 (64 * cv) = 64 * cv := wrap_small _ (by omega) (by omega)
        have y2 : IntKind.wrap .i64 (64 * cv + (bk : Int)) = 64 * cv + (bk : Int) := wrap_small _ (by omega) (by omega)
        have y3 : IntKind.wrap .i64 (64 * cv + (bk : Int) - 128) = 64 * cv + (bk : Int) - 128 := wrap_small _ (by omega) (by omega)
        have y4 : IntKind.wrap .i64 ((jj : Int) + 1) = (jj : Int) + 1 := wrap_small _ (by omega) (by omega)
        go_wp2
        go_roundw
        case rel =>
          refine ⟨jj + 1, by omega, by have := HJ.out; omega, by go_num, ?_, fun i q1 q2 => ?_, by first | rfl | trivial⟩
          · rw [Nat.add_sub_cancel, ← HJ.out, cvF, HCV.out, HBK.out]
          · by_cases e : i < j + 1
            · exact C.out i q1 e
            · obtain rfl : i = j + 1 := by have := HJ.out; omega
              rw [HBK.out]; omega
        case measure => simp only [intOf]; have := HJ.out; omega
      · obtain rfl : j = 3 - 1 := by omega
        have i1 : ¬ (((3 : Nat) - 1 + 1 : Nat) : Int) < 3 := by omega
        have his := rIs_c cv
        have wpn : IntKind.wrap .i64 ((p : Int) + 3) = (p : Int) + 3 := wrap_small _ (by omega) (by omega)
        have z1 : (p : Int) ≤ (p : Int) + 3 := by omega
        have z2 : (p : Int) + 3 ≤ (s.size : Int) := by omega
        have z3 : ((p : Int) + 3).toNat = p + 3 := by omega
        rcases hcx : isC cv with _ | _
        · rw [hcx] at his
          have E : Hid (ch s p = -1 ∧ wd s p = 1) := by
            refine ch_of_bad ?_
            rcases hb : bad s p with _ | _
            · exfalso
              have gv := good_val LD.out C.out hb
              have hv := dec_valid s p
              rw [gv.1, HCV.out] at hv
              simp [isC] at hcx
              simp [Lib.validRune] at hv
              omega
            · rfl
          go_wp2_with (go_at_call 64; (with_reducible refine (his _).mono ?_); rintro e w5 ⟨rfl, h5⟩; subst w5)
          refine wp_region_ext (by kernel_rfl) (by kernel_rfl) ?_
          repeat (go_big_quiet_step (first | exact rfl))
          refine wpQuiet_nil ?_
          intro w5 hw5
          have B5 : Hid (Below wr.heap.size wr w5) := ext_of hw5
          clear hw5
          go_wp2
          go_ret2
          rw [E.out.1, E.out.2]
          exact ⟨rfl, B5.out⟩
        · rw [hcx] at his
          have hEx : Hid (∀ W, Calls Try.prog 65 #[.int .i64 cv] W fun e w' => e = .returned (.string (txt (Lib.encodeRune cv))) ∧ Below W.heap.size W w') := fun W => rText_c cv W hcx
          have hir : 0 ≤ cv ∧ cv ≤ 1114111 ∧ (cv < 55296 ∨ 57343 < cv) := by simpa [isC] using hcx
          have HIR : Hid _ := hir
          obtain ⟨T, hT⟩ : ∃ T, txt (Lib.encodeRune cv) = T := ⟨_, rfl⟩
          rw [hT] at hEx
          have hTl : T.toList = Lib.encodeRune cv := by rw [← hT, Lib.toList_data]; rfl
          have hsl := ext_toList s p 3
          by_cases heq : Lib.encodeRune cv = sl s p 3
          · have hcmp : (T.toList == (s.extract p (p + 3)).toList) = true := by rw [hTl, hsl, heq]; simp
            have E : Hid (ch s p = cv ∧ wd s p = 3) := by
              show ch s p = cv ∧ wd s p = 3
              have hl : (Lib.encodeRune cv).length = 3 := by rw [heq]; unfold sl; rw [List.length_take, List.length_drop, size_list]; omega
              have d := dec_of_enc HIR.out (by rw [hl]; exact heq.symm)
              exact ⟨by rw [ch_good d.2.2, d.1], by rw [d.2.1, hl]⟩
            clear hT hTl hsl heq hir
            go_wp2_with (go_at_call 64; (with_reducible refine (his _).mono ?_); rintro e w5 ⟨rfl, h5⟩; subst w5)
            refine wp_region_ext (by kernel_rfl) (by kernel_rfl) ?_
            repeat (go_big_quiet_step (first | exact rfl | (go_at_call 65; exact ext_call (hEx.out _))))
            refine wpQuiet_nil ?_
            intro w5 hw5
            have B5 : Hid (Below wr.heap.size wr w5) := ext_of hw5
            clear hw5
            go_wp2
            go_ret2
            rw [E.out.1, E.out.2]
            exact ⟨rfl, B5.out⟩
          · have hcmp : (T.toList == (s.extract p (p + 3)).toList) = false := by rw [hTl, hsl]; simpa using heq
            have E : Hid (ch s p = -1 ∧ wd s p = 1) := by
              refine ch_of_bad ?_
              rcases hb : bad s p with _ | _
              · exfalso
                have gv := good_val LD.out C.out hb
                have es := enc_sl s p hp hb
                rw [gv.2, gv.1, HCV.out] at es
                exact heq es
              · rfl
            clear hT hTl hsl heq hir
            go_wp2_with (go_at_call 64; (with_reducible refine (his _).mono ?_); rintro e w5 ⟨rfl, h5⟩; subst w5)
            refine wp_region_ext (by kernel_rfl) (by kernel_rfl) ?_
            repeat (go_big_quiet_step (first | exact rfl | (go_at_call 65; exact ext_call (hEx.out _))))
            refine wpQuiet_nil ?_
            intro w5 hw5
            have B5 : Hid (Below wr.heap.size wr w5) := ext_of hw5
            clear hw5
            go_wp2
            go_ret2
            rw [E.out.1, E.out.2]
            exact ⟨rfl, B5.out⟩
  · have j1 : (240 : Int) ≤ (b0 : Int) := by omega
    have j4 : (b0 : Int) < 248 := by omega
    have j6 : (192 : Int) ≤ (b0 : Int) := by omega
    have j7 : ¬ (b0 : Int) < 224 := by omega
    have j8 : (224 : Int) ≤ (b0 : Int) := by omega
    have j9 : ¬ (b0 : Int) < 240 := by omega
    have v1 : IntKind.wrap .i64 ((b0 : Int) - 240) = c0 := by rw [wrap_small _ (by omega) (by omega)]; omega
    clear k2 l1 l2 l3
    go_upto_region 16 with fail
    by_cases hsh : s.size - p < 4
    · have E : Hid (ch s p = -1 ∧ wd s p = 1) := ch_of_bad (bad_short LD.out hsh)
      have q1 : (s.size : Int) - (p : Int) < 4 := by omega
      go_wp2
      go_ret2
      rw [E.out.1, E.out.2]
      exact ⟨rfl, Below.refl _ _⟩
    have q1 : ¬ (s.size : Int) - (p : Int) < 4 := by omega
    have hpn : p + 4 ≤ s.size := by omega
    clear hsh
    go_wp2
    go_loopw [7, 8] (fun t i wr => ∃ k : Nat, 1 ≤ k ∧ k ≤ 4 ∧ i = .int .i64 (k : Int) ∧ t = .int .i64 (cvF s p c0 (k - 1)) ∧ Conts s p k ∧ wr = w) (fun _ i _ => 4 - (intOf i).toNat)
    case atStart => exact ⟨1, by omega, by omega, rfl, rfl, fun j h1 h2 => by omega, rfl⟩
    case round =>
      obtain ⟨k, hk1, hk, rfl, rfl, hct, hw⟩ := hrel
      subst hw
      obtain ⟨j, rfl⟩ : ∃ j, k = j + 1 := ⟨k - 1, by omega⟩
      rw [Nat.add_sub_cancel]
      have C : Hid (Conts s p (j + 1)) := hct
      have hcr := cvF_range (s := s) (p := p) hc0.1 hc0.2 j (by omega) hct
      obtain ⟨cv, hcv⟩ : ∃ cv, cvF s p c0 j = cv := ⟨_, rfl⟩
      have HCV : Hid (cvF s p c0 j = cv) := hcv
      rw [hcv] at hcr ⊢
      clear hcv hct
      by_cases hlt : j + 1 < 4
      · have gk := bt_get s (p + (j + 1)) (by omega)
        obtain ⟨bk, hbk⟩ : ∃ b, bt s (p + (j + 1)) = b := ⟨_, rfl⟩
        have hbkl := bt_lt s (p + (j + 1))
        rw [hbk] at gk hbkl
        have HBK : Hid (bt s (p + (j + 1)) = bk) := hbk
        clear hbk
        have i1 : ((j + 1 : Nat) : Int) < 4 := by omega
        have wbk : IntKind.wrap .i64 (bk : Int) = (bk : Int) := wrap_small _ (by omega) (by omega)
        have wix : IntKind.wrap .i64 ((p : Int) + ((j + 1 : Nat) : Int)) = ((p + (j + 1) : Nat) : Int) := by rw [wrap_small _ (by omega) (by omega)]; omega
        have x0 : (0 : Int) ≤ ((p + (j + 1) : Nat) : Int) := by omega
        have x1 : ((p + (j + 1) : Nat) : Int) < (s.size : Int) := by omega
        have x2 : ((p + (j + 1) : Nat) : Int).toNat = p + (j + 1) := by omega
        obtain ⟨ix, hix⟩ : ∃ ix, p + (j + 1) = ix := ⟨_, rfl⟩
        obtain ⟨jj, hjj⟩ : ∃ jj, j + 1 = jj := ⟨_, rfl⟩
        have ixl : ix < s.size := by omega
        have gx : (s[ix]'ixl).toNat = bk := by subst hix; exact gk
        clear gk
        rw [hix] at wix x0 x1 x2
        rw [hjj] at wix i1 ⊢
        have HJ : Hid (j + 1 = jj) := hjj
        have HIX : Hid (p + (j + 1) = ix) := hix
        clear hjj hix
        by_cases b1 : (bk : Int) < 128
        · have E : Hid (ch s p = -1 ∧ wd s p = 1) := ch_of_bad (bad_cont LD.out (j := j + 1) (by omega) hlt (.inl (by rw [HBK.out]; omega)))
          go_wp2
          go_ret2
          rw [E.out.1, E.out.2]
          exact ⟨rfl, Below.refl _ _⟩
        by_cases b2 : (191 : Int) < (bk : Int)
        · have E : Hid (ch s p = -1 ∧ wd s p = 1) := ch_of_bad (bad_cont LD.out (j := j + 1) (by omega) hlt (.inr (by rw [HBK.out]; omega)))
          go_wp2
          go_ret2
          rw [E.out.1, E.out.2]
          exact ⟨rfl, Below.refl _ _⟩
        have y1 : IntKind.wrap .i64 (64 * cv) = 64 * cv := wrap_small _ (by omega) (by omega)
        have y2 : IntKind.wrap .i64 (64 * cv + (bk : Int)) = 64 * cv + (bk : Int) := wrap_small _ (by omega) (by omega)
        have y3 : IntKind.wrap .i64 (64 * cv + (bk : Int) - 128) = 64 * cv + (bk : Int) - 128 := wrap_small _ (by omega) (by omega)
        have y4 : IntKind.wrap .i64 ((jj : Int) + 1) = (jj : Int) + 1 := wrap_small _ (by omega) (by omega)
        go_wp2
        go_roundw
        case rel =>
          refine ⟨jj + 1, by omega, by have := HJ.out; omega, by go_num, ?_, fun i q1 q2 => ?_, by first | rfl | trivial⟩
          · rw [Nat.add_sub_cancel, ← HJ.out, cvF, HCV.out, HBK.out]
          · by_cases e : i < j + 1
            · exact C.out i q1 e
            · obtain rfl : i = j + 1 := by have := HJ.out; omega
              rw [HBK.out]; omega
        case measure => simp only [intOf]; have := HJ.out; omega
      · obtain rfl : j = 4 - 1 := by omega
        have i1 : ¬ (((4 : Nat) - 1 + 1 : Nat) : Int) < 4 := by omega
        have his := rIs_c cv
        have wpn : IntKind.wrap .i64 ((p : Int) + 4) = (p : Int) + 4 := wrap_small _ (by omega) (by omega)
        have z1 : (p : Int) ≤ (p : Int) + 4 := by omega
        have z2 : (p : Int) + 4 ≤ (s.size : Int) := by omega
        have z3 : ((p : Int) + 4).toNat = p + 4 := by omega
        rcases hcx : isC cv with _ | _
        · rw [hcx] at his
          have E : Hid (ch s p = -1 ∧ wd s p = 1) := by
            refine ch_of_bad ?_
            rcases hb : bad s p with _ | _
            · exfalso
              have gv := good_val LD.out C.out hb
              have hv := dec_valid s p
              rw [gv.1, HCV.out] at hv
              simp [isC] at hcx
              simp [Lib.validRune] at hv
              omega
            · rfl
          go_wp2_with (go_at_call 64; (with_reducible refine (his _).mono ?_); rintro e w5 ⟨rfl, h5⟩; subst w5)
          refine wp_region_ext (by kernel_rfl) (by kernel_rfl) ?_
          repeat (go_big_quiet_step (first | exact rfl))
          refine wpQuiet_nil ?_
          intro w5 hw5
          have B5 : Hid (Below wr.heap.size wr w5) := ext_of hw5
          clear hw5
          go_wp2
          go_ret2
          rw [E.out.1, E.out.2]
          exact ⟨rfl, B5.out⟩
        · rw [hcx] at his
          have hEx : Hid (∀ W, Calls Try.prog 65 #[.int .i64 cv] W fun e w' => e = .returned (.string (txt (Lib.encodeRune cv))) ∧ Below W.heap.size W w') := fun W => rText_c cv W hcx
          have hir : 0 ≤ cv ∧ cv ≤ 1114111 ∧ (cv < 55296 ∨ 57343 < cv) := by simpa [isC] using hcx
          have HIR : Hid _ := hir
          obtain ⟨T, hT⟩ : ∃ T, txt (Lib.encodeRune cv) = T := ⟨_, rfl⟩
          rw [hT] at hEx
          have hTl : T.toList = Lib.encodeRune cv := by rw [← hT, Lib.toList_data]; rfl
          have hsl := ext_toList s p 4
          by_cases heq : Lib.encodeRune cv = sl s p 4
          · have hcmp : (T.toList == (s.extract p (p + 4)).toList) = true := by rw [hTl, hsl, heq]; simp
            have E : Hid (ch s p = cv ∧ wd s p = 4) := by
              show ch s p = cv ∧ wd s p = 4
              have hl : (Lib.encodeRune cv).length = 4 := by rw [heq]; unfold sl; rw [List.length_take, List.length_drop, size_list]; omega
              have d := dec_of_enc HIR.out (by rw [hl]; exact heq.symm)
              exact ⟨by rw [ch_good d.2.2, d.1], by rw [d.2.1, hl]⟩
            clear hT hTl hsl heq hir
            go_wp2_with (go_at_call 64; (with_reducible refine (his _).mono ?_); rintro e w5 ⟨rfl, h5⟩; subst w5)
            refine wp_region_ext (by kernel_rfl) (by kernel_rfl) ?_
            repeat (go_big_quiet_step (first | exact rfl | (go_at_call 65; exact ext_call (hEx.out _))))
            refine wpQuiet_nil ?_
            intro w5 hw5
            have B5 : Hid (Below wr.heap.size wr w5) := ext_of hw5
            clear hw5
            go_wp2
            go_ret2
            rw [E.out.1, E.out.2]
            exact ⟨rfl, B5.out⟩
          · have hcmp : (T.toList == (s.extract p (p + 4)).toList) = false := by rw [hTl, hsl]; simpa using heq
            have E : Hid (ch s p = -1 ∧ wd s p = 1) := by
              refine ch_of_bad ?_
              rcases hb : bad s p with _ | _
              · exfalso
                have gv := good_val LD.out C.out hb
                have es := enc_sl s p hp hb
                rw [gv.2, gv.1, HCV.out] at es
                exact heq es
              · rfl
            clear hT hTl hsl heq hir
            go_wp2_with (go_at_call 64; (with_reducible refine (his _).mono ?_); rintro e w5 ⟨rfl, h5⟩; subst w5)
            refine wp_region_ext (by kernel_rfl) (by kernel_rfl) ?_
            repeat (go_big_quiet_step (first | exact rfl | (go_at_call 65; exact ext_call (hEx.out _))))
            refine wpQuiet_nil ?_
            intro w5 hw5
            have B5 : Hid (Below wr.heap.size wr w5) := ext_of hw5
            clear hw5
            go_wp2
            go_ret2
            rw [E.out.1, E.out.2]
            exact ⟨rfl, B5.out⟩
end Go.Proofs.Ytlodjinejeajcab
namespace Go.Proofs.Ytlodjinejeajcab
open Go Go.RowKit

/-- Ranges that have numbers, by their first ones. -/
structure Srt (S : List (Int × Int)) : Prop where
  some : ∀ r ∈ S, r.1 ≤ r.2
  rise : S.Pairwise (fun a b => a.1 ≤ b.1)
theorem srt_nil : Srt [] := ⟨fun _ h => (by cases h), List.Pairwise.nil⟩
theorem srt_tail {r : Int × Int} {L : List (Int × Int)} (h : Srt (r :: L)) : Srt L := ⟨fun x hx => h.some x (List.mem_cons_of_mem _ hx), (List.pairwise_cons.1 h.rise).2⟩
theorem srt_app {O L : List (Int × Int)} (h : Srt O) (k : Srt L) (hx : ∀ x ∈ O, ∀ y ∈ L, x.1 ≤ y.1) : Srt (O ++ L) :=
  ⟨fun r hr => (List.mem_append.1 hr).elim (h.some r) (k.some r), List.pairwise_append.2 ⟨h.rise, k.rise, hx⟩⟩
theorem srt_one {r : Int × Int} (h : r.1 ≤ r.2) : Srt [r] := ⟨fun x hx => by simp at hx; subst hx; exact h, List.pairwise_singleton _ _⟩
/-- The merge, on its way: O is out, A' and B' are left. -/
structure MI (A B A' B' O : List (Int × Int)) : Prop where
  out : Srt O
  a : Srt A'
  b : Srt B'
  mem : ∀ c, (In O c ∨ In A' c ∨ In B' c) ↔ (In A c ∨ In B c)
  le : ∀ x ∈ O, ∀ y, y ∈ A' ∨ y ∈ B' → x.1 ≤ y.1
  fit : Fit O ∧ Fit A' ∧ Fit B'
  len : O.length + A'.length + B'.length ≤ A.length + B.length
theorem MI.start {A B : List (Int × Int)} (ha : Srt A) (hb : Srt B) (fa : Fit A) (fb : Fit B) : MI A B A B [] :=
  ⟨srt_nil, ha, hb, fun c => ⟨fun q => q.elim (fun q => absurd q (in_nil c)) id, .inr⟩, fun _ h => (by cases h), ⟨fit_nil, fa, fb⟩, by simp⟩
theorem MI.right {A B A' B' O : List (Int × Int)} {a b : Int × Int} (I : MI A B (a :: A') (b :: B') O) (h : b.1 < a.1) : MI A B (a :: A') B' (O ++ [b]) := by
  refine ⟨srt_app I.out (srt_one (I.b.some b (by simp))) (fun x hx y hy => by simp at hy; subst hy; exact I.le x hx y (.inr (by simp))), I.a, srt_tail I.b, fun c => ?_, fun x hx y hy => ?_, ⟨fit_append I.fit.1 (fit_sub I.fit.2.2 fun z hz => by simp at hz; subst hz; simp), I.fit.2.1, fit_sub I.fit.2.2 fun z hz => List.mem_cons_of_mem _ hz⟩, by have := I.len; simp at *; omega⟩
  · rw [← I.mem, in_append, in_one, in_cons b B']
    constructor
    · rintro ((q | q) | q | q)
      · exact .inl q
      · exact .inr (.inr (.inl q))
      · exact .inr (.inl q)
      · exact .inr (.inr (.inr q))
    · rintro (q | q | q | q)
      · exact .inl (.inl q)
      · exact .inr (.inl q)
      · exact .inl (.inr q)
      · exact .inr (.inr q)
  · rcases List.mem_append.1 hx with hx | hx
    · exact I.le x hx y (hy.elim .inl fun q => .inr (List.mem_cons_of_mem _ q))
    · simp at hx
      subst hx
      rcases hy with hy | hy
      · rcases List.mem_cons.1 hy with rfl | hy
        · omega
        · have := (List.pairwise_cons.1 I.a.rise).1 y hy; omega
      · exact (List.pairwise_cons.1 I.b.rise).1 y hy
theorem MI.left {A B A' B' O : List (Int × Int)} {a : Int × Int} (I : MI A B (a :: A') B' O) (h : ∀ b ∈ B', a.1 ≤ b.1) : MI A B A' B' (O ++ [a]) := by
  refine ⟨srt_app I.out (srt_one (I.a.some a (by simp))) (fun x hx y hy => by simp at hy; subst hy; exact I.le x hx y (.inl (by simp))), srt_tail I.a, I.b, fun c => ?_, fun x hx y hy => ?_, ⟨fit_append I.fit.1 (fit_sub I.fit.2.1 fun z hz => by simp at hz; subst hz; simp), fit_sub I.fit.2.1 fun z hz => List.mem_cons_of_mem _ hz, I.fit.2.2⟩, by have := I.len; simp at *; omega⟩
  · rw [← I.mem, in_append, in_one, in_cons a A']
    constructor
    · rintro ((q | q) | q | q)
      · exact .inl q
      · exact .inr (.inl (.inl q))
      · exact .inr (.inl (.inr q))
      · exact .inr (.inr q)
    · rintro (q | (q | q) | q)
      · exact .inl (.inl q)
      · exact .inl (.inr q)
      · exact .inr (.inl q)
      · exact .inr (.inr q)
  · rcases List.mem_append.1 hx with hx | hx
    · exact I.le x hx y (hy.elim (fun q => .inl (List.mem_cons_of_mem _ q)) .inr)
    · simp at hx
      subst hx
      rcases hy with hy | hy
      · exact (List.pairwise_cons.1 I.a.rise).1 y hy
      · exact h y hy
theorem MI.done {A B B' O : List (Int × Int)} (I : MI A B [] B' O) : Srt (O ++ B') ∧ (∀ c, In (O ++ B') c ↔ (In A c ∨ In B c)) ∧ Fit (O ++ B') ∧ (O ++ B').length ≤ A.length + B.length := by
  refine ⟨srt_app I.out I.b fun x hx y hy => I.le x hx y (.inr hy), fun c => ?_, fit_append I.fit.1 I.fit.2.2, by have := I.len; simp at *; omega⟩
  rw [← I.mem, in_append]
  exact ⟨fun q => q.elim .inl fun q => .inr (.inr q), fun q => q.elim .inl fun q => q.elim (fun q => absurd q (in_nil c)) .inr⟩
/-- What sorted tells. -/
def SortOf (w : World) (L : List (Int × Int)) (e : Ending) (w' : World) : Prop := ∃ v S, e = .returned v ∧ RR w.heap.size w' v S ∧ Srt S ∧ Fit S ∧ (∀ c, In S c ↔ In L c) ∧ S.length ≤ L.length ∧ Below w.heap.size w w'
theorem ArgR.take {W : World} {g off n cap : Nat} {L : List (Int × Int)} (h : ArgR W (.slice (some ⟨g, off, none⟩) n cap) L) {k : Nat} (hk : k ≤ L.length) : ArgR W (.slice (some ⟨g, off, none⟩) k cap) (L.take k) := by
  have hl : (L.take k).length = k := by simp; omega
  rcases h with ⟨p, c, e, rfl, e2⟩ | ⟨g', off', cap', e, h2, h3, h4, h5⟩
  · simp at hk
    subst hk
    cases e
    exact .inl ⟨_, _, rfl, rfl, fun q => by cases q⟩
  · cases e
    refine .inr ⟨g, off, cap, by rw [hl], h2, by omega, h4, fun i r hi => h5 i r ?_⟩
    rw [List.getElem?_take] at hi
    split at hi
    · exact hi
    · cases hi
theorem ArgR.drop {W : World} {g off n cap : Nat} {L : List (Int × Int)} (h : ArgR W (.slice (some ⟨g, off, none⟩) n cap) L) {k : Nat} (hk : k < L.length) : ArgR W (.slice (some ⟨g, off + k * 2, none⟩) (n - k) (cap - k)) (L.drop k) := by
  rcases h with ⟨p, c, e, rfl, e2⟩ | ⟨g', off', cap', e, h2, h3, h4, h5⟩
  · simp at hk
  · cases e
    refine .inr ⟨g, off + k * 2, cap - k, by simp, h2, by simp; omega, by omega, fun i r hi => ?_⟩
    rw [List.getElem?_drop] at hi
    have := h5 (k + i) r hi
    rw [show off + k * 2 + 2 * i = off + 2 * (k + i) by omega]
    exact this
theorem in_halves (L : List (Int × Int)) (k : Nat) (c : Int) : (In (L.take k) c ∨ In (L.drop k) c) ↔ In L c := by rw [← in_append, List.take_append_drop]
end Go.Proofs.Ytlodjinejeajcab
namespace Go.Proofs.Ytlodjinejeajcab
open Go Go.RowKit
attribute [local go_sem] ext_cell

set_option maxRecDepth 100000 in
set_option maxHeartbeats 1000000 in
theorem sorted_small {w : World} {v : Value} {L : List (Int × Int)} (h : ArgR w v L) (hF : Fit L) (hn : L.length ≤ 1) : Calls Try.prog 66 #[v] w (SortOf w L) := by
  obtain ⟨t0, ti, hz0, hz1, hz2⟩ := info_parts size_range
  cases L with
  | nil =>
    obtain ⟨q, cap, e, -, -, -⟩ := h.slice
    subst e
    clear h
    go_enter Try.func66, Try.ntmps66
    go_wp2
    go_ret
    exact ⟨_, [], rfl, RR.nil _ _, srt_nil, fit_nil, fun _ => Iff.rfl, Nat.le_refl _, Below.refl _ _⟩
  | cons r L' =>
    obtain rfl : L' = [] := List.eq_nil_of_length_eq_zero (by simpa using hn)
    obtain ⟨g, off, cap, rfl, hg, hn1, hm1, x1, x2⟩ := h.cons
    have HF : Hid (Fit [r]) := hF
    clear h hF
    obtain ⟨lo, hi⟩ := r
    dsimp only [List.length_nil] at x1 x2 hn1 ⊢
    have W1 : Hid (w = w) := rfl
    by_cases hq : lo ≤ hi
    · have dq : decide (lo ≤ hi) = true := decide_eq_true hq
      have HQ : Hid (lo ≤ hi) := hq
      go_enter Try.func66, Try.ntmps66
      go_wp2
      refine wp_region_ext (by kernel_rfl) (by kernel_rfl) ?_
      repeat (go_big_quiet_step (first | exact rfl))
      refine wpQuiet_nil ?_
      intro w7 hw7
      have B7 : Hid (Below w.heap.size w w7) := ext_of hw7
      have c1 := (B7.out.cell (p := ⟨g, off, none⟩) hg).trans x1
      have c2 := (B7.out.cell (p := ⟨g, off + 1, none⟩) hg).trans x2
      have hz7 := B7.out.size
      clear hw7 x1 x2
      go_wp2_with (at_builtin; refine wpList_append_own_at _ rfl _ _ 22 rfl w.heap.size 55 t0 (.agg #[.int .i64 0, .int .i64 0]) 2 16 und_ranges ti hz0 hz1 hz2 rfl (by decide) (.slice none 0 0) 0 (cellsR []) rfl (RR.nil _ _) ⟨w7.heap.size, 0, none⟩ 1 1 [.int .i64 lo, .int .i64 hi] rfl rfl (news2 _ _ _ _) (by simp [Value.oneCell']) (by unfold maxLen; omega) (by omega) (by simp; omega) ?_; intro v' w6 hown' hgrow _ hblk; obtain ⟨g6, cap6, rfl⟩ := ownsRow_some hown' (Nat.succ_pos _); have A6 : Hid (RR w.heap.size w6 (.slice (some ⟨g6, 0, none⟩) 1 cap6) [(lo, hi)]) := hown'; have B6 : Hid (Below w.heap.size w w6) := below_grown (t := 55) (size := 2) (n := 0) (xs := []) (B7.out.alloc hz7 _) (RR.nil _ _) hgrow; clear hown' hgrow hblk)
      go_ret
      exact ⟨_, [(lo, hi)], rfl, A6.out, srt_one HQ.out, HF.out, fun _ => Iff.rfl, Nat.le_refl _, B6.out⟩
    · have dq : decide (lo ≤ hi) = false := decide_eq_false hq
      have HQ : Hid (¬ lo ≤ hi) := hq
      go_enter Try.func66, Try.ntmps66
      go_wp2
      refine wp_region_ext (by kernel_rfl) (by kernel_rfl) ?_
      repeat (go_big_quiet_step (first | exact rfl))
      refine wpQuiet_nil ?_
      intro w7 hw7
      have B7 : Hid (Below w.heap.size w w7) := ext_of hw7
      clear hw7
      go_wp2
      go_ret
      exact ⟨_, [], rfl, RR.nil _ _, srt_nil, fit_nil, fun c => ⟨fun q => absurd q (in_nil c), fun q => by rw [in_one] at q; have := HQ.out; simp only at q; omega⟩, by simp, B7.out⟩

set_option maxRecDepth 100000 in
set_option maxHeartbeats 4000000 in
theorem sorted_step {w : World} {v : Value} {L : List (Int × Int)} (ih : ∀ (w : World) (v : Value) (L' : List (Int × Int)), L'.length < L.length → ArgR w v L' → Fit L' → Calls Try.prog 66 #[v] w (SortOf w L')) (h : ArgR w v L) (hF : Fit L) (hn : 1 < L.length) (hl : L.length + 1 ≤ 8796093022208) : Calls Try.prog 66 #[v] w (SortOf w L) := by
  obtain ⟨t0, ti, hz0, hz1, hz2⟩ := info_parts size_range
  obtain ⟨q, cap, e, -, hcap, hcells⟩ := h.slice
  subst e
  obtain ⟨g, off, rfl, hg, -, -⟩ := hcells 0 _ (List.getElem?_eq_getElem (by omega))
  obtain ⟨k, hk⟩ : ∃ k, L.length / 2 = k := ⟨_, rfl⟩
  have hk1 : 0 < k := by omega
  have hk2 : k < L.length := by omega
  have IH : Hid (∀ (w : World) (v : Value) (L' : List (Int × Int)), L'.length < L.length → ArgR w v L' → Fit L' → Calls Try.prog 66 #[v] w (SortOf w L')) := ih
  have T1 : Hid (ArgR w (.slice (some ⟨g, off, none⟩) k cap) (L.take k) ∧ Fit (L.take k) ∧ (L.take k).length < L.length) := ⟨h.take (by omega), fit_sub hF fun x hx => List.mem_of_mem_take hx, by simp; omega⟩
  have T2 : Hid (ArgR w (.slice (some ⟨g, off + k * 2, none⟩) (L.length - k) (cap - k)) (L.drop k) ∧ Fit (L.drop k) ∧ (L.drop k).length < L.length) := ⟨h.drop hk2, fit_sub hF fun x hx => List.mem_of_mem_drop hx, by simp; omega⟩
  have HL : Hid ((L.take k).length + (L.drop k).length = L.length) := hide (by simp; omega)
  have q1 : ((L.length : Int).tdiv 2) = (k : Int) := by rw [← hk]; simp [Int.tdiv_eq_ediv]
  have q2 : IntKind.wrap .i64 ((L.length : Int).tdiv 2) = (k : Int) := by rw [q1, IntKind.wrap_i64]; omega
  have n0 : ((L.length : Int) == 0) = false := beq_false_of_ne (by omega)
  have n1 : ((L.length : Int) == 1) = false := beq_false_of_ne (by omega)
  have k0 : (0 : Int) ≤ (k : Int) := by omega
  have k1 : (k : Int) ≤ (cap : Int) := by omega
  have k2 : (k : Int) ≤ (L.length : Int) := by omega
  have k3 : ¬ cap = k := by omega
  clear h hF ih hcells hk
  go_enter Try.func66, Try.ntmps66
  go_wp2_with first
    | (go_at_call 66; have hx := X5.out; clear hx; have hih := IH.out w5 _ _ T2.out.2.2 (T2.out.1.kept X5.out.2.2.2.2.2) T2.out.2.1; (with_reducible refine hih.mono ?_); clear hih; rintro e w6 ⟨v6, B, rfl, h1, h2, h3, h4, h5, h6⟩; obtain ⟨qb, cb, rfl⟩ := h1.shape; have X6 : Hid (RR w5.heap.size w6 (.slice qb B.length cb) B ∧ Srt B ∧ Fit B ∧ (∀ c, In B c ↔ In (L.drop k) c) ∧ B.length ≤ (L.drop k).length ∧ Below w5.heap.size w5 w6) := ⟨h1, h2, h3, h4, h5, h6⟩; clear h1 h2 h3 h4 h5 h6)
    | (go_at_call 66; have hih := IH.out w _ _ T1.out.2.2 T1.out.1 T1.out.2.1; (with_reducible refine hih.mono ?_); clear hih; rintro e w5 ⟨v5, A, rfl, h1, h2, h3, h4, h5, h6⟩; obtain ⟨qa, ca, rfl⟩ := h1.shape; have X5 : Hid (RR w.heap.size w5 (.slice qa A.length ca) A ∧ Srt A ∧ Fit A ∧ (∀ c, In A c ↔ In (L.take k) c) ∧ A.length ≤ (L.take k).length ∧ Below w.heap.size w w5) := ⟨h1, h2, h3, h4, h5, h6⟩; clear h1 h2 h3 h4 h5 h6)
  rename World => W1
  have ST : Hid (MI A B A B []) := MI.start X5.out.2.1 X6.out.2.1 X5.out.2.2.1 X6.out.2.2.1
  have AA : Hid (ArgR W1 (.slice qa A.length ca) A ∧ ArgR W1 (.slice qb B.length cb) B) := ⟨(X5.out.1.kept X6.out.2.2.2.2.2).arg, X6.out.1.arg⟩
  have hab : A.length + B.length + 1 ≤ 8796093022208 := by have := X5.out.2.2.2.2.1; have := X6.out.2.2.2.2.1; have := HL.out; omega
  have BW : Hid (Below w.heap.size w W1) := chain X5.out.2.2.2.2.2 X6.out.2.2.2.2.2 (Nat.le_refl _)
  have HA : Hid (∀ (i : Nat) (r : Int × Int), A[i]? = some r → ∃ g off, qa = some ⟨g, off, none⟩ ∧ g < W1.heap.size ∧ W1.cell? ⟨g, off + 2 * i, none⟩ = some (.int .i64 r.1) ∧ W1.cell? ⟨g, off + 2 * i + 1, none⟩ = some (.int .i64 r.2)) := by
    obtain ⟨q', cap', e, -, -, hc⟩ := AA.out.1.slice
    cases e
    exact hc
  have FIN : Hid (∀ O B', MI A B [] B' O → Srt (O ++ B') ∧ Fit (O ++ B') ∧ (∀ c, In (O ++ B') c ↔ In L c) ∧ (O ++ B').length ≤ L.length) := fun O B' I => by
    obtain ⟨m1, m2, m3, m4⟩ := I.done
    refine ⟨m1, m3, fun c => ?_, ?_⟩
    · rw [m2, X5.out.2.2.2.1, X6.out.2.2.2.1, in_halves]
    · have := X5.out.2.2.2.2.1; have := X6.out.2.2.2.2.1; have := HL.out; omega
  clear q1 q2 k0 k1 k2 k3 n0 n1
  go_loopw [3, 5, 6] (fun ov bv i wr => ∃ (j : Nat) (B' O : List (Int × Int)), j ≤ A.length ∧ i = .int .i64 j ∧ ArgR W1 bv B' ∧ RR W1.heap.size wr ov O ∧ MI A B (A.drop j) B' O ∧ Below W1.heap.size W1 wr) (fun _ _ i _ => A.length - (intOf i).toNat)
  case atStart => exact ⟨0, B, [], Nat.zero_le _, rfl, AA.out.2, RR.nil _ _, ST.out, Below.refl _ _⟩
  case round =>
    obtain ⟨j, B', O, hj, rfl, hbv, hov, hI, hb⟩ := hrel
    have RB : Hid (ArgR W1 u5 B') := hbv
    have RO : Hid (RR W1.heap.size wr u3 O) := hov
    have I : Hid (MI A B (A.drop j) B' O) := hI
    have BB : Hid (Below W1.heap.size W1 wr) := hb
    clear hbv hov hI hb
    by_cases hlt : j < A.length
    · obtain ⟨a, ea⟩ : ∃ r, A[j]? = some r := ⟨_, List.getElem?_eq_getElem hlt⟩
      have DR : Hid (A.drop j = a :: A.drop (j + 1)) := hide (by obtain ⟨h1, h2⟩ := List.getElem?_eq_some_iff.1 ea; rw [List.drop_eq_getElem_cons h1, h2])
      obtain ⟨ga, oa, rfl, hga, xa1, xa2⟩ := HA.out j _ ea
      have I2 : Hid (MI A B (a :: A.drop (j + 1)) B' O) := hide (by rw [← DR.out]; exact I.out)
      rw [Nat.mul_comm] at xa1 xa2
      obtain ⟨la, ra⟩ := a
      dsimp only at xa1 xa2
      have XA : Hid (W1.cell? ⟨ga, oa + j * 2, none⟩ = some (.int .i64 la) ∧ W1.cell? ⟨ga, oa + j * 2 + 1, none⟩ = some (.int .i64 ra) ∧ ga < W1.heap.size) := ⟨xa1, xa2, hga⟩
      have i0 : (0 : Int) ≤ (j : Int) := by omega
      have i1 : (j : Int) < (A.length : Int) := by omega
      clear xa1 xa2 hga ea
      rename World => W2
      obtain ⟨qq, cc, e5⟩ : ∃ q c, u5 = .slice q B'.length c := by obtain ⟨q, c, e, -⟩ := RB.out.slice; exact ⟨q, c, e⟩
      obtain ⟨qq3, cc3, e3⟩ := RO.out.shape
      go_wp2
      go_loopw [3, 5] (fun ov bv wr => ∃ (B' O : List (Int × Int)), ArgR W1 bv B' ∧ RR W1.heap.size wr ov O ∧ MI A B ((la, ra) :: A.drop (j + 1)) B' O ∧ Below W1.heap.size W1 wr) (fun _ bv _ => lenV bv)
      case atStart => exact ⟨B', O, RB.out, RO.out, I2.out, BB.out⟩
      case round =>
        clear RB RO I I2 BB e5 e3
        obtain ⟨B', O, hbv, hov, hI, hb⟩ := hrel
        obtain ⟨qo, co, e3⟩ := hov.shape
        subst e3
        have RO : Hid (RR W1.heap.size wr (.slice qo O.length co) O) := hov
        have I : Hid (MI A B ((la, ra) :: A.drop (j + 1)) B' O) := hI
        have BB : Hid (Below W1.heap.size W1 wr) := hb
        have hol : O.length + 1 ≤ 8796093022208 := by have := hI.len; simp at this; omega
        have hbs := hb.size
        have ca1 := (BB.out.cell (p := ⟨ga, oa + j * 2, none⟩) XA.out.2.2).trans XA.out.1
        have sa : ga < wr.heap.size := Nat.lt_of_lt_of_le XA.out.2.2 hbs
        clear hov hI hb
        cases B' with
        | nil =>
          obtain ⟨q2, cap2, e2, -, -, -⟩ := hbv.slice
          simp only [List.length_nil] at e2
          subst e2
          have RB : Hid (ArgR W1 (.slice q2 0 cap2) []) := hbv
          have I2 : Hid (MI A B (A.drop (j + 1)) [] (O ++ [(la, ra)])) := I.out.left (fun _ h => by cases h)
          have d0 : decide ((0 : Int) < 0) = false := by decide
          clear hbv
          go_wp2
          refine wp_region_ext (by kernel_rfl) (by kernel_rfl) ?_
          repeat (go_big_quiet_step (first | exact rfl))
          refine wpQuiet_nil ?_
          intro w7 hw7
          have B7 : Hid (Below W1.heap.size W1 w7) := chain BB.out (ext_of hw7) (Nat.le_refl _)
          have R7 : Hid (RR W1.heap.size w7 (.slice qo O.length co) O) := RO.out.kept (ext_of hw7)
          have e1 := (B7.out.cell (p := ⟨ga, oa + j * 2, none⟩) XA.out.2.2).trans XA.out.1
          have e2 := (B7.out.cell (p := ⟨ga, oa + j * 2 + 1, none⟩) XA.out.2.2).trans XA.out.2.1
          have hz7 := B7.out.size
          clear hw7 ca1
          go_wp2_with (at_builtin; refine wpList_append_own_at _ rfl _ _ 22 rfl W1.heap.size 55 t0 (.agg #[.int .i64 0, .int .i64 0]) 2 16 und_ranges ti hz0 hz1 hz2 rfl (by decide) (.slice qo O.length co) O.length (cellsR O) rfl (World.ownsRow.alloc R7.out (.cells #[.int .i64 la, .int .i64 ra] 55)) ⟨w7.heap.size, 0, none⟩ 1 1 [.int .i64 la, .int .i64 ra] rfl rfl (news2 _ _ _ _) (by simp [Value.oneCell']) (by unfold maxLen; omega) (by omega) (by simp; omega) ?_; intro v' w6 hown' hgrow _ hblk; obtain ⟨g6, cap6, rfl⟩ := ownsRow_some hown' (Nat.succ_pos _); have A6 : Hid (RR W1.heap.size w6 (.slice (some ⟨g6, 0, none⟩) (O.length + 1) cap6) (O ++ [(la, ra)])) := rr_app hown'; have B6 : Hid (Below W1.heap.size W1 w6) := below_grown (B7.out.alloc B7.out.size _) (World.ownsRow.alloc R7.out _) hgrow; clear hown' hgrow hblk)
          go_roundw
          case rel => exact ⟨j + 1, [], _, by omega, by go_num, RB.out, A6.out, I2.out, B6.out⟩
          case measure => simp [intOf]; omega
        | cons b B' =>
          obtain ⟨g2, o2, cap2, e2, hg2, hn2, hm2, y1, y2⟩ := hbv.cons
          subst e2
          have RB : Hid (ArgR W1 (.slice (some ⟨g2, o2, none⟩) (B'.length + 1) cap2) (b :: B')) := hbv
          obtain ⟨lb, rb⟩ := b
          dsimp only at y1 y2
          have YB : Hid (W1.cell? ⟨g2, o2, none⟩ = some (.int .i64 lb) ∧ W1.cell? ⟨g2, o2 + 1, none⟩ = some (.int .i64 rb) ∧ g2 < W1.heap.size) := ⟨y1, y2, hg2⟩
          have cb1 := (BB.out.cell (p := ⟨g2, o2, none⟩) YB.out.2.2).trans YB.out.1
          have sb : g2 < wr.heap.size := Nat.lt_of_lt_of_le hg2 hbs
          have d1 : (0 : Int) < (B'.length : Int) + 1 := by omega
          have dd : decide ((0 : Int) < (B'.length : Int) + 1) = true := decide_eq_true d1
          unfold maxLen at hm2
          clear hbv y1 y2 hg2
          by_cases hq : lb < la
          · have I2 : Hid (MI A B ((la, ra) :: A.drop (j + 1)) B' (O ++ [(lb, rb)])) := I.out.right hq
            have dq : decide (lb < la) = true := decide_eq_true hq
            have TT := RB.out.tail
            by_cases hcap : cap2 = 1
            · have T1' : Hid (ArgR W1 (.slice (some ⟨g2, o2, none⟩) 0 0) B') := TT.1 hcap
              have hA0 : B'.length = 0 := by omega
              subst hcap
              clear TT
              go_wp2
              refine wp_region_ext (by kernel_rfl) (by kernel_rfl) ?_
              repeat (go_big_quiet_step (first | exact rfl))
              refine wpQuiet_nil ?_
              intro w7 hw7
              have B7 : Hid (Below W1.heap.size W1 w7) := chain BB.out (ext_of hw7) (Nat.le_refl _)
              have R7 : Hid (RR W1.heap.size w7 (.slice qo O.length co) O) := RO.out.kept (ext_of hw7)
              have e1 := (B7.out.cell (p := ⟨g2, o2, none⟩) YB.out.2.2).trans YB.out.1
              have e2 := (B7.out.cell (p := ⟨g2, o2 + 1, none⟩) YB.out.2.2).trans YB.out.2.1
              have hz7 := B7.out.size
              clear hw7 ca1 cb1
              go_wp2_with (at_builtin; refine wpList_append_own_at _ rfl _ _ 22 rfl W1.heap.size 55 t0 (.agg #[.int .i64 0, .int .i64 0]) 2 16 und_ranges ti hz0 hz1 hz2 rfl (by decide) (.slice qo O.length co) O.length (cellsR O) rfl (World.ownsRow.alloc R7.out (.cells #[.int .i64 lb, .int .i64 rb] 55)) ⟨w7.heap.size, 0, none⟩ 1 1 [.int .i64 lb, .int .i64 rb] rfl rfl (news2 _ _ _ _) (by simp [Value.oneCell']) (by unfold maxLen; omega) (by omega) (by simp; omega) ?_; intro v' w6 hown' hgrow _ hblk; obtain ⟨g6, cap6, rfl⟩ := ownsRow_some hown' (Nat.succ_pos _); have A6 : Hid (RR W1.heap.size w6 (.slice (some ⟨g6, 0, none⟩) (O.length + 1) cap6) (O ++ [(lb, rb)])) := rr_app hown'; have B6 : Hid (Below W1.heap.size W1 w6) := below_grown (B7.out.alloc B7.out.size _) (World.ownsRow.alloc R7.out _) hgrow; clear hown' hgrow hblk)
              go_roundw
              case rel => exact ⟨B', _, T1'.out, A6.out, I2.out, B6.out⟩
              case measure => simp only [lenV]; omega
            · have T1' : Hid (ArgR W1 (.slice (some ⟨g2, o2 + 2, none⟩) B'.length (cap2 - 1)) B') := TT.2 hcap
              clear TT
              go_wp2
              refine wp_region_ext (by kernel_rfl) (by kernel_rfl) ?_
              repeat (go_big_quiet_step (first | exact rfl))
              refine wpQuiet_nil ?_
              intro w7 hw7
              have B7 : Hid (Below W1.heap.size W1 w7) := chain BB.out (ext_of hw7) (Nat.le_refl _)
              have R7 : Hid (RR W1.heap.size w7 (.slice qo O.length co) O) := RO.out.kept (ext_of hw7)
              have e1 := (B7.out.cell (p := ⟨g2, o2, none⟩) YB.out.2.2).trans YB.out.1
              have e2 := (B7.out.cell (p := ⟨g2, o2 + 1, none⟩) YB.out.2.2).trans YB.out.2.1
              have hz7 := B7.out.size
              clear hw7 ca1 cb1
              go_wp2_with (at_builtin; refine wpList_append_own_at _ rfl _ _ 22 rfl W1.heap.size 55 t0 (.agg #[.int .i64 0, .int .i64 0]) 2 16 und_ranges ti hz0 hz1 hz2 rfl (by decide) (.slice qo O.length co) O.length (cellsR O) rfl (World.ownsRow.alloc R7.out (.cells #[.int .i64 lb, .int .i64 rb] 55)) ⟨w7.heap.size, 0, none⟩ 1 1 [.int .i64 lb, .int .i64 rb] rfl rfl (news2 _ _ _ _) (by simp [Value.oneCell']) (by unfold maxLen; omega) (by omega) (by simp; omega) ?_; intro v' w6 hown' hgrow _ hblk; obtain ⟨g6, cap6, rfl⟩ := ownsRow_some hown' (Nat.succ_pos _); have A6 : Hid (RR W1.heap.size w6 (.slice (some ⟨g6, 0, none⟩) (O.length + 1) cap6) (O ++ [(lb, rb)])) := rr_app hown'; have B6 : Hid (Below W1.heap.size W1 w6) := below_grown (B7.out.alloc B7.out.size _) (World.ownsRow.alloc R7.out _) hgrow; clear hown' hgrow hblk)
              go_roundw
              case rel => exact ⟨B', _, T1'.out, A6.out, I2.out, B6.out⟩
              case measure => simp only [lenV]; omega
          · have I2 : Hid (MI A B (A.drop (j + 1)) ((lb, rb) :: B') (O ++ [(la, ra)])) := I.out.left (fun y hy => by
              rcases List.mem_cons.1 hy with rfl | hy
              · simp only; omega
              · have := (List.pairwise_cons.1 I.out.b.rise).1 y hy; simp only at this ⊢; omega)
            have dq : decide (lb < la) = false := decide_eq_false hq
            go_wp2
            refine wp_region_ext (by kernel_rfl) (by kernel_rfl) ?_
            repeat (go_big_quiet_step (first | exact rfl))
            refine wpQuiet_nil ?_
            intro w7 hw7
            have B7 : Hid (Below W1.heap.size W1 w7) := chain BB.out (ext_of hw7) (Nat.le_refl _)
            have R7 : Hid (RR W1.heap.size w7 (.slice qo O.length co) O) := RO.out.kept (ext_of hw7)
            have e1 := (B7.out.cell (p := ⟨ga, oa + j * 2, none⟩) XA.out.2.2).trans XA.out.1
            have e2 := (B7.out.cell (p := ⟨ga, oa + j * 2 + 1, none⟩) XA.out.2.2).trans XA.out.2.1
            have hz7 := B7.out.size
            clear hw7 ca1 cb1
            go_wp2_with (at_builtin; refine wpList_append_own_at _ rfl _ _ 22 rfl W1.heap.size 55 t0 (.agg #[.int .i64 0, .int .i64 0]) 2 16 und_ranges ti hz0 hz1 hz2 rfl (by decide) (.slice qo O.length co) O.length (cellsR O) rfl (World.ownsRow.alloc R7.out (.cells #[.int .i64 la, .int .i64 ra] 55)) ⟨w7.heap.size, 0, none⟩ 1 1 [.int .i64 la, .int .i64 ra] rfl rfl (news2 _ _ _ _) (by simp [Value.oneCell']) (by unfold maxLen; omega) (by omega) (by simp; omega) ?_; intro v' w6 hown' hgrow _ hblk; obtain ⟨g6, cap6, rfl⟩ := ownsRow_some hown' (Nat.succ_pos _); have A6 : Hid (RR W1.heap.size w6 (.slice (some ⟨g6, 0, none⟩) (O.length + 1) cap6) (O ++ [(la, ra)])) := rr_app hown'; have B6 : Hid (Below W1.heap.size W1 w6) := below_grown (B7.out.alloc B7.out.size _) (World.ownsRow.alloc R7.out _) hgrow; clear hown' hgrow hblk)
            go_roundw
            case rel => exact ⟨j + 1, (lb, rb) :: B', _, by omega, by go_num, RB.out, A6.out, I2.out, B6.out⟩
            case measure => simp [intOf]; omega
    · have i1 : ¬ (j : Int) < (A.length : Int) := by omega
      have D0 : Hid (A.drop j = []) := hide (List.drop_of_length_le (by omega))
      have I2 : Hid (MI A B [] B' O) := hide (by rw [← D0.out]; exact I.out)
      obtain ⟨q2, cap2, e5, -, -, -⟩ := RB.out.slice
      subst e5
      obtain ⟨qo, co, e3⟩ := RO.out.shape
      subst e3
      have F := FIN.out O B' I2.out
      have FF : Hid _ := F
      have hlen := F.2.2.2
      rw [List.length_append] at hlen
      have hbs := BB.out.size
      clear F
      cases q2 with
      | none =>
        have e0 : Value.slice none B'.length cap2 = .slice none 0 0 ∧ B' = [] := by
          rcases RB.out with ⟨p, cap', e, e2, e3⟩ | ⟨g', off', cap', e, _⟩
          · subst e2
            cases e
            have := e3 rfl
            subst this
            exact ⟨rfl, rfl⟩
          · cases e
        obtain ⟨e1, e2⟩ := e0
        subst e2
        cases e1
        go_wp2_with (at_builtin; refine wpList_append_own_none rfl _ _ 22 rfl W1.heap.size 55 t0 2 und_ranges ti (.slice qo O.length co) O.length (cellsR O) rfl RO.out rfl ?_)
        go_ret
        refine ⟨_, O ++ [], rfl, ?_, FF.out.1, FF.out.2.1, FF.out.2.2.1, FF.out.2.2.2, chain BW.out BB.out (Nat.le_refl _)⟩
        rw [List.append_nil]
        exact RO.out.mono BW.out.size
      | some ad =>
        have NW : Hid (∀ j u, (cellsR B')[j]? = some u → wr.cell? (ad.add j) = some u) := (RB.out.kept BB.out).news
        go_wp2_with (at_builtin; refine wpList_append_own_at _ rfl _ _ 22 rfl W1.heap.size 55 t0 (.agg #[.int .i64 0, .int .i64 0]) 2 16 und_ranges ti hz0 hz1 hz2 rfl (by decide) (.slice qo O.length co) O.length (cellsR O) rfl RO.out ad B'.length cap2 (cellsR B') rfl (cellsR_length B') NW.out (cellsR_one B') (by unfold maxLen; omega) (by omega) hbs ?_; intro v' w6 hown' hgrow _ hblk; have A6 : Hid (RR W1.heap.size w6 v' (O ++ B')) := rr_apps hown'; have B6 : Hid (Below W1.heap.size W1 w6) := below_grown BB.out RO.out hgrow; clear hown' hgrow hblk)
        go_ret
        exact ⟨_, O ++ B', rfl, A6.out.mono BW.out.size, FF.out.1, FF.out.2.1, FF.out.2.2.1, FF.out.2.2.2, chain BW.out B6.out (Nat.le_refl _)⟩

theorem sorted_c (n : Nat) : ∀ (w : World) (v : Value) (L : List (Int × Int)), L.length ≤ n → n + 1 ≤ 8796093022208 → ArgR w v L → Fit L → Calls Try.prog 66 #[v] w (SortOf w L) := by
  induction n with
  | zero => exact fun w v L hn _ h hF => sorted_small h hF (by omega)
  | succ n ih =>
    intro w v L hn hl h hF
    by_cases h1 : L.length ≤ 1
    · exact sorted_small h hF h1
    · exact sorted_step (fun w v L' hL' h' hF' => ih w v L' (by omega) (by omega) h' hF') h hF (by omega) (by omega)
end Go.Proofs.Ytlodjinejeajcab
