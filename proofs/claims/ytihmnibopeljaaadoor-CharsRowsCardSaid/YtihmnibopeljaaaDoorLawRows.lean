/-
  CharsRows: the walk.
-/
import Derived.Test.YtihmnibopeljaaaDoorRows8
namespace Go.Proofs.YtihmnibopeljaaaDoor
open Go Go.RowKit
attribute [local go_sem] ext_cell

def nChars (lo hi : Int) : Int := hi - lo + 1 - max 0 (min hi 57343 - max lo 55296 + 1)
theorem wraps_of {lo hi : Int} (h0 : 0 ≤ lo) (h1 : lo ≤ hi) (h2 : hi ≤ 1114111) : IntKind.wrap .i64 (min hi 57343 - max lo 55296) = min hi 57343 - max lo 55296 ∧ IntKind.wrap .i64 (min hi 57343 - max lo 55296 + 1) = min hi 57343 - max lo 55296 + 1 ∧ IntKind.wrap .i64 (hi - lo + 1 - max 0 (min hi 57343 - max lo 55296 + 1)) = nChars lo hi := by
  unfold nChars
  have a1 : 0 ≤ min hi 57343 := Int.le_min.2 ⟨by omega, by decide⟩
  have a2 : min hi 57343 ≤ 57343 := Int.min_le_right ..
  have b1 : 55296 ≤ max lo 55296 := Int.le_max_right ..
  have b2 : max lo 55296 ≤ 1114111 := Int.max_le.2 ⟨by omega, by decide⟩
  generalize min hi 57343 = a at *
  generalize max lo 55296 = b at *
  have c1 : 0 ≤ max 0 (a - b + 1) := Int.le_max_left ..
  have c2 : max 0 (a - b + 1) ≤ 57344 := Int.max_le.2 ⟨by decide, by omega⟩
  generalize max 0 (a - b + 1) = c at *
  refine ⟨?_, ?_, ?_⟩ <;> (rw [IntKind.wrap_i64]; omega)
set_option maxHeartbeats 8000000 in
set_option maxRecDepth 1000000 in
theorem law_rows_bad {w : World} {lo hi : Int} {v : Value} (hG : Glob w) (h : lo < 0 ∨ 1114111 < hi ∨ hi < lo) :
    Calls Tryd.prog 3 #[.int .i64 lo, .int .i64 hi, v] w fun e w' => e = .returned (.bool true) ∧ Below w.heap.size w w' := by
  have G : Hid (Glob w) := hG
  have hbad := rows_bad lo hi
  clear hG
  by_cases h0 : lo < 0
  · have hb := fun w => hbad w h
    clear h hbad
    go_enter Tryd.func3, Tryd.ntmps3
    go_wp2_with first
      | (go_at_call 9; (with_reducible refine (examples_c _ G.out).mono ?_); rintro e w1 ⟨rfl, h1⟩; have B1 : Hid (Below w.heap.size w w1) := h1; clear h1)
      | (go_at_call 10; refine (hb _).mono ?_; rintro e w' ⟨rfl, h5⟩; subst w')
    go_ret
    exact ⟨rfl, B1.out⟩
  by_cases h1 : 1114111 < hi
  · have hb := fun w => hbad w h
    clear h hbad
    go_enter Tryd.func3, Tryd.ntmps3
    go_wp2_with first
      | (go_at_call 9; (with_reducible refine (examples_c _ G.out).mono ?_); rintro e w1 ⟨rfl, h1⟩; have B1 : Hid (Below w.heap.size w w1) := h1; clear h1)
      | (go_at_call 10; refine (hb _).mono ?_; rintro e w' ⟨rfl, h5⟩; subst w')
    go_ret
    exact ⟨rfl, B1.out⟩
  have h2 : hi < lo := by omega
  have hb := fun w => hbad w h
  clear h hbad
  go_enter Tryd.func3, Tryd.ntmps3
  go_wp2_with first
    | (go_at_call 9; (with_reducible refine (examples_c _ G.out).mono ?_); rintro e w1 ⟨rfl, h1⟩; have B1 : Hid (Below w.heap.size w w1) := h1; clear h1)
    | (go_at_call 10; refine (hb _).mono ?_; rintro e w' ⟨rfl, h5⟩; subst w')
  go_ret
  exact ⟨rfl, B1.out⟩

theorem ints_app (a b : List Int) : ints (a ++ b) = ints a ++ ints b := by simp [ints]
set_option maxHeartbeats 8000000 in
set_option maxRecDepth 1000000 in
theorem law_rows {w : World} {lo hi : Int} {v : Value} {zs : List Int} (hG : Glob w) (h : ArgI w v zs) (hwf : ∀ x ∈ zs, (Lit.int .i64 x).wf = true) (h0 : 0 ≤ lo) (h1 : lo ≤ hi) (h2 : hi ≤ 1114111) :
    Calls Tryd.prog 3 #[.int .i64 lo, .int .i64 hi, v] w fun e w' => e = .returned (.bool true) ∧ Below w.heap.size w w' := by
  obtain ⟨t0, hti, hz0, hz1, hz2⟩ := info_parts size_int
  have G : Hid (Glob w) := hG
  have hgz := hG.size
  have AA : Hid (ArgI w v zs) := h
  obtain ⟨q, cap, rfl, hlen, hc⟩ := h.slice
  have HC : Hid (∀ (i : Nat) (x : Int), zs[i]? = some x → ∃ g off, q = some ⟨g, off, none⟩ ∧ g < w.heap.size ∧ w.cell? ⟨g, off + i, none⟩ = some (.int .i64 x)) := hc
  have HW : Hid (∀ x ∈ zs, (Lit.int .i64 x).wf = true) := hwf
  have H0 : Hid (0 ≤ lo ∧ lo ≤ hi ∧ hi ≤ 1114111) := ⟨h0, h1, h2⟩
  unfold maxLen at hlen
  have g0 : ¬ lo < 0 := by omega
  have g1 : ¬ 1114111 < hi := by omega
  have g2 : ¬ hi < lo := by omega
  have gd0 : decide (lo < 0) = false := decide_eq_false g0
  have gd1 : decide (1114111 < hi) = false := decide_eq_false g1
  have gd2 : decide (hi < lo) = false := decide_eq_false g2
  have e1 : IntKind.wrap .i64 (hi - lo) = hi - lo := wrap_small _ (by omega) (by omega)
  have e2 : IntKind.wrap .i64 (hi - lo + 1) = hi - lo + 1 := wrap_small _ (by omega) (by omega)
  obtain ⟨e3, e4, e5⟩ := wraps_of h0 h1 h2
  have e6 : IntKind.wrap .i64 (lo - 1) = lo - 1 := by clear e1 e2 e3 e4 e5; rw [IntKind.wrap_i64]; omega
  have e7 : IntKind.wrap .i64 (hi + 1) = hi + 1 := wrap_small _ (by omega) (by omega)
  have hrows : Hid (∀ W, Spans W → Calls Tryd.prog 10 #[.int .i64 lo, .int .i64 hi] W fun e w' => ∃ v R, e = .returned (.tuple #[v, .int .i64 0]) ∧ RA W.heap.size w' v R ∧ RQ lo hi R ∧ Below W.heap.size W w') := fun W hW => rows_c lo hi W hW h0 h1 h2
  obtain ⟨N, hN⟩ : ∃ N : Nat, hi - lo + 1 = (N : Int) := ⟨(hi - lo + 1).toNat, by omega⟩
  have hNr : Hid (0 < N ∧ N ≤ 1114112) := ⟨by omega, by omega⟩
  have HN : Hid (hi - lo + 1 = (N : Int)) := hN
  clear h hG hc hwf hN h0 h1 h2
  go_enter Tryd.func3, Tryd.ntmps3
  go_upto_region 11 with first
    | (go_at_call 9; (with_reducible refine (examples_c _ G.out).mono ?_); rintro e w1 ⟨rfl, h1⟩; have B1 : Hid (Below w.heap.size w w1) := h1; clear h1)
    | (go_at_call 10; refine (hrows.out _ (G.out.then B1.out hgz).spans).mono ?_; rintro e w2 ⟨v2, R, rfl, k1, k2, k3⟩; have A2 : Hid (RA w.heap.size w2 v2 R) := ⟨ownsRow_mono k1.own B1.out.size, fun r hr => ⟨Nat.le_trans B1.out.size (k1.row r hr).lo, (k1.row r hr).blk⟩⟩; have Q2 : Hid (RQ lo hi R) := k2; have B2 : Hid (Below w.heap.size w w2) := chain B1.out k3 (Nat.le_refl _); have T2 : Hid (tot R = nChars lo hi) := k2.tt; obtain ⟨q2, cap2, rfl⟩ := ownsRow_shape k1.own; clear k1 k2 k3)
    | (go_at_call 11; refine (formed_c A2.out.view Q2.out.pc Q2.out.ln).mono ?_; rintro e w3 ⟨rfl, k1⟩; have A3 : Hid (RA w.heap.size w3 (.slice q2 R.length cap2) R) := A2.out.below k1; have B3 : Hid (Below w.heap.size w w3) := chain B2.out k1 (Nat.le_refl _); clear k1)
    | (go_at_call 12; refine (texts_c A3.out.view Q2.out.pc Q2.out.ln).mono ?_; rw [T2.out]; rintro e w4 ⟨rfl, k1⟩; have A4 : Hid (RA w.heap.size w4 (.slice q2 R.length cap2) R) := A3.out.below k1; have B4 : Hid (Below w.heap.size w w4) := chain B3.out k1 (Nat.le_refl _); clear k1)
  have hz4 := B4.out.size
  go_upto_region 13 with (at_builtin; refine wpList_append_own_at _ rfl _ _ 22 rfl w4.heap.size 3 t0 (.int .i64 0) 1 8 und_ints hti hz0 hz1 hz2 rfl (by decide) (.slice none 0 0) 0 [] rfl (World.ownsRow_nil _ _ _ _) ⟨w4.heap.size, 0, none⟩ 12 12 (ints [lo, hi, lo - 1, hi + 1, 127, 128, 2047, 2048, 55295, 57344, 65535, 65536]) rfl rfl (newsL _ _ _) (by simp [ints, Value.oneCell']) (by decide) (by decide) (by simp) ?_; intro v' w5 hown' hgrow _ hblk; have O5 : Hid (w5.ownsRow w4.heap.size 3 1 v' 12 (ints [lo, hi, lo - 1, hi + 1, 127, 128, 2047, 2048, 55295, 57344, 65535, 65536])) := hown'; have B5 : Hid (Below w4.heap.size w4 w5) := (((Fr.refl (fun _ => False) w4).alloc _).grown hgrow (fun z hz => by cases hz)).below (Nat.le_refl _) (fun _ q => q.elim); obtain ⟨ql, cl, rfl⟩ := ownsRow_shape hown'; clear hown' hgrow hblk)
  go_wp2
  go_loopw [12, 13] (fun lk i wr => ∃ (k : Nat) (L : List Int), i = .int .i64 (k : Int) ∧ k ≤ zs.length ∧ k ≤ 40 ∧ wr.ownsRow w4.heap.size 3 1 lk (12 + 2 * k) (ints L) ∧ Below w4.heap.size w4 wr) (fun _ i _ => zs.length - (intOf i).toNat)
  case atStart => exact ⟨0, _, rfl, Nat.zero_le _, Nat.zero_le _, O5.out, B5.out⟩
  case round =>
    obtain ⟨k, L, rfl, hk, hk40, hown, hb⟩ := hrel
    obtain ⟨qL, cL, rfl⟩ := ownsRow_shape hown
    have O : Hid (wr.ownsRow w4.heap.size 3 1 (.slice qL (12 + 2 * k) cL) (12 + 2 * k) (ints L)) := hown
    have B : Hid (Below w4.heap.size w4 wr) := hb
    have hsz := hb.size
    clear hown hb
    go_upto_region 14 with fail
    go_cut [96] (fun c wx => c = .bool (decide (k < zs.length ∧ k < 40)) ∧ wx = wr)
    case first =>
      go_wp2_with fail
      all_goals go_meet
      all_goals first | exact ⟨by rw [decide_eq_false (by omega)], rfl⟩ | exact ⟨by congr 1; exact decide_eq_decide.2 (by omega), rfl⟩
    case rest =>
      obtain ⟨rfl, rfl⟩ := hcut
      by_cases hgo : k < zs.length ∧ k < 40
      · have hd : decide (k < zs.length ∧ k < 40) = true := decide_eq_true hgo
        have hx : zs[k]? = some zs[k] := List.getElem?_eq_getElem hgo.1
        obtain ⟨x, hxe⟩ : ∃ x, zs[k] = x := ⟨_, rfl⟩
        rw [hxe] at hx
        obtain ⟨g, off, rfl, hg, hcell⟩ := HC.out k _ hx
        have hxw := HW.out x (List.mem_of_getElem? hx)
        have d1 := (B.out.cell (p := ⟨g, off + k, none⟩) (Nat.lt_of_lt_of_le hg hz4)).trans ((B4.out.cell (p := ⟨g, off + k, none⟩) hg).trans hcell)
        have hpk : Hid (∀ W, Calls Tryd.prog 13 #[.int .i64 x, .int .i64 (hi - lo + 1)] W fun e w' => e = .returned (.int .i64 (pk x N)) ∧ w' = W) := fun W => by rw [HN.out]; exact pick_c x N hNr.out.1 (by have := hNr.out.2; omega) hxw W
        have hpr := pk_range (c := x) hNr.out.1
        obtain ⟨pz, hpz⟩ : ∃ pz, pk x N = pz := ⟨_, rfl⟩
        rw [hpz] at hpk hpr
        have i0 : (0 : Int) ≤ (k : Int) := by omega
        have i1 : (k : Int) < (zs.length : Int) := by omega
        have hwk : IntKind.wrap .i64 ((k : Int) + 1) = (k : Int) + 1 := wrap_small _ (by omega) (by omega)
        have hwz : IntKind.wrap .i64 (lo + pz) = lo + pz := wrap_small _ (by have := H0.out; omega) (by have := H0.out; have := hNr.out; omega)
        clear hpz hpr hxe hx hcell hxw
        go_wp2
        go_region_law first
          | (refine step_append_at rfl _ _ 22 rfl w4.heap.size 3 t0 (.int .i64 0) 1 8 und_ints hti hz0 hz1 hz2 rfl (by decide) (.slice qL (12 + 2 * k) cL) (12 + 2 * k) (ints L) (by simp [Act.eval]) (World.ownsRow.drew (World.ownsRow.alloc O.out _)) ⟨wc.heap.size, 0, none⟩ 2 2 [.int .i64 (lo + pz), .int .i64 x] (by simp [Act.eval]) rfl (news2 _ _ _ _) (by simp [Value.oneCell']) (by unfold maxLen; omega) (by omega) (by simp; omega) ?_; intro v' w6 hown' hgrow hblk; have F6 : Hid (Fr (fun z => (Value.slice qL (12 + 2 * k) cL).ownBlock = some z) wc w6) := (((Fr.refl _ wc).alloc _).drew).grown hgrow (fun z hz => hz); have O6 : Hid (w6.ownsRow w4.heap.size 3 1 v' (12 + 2 * k + 2) (ints L ++ [.int .i64 (lo + pz), .int .i64 x])) := hown'; clear hown' hgrow hblk)
          | (go_simp; go_at_call 13; refine (hpk.out _).mono ?_; rintro e w' ⟨rfl, h5⟩; subst w')
        all_goals go_wp2
        all_goals
          refine ⟨⟨k + 1, L ++ [lo + pz, x], by go_num, by omega, by omega, ?_, chainF B.out F6.out (Nat.le_refl _) (fun z hz => (ownsRow_at O.out hz).1)⟩, by simp [intOf]; omega⟩
          have := O6.out
          rw [show 12 + 2 * (k + 1) = 12 + 2 * k + 2 by omega, ints_app]
          exact this
      · have hd : decide (k < zs.length ∧ k < 40) = false := decide_eq_false hgo
        rw [hd]
        clear hgo hd
        have A5 : Hid (RA w.heap.size wc (.slice q2 R.length cap2) R) := A4.out.below B.out
        obtain ⟨NL, hNL⟩ : ∃ NL, 12 + 2 * k = NL := ⟨_, rfl⟩
        have hN12 : 12 ≤ NL ∧ NL ≤ 92 := by omega
        rw [hNL] at O ⊢
        obtain ⟨gl, cl', eO⟩ := ownsRow_some O.out (by omega)
        obtain ⟨rfl, rfl⟩ : qL = some ⟨gl, 0, none⟩ ∧ cL = cl' := by injection eO with e1 e2 e3; exact ⟨e1, e3⟩
        have OL : Hid (∀ j x, L[j]? = some x → wc.cell? ⟨gl, j, none⟩ = some (.int .i64 x)) := fun j x hx => ownsRow_cell O.out (by simp [ints, hx])
        have LL : L.length = NL := by have := O.out.1; simp [ints] at this; exact this
        have hLL : Hid (L.length = NL) := LL
        have gz : Hid (gl < wc.heap.size) := (ownsRow_at O.out rfl).2.1
        have BW : Hid (Below w.heap.size w wc) := B4.out.trans (B.out.mono hz4)
        clear LL eO hNL hk hk40
        go_wp2
        go_loopw [14] (fun i wr => ∃ j : Nat, i = .int .i64 (j : Int) ∧ j ≤ NL ∧ Below wc.heap.size wc wr) (fun i _ => NL - (intOf i).toNat)
        case atStart => exact ⟨0, rfl, Nat.zero_le _, Below.refl _ _⟩
        case round =>
          obtain ⟨j, rfl, hj, hb⟩ := hrel
          have BJ : Hid (Below wc.heap.size wc wr) := hb
          have AJ : Hid (RA w.heap.size wr (.slice q2 R.length cap2) R) := A5.out.below hb
          have hb1 := hb
          clear hb
          by_cases hlt : j < NL
          · have hx : L[j]? = some (L[j]'(by rw [hLL.out]; exact hlt)) := List.getElem?_eq_getElem _
            obtain ⟨x, hxe⟩ : ∃ x, L[j]'(by rw [hLL.out]; exact hlt) = x := ⟨_, rfl⟩
            rw [hxe] at hx
            have HX : Hid (L[j]? = some x) := hx
            have d1 := (BJ.out.cell (p := ⟨gl, j, none⟩) gz.out).trans (OL.out j x hx)
            clear hx hxe hb1
            have i0 : (0 : Int) ≤ (j : Int) := by omega
            have i1 : (j : Int) < (NL : Int) := by omega
            have hwj : IntKind.wrap .i64 ((j : Int) + 1) = (j : Int) + 1 := wrap_small _ (by omega) (by omega)
            have hic := is_c x
            rcases hcx : isC x with _ | _
            · rw [hcx] at hic
              go_wp2_with (go_at_call 14; (with_reducible refine (hic _).mono ?_); rintro e w5 ⟨rfl, h5⟩; subst w5)
              go_roundw
              case rel => exact ⟨j + 1, by go_num, by omega, BJ.out⟩
              case measure => simp only [intOf]; omega
            · rw [hcx] at hic
              obtain ⟨m, d, hdx, hS, hm, hby⟩ := enc_txt hcx
              have hcn := Q2.out.cn d (by rw [← hdx]; exact hcx)
              rw [← hdx] at hcn
              have HSZ : Hid ((txt (Lib.encodeRune x)).size = m) := hm
              have HS : Hid (InS m d d) := hS
              have HBY : Hid (∀ (k : Nat) (hk : k < (txt (Lib.encodeRune x)).size), ((txt (Lib.encodeRune x))[k]'hk).toNat = byt m d k) := hby
              have hE : Hid (∀ W : World, Calls Tryd.prog 15 #[.slice (some ⟨W.heap.size, 0, none⟩) 1 1] (W.alloc (.cells #[.int .i64 x] 3)) fun e w' => e = .returned (.tuple #[.string (txt (Lib.encodeRune x)), .int .i64 0]) ∧ Below (W.alloc (.cells #[.int .i64 x] 3)).heap.size (W.alloc (.cells #[.int .i64 x] 3)) w') := fun W => by
                have := encode_c (one_arg W x) (by simp)
                have a1 : allC [x] = true := by simp [allC, hcx]
                rw [show eTxt [x] = Lib.encodeRune x by rw [eTxt, if_pos a1]; simp [encB], show eErr [x] = 0 by rw [eErr, if_pos a1]] at this
                exact this
              clear hby hm hS hdx hcx
              by_cases q1 : lo ≤ x
              · by_cases q3 : x ≤ hi
                · rw [if_pos ⟨q1, q3⟩] at hcn
                  have HCN : Hid ((cnt d R : Int) = 1) := by show (cnt d R : Int) = 1; omega
                  clear hcn
                  go_wp2_with first
                    | (go_at_call 14; (with_reducible refine (hic _).mono ?_); rintro e w5 ⟨rfl, h5⟩; subst w5)
                    | (go_at_call 15; refine (hE.out _).mono ?_; rintro e w6 ⟨rfl, h6⟩; have B6 : Hid (Below wc.heap.size wc w6) := chain (BJ.out.alloc BJ.out.size _) h6 (Nat.le_refl _); have A6 : Hid (RA w.heap.size w6 (.slice q2 R.length cap2) R) := A5.out.below B6.out; have d6 := (B6.out.cell (p := ⟨gl, j, none⟩) gz.out).trans (OL.out j x HX.out); clear h6)
                    | (go_at_call 16; refine (rowsIn_c A6.out.view Q2.out.pc Q2.out.ln HSZ.out HS.out HBY.out).mono ?_; rw [HCN.out]; rintro e w7 ⟨rfl, h7⟩; have B7 : Hid (Below wc.heap.size wc w7) := chain B6.out h7 (Nat.le_refl _); clear h7)
                  go_roundw
                  case rel => exact ⟨j + 1, by go_num, by omega, B7.out⟩
                  case measure => simp only [intOf]; omega
                · rw [if_neg (fun q => q3 q.2)] at hcn
                  have HCN : Hid ((cnt d R : Int) = 0) := by show (cnt d R : Int) = 0; omega
                  clear hcn
                  go_wp2_with first
                    | (go_at_call 14; (with_reducible refine (hic _).mono ?_); rintro e w5 ⟨rfl, h5⟩; subst w5)
                    | (go_at_call 15; refine (hE.out _).mono ?_; rintro e w6 ⟨rfl, h6⟩; have B6 : Hid (Below wc.heap.size wc w6) := chain (BJ.out.alloc BJ.out.size _) h6 (Nat.le_refl _); have A6 : Hid (RA w.heap.size w6 (.slice q2 R.length cap2) R) := A5.out.below B6.out; have d6 := (B6.out.cell (p := ⟨gl, j, none⟩) gz.out).trans (OL.out j x HX.out); clear h6)
                    | (go_at_call 16; refine (rowsIn_c A6.out.view Q2.out.pc Q2.out.ln HSZ.out HS.out HBY.out).mono ?_; rw [HCN.out]; rintro e w7 ⟨rfl, h7⟩; have B7 : Hid (Below wc.heap.size wc w7) := chain B6.out h7 (Nat.le_refl _); clear h7)
                  go_roundw
                  case rel => exact ⟨j + 1, by go_num, by omega, B7.out⟩
                  case measure => simp only [intOf]; omega
              · rw [if_neg (fun q => q1 q.1)] at hcn
                have HCN : Hid ((cnt d R : Int) = 0) := by show (cnt d R : Int) = 0; omega
                clear hcn
                go_wp2_with first
                  | (go_at_call 14; (with_reducible refine (hic _).mono ?_); rintro e w5 ⟨rfl, h5⟩; subst w5)
                  | (go_at_call 15; refine (hE.out _).mono ?_; rintro e w6 ⟨rfl, h6⟩; have B6 : Hid (Below wc.heap.size wc w6) := chain (BJ.out.alloc BJ.out.size _) h6 (Nat.le_refl _); have A6 : Hid (RA w.heap.size w6 (.slice q2 R.length cap2) R) := A5.out.below B6.out; have d6 := (B6.out.cell (p := ⟨gl, j, none⟩) gz.out).trans (OL.out j x HX.out); clear h6)
                  | (go_at_call 16; refine (rowsIn_c A6.out.view Q2.out.pc Q2.out.ln HSZ.out HS.out HBY.out).mono ?_; rw [HCN.out]; rintro e w7 ⟨rfl, h7⟩; have B7 : Hid (Below wc.heap.size wc w7) := chain B6.out h7 (Nat.le_refl _); clear h7)
                go_roundw
                case rel => exact ⟨j + 1, by go_num, by omega, B7.out⟩
                case measure => simp only [intOf]; omega
          · obtain rfl : j = NL := by omega
            have i1 : ¬ (j : Int) < (j : Int) := by omega
            clear hb1
            have BWJ : Hid (Below w.heap.size w wr) := chain BW.out BJ.out (Nat.le_refl _)
            go_upto_region 29 with (go_at_call 12; refine (texts_c AJ.out.view Q2.out.pc Q2.out.ln).mono ?_; rw [T2.out]; rintro e w8 ⟨rfl, h8⟩; have A8 : Hid (RA w.heap.size w8 (.slice q2 R.length cap2) R) := AJ.out.below h8; have B8 : Hid (Below w.heap.size w w8) := chain BWJ.out h8 (Nat.le_refl _); clear h8)
            go_wp2
            go_loopw [20] (fun i wr => ∃ j : Nat, i = .int .i64 (j : Int) ∧ j ≤ R.length ∧ RS w.heap.size wr (.slice q2 R.length cap2) R ∧ Below w.heap.size w wr) (fun i _ => R.length - (intOf i).toNat)
            case atStart => exact ⟨0, rfl, Nat.zero_le _, A8.out.rs, B8.out⟩
            case round =>
              obtain ⟨j3, rfl, hj3, hS3, hb3⟩ := hrel
              have S3 : Hid (RS w.heap.size wr (.slice q2 R.length cap2) R) := hS3
              have B3' : Hid (Below w.heap.size w wr) := hb3
              clear hS3 hb3
              by_cases hlt3 : j3 < R.length
              · have hr : R[j3]? = some R[j3] := List.getElem?_eq_getElem hlt3
                obtain ⟨r, hre⟩ : ∃ r, R[j3] = r := ⟨_, rfl⟩
                rw [hre] at hr
                have HR : Hid (R[j3]? = some r) := hr
                have HMem : Hid (r ∈ R) := List.mem_of_getElem? hr
                have hn4 : r.n ≤ 4 := (Q2.out.pc r (List.mem_of_getElem? hr)).1.n.2.1
                have hlo : Hid (w.heap.size ≤ r.g) := (S3.out.row r (List.mem_of_getElem? hr)).1
                clear hr hre
                obtain ⟨G3, cp3, eS, c3⟩ := S3.out.at HR.out
                obtain ⟨rfl, rfl⟩ : q2 = some ⟨G3, 0, none⟩ ∧ cap2 = cp3 := by injection eS with e1 e2 e3; exact ⟨e1, e3⟩
                clear eS c3
                have i30 : (0 : Int) ≤ (j3 : Int) := by omega
                have i31 : (j3 : Int) < (R.length : Int) := by omega
                have hR30 : R.length ≤ 30 := Q2.out.ln
                have hwj3 : IntKind.wrap .i64 ((j3 : Int) + 1) = (j3 : Int) + 1 := wrap_small _ (by omega) (by omega)
                go_wp2
                go_loopw [21] (fun i wr => ∃ j : Nat, i = .int .i64 (j : Int) ∧ j ≤ r.n ∧ RS w.heap.size wr (.slice (some ⟨G3, 0, none⟩) R.length cap2) R ∧ Below w.heap.size w wr) (fun i _ => r.n - (intOf i).toNat)
                case atStart => exact ⟨0, rfl, Nat.zero_le _, S3.out, B3'.out⟩
                case round =>
                  obtain ⟨j4, rfl, hj4, hS4, hb4⟩ := hrel
                  have S4 : Hid (RS w.heap.size wr (.slice (some ⟨G3, 0, none⟩) R.length cap2) R) := hS4
                  have B4' : Hid (Below w.heap.size w wr) := hb4
                  clear hS4 hb4
                  obtain ⟨G4, cp4, eS, c4⟩ := S4.out.at HR.out
                  obtain ⟨rfl, rfl⟩ : G3 = G4 ∧ cap2 = cp4 := by injection eS with e1 e2 e3; injection e1 with e1; injection e1 with e1; exact ⟨e1, e3⟩
                  clear eS
                  by_cases hlt4 : j4 < r.n
                  · obtain ⟨⟨u0, c0⟩, f0⟩ := S4.out.cell HMem.out (o := j4 * 2) (by omega)
                    have S5 : Hid (RS w.heap.size (wr.setCell ⟨r.g, j4 * 2, none⟩ (.int .i64 1)) (.slice (some ⟨G3, 0, none⟩) R.length cap2) R) := S4.out.put HMem.out _ _
                    obtain ⟨⟨u1, c1⟩, f1⟩ := S5.out.cell HMem.out (o := j4 * 2 + 1) (by omega)
                    have i40 : (0 : Int) ≤ (j4 : Int) := by omega
                    have i41 : (j4 : Int) < (r.n : Int) := by omega
                    have hwj4 : IntKind.wrap .i64 ((j4 : Int) + 1) = (j4 : Int) + 1 := wrap_small _ (by omega) (by omega)
                    go_wp2
                    go_roundw
                    case rel => exact ⟨j4 + 1, by go_num, by omega, S5.out.put HMem.out _ _, (B4'.out.setCell (p := ⟨r.g, j4 * 2, none⟩) hlo.out _).setCell (p := ⟨r.g, j4 * 2 + 1, none⟩) hlo.out _⟩
                    case measure => simp only [intOf]; omega
                  · obtain rfl : j4 = r.n := by omega
                    have i41 : ¬ (r.n : Int) < (r.n : Int) := by omega
                    go_wp2
                    go_roundw
                    case rel => exact ⟨j3 + 1, by go_num, by omega, S4.out, B4'.out⟩
                    case measure => simp only [intOf]; omega
              · obtain rfl : j3 = R.length := by omega
                have i31 : ¬ (R.length : Int) < (R.length : Int) := by omega
                go_wp2_with first
                  | (go_at_call 10; refine (hrows.out _ (G.out.then B3'.out hgz).spans).mono ?_; rintro e w9 ⟨v9, R9, rfl, k1, k2, k3⟩; have A9 : Hid (RA wr.heap.size w9 v9 R9) := k1; have Q9 : Hid (RQ lo hi R9) := k2; have B9 : Hid (Below w.heap.size w w9) := chain B3'.out k3 (Nat.le_refl _); have T9 : Hid (tot R9 = nChars lo hi) := k2.tt; clear k1 k2 k3)
                  | (go_at_call 12; refine (texts_c A9.out.view Q9.out.pc Q9.out.ln).mono ?_; rw [T9.out]; rintro e w10 ⟨rfl, k1⟩; have A10 : Hid (RA wr.heap.size w10 v9 R9) := A9.out.below k1; have B10 : Hid (Below w.heap.size w w10) := chain B9.out k1 (Nat.le_refl _); clear k1)
                  | (go_at_call 11; refine (formed_c A10.out.view Q9.out.pc Q9.out.ln).mono ?_; rintro e w11 ⟨rfl, k1⟩; have B11 : Hid (Below w.heap.size w w11) := chain B10.out k1 (Nat.le_refl _); clear k1)
                go_ret
                exact ⟨rfl, B11.out⟩
end Go.Proofs.YtihmnibopeljaaaDoor
