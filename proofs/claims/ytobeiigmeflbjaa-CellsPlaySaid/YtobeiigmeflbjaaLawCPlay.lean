/-
  The law CellsPlay.
-/
import Derived.Test.YtobeiigmeflbjaaPlayC
namespace Go.Proofs.Ytobeiigmeflbjaa
open Go Go.RowKit
attribute [local go_sem] ext_cell

set_option maxRecDepth 100000 in
set_option maxHeartbeats 16000000 in
theorem law_cplay (x0 : Int) (wf0 : (Lit.int .i64 x0).wf = true) (ls : List (Int × Int × Int)) (v1 : Value) (w : World) (hz : ArgL w v1 ls) :
    Calls Try.prog 4 #[.int .i64 x0, v1] w fun e w' => e = .returned (.bool true) ∧ Below w.heap.size w w' := by
  obtain ⟨q1, cap1, rfl, hlen1, hc1⟩ := hz.slice
  have HC1 : Hid (∀ (i : Nat) (x : Int × Int × Int), ls[i]? = some x → ∃ g off, q1 = some ⟨g, off, none⟩ ∧ g < w.heap.size ∧
    ((Lit.int .i64 x.1).wf = true ∧ (Lit.int .i64 x.2.1).wf = true ∧ (Lit.int .i64 x.2.2).wf = true) ∧ w.cell? ⟨g, off + i * 3, none⟩ = some (.int .i64 x.1) ∧ w.cell? ⟨g, off + i * 3 + 1, none⟩ = some (.int .i64 x.2.1) ∧ w.cell? ⟨g, off + i * 3 + 2, none⟩ = some (.int .i64 x.2.2)) := hc1
  clear hc1 hz
  unfold maxLen at hlen1
  by_cases hr : x0 < 0 ∨ 100000 < x0
  · have HR : Hid (x0 < 0 ∨ 100000 < x0) := hr
    rcases (show x0 < 0 ∨ (¬ x0 < 0 ∧ 100000 < x0) by omega) with h0 | ⟨h0, h1⟩
    · clear hr
      go_enter Try.func4, Try.ntmps4
      go_wp2_with first | (go_at_call 9; (with_reducible refine (known_c _).mono ?_); rintro e w0 ⟨rfl, hb⟩; have B0 : Hid (Below w.heap.size w w0) := hb; clear hb) | (go_at_call 16; (with_reducible refine (newCells_bad HR.out _).mono ?_); rintro e w9 ⟨rfl, h9⟩; subst w9)
      go_ret
      exact ⟨rfl, B0.out⟩
    · clear hr
      go_enter Try.func4, Try.ntmps4
      go_wp2_with first | (go_at_call 9; (with_reducible refine (known_c _).mono ?_); rintro e w0 ⟨rfl, hb⟩; have B0 : Hid (Below w.heap.size w w0) := hb; clear hb) | (go_at_call 16; (with_reducible refine (newCells_bad HR.out _).mono ?_); rintro e w9 ⟨rfl, h9⟩; subst w9)
      go_ret
      exact ⟨rfl, B0.out⟩
  · obtain ⟨X, rfl⟩ : ∃ X : Nat, x0 = X := ⟨x0.toNat, by omega⟩
    have h0 : ¬ (X : Int) < 0 := by omega
    have h1 : ¬ 100000 < (X : Int) := by omega
    have d0 : decide ((X : Int) < 0) = false := by simp
    have d1 : decide (100000 < (X : Int)) = false := by simp; omega
    obtain ⟨N, hN⟩ : ∃ N, X % 3001 = N := ⟨_, rfl⟩
    have hN3 : N ≤ 3000 := by omega
    have HM : Hid ((X : Int).tmod 3001 = (N : Int) ∧ (X : Int) % 3001 = (N : Int)) := ⟨by rw [Int.tmod_eq_emod_of_nonneg (by omega)]; omega, by omega⟩
    have e3 : IntKind.i64.wrap ((X : Int).tmod 3001) = (N : Int) := by rw [HM.out.1, IntKind.wrap_i64]; omega
    have NC := fun W : World => newCells (n := N) (by omega) W
    have NCH : Hid (∀ W : World, Calls Try.prog 16 #[.int .i64 (N : Int)] W fun e w' => ∃ b g ub, e = .returned (.tuple #[.pointer (some ⟨b, 0, none⟩), .int .i64 0]) ∧ CA W.heap.size w' b g ub (.slice none 0 0) (List.replicate N (-1)) [] ∧ Below W.heap.size W w') := NC
    clear hr hN NC
    go_enter Try.func4, Try.ntmps4
    go_upto_region 6 with (go_at_call 9; (with_reducible refine (known_c _).mono ?_); rintro e w0 ⟨rfl, hb⟩; have B0 : Hid (Below w.heap.size w w0) := hb; clear hb)
    rw [HM.out.2]
    go_upto_region 11 with (go_at_call 16; (with_reducible refine (NCH.out _).mono ?_); rintro e w1 ⟨c, g, ub, rfl, ha, hb⟩; have A1 : Hid (CA w.heap.size w1 c g ub (.slice none 0 0) (List.replicate N (-1)) []) := ha.mono B0.out.size; have B1 : Hid (Below w.heap.size w w1) := chain B0.out hb (Nat.le_refl _); clear ha hb)
    have P1 : Hid (PS w.heap.size w c g ub (.slice none 0 0) w1.heap.size (.slice none 0 0) N (List.replicate N (-1)) [] [] (w1.alloc (.cells #[.int .i64 N, .slice none 0 0] 50))) :=
      ⟨A1.out.kept ((Below.refl _ _).alloc (Nat.le_refl _) _), ⟨alloc_new w1 _, B1.out.size, World.ownsRow_nil _ _ _ _⟩, B1.out.alloc B1.out.size _, Nat.le_refl _, Rel.new N⟩
    obtain ⟨r, hr⟩ : ∃ r, w1.heap.size = r := ⟨_, rfl⟩
    generalize (w1.alloc (.cells #[.int .i64 N, .slice none 0 0] 50)) = w2 at P1 ⊢
    rw [hr] at P1 ⊢
    clear hr A1 B1 B0 NCH HM e3
    go_loopw [11] (fun i wr => ∃ (k : Nat) (uv rv : Value) (V : List Int) (U L : List (Int × Int)), k ≤ ls.length ∧ k ≤ 300 ∧ i = .int .i64 k ∧ L.length ≤ k ∧ PS w.heap.size w c g ub uv r rv N V U L wr) (fun i _ => ls.length - (intOf i).toNat)
    case atStart => exact ⟨0, _, _, _, [], [], Nat.zero_le _, Nat.zero_le _, rfl, Nat.le_refl _, P1.out⟩
    case round =>
      obtain ⟨k, uv, rv, V, U, L, hk, hk3, rfl, hLk, hP⟩ := hrel
      have P : Hid (PS w.heap.size w c g ub uv r rv N V U L wr) := hP
      clear hP P1
      go_upto_region 11 with fail
      go_cut [76] (fun c wx => c = .bool (decide (k < ls.length ∧ k < 300)) ∧ wx = wr)
      case first =>
        go_wp2_with fail
        all_goals go_meet
        all_goals first | exact ⟨by rw [decide_eq_false (by omega)], rfl⟩ | exact ⟨by congr 1; exact decide_eq_decide.2 (by omega), rfl⟩
      case rest =>
        obtain ⟨rfl, rfl⟩ := hcut
        by_cases hgo : k < ls.length ∧ k < 300
        · have hd : decide (k < ls.length ∧ k < 300) = true := decide_eq_true hgo
          obtain ⟨hlt, h3⟩ := hgo
          obtain ⟨gl, off, rfl, hg, ⟨wfk, -, -⟩, hx0, hx1, hx2⟩ := HC1.out k _ (List.getElem?_eq_getElem hlt)
          generalize ls[k] = x at wfk hx0 hx1 hx2
          obtain ⟨xk, xa, xb⟩ := x
          simp only at wfk hx0 hx1 hx2
          have cx0 := (P.out.bel.cell (p := ⟨gl, off + k * 3, none⟩) hg).trans hx0
          have cx1 := (P.out.bel.cell (p := ⟨gl, off + k * 3 + 1, none⟩) hg).trans hx1
          have cx2 := (P.out.bel.cell (p := ⟨gl, off + k * 3 + 2, none⟩) hg).trans hx2
          clear hx0 hx1 hx2 HC1
          obtain ⟨j, hj, hpj⟩ := pk_nat xk (n := 4) (by decide)
          have PJ : Hid (∀ W : World, Calls Try.prog 17 #[.int .i64 xk, .int .i64 4] W fun e w' => e = .returned (.int .i64 (j : Int)) ∧ w' = W) := fun W => by
            have := pick_i xk 4 (by decide) (by decide) wfk W
            rw [show pk xk 4 = (j : Int) from hpj] at this
            exact this
          have i0 : (0 : Int) ≤ (k : Int) := by omega
          have i1 : (k : Int) < (ls.length : Int) := by omega
          have hgc : gl < wc.heap.size := Nat.lt_of_lt_of_le hg P.out.bel.size
          clear hpj
          rw [hd]
          go_upto_region 15 with fail
          have PA : Hid (PS w.heap.size w c g ub uv r rv N V U L (wc.alloc (.cells #[.int .i64 xk, .int .i64 xa, .int .i64 xb] 52))) := P.out.kept ((Below.refl _ _).alloc (Nat.le_refl _) _)
          have NA := alloc_new wc (.cells #[.int .i64 xk, .int .i64 xa, .int .i64 xb] 52)
          generalize (wc.alloc (.cells #[.int .i64 xk, .int .i64 xa, .int .i64 xb] 52)) = wa at PA NA ⊢
          generalize wc.heap.size = bx at NA ⊢
          clear cx0 cx1 cx2 hgc P
          have HNA : Hid (wa.heap[bx]? = some (.cells #[.int .i64 xk, .int .i64 xa, .int .i64 xb] 52 (0, 0))) := NA
          have k0 : wa.cell? ⟨bx, 0, none⟩ = some (.int .i64 xk) := cell_row NA (i := 0) rfl
          have k1 : wa.cell? ⟨bx, 1, none⟩ = some (.int .i64 xa) := cell_row NA (i := 1) rfl
          have k2 : wa.cell? ⟨bx, 2, none⟩ = some (.int .i64 xb) := cell_row NA (i := 2) rfl
          clear NA
          match j, hj with
          | 0, _ =>
            as_aux_lemma =>
              by_cases hin : 0 ≤ xa ∧ xa < (N : Int)
              · obtain ⟨a, rfl⟩ : ∃ a : Nat, xa = a := ⟨xa.toNat, by omega⟩
                obtain ⟨y, hy⟩ : ∃ y, V[a]? = some y := ⟨_, List.getElem?_eq_getElem (by rw [PA.out.rel.len]; omega)⟩
                have HY : Hid (V[a]? = some y) := hy
                have RS : Hid (Calls Try.prog 18 #[.pointer (some ⟨r, 0, none⟩), .int .i64 (a : Int), .int .i64 xb] wa fun e w' => e = .returned (.bool true) ∧ ∃ v', RC w.heap.size w' r v' N (L ++ [((a : Int), xb)]) ∧ Fr (foot r rv) wa w') := rset_in PA.out.rc PA.out.len (by omega) (by omega) xb
                have hUl : U.length ≤ 1000000 := by rw [PA.out.rel.n]; omega
                clear hin hy
                go_upto_region 18 with first | (go_at_call 17; (with_reducible refine (PJ.out _).mono ?_); rintro e w9 ⟨rfl, h9⟩; subst w9) | (go_at_call 18; (with_reducible refine RS.out.mono ?_); rintro e w3 ⟨rfl, rv3, hr3, hf3⟩; have R3 : Hid (RC w.heap.size w3 r rv3 N (L ++ [((a : Int), xb)]) ∧ Fr (foot r rv) wa w3) := ⟨hr3, hf3⟩; have A3 : Hid (CA w.heap.size w3 c g ub uv V U) := PA.out.ca.fr hf3 (ps_sep PA.out.ca PA.out.rc); have N3 := (hf3.block bx (lt_of_heap HNA.out) (PA.out.out HNA.out).2).trans HNA.out; have z3 : w.heap.size ≤ w3.heap.size := Nat.le_trans PA.out.len hf3.size; clear hr3 hf3 k1 k2; have k1 : w3.cell? ⟨bx, 1, none⟩ = some (.int .i64 (a : Int)) := cell_row N3 (i := 1) rfl; have k2 : w3.cell? ⟨bx, 2, none⟩ = some (.int .i64 xb) := cell_row N3 (i := 2) rfl; clear N3)
                go_upto_region 19 with (go_at_call 19; (with_reducible refine (set_in A3.out z3 hUl HY.out xb).mono ?_); rintro e w4 ⟨rfl, uv4, hc4, hm4, hf4⟩; have P5 : Hid (PS w.heap.size w c g ub uv4 r rv3 N (V.set a xb) (U ++ [((a : Int), y)]) (L ++ [((a : Int), xb)]) w4) := PA.out.both R3.out.1 R3.out.2 hc4 hf4 (PA.out.rel.set HY.out xb); clear hc4 hm4 hf4 k1 k2)
                obtain ⟨qt, cpt, hqt⟩ := ownsRow_shape P5.out.rc.own
                have ct1 := P5.out.rc.c1
                rw [hqt] at ct1
                have ltr : r < w4.heap.size := lt_of_heap P5.out.rc.hb
                have hne : (((L ++ [((a : Int), xb)]).length : Int) != ((L ++ [((a : Int), xb)]).length : Int)) = false := by simp
                clear hqt
                go_upto_region 39 with fail
                refine wp_region_ext (by kernel_rfl) (by kernel_rfl) ?_
                repeat (go_big_quiet_step (first | exact rfl | (go_at_call 27; with_reducible exact mark_x P5.out)))
                refine wpQuiet_nil ?_
                intro w8 hw
                have P8 : Hid _ := P5.out.kept (ext_of hw)
                clear hw ct1 ltr
                go_wp2
                go_roundw
                case rel => exact ⟨k + 1, _, _, _, _, _, by omega, by omega, by go_num, by first | omega | (simp; omega), P8.out⟩
                case measure => simp only [intOf]; omega
              · have hout : xa < 0 ∨ (N : Int) ≤ xa := by omega
                have HO : Hid (xa < 0 ∨ (N : Int) ≤ xa) := hout
                have HV : Hid (xa < 0 ∨ (V.length : Int) ≤ xa) := by rw [PA.out.rel.len]; exact hout
                clear hin hout
                go_upto_region 19 with first | (go_at_call 17; (with_reducible refine (PJ.out _).mono ?_); rintro e w9 ⟨rfl, h9⟩; subst w9) | (go_at_call 18; (with_reducible refine (rset_out PA.out.rc HO.out xb).mono ?_); rintro e w9 ⟨rfl, h9⟩; subst w9) | (go_at_call 19; (with_reducible refine (set_out PA.out.ca HV.out xb).mono ?_); rintro e w9 ⟨rfl, h9⟩; subst w9)
                obtain ⟨qt, cpt, hqt⟩ := ownsRow_shape PA.out.rc.own
                have ct1 := PA.out.rc.c1
                rw [hqt] at ct1
                have ltr : r < wa.heap.size := lt_of_heap PA.out.rc.hb
                have hne : (((L).length : Int) != ((L).length : Int)) = false := by simp
                clear hqt
                go_upto_region 39 with fail
                refine wp_region_ext (by kernel_rfl) (by kernel_rfl) ?_
                repeat (go_big_quiet_step (first | exact rfl | (go_at_call 27; with_reducible exact mark_x PA.out)))
                refine wpQuiet_nil ?_
                intro w8 hw
                have P8 : Hid _ := PA.out.kept (ext_of hw)
                clear hw ct1 ltr
                go_wp2
                go_roundw
                case rel => exact ⟨k + 1, _, _, _, _, _, by omega, by omega, by go_num, by first | omega | (simp; omega), P8.out⟩
                case measure => simp only [intOf]; omega
          | 1, _ =>
            as_aux_lemma =>
              by_cases hin : 0 ≤ xa ∧ xa < (N : Int)
              · obtain ⟨a, rfl⟩ : ∃ a : Nat, xa = a := ⟨xa.toNat, by omega⟩
                obtain ⟨y, hy⟩ : ∃ y, V[a]? = some y := ⟨_, List.getElem?_eq_getElem (by rw [PA.out.rel.len]; omega)⟩
                have HY : Hid (V[a]? = some y) := hy
                have RG : Hid (Calls Try.prog 20 #[.pointer (some ⟨r, 0, none⟩), .int .i64 (a : Int)] wa fun e w' => e = .returned (.tuple #[.int .i64 y, .bool true]) ∧ w' = wa) := rget_in PA.out.rc (fun p hp => by obtain ⟨k, h1, h2⟩ := PA.out.rel.ok p hp; omega) (by omega) (by rw [← PA.out.rel.v]; exact hy)
                have eyy : (y == y) = true := by simp
                clear hin hy
                go_upto_region 23 with first | (go_at_call 17; (with_reducible refine (PJ.out _).mono ?_); rintro e w9 ⟨rfl, h9⟩; subst w9) | (go_at_call 20; (with_reducible refine RG.out.mono ?_); rintro e w9 ⟨rfl, h9⟩; subst w9) | (go_at_call 21; (with_reducible refine (get_in PA.out.ca HY.out).mono ?_); rintro e w9 ⟨rfl, h9⟩; subst w9)
                obtain ⟨qt, cpt, hqt⟩ := ownsRow_shape PA.out.rc.own
                have ct1 := PA.out.rc.c1
                rw [hqt] at ct1
                have ltr : r < wa.heap.size := lt_of_heap PA.out.rc.hb
                have hne : (((L).length : Int) != ((L).length : Int)) = false := by simp
                clear hqt
                go_upto_region 39 with fail
                refine wp_region_ext (by kernel_rfl) (by kernel_rfl) ?_
                repeat (go_big_quiet_step (first | exact rfl | (go_at_call 27; with_reducible exact mark_x PA.out)))
                refine wpQuiet_nil ?_
                intro w8 hw
                have P8 : Hid _ := PA.out.kept (ext_of hw)
                clear hw ct1 ltr
                go_wp2
                go_roundw
                case rel => exact ⟨k + 1, _, _, _, _, _, by omega, by omega, by go_num, by first | omega | (simp; omega), P8.out⟩
                case measure => simp only [intOf]; omega
              · have hout : xa < 0 ∨ (N : Int) ≤ xa := by omega
                have HO : Hid (xa < 0 ∨ (N : Int) ≤ xa) := hout
                have HV : Hid (xa < 0 ∨ (V.length : Int) ≤ xa) := by rw [PA.out.rel.len]; exact hout
                clear hin hout
                go_upto_region 23 with first | (go_at_call 17; (with_reducible refine (PJ.out _).mono ?_); rintro e w9 ⟨rfl, h9⟩; subst w9) | (go_at_call 20; (with_reducible refine (rget_out PA.out.rc HO.out).mono ?_); rintro e w9 ⟨rfl, h9⟩; subst w9) | (go_at_call 21; (with_reducible refine (get_out PA.out.ca HV.out).mono ?_); rintro e w9 ⟨rfl, h9⟩; subst w9)
                obtain ⟨qt, cpt, hqt⟩ := ownsRow_shape PA.out.rc.own
                have ct1 := PA.out.rc.c1
                rw [hqt] at ct1
                have ltr : r < wa.heap.size := lt_of_heap PA.out.rc.hb
                have hne : (((L).length : Int) != ((L).length : Int)) = false := by simp
                clear hqt
                go_upto_region 39 with fail
                refine wp_region_ext (by kernel_rfl) (by kernel_rfl) ?_
                repeat (go_big_quiet_step (first | exact rfl | (go_at_call 27; with_reducible exact mark_x PA.out)))
                refine wpQuiet_nil ?_
                intro w8 hw
                have P8 : Hid _ := PA.out.kept (ext_of hw)
                clear hw ct1 ltr
                go_wp2
                go_roundw
                case rel => exact ⟨k + 1, _, _, _, _, _, by omega, by omega, by go_num, by first | omega | (simp; omega), P8.out⟩
                case measure => simp only [intOf]; omega
          | 2, _ =>
            as_aux_lemma =>
              by_cases hin : 0 ≤ xa ∧ xa ≤ (L.length : Int)
              · obtain ⟨a, rfl⟩ : ∃ a : Nat, xa = a := ⟨xa.toNat, by omega⟩
                have hal : a ≤ L.length := by omega
                have RS : Hid (Calls Try.prog 22 #[.pointer (some ⟨r, 0, none⟩), .int .i64 (a : Int)] wa fun e w' => e = .returned (.bool true) ∧ ∃ v', RC w.heap.size w' r v' N (L.take a) ∧ Fr (foot r rv) wa w') := rback_in PA.out.rc PA.out.len (by omega) hal
                have haU : a ≤ U.length := by rw [PA.out.rel.n]; exact hal
                clear hin
                go_upto_region 26 with first | (go_at_call 17; (with_reducible refine (PJ.out _).mono ?_); rintro e w9 ⟨rfl, h9⟩; subst w9) | (go_at_call 22; (with_reducible refine RS.out.mono ?_); rintro e w3 ⟨rfl, rv3, hr3, hf3⟩; have R3 : Hid (RC w.heap.size w3 r rv3 N (L.take a) ∧ Fr (foot r rv) wa w3) := ⟨hr3, hf3⟩; have A3 : Hid (CA w.heap.size w3 c g ub uv V U) := PA.out.ca.fr hf3 (ps_sep PA.out.ca PA.out.rc); have N3 := (hf3.block bx (lt_of_heap HNA.out) (PA.out.out HNA.out).2).trans HNA.out; clear hr3 hf3 k1 k2; have k1 : w3.cell? ⟨bx, 1, none⟩ = some (.int .i64 (a : Int)) := cell_row N3 (i := 1) rfl; clear N3)
                go_upto_region 27 with (go_at_call 23; (with_reducible refine (back_c A3.out haU).mono ?_); rintro e w4 ⟨rfl, uv4, hc4, hm4, hf4⟩; have P5 : Hid (PS w.heap.size w c g ub uv4 r rv3 N (backV V U a) (U.take a) (L.take a) w4) := PA.out.both R3.out.1 R3.out.2 hc4 hf4 (PA.out.rel.take hal); clear hc4 hm4 hf4 k1)
                obtain ⟨qt, cpt, hqt⟩ := ownsRow_shape P5.out.rc.own
                have ct1 := P5.out.rc.c1
                rw [hqt] at ct1
                have ltr : r < w4.heap.size := lt_of_heap P5.out.rc.hb
                have hne : (((L.take a).length : Int) != ((L.take a).length : Int)) = false := by simp
                clear hqt
                go_upto_region 39 with fail
                refine wp_region_ext (by kernel_rfl) (by kernel_rfl) ?_
                repeat (go_big_quiet_step (first | exact rfl | (go_at_call 27; with_reducible exact mark_x P5.out)))
                refine wpQuiet_nil ?_
                intro w8 hw
                have P8 : Hid _ := P5.out.kept (ext_of hw)
                clear hw ct1 ltr
                go_wp2
                go_roundw
                case rel => exact ⟨k + 1, _, _, _, _, _, by omega, by omega, by go_num, by first | omega | (simp; omega), P8.out⟩
                case measure => simp only [intOf]; omega
              · have hout : xa < 0 ∨ (L.length : Int) < xa := by omega
                have HO : Hid (xa < 0 ∨ (L.length : Int) < xa) := hout
                have HV : Hid (xa < 0 ∨ (U.length : Int) < xa) := by rw [PA.out.rel.n]; exact hout
                clear hin hout
                go_upto_region 27 with first | (go_at_call 17; (with_reducible refine (PJ.out _).mono ?_); rintro e w9 ⟨rfl, h9⟩; subst w9) | (go_at_call 22; (with_reducible refine (rback_out PA.out.rc HO.out).mono ?_); rintro e w9 ⟨rfl, h9⟩; subst w9) | (go_at_call 23; (with_reducible refine (back_bad PA.out.ca HV.out).mono ?_); rintro e w9 ⟨rfl, h9⟩; subst w9)
                obtain ⟨qt, cpt, hqt⟩ := ownsRow_shape PA.out.rc.own
                have ct1 := PA.out.rc.c1
                rw [hqt] at ct1
                have ltr : r < wa.heap.size := lt_of_heap PA.out.rc.hb
                have hne : (((L).length : Int) != ((L).length : Int)) = false := by simp
                clear hqt
                go_upto_region 39 with fail
                refine wp_region_ext (by kernel_rfl) (by kernel_rfl) ?_
                repeat (go_big_quiet_step (first | exact rfl | (go_at_call 27; with_reducible exact mark_x PA.out)))
                refine wpQuiet_nil ?_
                intro w8 hw
                have P8 : Hid _ := PA.out.kept (ext_of hw)
                clear hw ct1 ltr
                go_wp2
                go_roundw
                case rel => exact ⟨k + 1, _, _, _, _, _, by omega, by omega, by go_num, by first | omega | (simp; omega), P8.out⟩
                case measure => simp only [intOf]; omega
          | 3, _ =>
            as_aux_lemma =>
              have hVN := PA.out.rel.len
              have RV : Hid (Calls Try.prog 24 #[.pointer (some ⟨r, 0, none⟩)] wa fun e w' => ∃ vo, e = .returned vo ∧ w'.ownsRow wa.heap.size 3 1 vo N (ints V) ∧ Below wa.heap.size wa w') := by
                have := rvalues PA.out.rc PA.out.rel.ok (by omega) (by omega)
                rw [← PA.out.rel.v] at this
                exact this
              have VL : Hid (∀ {W : World}, CA w.heap.size W c g ub uv V U → Calls Try.prog 25 #[.pointer (some ⟨c, 0, none⟩)] W fun e w' => e = .returned (.slice (some ⟨W.heap.size, 0, none⟩) N N) ∧ w'.heap[W.heap.size]? = some (.cells (ints V).toArray 3 (0, 0)) ∧ Below W.heap.size W w') := fun {W} h => by
                have := values_c h
                rw [hVN] at this
                exact this
              have HVN : Hid (V.length = N) := hVN
              have hVl : Hid (V.length ≤ maxLen) := (by rw [hVN]; unfold maxLen; omega : V.length ≤ maxLen)
              clear hVN
              go_upto_region 31 with first | (go_at_call 17; (with_reducible refine (PJ.out _).mono ?_); rintro e w9 ⟨rfl, h9⟩; subst w9) | (go_at_call 24; (with_reducible refine RV.out.mono ?_); rintro e w3 ⟨vo, rfl, ho3, hb3⟩; obtain ⟨qo, co, rfl⟩ := ownsRow_shape ho3; have P3 : Hid (PS w.heap.size w c g ub uv r rv N V U L w3) := PA.out.kept hb3; have O3 : Hid (w3.ownsRow wa.heap.size 3 1 (.slice qo N co) N (ints V)) := ho3; clear ho3 hb3) | (go_at_call 25; (with_reducible refine (VL.out P3.out.ca).mono ?_); rintro e w4 ⟨rfl, hr4, hb4⟩; have V4 : Hid (VI w.heap.size w c g ub uv r rv N V U L wa.heap.size (.slice qo N co) w3.heap.size w4) := ⟨P3.out.kept hb4, ownsRow_fr O3.out (Fr.of_below (S := fun _ => False) hb4) (fun _ _ q => q), ⟨V, HVN.out, hr4⟩, P3.out.len, fun q => Nat.lt_irrefl _ (P3.out.lt.1 _ q), fun q => Nat.lt_irrefl _ (P3.out.lt.2 _ q), fun q => Nat.lt_irrefl _ (ownsRow_at O3.out q).2.1⟩; have A4 : Hid (ArgI w4 (.slice (some ⟨w3.heap.size, 0, none⟩) N N) V) := (by have := row_arg hr4 hVl.out; rw [HVN.out] at this; exact this); clear hr4 hb4)
              go_upto_region 33 with (go_at_call 26; (with_reducible refine (vals_same A4.out (own_arg V4.out.o)).mono ?_); rintro e w5 ⟨rfl, hb5⟩; have V5 : Hid (VI w.heap.size w c g ub uv r rv N V U L wa.heap.size (.slice qo N co) w3.heap.size w5) := V4.out.kept hb5; clear hb5)
              obtain ⟨b1, hb1⟩ : ∃ b1, wa.heap.size = b1 := ⟨_, rfl⟩
              obtain ⟨ga, hga⟩ : ∃ ga, w3.heap.size = ga := ⟨_, rfl⟩
              rw [hb1, hga] at V5
              rw [hga]
              clear hb1 hga V4 A4 P3 O3 RV k0 k1 k2 HNA
              go_loopw [25] (fun i ws => ∃ m : Nat, m ≤ N ∧ i = .int .i64 m ∧ VI w.heap.size w c g ub uv r rv N V U L b1 (.slice qo N co) ga ws) (fun i _ => N - (intOf i).toNat)
              case atStart => exact ⟨0, Nat.zero_le _, rfl, V5.out⟩
              case round =>
                obtain ⟨m, hm, rfl, hV⟩ := hrel
                have V6 : Hid (VI w.heap.size w c g ub uv r rv N V U L b1 (.slice qo N co) ga wr) := hV
                obtain ⟨A, hA, hrow⟩ := hV.row
                clear hV V5
                by_cases hmN : m < N
                · obtain ⟨o, ho⟩ : ∃ o, A[m]? = some o := ⟨_, List.getElem?_eq_getElem (by omega)⟩
                  have cm := cell_row hrow (i := m) (v := .int .i64 o) (by simpa using ints_get ho)
                  have fm := frz_row hrow m
                  have V7 : Hid (VI w.heap.size w c g ub uv r rv N V U L b1 (.slice qo N co) ga (wr.setCell ⟨ga, m, none⟩ (.int .i64 99))) := V6.out.set m 99
                  have e0 : (m : Int) < (N : Int) := by omega
                  have e1 : (0 : Int) ≤ (m : Int) := by omega
                  clear hrow ho
                  go_wp2
                  go_roundw
                  case rel => exact ⟨m + 1, by omega, by go_num, V7.out⟩
                  case measure => simp only [intOf]; omega
                · have e0 : ¬ (m : Int) < (N : Int) := by omega
                  clear hrow hA
                  obtain ⟨t0, hi, hz0, hz1, hz2⟩ := info_parts size_int
                  go_upto_region 37 with first | (go_at_call 25; (with_reducible refine (VL.out V6.out.ps.ca).mono ?_); rintro e w6 ⟨rfl, hr6, hb6⟩; have V8 : Hid (VI w.heap.size w c g ub uv r rv N V U L b1 (.slice qo N co) ga w6) := V6.out.kept hb6; have R8 : Hid (w6.ownsRow w.heap.size 3 1 (.slice (some ⟨wr.heap.size, 0, none⟩) N N) N (ints V)) := (by have := row_own hr6 V6.out.ps.len hVl.out; rw [HVN.out] at this; exact this); have hz6 := V8.out.ps.len; clear hr6 hb6) | (at_builtin; refine wpList_append_own_at _ rfl _ _ 60 rfl w.heap.size 3 t0 (.int .i64 0) 1 8 und_ints hi hz0 hz1 hz2 rfl (by decide) (.slice (some ⟨wr.heap.size, 0, none⟩) N N) N (ints V) rfl (World.ownsRow.alloc R8.out (.cells #[.int .i64 1, .int .i64 2] 3)) ⟨w6.heap.size, 0, none⟩ 2 2 [.int .i64 1, .int .i64 2] rfl rfl (news2 _ _ _ _) (by simp [Value.oneCell']) (by unfold maxLen; omega) (by omega) (by simp; omega) ?_; intro v' w7 hown' hgrow _ hblk; obtain ⟨g7, cap7, rfl⟩ := ownsRow_some hown' (Nat.succ_pos _); have F7 : Hid (Fr (fun z => z = wr.heap.size) w6 w7) := ((Fr.refl _ w6).alloc _).grown hgrow (fun z hz => by (simp [Value.ownBlock] at hz; exact hz.symm)); have O7 : Hid (w7.ownsRow w.heap.size 3 1 (.slice (some ⟨g7, 0, none⟩) (N + 2) cap7) (N + 2) (ints V ++ [.int .i64 1, .int .i64 2])) := hown'; clear hown' hgrow hblk)
                  have P7 : Hid (PS w.heap.size w c g ub uv r rv N V U L w7) := V8.out.ps.fr F7.out (fun z hz => by subst hz; exact ⟨V6.out.ps.len, fun q => Nat.lt_irrefl _ (V6.out.ps.lt.1 _ q), fun q => Nat.lt_irrefl _ (V6.out.ps.lt.2 _ q)⟩)
                  have W7 : Hid (ArgI w7 (.slice qo N co) V) := own_arg (ownsRow_fr V8.out.o F7.out (fun z hz e => by subst e; exact Nat.lt_irrefl _ (ownsRow_at V6.out.o hz).2.1))
                  have hc7 := (ownsRow_cap O7.out).1
                  have T7 : Hid (ArgI w7 (.slice (some ⟨g7, 0, none⟩) N cap7) V) := own_arg (by
                    have := ownsRow_take O7.out (k := N) (by omega)
                    rw [List.take_left' (by rw [ints_length, HVN.out, Nat.mul_one])] at this
                    exact this)
                  have e4 : (N : Int) ≤ (cap7 : Int) := by omega
                  have e5 : (0 : Int) ≤ (N : Int) := by omega
                  clear hc7
                  go_upto_region 38 with (go_at_call 26; (with_reducible refine (vals_same T7.out W7.out).mono ?_); rintro e w10 ⟨rfl, hb10⟩; have P9 : Hid (PS w.heap.size w c g ub uv r rv N V U L w10) := P7.out.kept hb10; clear hb10)
                  obtain ⟨qt, cpt, hqt⟩ := ownsRow_shape P9.out.rc.own
                  have ct1 := P9.out.rc.c1
                  rw [hqt] at ct1
                  have ltr : r < w10.heap.size := lt_of_heap P9.out.rc.hb
                  have hne : (((L).length : Int) != ((L).length : Int)) = false := by simp
                  clear hqt
                  go_upto_region 39 with fail
                  refine wp_region_ext (by kernel_rfl) (by kernel_rfl) ?_
                  repeat (go_big_quiet_step (first | exact rfl | (go_at_call 27; with_reducible exact mark_x P9.out)))
                  refine wpQuiet_nil ?_
                  intro w8 hw
                  have P8 : Hid _ := P9.out.kept (ext_of hw)
                  clear hw ct1 ltr
                  go_wp2
                  go_roundw
                  case rel => exact ⟨k + 1, _, _, _, _, _, by omega, by omega, by go_num, by first | omega | (simp; omega), P8.out⟩
                  case measure => simp only [intOf]; omega
        · have hd : decide (k < ls.length ∧ k < 300) = false := decide_eq_false hgo
          rw [hd]
          go_wp2
          go_ret
          exact ⟨rfl, P.out.bel⟩
end Go.Proofs.Ytobeiigmeflbjaa
