/-
  The law CellsTwice.
-/
import Derived.Test.YtobeiigmeflbjaaArgL
namespace Go.Proofs.Ytobeiigmeflbjaa
open Go Go.RowKit

set_option maxRecDepth 100000 in
set_option maxHeartbeats 8000000 in
theorem law_twice (x0 : Int) (wf0 : (Lit.int .i64 x0).wf = true) (ls : List (Int × Int × Int)) (v1 : Value) (x2 : Int) (wf2 : (Lit.int .i64 x2).wf = true) (x3 : Int) (wf3 : (Lit.int .i64 x3).wf = true) (w : World) (hz : ArgL w v1 ls) :
    Calls Try.prog 8 #[.int .i64 x0, v1, .int .i64 x2, .int .i64 x3] w fun e w' => e = .returned (.bool true) ∧ Below w.heap.size w w' := by
  obtain ⟨q1, cap1, rfl, hlen1, hc1⟩ := hz.slice
  have HC1 : Hid (∀ (i : Nat) (x : Int × Int × Int), ls[i]? = some x → ∃ g off, q1 = some ⟨g, off, none⟩ ∧ g < w.heap.size ∧
    ((Lit.int .i64 x.1).wf = true ∧ (Lit.int .i64 x.2.1).wf = true ∧ (Lit.int .i64 x.2.2).wf = true) ∧ w.cell? ⟨g, off + i * 3, none⟩ = some (.int .i64 x.1) ∧ w.cell? ⟨g, off + i * 3 + 1, none⟩ = some (.int .i64 x.2.1) ∧ w.cell? ⟨g, off + i * 3 + 2, none⟩ = some (.int .i64 x.2.2)) := hc1
  clear hc1 hz
  unfold maxLen at hlen1
  obtain ⟨r, hr, hpr⟩ := pk_nat x0 (n := 200) (by decide)
  have HPR : Hid (pk x0 200 = r) := hpr
  have PK : Hid (∀ W : World, Calls Try.prog 17 #[.int .i64 x0, .int .i64 200] W fun e w' => e = .returned (.int .i64 (r : Int)) ∧ w' = W) := fun W => by
    have := pick_i x0 200 (by decide) (by decide) wf0 W
    rw [HPR.out] at this
    exact this
  obtain ⟨N, hN⟩ : ∃ N, r + 1 = N := ⟨_, rfl⟩
  have HN : Hid ((1 : Int) + (r : Int) = (N : Int)) := (by omega : (1 : Int) + (r : Int) = (N : Int))
  have NC : Hid (∀ W : World, Calls Try.prog 16 #[.int .i64 (1 + (r : Int))] W fun e w' => ∃ b g ub, e = .returned (.tuple #[.pointer (some ⟨b, 0, none⟩), .int .i64 0]) ∧ CA W.heap.size w' b g ub (.slice none 0 0) (List.replicate N (-1)) [] ∧ Below W.heap.size W w') := fun W => by
    rw [HN.out]
    exact newCells (n := N) (by omega) W
  clear hpr
  go_enter Try.func8, Try.ntmps8
  go_upto_region 4 with first | (go_at_call 9; (with_reducible refine (known_c _).mono ?_); rintro e w0 ⟨rfl, hb⟩; have B0 : Hid (Below w.heap.size w w0) := hb; clear hb) | (go_at_call 17; (with_reducible refine (PK.out _).mono ?_); rintro e w9 ⟨rfl, h9⟩; subst w9) | (go_at_call 16; (with_reducible refine (NC.out _).mono ?_); rintro e w1 ⟨a, ga, ua, rfl, ha, hb⟩; have A1 : Hid (CA w.heap.size w1 a ga ua (.slice none 0 0) (List.replicate N (-1)) []) := ha.mono B0.out.size; have B1 : Hid (Below w.heap.size w w1) := chain B0.out hb (Nat.le_refl _); clear ha hb)
  go_upto_region 8 with (go_at_call 16; (with_reducible refine (NC.out _).mono ?_); rintro e w2 ⟨b, gb, ub, rfl, ha, hb⟩; have T2 : Hid (Two w.heap.size w a ga ua (.slice none 0 0) (List.replicate N (-1)) [] b gb ub (.slice none 0 0) (List.replicate N (-1)) [] w2) := two_new A1.out ha hb B1.out (Nat.le_refl _); clear ha hb)
  clear A1 B1 B0
  rw [HN.out]
  go_loopw [14] (fun i wr => ∃ (k : Nat) (uva uvb : Value) (V : List Int) (U : List (Int × Int)), k ≤ ls.length ∧ k ≤ 300 ∧ i = .int .i64 k ∧ V.length = N ∧ U.length ≤ k ∧ Two w.heap.size w a ga ua uva V U b gb ub uvb V U wr) (fun i _ => ls.length - (intOf i).toNat)
  case atStart => exact ⟨0, _, _, _, [], Nat.zero_le _, Nat.zero_le _, rfl, List.length_replicate, Nat.le_refl _, T2.out⟩
  case round =>
    obtain ⟨k, uva, uvb, V, U, hk, hk3, rfl, hVN, hUk, hT⟩ := hrel
    have T : Hid (Two w.heap.size w a ga ua uva V U b gb ub uvb V U wr) := hT
    clear hT T2
    go_upto_region 8 with fail
    go_cut [60] (fun c wx => c = .bool (decide (k < ls.length ∧ k < 300)) ∧ wx = wr)
    case first =>
      go_wp2_with fail
      all_goals go_meet
      all_goals first | exact ⟨by rw [decide_eq_false (by omega)], rfl⟩ | exact ⟨by congr 1; exact decide_eq_decide.2 (by omega), rfl⟩
    case rest =>
      obtain ⟨rfl, rfl⟩ := hcut
      by_cases hgo : k < ls.length ∧ k < 300
      · have hd : decide (k < ls.length ∧ k < 300) = true := decide_eq_true hgo
        obtain ⟨hlt, h3⟩ := hgo
        obtain ⟨g, off, rfl, hg, ⟨-, wf1, -⟩, -, hx1, hx2⟩ := HC1.out k _ (List.getElem?_eq_getElem hlt)
        generalize ls[k] = x at wf1 hx1 hx2
        obtain ⟨xk, xa, xb⟩ := x
        simp only at wf1 hx1 hx2
        have cx1 := (T.out.bel.cell (p := ⟨g, off + k * 3 + 1, none⟩) hg).trans hx1
        have cx2 := (T.out.bel.cell (p := ⟨g, off + k * 3 + 2, none⟩) hg).trans hx2
        have HX : Hid (w.cell? ⟨g, off + k * 3 + 1, none⟩ = some (.int .i64 xa) ∧ w.cell? ⟨g, off + k * 3 + 2, none⟩ = some (.int .i64 xb)) := ⟨hx1, hx2⟩
        clear hx1 hx2
        obtain ⟨j, hj, hpj⟩ := pk_nat xa (n := N) (by omega)
        have PJ : Hid (∀ W : World, Calls Try.prog 17 #[.int .i64 xa, .int .i64 (N : Int)] W fun e w' => e = .returned (.int .i64 (j : Int)) ∧ w' = W) := fun W => by
          have := pick_c xa N (by omega) (by omega) wf1 W
          rw [hpj] at this
          exact this
        obtain ⟨y, hy⟩ : ∃ y, V[j]? = some y := ⟨_, List.getElem?_eq_getElem (by omega)⟩
        have HY : Hid (V[j]? = some y) := hy
        have HJ : Hid (pk xa N = j) := hpj
        have i0 : (0 : Int) ≤ (k : Int) := by omega
        have i1 : (k : Int) < (ls.length : Int) := by omega
        have i2 : k < ls.length := hlt
        have hgc : g < wc.heap.size := Nat.lt_of_lt_of_le hg T.out.bel.size
        clear hy hpj
        rw [hd]
        go_upto_region 10 with fail
        go_cut [76] (fun _ wx => ∃ uva', Two w.heap.size w a ga ua uva' (V.set j xb) (U ++ [((j : Int), y)]) b gb ub uvb V U wx)
        case first =>
          go_region_with first | (go_at_call 17; (with_reducible refine (PJ.out _).mono ?_); rintro e w9 ⟨rfl, h9⟩; subst w9) | (go_at_call 19; (with_reducible refine (set_in (T.out.kept (Below.refl _ _).drew).ca (T.out.kept (Below.refl _ _).drew).len (by omega) HY.out _).mono ?_); rintro e w6 ⟨rfl, uva', hc6, hm6, hf6⟩; have T6 : Hid (Two w.heap.size w a ga ua uva' (V.set j xb) (U ++ [((j : Int), y)]) b gb ub uvb V U w6) := (T.out.kept (Below.refl _ _).drew).left hc6 hm6 hf6; clear hc6 hm6 hf6)
          all_goals go_wp2_with fail
          all_goals go_meet
          all_goals exact ⟨_, T6.out⟩
        case rest =>
          obtain ⟨uva', hT6⟩ := hcut
          have T6 : Hid (Two w.heap.size w a ga ua uva' (V.set j xb) (U ++ [((j : Int), y)]) b gb ub uvb V U wc) := hT6
          clear hT6 cx1 cx2
          have cx1 := (T6.out.bel.cell (p := ⟨g, off + k * 3 + 1, none⟩) hg).trans HX.out.1
          have cx2 := (T6.out.bel.cell (p := ⟨g, off + k * 3 + 2, none⟩) hg).trans HX.out.2
          have hgd : g < wc.heap.size := Nat.lt_of_lt_of_le hg T6.out.bel.size
          go_upto_region 11 with fail
          go_region_with first | (go_at_call 17; (with_reducible refine (PJ.out _).mono ?_); rintro e w9 ⟨rfl, h9⟩; subst w9) | (go_at_call 19; (with_reducible refine (set_in (T6.out.kept (Below.refl _ _).drew).cb (T6.out.kept (Below.refl _ _).drew).len (by omega) HY.out _).mono ?_); rintro e w7 ⟨rfl, uvb', hc7, hm7, hf7⟩; have T7 : Hid (Two w.heap.size w a ga ua uva' (V.set j xb) (U ++ [((j : Int), y)]) b gb ub uvb' (V.set j xb) (U ++ [((j : Int), y)]) w7) := (T6.out.kept (Below.refl _ _).drew).right hc7 hm7 hf7; clear hc7 hm7 hf7)
          all_goals go_wp2_with fail
          all_goals go_roundw
          all_goals first | exact ⟨k + 1, _, _, _, _, by omega, by omega, by go_num, by simpa using hVN, by simp; omega, T7.out⟩ | (simp only [intOf]; omega)
      · have hd : decide (k < ls.length ∧ k < 300) = false := decide_eq_false hgo
        rw [hd]
        clear hgo hd HC1 PK NC HPR
        obtain ⟨f, hf, hpf⟩ := pk_nat x2 (n := U.length + 1) (by omega)
        obtain ⟨m0, hm0, hpm⟩ := pk_nat x3 (n := U.length - f + 1) (by omega)
        have PF : Hid (∀ W : World, Calls Try.prog 17 #[.int .i64 x2, .int .i64 ((U.length : Int) + 1)] W fun e w' => e = .returned (.int .i64 (f : Int)) ∧ w' = W) := fun W => by
          have := pick_c x2 (U.length + 1) (by omega) (by omega) wf2 W
          rw [hpf] at this
          exact this
        have PM : Hid (∀ W : World, Calls Try.prog 17 #[.int .i64 x3, .int .i64 ((U.length : Int) - (f : Int) + 1)] W fun e w' => e = .returned (.int .i64 (m0 : Int)) ∧ w' = W) := fun W => by
          have := pick_c x3 (U.length - f + 1) (by omega) (by omega) wf3 W
          rw [hpm, show ((U.length - f + 1 : Nat) : Int) = (U.length : Int) - (f : Int) + 1 by omega] at this
          exact this
        clear hpf hpm
        go_upto_region 14 with first | (go_at_call 27; (with_reducible refine (mark_c T.out.ca).mono ?_); rintro e w9 ⟨rfl, h9⟩; subst w9) | (go_at_call 17; (with_reducible refine (PF.out _).mono ?_); rintro e w9 ⟨rfl, h9⟩; subst w9) | (go_at_call 17; (with_reducible refine (PM.out _).mono ?_); rintro e w9 ⟨rfl, h9⟩; subst w9)
        have K1 : Hid (Calls Try.prog 23 #[.pointer (some ⟨a, 0, none⟩), .int .i64 ((f : Int) + (m0 : Int))] wc fun e w' => e = .returned (.int .i64 0) ∧ ∃ uv', CA w.heap.size w' a ga ua uv' (backV V U (f + m0)) (U.take (f + m0)) ∧ uv'.ownBlock = uva.ownBlock ∧ Fr (cfoot ga ua uva) wc w') := by
          have := back_c T.out.ca (m := f + m0) (by omega)
          rw [show ((f + m0 : Nat) : Int) = (f : Int) + (m0 : Int) by omega] at this
          exact this
        have hVE : Hid (backV (backV V U (f + m0)) (U.take (f + m0)) f = backV V U f) := backV_back V U (Nat.le_add_right _ _)
        have hUE : Hid ((U.take (f + m0)).take f = U.take f) := (by rw [List.take_take]; congr 1; omega : (U.take (f + m0)).take f = U.take f)
        have hfl : (U.take f).length = f := by simp; omega
        have hf2 : f ≤ (U.take (f + m0)).length := by simp; omega
        go_upto_region 15 with (go_at_call 23; (with_reducible refine K1.out.mono ?_); rintro e w3 ⟨rfl, u3, hc3, hm3, hf3⟩; have T3 : Hid (Two w.heap.size w a ga ua u3 (backV V U (f + m0)) (U.take (f + m0)) b gb ub uvb V U w3) := T.out.left hc3 (.inl hm3) hf3; clear hc3 hm3 hf3)
        have K2 : Hid (Calls Try.prog 23 #[.pointer (some ⟨a, 0, none⟩), .int .i64 (f : Int)] w3 fun e w' => e = .returned (.int .i64 0) ∧ ∃ uv', CA w.heap.size w' a ga ua uv' (backV V U f) (U.take f) ∧ uv'.ownBlock = u3.ownBlock ∧ Fr (cfoot ga ua u3) w3 w') := by
          have := back_c T3.out.ca hf2
          rw [hVE.out, hUE.out] at this
          exact this
        go_upto_region 16 with (go_at_call 23; (with_reducible refine K2.out.mono ?_); rintro e w4 ⟨rfl, u4', hc4, hm4, hf4⟩; have T4 : Hid (Two w.heap.size w a ga ua u4' (backV V U f) (U.take f) b gb ub uvb V U w4) := T3.out.left hc4 (.inl hm4) hf4; clear hc4 hm4 hf4)
        go_upto_region 17 with (go_at_call 23; (with_reducible refine (back_c T4.out.cb (m := f) (by omega)).mono ?_); rintro e w5 ⟨rfl, u5, hc5, hm5, hf5⟩; have T5 : Hid (Two w.heap.size w a ga ua u4' (backV V U f) (U.take f) b gb ub u5 (backV V U f) (U.take f) w5) := T4.out.right hc5 (.inl hm5) hf5; clear hc5 hm5 hf5)
        have hBl : (backV V U f).length ≤ maxLen := by rw [backV_length, hVN]; unfold maxLen; omega
        go_upto_region 18 with first | (go_at_call 25; (with_reducible refine (values_c T5.out.ca).mono ?_); rintro e w6 ⟨rfl, hr6, hb6⟩; have T6 : Hid (Two w.heap.size w a ga ua u4' (backV V U f) (U.take f) b gb ub u5 (backV V U f) (U.take f) w6) := T5.out.kept hb6; have R6 : Hid (ArgI w6 (.slice (some ⟨w5.heap.size, 0, none⟩) (backV V U f).length (backV V U f).length) (backV V U f)) := row_arg hr6 hBl; clear hr6 hb6) | (go_at_call 25; (with_reducible refine (values_c T6.out.cb).mono ?_); rintro e w7 ⟨rfl, hr7, hb7⟩; have T7 : Hid (Two w.heap.size w a ga ua u4' (backV V U f) (U.take f) b gb ub u5 (backV V U f) (U.take f) w7) := T6.out.kept hb7; have R7 : Hid (ArgI w7 (.slice (some ⟨w6.heap.size, 0, none⟩) (backV V U f).length (backV V U f).length) (backV V U f)) := row_arg hr7 hBl; have S7 : Hid (ArgI w7 (.slice (some ⟨w5.heap.size, 0, none⟩) (backV V U f).length (backV V U f).length) (backV V U f)) := R6.out.kept hb7; clear hr7 hb7) | (go_at_call 26; (with_reducible refine (vals_same S7.out R7.out).mono ?_); rintro e w8 ⟨rfl, hb8⟩; have T8 : Hid (Two w.heap.size w a ga ua u4' (backV V U f) (U.take f) b gb ub u5 (backV V U f) (U.take f) w8) := T7.out.kept hb8; clear hb8)
        have MA : Hid (Calls Try.prog 27 #[.pointer (some ⟨a, 0, none⟩)] w8 fun e w' => e = .returned (.int .i64 (f : Int)) ∧ w' = w8) := by
          have := mark_c T8.out.ca
          rw [hfl] at this
          exact this
        have MB : Hid (Calls Try.prog 27 #[.pointer (some ⟨b, 0, none⟩)] w8 fun e w' => e = .returned (.int .i64 (f : Int)) ∧ w' = w8) := by
          have := mark_c T8.out.cb
          rw [hfl] at this
          exact this
        have BB : Hid (Calls Try.prog 23 #[.pointer (some ⟨a, 0, none⟩), .int .i64 ((f : Int) + 1)] w8 fun e w' => e = .returned (.int .i64 1) ∧ w' = w8) := back_bad T8.out.ca (.inr (by rw [hfl]; omega))
        clear hfl hf2
        go_wp2_with first | (go_at_call 27; (with_reducible refine MA.out.mono ?_); rintro e w9 ⟨rfl, h9⟩; subst w9) | (go_at_call 27; (with_reducible refine MB.out.mono ?_); rintro e w9 ⟨rfl, h9⟩; subst w9) | (go_at_call 23; (with_reducible refine BB.out.mono ?_); rintro e w9 ⟨rfl, h9⟩; subst w9)
        go_ret
        exact ⟨by simp, T8.out.bel⟩
end Go.Proofs.Ytobeiigmeflbjaa
