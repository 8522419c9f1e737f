/-
  The law CellsFollow.
-/
import Derived.Test.YtobeiigmeflbjaaArgL
namespace Go.Proofs.Ytobeiigmeflbjaa
open Go Go.RowKit

/-- Cells that were made of N, and what Back(0) leaves. -/
structure FI (n : Nat) (w : World) (c g ub : Nat) (uv : Value) (V : List Int) (U : List (Int × Int)) (N : Nat) (wr : World) : Prop where
  ca : CA n wr c g ub uv V U
  bel : Below n w wr
  hn : n ≤ w.heap.size
  hV : V.length = N
  h0 : backV V U 0 = List.replicate N (-1)
section
variable {n : Nat} {w wr w' : World} {c g ub : Nat} {uv uv' : Value} {V : List Int} {U : List (Int × Int)} {N : Nat}
theorem FI.len (h : FI n w c g ub uv V U N wr) : n ≤ wr.heap.size := Nat.le_trans h.hn h.bel.size
theorem FI.kept (h : FI n w c g ub uv V U N wr) (hb : Below wr.heap.size wr w') : FI n w c g ub uv V U N w' := ⟨h.ca.kept hb, chain h.bel hb h.hn, h.hn, h.hV, h.h0⟩
theorem FI.set (h : FI n w c g ub uv V U N wr) {i : Nat} {y x : Int} (hi : V[i]? = some y) (hc : CA n w' c g ub uv' (V.set i x) (U ++ [((i : Int), y)])) (hf : Fr (cfoot g ub uv) wr w') : FI n w c g ub uv' (V.set i x) (U ++ [((i : Int), y)]) N w' :=
  ⟨hc, chainF h.bel hf h.hn h.ca.lof, h.hn, by simpa using h.hV, by rw [backV_set V U hi x (Nat.zero_le _)]; exact h.h0⟩
theorem FI.back (h : FI n w c g ub uv V U N wr) {m : Nat} (hc : CA n w' c g ub uv' (backV V U m) (U.take m)) (hf : Fr (cfoot g ub uv) wr w') : FI n w c g ub uv' (backV V U m) (U.take m) N w' :=
  ⟨hc, chainF h.bel hf h.hn h.ca.lof, h.hn, by rw [backV_length]; exact h.hV, by rw [backV_back V U (Nat.zero_le _)]; exact h.h0⟩
/-- Another row of numbers stays. -/
theorem FI.row (h : FI n w c g ub uv V U N wr) (hf : Fr (cfoot g ub uv) wr w') {gw : Nat} {A : List Int} (hg : gw ≠ g) (hr : wr.heap[gw]? = some (.cells (ints A).toArray 3 (0, 0))) : w'.heap[gw]? = some (.cells (ints A).toArray 3 (0, 0)) :=
  (hf.block gw (lt_of_heap hr) (fun q => by
    rcases q with q | q | q
    · exact hg q
    · exact ne_type hr h.ca.u.hb (by decide) q
    · exact ownsRow_not h.ca.u.own hr (by decide) q)).trans hr
end

set_option maxRecDepth 100000 in
set_option maxHeartbeats 8000000 in
theorem law_cfol (x0 : Int) (wf0 : (Lit.int .i64 x0).wf = true) (ls : List (Int × Int × Int)) (v1 : Value) (os : List (Int × Int × Int)) (v2 : Value) (w : World) (hz : ArgL w v1 ls) (ho : ArgL w v2 os) :
    Calls Try.prog 6 #[.int .i64 x0, v1, v2] w fun e w' => e = .returned (.bool true) ∧ Below w.heap.size w w' := by
  obtain ⟨q1, cap1, rfl, hlen1, hc1⟩ := hz.slice
  obtain ⟨q2, cap2, rfl, hlen2, hc2⟩ := ho.slice
  have HC1 : Hid (∀ (i : Nat) (x : Int × Int × Int), ls[i]? = some x → ∃ g off, q1 = some ⟨g, off, none⟩ ∧ g < w.heap.size ∧
    ((Lit.int .i64 x.1).wf = true ∧ (Lit.int .i64 x.2.1).wf = true ∧ (Lit.int .i64 x.2.2).wf = true) ∧ w.cell? ⟨g, off + i * 3, none⟩ = some (.int .i64 x.1) ∧ w.cell? ⟨g, off + i * 3 + 1, none⟩ = some (.int .i64 x.2.1) ∧ w.cell? ⟨g, off + i * 3 + 2, none⟩ = some (.int .i64 x.2.2)) := hc1
  have HC2 : Hid (∀ (i : Nat) (x : Int × Int × Int), os[i]? = some x → ∃ g off, q2 = some ⟨g, off, none⟩ ∧ g < w.heap.size ∧
    ((Lit.int .i64 x.1).wf = true ∧ (Lit.int .i64 x.2.1).wf = true ∧ (Lit.int .i64 x.2.2).wf = true) ∧ w.cell? ⟨g, off + i * 3, none⟩ = some (.int .i64 x.1) ∧ w.cell? ⟨g, off + i * 3 + 1, none⟩ = some (.int .i64 x.2.1) ∧ w.cell? ⟨g, off + i * 3 + 2, none⟩ = some (.int .i64 x.2.2)) := hc2
  clear hc1 hc2 hz ho
  unfold maxLen at hlen1 hlen2
  obtain ⟨r, hr, hpr⟩ := pk_nat x0 (n := 500) (by decide)
  have HPR : Hid (pk x0 500 = r) := hpr
  have PK : Hid (∀ W : World, Calls Try.prog 17 #[.int .i64 x0, .int .i64 500] W fun e w' => e = .returned (.int .i64 (r : Int)) ∧ w' = W) := fun W => by
    have := pick_i x0 500 (by decide) (by decide) wf0 W
    rw [HPR.out] at this
    exact this
  obtain ⟨N, hN⟩ : ∃ N, r + 1 = N := ⟨_, rfl⟩
  have HN : Hid ((1 : Int) + (r : Int) = (N : Int)) := (by omega : (1 : Int) + (r : Int) = (N : Int))
  have NC : Hid (∀ W : World, Calls Try.prog 16 #[.int .i64 (1 + (r : Int))] W fun e w' => ∃ b g ub, e = .returned (.tuple #[.pointer (some ⟨b, 0, none⟩), .int .i64 0]) ∧ CA W.heap.size w' b g ub (.slice none 0 0) (List.replicate N (-1)) [] ∧ Below W.heap.size W w') := fun W => by
    rw [HN.out]
    exact newCells (n := N) (by omega) W
  clear hpr
  go_enter Try.func6, Try.ntmps6
  go_upto_region 7 with first | (go_at_call 9; (with_reducible refine (known_c _).mono ?_); rintro e w0 ⟨rfl, hb⟩; have B0 : Hid (Below w.heap.size w w0) := hb; clear hb) | (go_at_call 17; (with_reducible refine (PK.out _).mono ?_); rintro e w9 ⟨rfl, h9⟩; subst w9) | (go_at_call 16; (with_reducible refine (NC.out _).mono ?_); rintro e w1 ⟨c, g, ub, rfl, ha, hb⟩; have F1 : Hid (FI w.heap.size w c g ub (.slice none 0 0) (List.replicate N (-1)) [] N w1) := ⟨ha.mono B0.out.size, chain B0.out hb (Nat.le_refl _), Nat.le_refl _, List.length_replicate, rfl⟩; clear ha hb)
  clear B0
  rw [HN.out]
  go_loopw [10] (fun i wr => ∃ (k : Nat) (uv : Value) (V : List Int) (U : List (Int × Int)), k ≤ ls.length ∧ k ≤ 300 ∧ i = .int .i64 k ∧ U.length ≤ k ∧ FI w.heap.size w c g ub uv V U N wr) (fun i _ => ls.length - (intOf i).toNat)
  case atStart => exact ⟨0, _, _, [], Nat.zero_le _, Nat.zero_le _, rfl, Nat.le_refl _, F1.out⟩
  case round =>
    obtain ⟨k, uv, V, U, hk, hk3, rfl, hUk, hF⟩ := hrel
    have F : Hid (FI w.heap.size w c g ub uv V U N wr) := hF
    have hVN := hF.hV
    clear hF F1
    go_upto_region 7 with fail
    go_cut [48] (fun c wx => c = .bool (decide (k < ls.length ∧ k < 300)) ∧ wx = wr)
    case first =>
      go_wp2_with fail
      all_goals go_meet
      all_goals first | exact ⟨by rw [decide_eq_false (by omega)], rfl⟩ | exact ⟨by congr 1; exact decide_eq_decide.2 (by omega), rfl⟩
    case rest =>
      obtain ⟨rfl, rfl⟩ := hcut
      by_cases hgo : k < ls.length ∧ k < 300
      · have hd : decide (k < ls.length ∧ k < 300) = true := decide_eq_true hgo
        obtain ⟨hlt, h3⟩ := hgo
        obtain ⟨gl, off, rfl, hg, ⟨-, wf1, -⟩, -, hx1, hx2⟩ := HC1.out k _ (List.getElem?_eq_getElem hlt)
        generalize ls[k] = x at wf1 hx1 hx2
        obtain ⟨xk, xa, xb⟩ := x
        simp only at wf1 hx1 hx2
        have cx1 := (F.out.bel.cell (p := ⟨gl, off + k * 3 + 1, none⟩) hg).trans hx1
        have cx2 := (F.out.bel.cell (p := ⟨gl, off + k * 3 + 2, none⟩) hg).trans hx2
        clear hx1 hx2
        obtain ⟨j, hj, hpj⟩ := pk_nat xa (n := N) (by omega)
        have PJ : Hid (∀ W : World, Calls Try.prog 17 #[.int .i64 xa, .int .i64 (N : Int)] W fun e w' => e = .returned (.int .i64 (j : Int)) ∧ w' = W) := fun W => by
          have := pick_c xa N (by omega) (by omega) wf1 W
          rw [hpj] at this
          exact this
        obtain ⟨y, hy⟩ : ∃ y, V[j]? = some y := ⟨_, List.getElem?_eq_getElem (by omega)⟩
        have HY : Hid (V[j]? = some y) := hy
        have i0 : (0 : Int) ≤ (k : Int) := by omega
        have i1 : (k : Int) < (ls.length : Int) := by omega
        have hgc : gl < wc.heap.size := Nat.lt_of_lt_of_le hg F.out.bel.size
        clear hy hpj HC2
        rw [hd]
        go_upto_region 9 with fail
        go_region_with first | (go_at_call 17; (with_reducible refine (PJ.out _).mono ?_); rintro e w9 ⟨rfl, h9⟩; subst w9) | (go_at_call 19; (with_reducible refine (set_in (F.out.kept (Below.refl _ _).drew).ca (F.out.kept (Below.refl _ _).drew).len (by omega) HY.out _).mono ?_); rintro e w6 ⟨rfl, uv', hc6, hm6, hf6⟩; have F6 : Hid (FI w.heap.size w c g ub uv' (V.set j xb) (U ++ [((j : Int), y)]) N w6) := (F.out.kept (Below.refl _ _).drew).set HY.out hc6 hf6; clear hc6 hm6 hf6)
        all_goals go_wp2_with fail
        all_goals go_roundw
        all_goals first | exact ⟨k + 1, _, _, _, by omega, by omega, by go_num, by simp; omega, F6.out⟩ | (simp only [intOf]; omega)
      · have hd : decide (k < ls.length ∧ k < 300) = false := decide_eq_false hgo
        rw [hd]
        clear hgo hd HC1 PK NC HPR
        go_upto_region 13 with first | (go_at_call 25; (with_reducible refine (values_c F.out.ca).mono ?_); rintro e w2 ⟨rfl, hr2, hb2⟩; have F2 : Hid (FI w.heap.size w c g ub uv V U N w2) := F.out.kept hb2; have R2 : Hid (wc.heap.size ≠ g ∧ w2.heap[wc.heap.size]? = some (.cells (ints V).toArray 3 (0, 0))) := ⟨by have := F.out.ca.lt g (.inr (.inl rfl)); omega, hr2⟩; clear hr2 hb2) | (go_at_call 27; (with_reducible refine (mark_c F2.out.ca).mono ?_); rintro e w9 ⟨rfl, h9⟩; subst w9)
        obtain ⟨gw, hgw⟩ : ∃ gw, wc.heap.size = gw := ⟨_, rfl⟩
        obtain ⟨m, hm⟩ : ∃ m, U.length = m := ⟨_, rfl⟩
        have HE : Hid (backV V U m = V ∧ m ≤ U.length) := ⟨by rw [← hm]; exact backV_all V U, by omega⟩
        have hm3 : m ≤ 300 := by omega
        rw [hgw] at R2 ⊢
        rw [hm]
        clear hgw hm F
        go_loopw [13] (fun i ws => ∃ (k : Nat) (uv' : Value) (V' : List Int) (U' : List (Int × Int)), k ≤ os.length ∧ k ≤ 300 ∧ i = .int .i64 k ∧ U'.length ≤ 300 + k ∧ m ≤ U'.length ∧ backV V' U' m = V ∧ FI w.heap.size w c g ub uv' V' U' N ws ∧ ws.heap[gw]? = some (.cells (ints V).toArray 3 (0, 0))) (fun i _ => os.length - (intOf i).toNat)
        case atStart => exact ⟨0, uv, V, U, Nat.zero_le _, Nat.zero_le _, rfl, by omega, HE.out.2, HE.out.1, F2.out, R2.out.2⟩
        case round =>
          have HGW : Hid (gw ≠ g) := R2.out.1
          clear F2 R2 HE hk hk3 hUk hVN
          obtain ⟨k2, uv2, V2, U2, hk, hk3, rfl, hUk, hmU, hbV, hF, hrow⟩ := hrel
          have F : Hid (FI w.heap.size w c g ub uv2 V2 U2 N wr) := hF
          have HB : Hid (backV V2 U2 m = V) := hbV
          have HR : Hid (wr.heap[gw]? = some (.cells (ints V).toArray 3 (0, 0))) := hrow
          have hVN := hF.hV
          clear hF hbV hrow
          go_upto_region 13 with fail
          go_cut [76] (fun c wx => c = .bool (decide (k2 < os.length ∧ k2 < 300)) ∧ wx = wr)
          case first =>
            go_wp2_with fail
            all_goals go_meet
            all_goals first | exact ⟨by rw [decide_eq_false (by omega)], rfl⟩ | exact ⟨by congr 1; exact decide_eq_decide.2 (by omega), rfl⟩
          case rest =>
            obtain ⟨rfl, rfl⟩ := hcut
            by_cases hgo : k2 < os.length ∧ k2 < 300
            · have hd : decide (k2 < os.length ∧ k2 < 300) = true := decide_eq_true hgo
              obtain ⟨hlt, h3⟩ := hgo
              obtain ⟨gl, off, rfl, hg, ⟨-, wf1, -⟩, -, hx1, hx2⟩ := HC2.out k2 _ (List.getElem?_eq_getElem hlt)
              generalize os[k2] = x at wf1 hx1 hx2
              obtain ⟨xk, xa, xb⟩ := x
              simp only at wf1 hx1 hx2
              have cx1 := (F.out.bel.cell (p := ⟨gl, off + k2 * 3 + 1, none⟩) hg).trans hx1
              have cx2 := (F.out.bel.cell (p := ⟨gl, off + k2 * 3 + 2, none⟩) hg).trans hx2
              have HX : Hid (w.cell? ⟨gl, off + k2 * 3 + 1, none⟩ = some (.int .i64 xa) ∧ w.cell? ⟨gl, off + k2 * 3 + 2, none⟩ = some (.int .i64 xb)) := ⟨hx1, hx2⟩
              clear hx1 hx2
              obtain ⟨j, hj, hpj⟩ := pk_nat xa (n := N) (by omega)
              have PJ : Hid (∀ W : World, Calls Try.prog 17 #[.int .i64 xa, .int .i64 (N : Int)] W fun e w' => e = .returned (.int .i64 (j : Int)) ∧ w' = W) := fun W => by
                have := pick_c xa N (by omega) (by omega) wf1 W
                rw [hpj] at this
                exact this
              obtain ⟨y, hy⟩ : ∃ y, V2[j]? = some y := ⟨_, List.getElem?_eq_getElem (by omega)⟩
              have HY : Hid (V2[j]? = some y) := hy
              have i0 : (0 : Int) ≤ (k2 : Int) := by omega
              have i1 : (k2 : Int) < (os.length : Int) := by omega
              have hgc : gl < wc.heap.size := Nat.lt_of_lt_of_le hg F.out.bel.size
              clear hy hpj
              rw [hd]
              go_upto_region 15 with fail
              go_cut [92] (fun _ wx => ∃ uv', FI w.heap.size w c g ub uv' (V2.set j xb) (U2 ++ [((j : Int), y)]) N wx ∧ wx.heap[gw]? = some (.cells (ints V).toArray 3 (0, 0)))
              case first =>
                go_region_with first | (go_at_call 17; (with_reducible refine (PJ.out _).mono ?_); rintro e w9 ⟨rfl, h9⟩; subst w9) | (go_at_call 19; (with_reducible refine (set_in (F.out.kept (Below.refl _ _).drew).ca (F.out.kept (Below.refl _ _).drew).len (by omega) HY.out _).mono ?_); rintro e w6 ⟨rfl, uv', hc6, hm6, hf6⟩; have F6 : Hid (FI w.heap.size w c g ub uv' (V2.set j xb) (U2 ++ [((j : Int), y)]) N w6 ∧ w6.heap[gw]? = some (.cells (ints V).toArray 3 (0, 0))) := ⟨(F.out.kept (Below.refl _ _).drew).set HY.out hc6 hf6, (F.out.kept (Below.refl _ _).drew).row hf6 HGW.out HR.out⟩; clear hc6 hm6 hf6)
                all_goals go_wp2_with fail
                all_goals go_meet
                all_goals exact ⟨_, F6.out.1, F6.out.2⟩
              case rest =>
                obtain ⟨uv6, hF6, hR6⟩ := hcut
                have F6 : Hid (FI w.heap.size w c g ub uv6 (V2.set j xb) (U2 ++ [((j : Int), y)]) N wc) := hF6
                have HR6 : Hid (wc.heap[gw]? = some (.cells (ints V).toArray 3 (0, 0))) := hR6
                clear hF6 hR6 cx1 cx2
                have cx1 := (F6.out.bel.cell (p := ⟨gl, off + k2 * 3 + 1, none⟩) hg).trans HX.out.1
                have cx2 := (F6.out.bel.cell (p := ⟨gl, off + k2 * 3 + 2, none⟩) hg).trans HX.out.2
                have GT : Hid (Calls Try.prog 21 #[.pointer (some ⟨c, 0, none⟩), .int .i64 (j : Int)] wc fun e w' => e = .returned (.tuple #[.int .i64 xb, .bool true]) ∧ w' = wc) := get_in F6.out.ca (i := j) (x := xb) (by rw [List.getElem?_set_self (by omega)])
                have hbx : (xb != xb) = false := by simp
                go_wp2_with first | (go_at_call 17; (with_reducible refine (PJ.out _).mono ?_); rintro e w9 ⟨rfl, h9⟩; subst w9) | (go_at_call 21; (with_reducible refine GT.out.mono ?_); rintro e w9 ⟨rfl, h9⟩; subst w9)
                go_roundw
                case rel => exact ⟨k2 + 1, _, _, _, by omega, by omega, by go_num, by simp; omega, by simp; omega, by rw [backV_set V2 U2 HY.out xb hmU]; exact HB.out, F6.out, HR6.out⟩
                case measure => simp only [intOf]; omega
            · have hd : decide (k2 < os.length ∧ k2 < 300) = false := decide_eq_false hgo
              rw [hd]
              clear hgo hd HC2
              have K1 : Hid (Calls Try.prog 23 #[.pointer (some ⟨c, 0, none⟩), .int .i64 (m : Int)] wc fun e w' => e = .returned (.int .i64 0) ∧ ∃ uv', FI w.heap.size w c g ub uv' V (U2.take m) N w' ∧ w'.heap[gw]? = some (.cells (ints V).toArray 3 (0, 0))) :=
                (back_c F.out.ca hmU).mono fun e w' ⟨q1, uv', q2, q3, q4⟩ => ⟨q1, uv', by have := F.out.back q2 q4; rw [HB.out] at this; exact this, F.out.row q4 HGW.out HR.out⟩
              have hV' : V.length = N := by rw [← HB.out, backV_length]; exact hVN
              have hVl : V.length ≤ maxLen := by have := HB.out; rw [← this, backV_length, hVN]; unfold maxLen; omega
              go_upto_region 21 with first | (go_at_call 23; (with_reducible refine K1.out.mono ?_); rintro e w3 ⟨rfl, u3, hF3, hR3⟩; have F3 : Hid (FI w.heap.size w c g ub u3 V (U2.take m) N w3) := hF3; have R3 : Hid (w3.heap[gw]? = some (.cells (ints V).toArray 3 (0, 0))) := hR3; clear hF3 hR3) | (go_at_call 25; (with_reducible refine (values_c F3.out.ca).mono ?_); rintro e w4 ⟨rfl, hr4, hb4⟩; have F4 : Hid (FI w.heap.size w c g ub u3 V (U2.take m) N w4) := F3.out.kept hb4; have R4 : Hid (ArgI w4 (.slice (some ⟨w3.heap.size, 0, none⟩) N N) V ∧ ArgI w4 (.slice (some ⟨gw, 0, none⟩) N N) V) := (by have h1 := row_arg hr4 hVl; have h2 := row_arg ((hb4.block gw (lt_of_heap R3.out)).trans R3.out) hVl; rw [hV'] at h1 h2; exact ⟨h1, h2⟩); clear hr4 hb4)
              go_upto_region 22 with (go_at_call 26; (with_reducible refine (vals_same R4.out.2 R4.out.1).mono ?_); rintro e w5 ⟨rfl, hb5⟩; have F5 : Hid (FI w.heap.size w c g ub u3 V (U2.take m) N w5) := F4.out.kept hb5; clear hb5)
              have K2 : Hid (Calls Try.prog 23 #[.pointer (some ⟨c, 0, none⟩), .int .i64 0] w5 fun e w' => e = .returned (.int .i64 0) ∧ ∃ uv', FI w.heap.size w c g ub uv' (List.replicate N (-1)) [] N w') :=
                (back_c F5.out.ca (m := 0) (Nat.zero_le _)).mono fun e w' ⟨q1, uv', q2, q3, q4⟩ => ⟨q1, uv', by have := F5.out.back q2 q4; rw [F5.out.h0] at this; simpa using this⟩
              have hNl : (List.replicate N (-1 : Int)).length ≤ maxLen := by rw [List.length_replicate]; unfold maxLen; omega
              go_upto_region 25 with first | (go_at_call 23; (with_reducible refine K2.out.mono ?_); rintro e w6 ⟨rfl, u6, hF6⟩; have F6 : Hid (FI w.heap.size w c g ub u6 (List.replicate N (-1)) [] N w6) := hF6; have VL : Hid (Calls Try.prog 25 #[.pointer (some ⟨c, 0, none⟩)] w6 fun e w' => e = .returned (.slice (some ⟨w6.heap.size, 0, none⟩) N N) ∧ w'.heap[w6.heap.size]? = some (.cells (ints (List.replicate N (-1))).toArray 3 (0, 0)) ∧ Below w6.heap.size w6 w') := (by have := values_c hF6.ca; rw [List.length_replicate] at this; exact this); clear hF6) | (go_at_call 25; (with_reducible refine VL.out.mono ?_); rintro e w7 ⟨rfl, hr7, hb7⟩; have F7 : Hid (FI w.heap.size w c g ub u6 (List.replicate N (-1)) [] N w7) := F6.out.kept hb7; have R7 : Hid (w7.heap[w6.heap.size]? = some (.cells (ints (List.replicate N (-1))).toArray 3 (0, 0))) := hr7; clear hr7 hb7)
              clear F3 F4 F5
              go_loopw [21] (fun i wx => ∃ k : Nat, k ≤ N ∧ i = .int .i64 k ∧ wx = w7) (fun i _ => N - (intOf i).toNat)
              case atStart => exact ⟨0, Nat.zero_le _, rfl, rfl⟩
              case round =>
                obtain ⟨k9, hk9, rfl, hwx⟩ := hrel
                subst hwx
                by_cases h9 : k9 < N
                · have c9 := cell_row R7.out (i := k9) (v := .int .i64 (-1)) (by simpa using ints_get (l := List.replicate N (-1)) (i := k9) (x := -1) (by simp [h9]))
                  have e0 : (k9 : Int) < (N : Int) := by omega
                  have e1 : (0 : Int) ≤ (k9 : Int) := by omega
                  go_wp2
                  go_roundw
                  case rel => exact ⟨k9 + 1, by omega, by go_num, by first | rfl | trivial⟩
                  case measure => simp only [intOf]; omega
                · have e0 : ¬ (k9 : Int) < (N : Int) := by omega
                  go_wp2_with (go_at_call 27; (with_reducible refine (mark_c F7.out.ca).mono ?_); rintro e w9 ⟨rfl, h9⟩; subst w9)
                  go_ret
                  exact ⟨by simp, F7.out.bel⟩
end Go.Proofs.Ytobeiigmeflbjaa
