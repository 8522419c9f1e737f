/-
  LexerPlain of a long text; of any. (mkplain.py writes it.)
-/
import Derived.Test.YtloeajhmmjdlgaaDoorPlainProofB4
namespace Go.Proofs.YtloeajhmmjdlgaaDoor
open Go Go.RowKit
attribute [local go_sem] ext_cell

set_option maxRecDepth 100000 in
set_option maxHeartbeats 8000000 in
theorem law_plain_l {w : World} (hG : Glb w) (x : ByteArray) (hx0 : 900 < x.size) (m : Md) : Calls Tryd.prog 4 #[.string x, .agg #[.bool m.c, .bool m.f]] w fun e w' => e = .returned (.bool true) ∧ Below w.heap.size w w' := by
  obtain ⟨s, hs0⟩ : ∃ s, x.extract 0 900 = s := ⟨_, rfl⟩
  have hx : s.size ≤ 900 := by rw [← hs0, ByteArray.size_extract]; omega
  have dlt : (900 : Int) < (x.size : Int) := by omega
  have dle : (900 : Int) ≤ (x.size : Int) := by omega
  have dnn : ¬ x.size < 900 := by omega
  have GL : Hid (Glb w) := hG
  have BX : Hid (Below w.heap.size w (boxM w m)) := below_box w m
  have HE : Hid (∀ W, Below w.heap.size w W → Calls Tryd.prog 7 #[] W fun e w' => e = .returned (.bool true) ∧ Below W.heap.size W w') := fun W hW => examples_c (GL.out.kept hW)
  have zS : (ofL ((lowP s s.size).flatMap encP)).size ≤ 1800 := by
    rw [ofL_size]
    have h1 := encP_len (lowP s s.size)
    have h2 := lowP_len s s.size
    omega
  obtain ⟨T, hT, hTl, hTi⟩ := lex_plain m (ofL ((lowP s s.size).flatMap encP)) (lowP s s.size) rfl (fun y hy => by
    have := (List.mem_filter.1 hy).2
    simpa [low] using this) (by omega)
  have HL : Hid (∀ W, Below w.heap.size w W → Calls Tryd.prog 8 #[.string (ofL ((lowP s s.size).flatMap encP)), .agg #[.bool m.c, .bool m.f]] W (LexIs W (.ok T))) := fun W hW => by
    rw [← hT]
    exact lex_c (GL.out.kept hW) _ m
  have TI : Hid (∀ (i : Nat) (x : UInt8), (lowP s s.size)[i]? = some x → ∃ a e, T[i]? = some (setT m [((x.toNat : Int), (x.toNat : Int))] false, a, e)) := hTi
  have ALL0 : Hid (∀ (i : Nat) (x : UInt8), (lowP s s.size)[i]? = some x → x.toNat < 128) := fun i x h => by
    have := (List.mem_filter.1 (List.mem_of_getElem? h)).2
    simpa [low] using this
  have TLn : Hid (T.length = (lowP s s.size).length) := hTl
  have k0 : Hid ((boxM w m).cell? ⟨w.heap.size, 0, none⟩ = some (.bool m.c) ∧ (boxM w m).cell? ⟨w.heap.size, 1, none⟩ = some (.bool m.f) ∧ w.heap.size < (boxM w m).heap.size) := ⟨cell_row (alloc_new w _) (i := 0) rfl, cell_row (alloc_new w _) (i := 1) rfl, lt_of_heap (alloc_new w _)⟩
  clear hG hT hTl hTi zS
  go_enter Tryd.func4, Tryd.ntmps4
  go_wp2_with (go_at_call 7; (with_reducible refine (HE.out _ BX.out).mono ?_); rintro e w5 ⟨rfl, h1⟩; have X5 : Hid (Below w.heap.size w w5 ∧ w.heap.size < w5.heap.size) := ⟨chain BX.out h1 (Nat.le_refl _), Nat.lt_of_lt_of_le k0.out.2.2 h1.size⟩; have c0 := (h1.cell (p := ⟨w.heap.size, 0, none⟩) k0.out.2.2).trans k0.out.1; have c1 := (h1.cell (p := ⟨w.heap.size, 1, none⟩) k0.out.2.2).trans k0.out.2.1; clear h1)
  go_loopw [6, 7, 8] (fun a b i wr => ∃ k : Nat, k ≤ s.size ∧ a = .string (ofL ((lowP s k).flatMap encP)) ∧ b = .string (ofL (lowP s k)) ∧ i = .int .i64 (k : Int) ∧ wr = w5) (fun _ _ i _ => s.size - (intOf i).toNat)
  case atStart => exact ⟨0, Nat.zero_le _, rfl, rfl, rfl, rfl⟩
  case round =>
    obtain ⟨k, hk, rfl, rfl, rfl, hw⟩ := hrel
    replace hw := hw.symm
    subst hw
    rcases Nat.lt_or_ge k s.size with hlt | hge
    · obtain ⟨y, hy⟩ : ∃ y, s[k]'hlt = y := ⟨_, rfl⟩
      have gy : s.data.toList[k]? = some y := by rw [← hy]; exact List.getElem?_eq_getElem (by rw [size_list]; exact hlt)
      have hnx := lowP_next gy
      have z1 : (ofL ((lowP s k).flatMap encP)).size ≤ 1800 := by
        rw [ofL_size]
        have h1 := encP_len (lowP s k)
        have h2 := lowP_len s k
        omega
      have z2 : (ofL (lowP s k)).size ≤ 900 := by rw [ofL_size]; have := lowP_len s k; omega
      obtain ⟨c, hc⟩ : ∃ c, s.extract k (k + 1) = c := ⟨_, rfl⟩
      have hcc : c = ofL [y] := hc.symm.trans (ext_one gy)
      have hcs : c.size = 1 := by rw [hcc, ofL_size]; rfl
      have E1 : Hid (ofL (lowP s k) ++ c = ofL (lowP s k ++ [y])) := (by rw [hcc]; exact ofL_app _ _ : ofL (lowP s k) ++ c = ofL (lowP s k ++ [y]))
      have E2 : Hid (ofL ((lowP s k).flatMap encP) ++ c = ofL ((lowP s k).flatMap encP ++ [y])) := (by rw [hcc]; exact ofL_app _ _ : ofL ((lowP s k).flatMap encP) ++ c = ofL ((lowP s k).flatMap encP ++ [y]))
      have E3 : Hid (ofL ((lowP s k).flatMap encP) ++ ⟨#[92]⟩ ++ c = ofL ((lowP s k).flatMap encP ++ [92, y])) := (by
        rw [hcc]
        show ofL ((lowP s k).flatMap encP) ++ ofL [92] ++ ofL [y] = _
        rw [ofL_app, ofL_app, List.append_assoc]
        rfl : ofL ((lowP s k).flatMap encP) ++ ⟨#[92]⟩ ++ c = ofL ((lowP s k).flatMap encP ++ [92, y]))
      have NX : Hid (lowP s (k + 1) = lowP s k ++ (if low y then [y] else [])) := hnx
      have j0 : (0 : Int) ≤ (k : Int) := by omega
      have j1 : (k : Int) < (s.size : Int) := by omega
      have j2 : (k : Int) ≤ (k : Int) + 1 := by omega
      have j3 : (k : Int) + 1 ≤ (s.size : Int) := by omega
      have j4 : ((k : Int) + 1).toNat = k + 1 := by omega
      have j5 : ¬ s.size < k + 1 := by omega
      have hw1 : IntKind.wrap .i64 ((k : Int) + 1) = (k : Int) + 1 := wrap_small _ (by omega) (by omega)
      have hyl : y.toNat < 256 := UInt8.toNat_lt y
      clear hcc hnx gy
      by_cases hlo : y.toNat < 128
      · have i1 : (y.toNat : Int) < 128 := by omega
        have hlow : low y = true := decide_eq_true hlo
        cases hp : plainB y with
        | true =>
          obtain ⟨n1, n2, n3, n4, n5, n6⟩ := plain_not hp
          have HP : Hid (∀ W, Calls Tryd.prog 10 #[.int .u8 (y.toNat : Int)] W fun e w' => e = .returned (.bool true) ∧ w' = W) := fun W => plain_yes hlo n1 n2 n3 n4 n5 n6 W
          have R1 : Hid (ofL (lowP s k) ++ c = ofL (lowP s (k + 1)) ∧ ofL ((lowP s k).flatMap encP) ++ c = ofL ((lowP s (k + 1)).flatMap encP)) := (by
            rw [NX.out, hlow, if_pos rfl, List.flatMap_append]
            have e : [y].flatMap encP = [y] := by simp [encP, hp]
            rw [e]
            exact ⟨E1.out, E2.out⟩ : ofL (lowP s k) ++ c = ofL (lowP s (k + 1)) ∧ ofL ((lowP s k).flatMap encP) ++ c = ofL ((lowP s (k + 1)).flatMap encP))
          clear n1 n2 n3 n4 n5 n6 hlow NX E1 E2 E3
          generalize ofL (lowP s k) = NN at *
          generalize ofL ((lowP s k).flatMap encP) = SS at *
          have s1 : ¬ 9223372036854775807 < SS.size + 1 := by omega
          have s2 : ¬ 9223372036854775807 < NN.size + 1 := by omega
          go_wp2_with (go_at_call 10; (with_reducible refine (HP.out _).mono ?_); rintro e w6 ⟨rfl, h6⟩; subst w6)
          go_roundw
          case rel => exact ⟨k + 1, by omega, congrArg Value.string R1.out.2, congrArg Value.string R1.out.1, by go_num, by first | rfl | trivial⟩
          case measure => simp only [intOf]; omega
        | false =>
          have hsp : y.toNat = 92 ∨ y.toNat = 91 ∨ y.toNat = 46 ∨ y.toNat = 42 ∨ y.toNat = 94 ∨ y.toNat = 36 := by rcases special hp with rfl | rfl | rfl | rfl | rfl | rfl <;> decide
          have HP : Hid (∀ W, Calls Tryd.prog 10 #[.int .u8 (y.toNat : Int)] W fun e w' => e = .returned (.bool false) ∧ w' = W) := fun W => plain_no hsp W
          have R1 : Hid (ofL (lowP s k) ++ c = ofL (lowP s (k + 1)) ∧ ofL ((lowP s k).flatMap encP) ++ ⟨#[92]⟩ ++ c = ofL ((lowP s (k + 1)).flatMap encP)) := (by
            rw [NX.out, hlow, if_pos rfl, List.flatMap_append]
            have e : [y].flatMap encP = [92, y] := by simp [encP, hp]
            rw [e]
            exact ⟨E1.out, E3.out⟩ : ofL (lowP s k) ++ c = ofL (lowP s (k + 1)) ∧ ofL ((lowP s k).flatMap encP) ++ ⟨#[92]⟩ ++ c = ofL ((lowP s (k + 1)).flatMap encP))
          clear hsp hlow NX E1 E2 E3
          generalize ofL (lowP s k) = NN at *
          generalize ofL ((lowP s k).flatMap encP) = SS at *
          have s1 : ¬ 9223372036854775807 < SS.size + 1 := by omega
          have s3 : ¬ 9223372036854775807 < SS.size + 1 + 1 := by omega
          have s2 : ¬ 9223372036854775807 < NN.size + 1 := by omega
          go_wp2_with (go_at_call 10; (with_reducible refine (HP.out _).mono ?_); rintro e w6 ⟨rfl, h6⟩; subst w6)
          go_roundw
          case rel => exact ⟨k + 1, by omega, congrArg Value.string R1.out.2, congrArg Value.string R1.out.1, by go_num, by first | rfl | trivial⟩
          case measure => simp only [intOf]; omega
      · have i1 : ¬ (y.toNat : Int) < 128 := by omega
        have hlow : low y = false := decide_eq_false hlo
        have HP : Hid (∀ W, Calls Tryd.prog 10 #[.int .u8 (y.toNat : Int)] W fun e w' => e = .returned (.bool false) ∧ w' = W) := fun W => plain_hi (by omega) W
        have R1 : Hid (lowP s k = lowP s (k + 1)) := (by rw [NX.out, hlow]; simp : lowP s k = lowP s (k + 1))
        clear hlow NX E1 E2 E3
        go_wp2_with (go_at_call 10; (with_reducible refine (HP.out _).mono ?_); rintro e w6 ⟨rfl, h6⟩; subst w6)
        go_roundw
        case rel => exact ⟨k + 1, by omega, by rw [R1.out], by rw [R1.out], by go_num, by first | rfl | trivial⟩
        case measure => simp only [intOf]; omega
    · have hke : k = s.size := by omega
      subst hke
      have j1 : ¬ (s.size : Int) < (s.size : Int) := by omega
      obtain ⟨R, hR⟩ : ∃ R, lowP s s.size = R := ⟨_, rfl⟩
      have hRl : R.length ≤ 900 := by rw [← hR]; have := lowP_len s s.size; omega
      rw [hR] at TI TLn HL ALL0
      have ALL : Hid (∀ (i : Nat) (x : UInt8), R[i]? = some x → x.toNat < 128) := ALL0.out
      rw [hR]
      clear hR hge
      obtain ⟨SS, hSS⟩ : ∃ SS, ofL (R.flatMap encP) = SS := ⟨_, rfl⟩
      rw [hSS] at HL
      rw [hSS]
      obtain ⟨NN, hNN, NS, NG⟩ : ∃ NN, ofL R = NN ∧ Hid (NN.size = R.length) ∧ Hid (∀ (i : Nat) (x : UInt8) (hi : i < NN.size), R[i]? = some x → NN[i]'hi = x) := ⟨ofL R, rfl, ofL_size R, fun i x hi h => ofL_get h hi⟩
      rw [hNN]
      clear hSS hNN
      go_wp2_with (go_at_call 8; (with_reducible refine (HL.out _ X5.out.1).mono ?_); rintro e w6 ⟨h1, v6, D, rfl, h2, h4⟩; obtain ⟨qa, ka, rfl⟩ := ownsRow_shape h2.own; have X6 : Hid (Below w.heap.size w w6 ∧ TL w5.heap.size w6 (.slice qa D.length ka) D ∧ D.map Prod.fst = T ∧ D.length = R.length) := ⟨chain X5.out.1 h1 (Nat.le_refl _), h2, h4, (len_of h4).symm.trans TLn.out⟩; have d1 := (h1.cell (p := ⟨w.heap.size, 1, none⟩) X5.out.2).trans c1; have n3 : ((D.length : Int) == (NN.size : Int)) = true := (by have := X6.out.2.2.2; have := NS.out; simp; omega); clear h1 h2 h4)
      go_loopw [13] (fun i wr => ∃ k : Nat, k ≤ D.length ∧ i = .int .i64 (k : Int) ∧ wr = w6) (fun i _ => D.length - (intOf i).toNat)
      case atStart => exact ⟨0, Nat.zero_le _, rfl, rfl⟩
      case round =>
        obtain ⟨k, hk, rfl, hw⟩ := hrel
        replace hw := hw.symm
        subst hw
        rcases Nat.lt_or_ge k D.length with hlt | hge
        · have hDl := X6.out.2.2.2
          have hNs := NS.out
          obtain ⟨y, hy⟩ : ∃ y, R[k]? = some y := ⟨_, List.getElem?_eq_getElem (by omega)⟩
          obtain ⟨ta, te, hte⟩ := TI.out k y hy
          obtain ⟨ga, rv, C, rfl, lga, e0, e6, hrr, hic⟩ := tok_at X6.out.2.1 X6.out.2.2.1 hte
          have hin : k < NN.size := by omega
          have hyv : NN[k]'hin = y := NG.out k y hin hy
          have hyl : y.toNat < 128 := ALL.out k y hy
          have j0 : (0 : Int) ≤ (k : Int) := by omega
          have j1' : (k : Int) < (D.length : Int) := by omega
          have j2 : (k : Int) < (NN.size : Int) := by omega
          have hw1 : IntKind.wrap .i64 ((k : Int) + 1) = (k : Int) + 1 := wrap_small _ (by omega) (by omega)
          have hw2 : IntKind.wrap .i64 ((y.toNat : Int) + 32) = (y.toNat : Int) + 32 := wrap_small _ (by omega) (by omega)
          replace e0 : w6.cell? ⟨ga, k * 7, none⟩ = some (.int .i64 1) := e0
          clear hte hDl hNs hy n3
          obtain ⟨mc, mf⟩ := m
          simp only at d1 c1 c0
          cases mf with
          | false =>
            have hC := cls_one hic (by omega) (by omega) (.inl rfl)
            rw [hC] at hrr
            obtain ⟨g2, k2, rfl⟩ := ownsRow_some hrr (by simp)
            have f0 : w6.cell? ⟨g2, 0, none⟩ = some (.int .i64 (y.toNat : Int)) := ownsRow_cell hrr (j := 0) rfl
            have f1 : w6.cell? ⟨g2, 1, none⟩ = some (.int .i64 (y.toNat : Int)) := ownsRow_cell hrr (j := 1) rfl
            have b1 : ((y.toNat : Int) == (y.toNat : Int)) = true := by simp
            replace e6 : w6.cell? ⟨ga, k * 7 + 6, none⟩ = some (.slice (some ⟨g2, 0, none⟩) 1 k2) := e6
            clear hic hC hrr
            go_wp2
            go_roundw
            case rel => exact ⟨k + 1, by omega, by go_num, by first | rfl | trivial⟩
            case measure => simp only [intOf]; omega
          | true =>
            by_cases y1 : y.toNat < 65
            · have hC := cls_one hic (by omega) (by omega) (.inr (by omega))
              have u1 : ¬ (65 : Int) ≤ (y.toNat : Int) := by omega
              have u2 : ¬ (97 : Int) ≤ (y.toNat : Int) := by omega
              rw [hC] at hrr
              obtain ⟨g2, k2, rfl⟩ := ownsRow_some hrr (by simp)
              have f0 : w6.cell? ⟨g2, 0, none⟩ = some (.int .i64 (y.toNat : Int)) := ownsRow_cell hrr (j := 0) rfl
              have f1 : w6.cell? ⟨g2, 1, none⟩ = some (.int .i64 (y.toNat : Int)) := ownsRow_cell hrr (j := 1) rfl
              have b1 : ((y.toNat : Int) == (y.toNat : Int)) = true := by simp
              replace e6 : w6.cell? ⟨ga, k * 7 + 6, none⟩ = some (.slice (some ⟨g2, 0, none⟩) 1 k2) := e6
              clear hic hC hrr
              go_wp2
              go_roundw
              case rel => exact ⟨k + 1, by omega, by go_num, by first | rfl | trivial⟩
              case measure => simp only [intOf]; omega
            by_cases y2 : y.toNat ≤ 90
            · have hC := cls_two (l := (y.toNat : Int)) hic rfl (by omega) (.inl rfl)
              have u1 : (65 : Int) ≤ (y.toNat : Int) := by omega
              have u2 : (y.toNat : Int) ≤ 90 := by omega
              rw [hC] at hrr
              obtain ⟨g2, k2, rfl⟩ := ownsRow_some hrr (by simp)
              have f0 : w6.cell? ⟨g2, 0, none⟩ = some (.int .i64 ((y.toNat : Int))) := ownsRow_cell hrr (j := 0) rfl
              have f1 : w6.cell? ⟨g2, 1, none⟩ = some (.int .i64 ((y.toNat : Int))) := ownsRow_cell hrr (j := 1) rfl
              have f2 : w6.cell? ⟨g2, 2, none⟩ = some (.int .i64 ((y.toNat : Int) + 32)) := ownsRow_cell hrr (j := 2) rfl
              have f3 : w6.cell? ⟨g2, 3, none⟩ = some (.int .i64 ((y.toNat : Int) + 32)) := ownsRow_cell hrr (j := 3) rfl
              have b1 : (((y.toNat : Int)) == ((y.toNat : Int))) = true := by simp
              have b2 : (((y.toNat : Int) + 32) == ((y.toNat : Int) + 32)) = true := by simp
              replace e6 : w6.cell? ⟨ga, k * 7 + 6, none⟩ = some (.slice (some ⟨g2, 0, none⟩) 2 k2) := e6
              clear hic hC hrr
              go_wp2
              go_roundw
              case rel => exact ⟨k + 1, by omega, by go_num, by first | rfl | trivial⟩
              case measure => simp only [intOf]; omega
            by_cases y3 : y.toNat < 97
            · have hC := cls_one hic (by omega) (by omega) (.inr (by omega))
              have u1 : (65 : Int) ≤ (y.toNat : Int) := by omega
              have u2 : ¬ (y.toNat : Int) ≤ 90 := by omega
              have u3 : ¬ (97 : Int) ≤ (y.toNat : Int) := by omega
              rw [hC] at hrr
              obtain ⟨g2, k2, rfl⟩ := ownsRow_some hrr (by simp)
              have f0 : w6.cell? ⟨g2, 0, none⟩ = some (.int .i64 (y.toNat : Int)) := ownsRow_cell hrr (j := 0) rfl
              have f1 : w6.cell? ⟨g2, 1, none⟩ = some (.int .i64 (y.toNat : Int)) := ownsRow_cell hrr (j := 1) rfl
              have b1 : ((y.toNat : Int) == (y.toNat : Int)) = true := by simp
              replace e6 : w6.cell? ⟨ga, k * 7 + 6, none⟩ = some (.slice (some ⟨g2, 0, none⟩) 1 k2) := e6
              clear hic hC hrr
              go_wp2
              go_roundw
              case rel => exact ⟨k + 1, by omega, by go_num, by first | rfl | trivial⟩
              case measure => simp only [intOf]; omega
            by_cases y4 : y.toNat ≤ 122
            · have hC := cls_two (l := (y.toNat : Int) - 32) hic rfl (by omega) (.inr (by omega))
              rw [show (y.toNat : Int) - 32 + 32 = (y.toNat : Int) by omega] at hC
              have u1 : (65 : Int) ≤ (y.toNat : Int) := by omega
              have u2 : ¬ (y.toNat : Int) ≤ 90 := by omega
              have u3 : (97 : Int) ≤ (y.toNat : Int) := by omega
              have u4 : (y.toNat : Int) ≤ 122 := by omega
              have hw3 : IntKind.wrap .i64 ((y.toNat : Int) - 32) = (y.toNat : Int) - 32 := by rw [IntKind.wrap_i64]; omega
              rw [hC] at hrr
              obtain ⟨g2, k2, rfl⟩ := ownsRow_some hrr (by simp)
              have f0 : w6.cell? ⟨g2, 0, none⟩ = some (.int .i64 ((y.toNat : Int) - 32)) := ownsRow_cell hrr (j := 0) rfl
              have f1 : w6.cell? ⟨g2, 1, none⟩ = some (.int .i64 ((y.toNat : Int) - 32)) := ownsRow_cell hrr (j := 1) rfl
              have f2 : w6.cell? ⟨g2, 2, none⟩ = some (.int .i64 ((y.toNat : Int))) := ownsRow_cell hrr (j := 2) rfl
              have f3 : w6.cell? ⟨g2, 3, none⟩ = some (.int .i64 ((y.toNat : Int))) := ownsRow_cell hrr (j := 3) rfl
              have b1 : (((y.toNat : Int) - 32) == ((y.toNat : Int) - 32)) = true := by simp
              have b2 : (((y.toNat : Int)) == ((y.toNat : Int))) = true := by simp
              replace e6 : w6.cell? ⟨ga, k * 7 + 6, none⟩ = some (.slice (some ⟨g2, 0, none⟩) 2 k2) := e6
              clear hic hC hrr
              go_wp2
              go_roundw
              case rel => exact ⟨k + 1, by omega, by go_num, by first | rfl | trivial⟩
              case measure => simp only [intOf]; omega
            have hC := cls_one hic (by omega) (by omega) (.inr (by omega))
            have u1 : (65 : Int) ≤ (y.toNat : Int) := by omega
            have u2 : ¬ (y.toNat : Int) ≤ 90 := by omega
            have u3 : (97 : Int) ≤ (y.toNat : Int) := by omega
            have u4 : ¬ (y.toNat : Int) ≤ 122 := by omega
            rw [hC] at hrr
            obtain ⟨g2, k2, rfl⟩ := ownsRow_some hrr (by simp)
            have f0 : w6.cell? ⟨g2, 0, none⟩ = some (.int .i64 (y.toNat : Int)) := ownsRow_cell hrr (j := 0) rfl
            have f1 : w6.cell? ⟨g2, 1, none⟩ = some (.int .i64 (y.toNat : Int)) := ownsRow_cell hrr (j := 1) rfl
            have b1 : ((y.toNat : Int) == (y.toNat : Int)) = true := by simp
            replace e6 : w6.cell? ⟨ga, k * 7 + 6, none⟩ = some (.slice (some ⟨g2, 0, none⟩) 1 k2) := e6
            clear hic hC hrr
            go_wp2
            go_roundw
            case rel => exact ⟨k + 1, by omega, by go_num, by first | rfl | trivial⟩
            case measure => simp only [intOf]; omega
        · have j1' : ¬ (k : Int) < (D.length : Int) := by omega
          clear hge hk n3
          go_wp2
          go_ret
          exact ⟨rfl, X6.out.1⟩
theorem law_plain {w : World} (hG : Glb w) (x : ByteArray) (m : Md) : Calls Tryd.prog 4 #[.string x, .agg #[.bool m.c, .bool m.f]] w fun e w' => e = .returned (.bool true) ∧ Below w.heap.size w w' := by
  rcases Nat.lt_or_ge 900 x.size with h | h
  · exact law_plain_l hG x h m
  · exact law_plain_s hG x h m
end Go.Proofs.YtloeajhmmjdlgaaDoor
