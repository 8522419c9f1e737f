/-
  LexerPlain: bytes that stand for themselves. (mkplain.py writes it.)
-/
import Derived.Test.YtloeajhmmjdlgaaDoorPlainProofB2
import Derived.Test.YtloeajhmmjdlgaaDoorPlainProofB3
namespace Go.Proofs.YtloeajhmmjdlgaaDoor
open Go Go.RowKit
attribute [local go_sem] ext_cell

set_option maxRecDepth 100000 in
theorem plain_yes {x : Nat} (h : x < 128) (n1 : x ≠ 92) (n2 : x ≠ 91) (n3 : x ≠ 46) (n4 : x ≠ 42) (n5 : x ≠ 94) (n6 : x ≠ 36) (w : World) : Calls Tryd.prog 10 #[.int .u8 (x : Int)] w fun e w' => e = .returned (.bool true) ∧ w' = w := by
  have c0 : (x : Int) < 128 := by omega
  have c1 : ((x : Int) == 92) = false := by simp; omega
  have e1 : ((x : Int) != 92) = true := by simp; omega
  have g1 : ¬ (x : Int) = 92 := by omega
  have c2 : ((x : Int) == 91) = false := by simp; omega
  have e2 : ((x : Int) != 91) = true := by simp; omega
  have g2 : ¬ (x : Int) = 91 := by omega
  have c3 : ((x : Int) == 46) = false := by simp; omega
  have e3 : ((x : Int) != 46) = true := by simp; omega
  have g3 : ¬ (x : Int) = 46 := by omega
  have c4 : ((x : Int) == 42) = false := by simp; omega
  have e4 : ((x : Int) != 42) = true := by simp; omega
  have g4 : ¬ (x : Int) = 42 := by omega
  have c5 : ((x : Int) == 94) = false := by simp; omega
  have e5 : ((x : Int) != 94) = true := by simp; omega
  have g5 : ¬ (x : Int) = 94 := by omega
  have c6 : ((x : Int) == 36) = false := by simp; omega
  have e6 : ((x : Int) != 36) = true := by simp; omega
  have g6 : ¬ (x : Int) = 36 := by omega
  clear n1 n2 n3 n4 n5 n6
  go_enter Tryd.func10, Tryd.ntmps10
  go_wp2
  go_ret
  exact ⟨rfl, rfl⟩
set_option maxRecDepth 100000 in
theorem plain_hi {x : Nat} (h : 128 ≤ x) (w : World) : Calls Tryd.prog 10 #[.int .u8 (x : Int)] w fun e w' => e = .returned (.bool false) ∧ w' = w := by
  have c0 : ¬ (x : Int) < 128 := by omega
  go_enter Tryd.func10, Tryd.ntmps10
  go_wp2
  go_ret
  exact ⟨rfl, rfl⟩
set_option maxRecDepth 100000 in
theorem plain_no {x : Nat} (h : x = 92 ∨ x = 91 ∨ x = 46 ∨ x = 42 ∨ x = 94 ∨ x = 36) (w : World) : Calls Tryd.prog 10 #[.int .u8 (x : Int)] w fun e w' => e = .returned (.bool false) ∧ w' = w := by
  rcases h with rfl | rfl | rfl | rfl | rfl | rfl
  all_goals
    go_enter Tryd.func10, Tryd.ntmps10
    go_wp2
    go_ret
    exact ⟨by simp, rfl⟩
def lowP (t : ByteArray) (k : Nat) : List UInt8 := (t.data.toList.take k).filter low
theorem lowP_next {t : ByteArray} {k : Nat} {x : UInt8} (h : t.data.toList[k]? = some x) : lowP t (k + 1) = lowP t k ++ (if low x then [x] else []) := by
  unfold lowP
  rw [List.take_add_one, h, List.filter_append]
  congr 1
  cases hl : low x <;> simp [hl]
theorem lowP_len (t : ByteArray) (k : Nat) : (lowP t k).length ≤ k := Nat.le_trans (List.length_filter_le _ _) (by rw [List.length_take]; omega)
theorem encP_len (R : List UInt8) : (R.flatMap encP).length ≤ 2 * R.length := by
  induction R with
  | nil => simp
  | cons x R ih =>
    rw [List.flatMap_cons, List.length_append, List.length_cons]
    have : (encP x).length ≤ 2 := by unfold encP; split <;> simp
    omega
theorem ext_one {t : ByteArray} {k : Nat} {x : UInt8} (h : t.data.toList[k]? = some x) : t.extract k (k + 1) = ofL [x] := by
  apply ByteArray.ext
  apply Array.ext'
  rw [ByteArray.data_extract, Array.toList_extract, List.extract_eq_take_drop, Nat.add_sub_cancel_left, List.take_one, List.head?_drop, h]
  rfl
theorem ofL_get {R : List UInt8} {i : Nat} {x : UInt8} (h : R[i]? = some x) (hi : i < (ofL R).size) : (ofL R)[i]'hi = x := by
  have h1 : (ofL R).data.toList[i]? = some ((ofL R)[i]'hi) := List.getElem?_eq_getElem (by rw [size_list]; exact hi)
  have h2 : (ofL R).data.toList = R := rfl
  rw [h2, h] at h1
  exact (Option.some.inj h1).symm
/-- What a round sees of a token. -/
theorem tok_at {c1 : Nat} {w : World} {q : Option Addr} {k : Nat} {D : List Dt} {T : List Tp} (hA : TL c1 w (.slice q D.length k) D) (hD : D.map Prod.fst = T) {i : Nat} {t : Tp} (ht : T[i]? = some t) :
    ∃ ga rv C, q = some ⟨ga, 0, none⟩ ∧ ga < w.heap.size ∧ w.cell? ⟨ga, i * 7, none⟩ = some (.int .i64 (t.1.kind : Int)) ∧ w.cell? ⟨ga, i * 7 + 6, none⟩ = some rv ∧ RR c1 w rv C ∧ IsC C t.1.q := by
  have hi : i < D.length := by have := (List.getElem?_eq_some_iff.1 ht).1; rwa [len_of hD] at this
  obtain ⟨ga, c, hv⟩ := ownsRow_some hA.own (by omega)
  cases hv
  obtain ⟨d, hd⟩ : ∃ d, D[i]? = some d := ⟨_, List.getElem?_eq_getElem hi⟩
  have he : d.1 = t := Option.some.inj ((tk_of hD hd).symm.trans ht)
  obtain ⟨r, ic⟩ := hA.each d (List.mem_of_getElem? hd)
  rw [he] at ic
  exact ⟨ga, d.2.1, d.2.2, rfl, (ownsRow_at hA.own rfl).2.1, hA.cell hd (j := 0) (by simp [tc, he]), hA.cell hd (j := 6) rfl, r, ic⟩

set_option maxRecDepth 100000 in
set_option maxHeartbeats 8000000 in
theorem law_plain_s {w : World} (hG : Glb w) (x : ByteArray) (hx : x.size ≤ 900) (m : Md) : Calls Tryd.prog 4 #[.string x, .agg #[.bool m.c, .bool m.f]] w fun e w' => e = .returned (.bool true) ∧ Below w.heap.size w w' := by
  obtain ⟨s, hs0⟩ : ∃ s, s = x := ⟨_, rfl⟩
  subst hs0
  have dlt : ¬ (900 : Int) < (s.size : Int) := by omega
  have GL : Hid (Glb w) := hG
  have BX : Hid (Below w.heap.size w (boxM w m)) := below_box w m
  have HE : Hid (∀ W, Below w.heap.size w W → Calls Tryd.prog 7 #[] W fun e w' => e = .returned (.bool true) ∧ Below W.heap.size W w') := fun W hW => examples_c (GL.out.kept hW)
  have zS : (ofL ((lowP s s.size).flatMap encP)).size ≤ 1800 := by
    rw [ofL_size]
    have h1 := encP_len (lowP s s.size)
    have h2 := lowP_len s s.size
    omega
  obtain ⟨T, hT, hTl, hTi⟩ := lex_plain m (ofL ((lowP s s.size).flatMap encP)) (lowP s s.size) rfl (fun y hy => by
    have := (List.mem_filter.1 hy).2
    simpa [low] using this) (by omega)
  have HL : Hid (∀ W, Below w.heap.size w W → Calls Tryd.prog 8 #[.string (ofL ((lowP s s.size).flatMap encP)), .agg #[.bool m.c, .bool m.f]] W (LexIs W (.ok T))) := fun W hW => by
    rw [← hT]
    exact lex_c (GL.out.kept hW) _ m
  have TI : Hid (∀ (i : Nat) (x : UInt8), (lowP s s.size)[i]? = some x → ∃ a e, T[i]? = some (setT m [((x.toNat : Int), (x.toNat : Int))] false, a, e)) := hTi
  have ALL0 : Hid (∀ (i : Nat) (x : UInt8), (lowP s s.size)[i]? = some x → x.toNat < 128) := fun i x h => by
    have := (List.mem_filter.1 (List.mem_of_getElem? h)).2
    simpa [low] using this
  have TLn : Hid (T.length = (lowP s s.size).length) := hTl
  have k0 : Hid ((boxM w m).cell? ⟨w.heap.size, 0, none⟩ = some (.bool m.c) ∧ (boxM w m).cell? ⟨w.heap.size, 1, none⟩ = some (.bool m.f) ∧ w.heap.size < (boxM w m).heap.size) := ⟨cell_row (alloc_new w _) (i := 0) rfl, cell_row (alloc_new w _) (i := 1) rfl, lt_of_heap (alloc_new w _)⟩
  clear hG hT hTl hTi zS
  go_enter Tryd.func4, Tryd.ntmps4
  go_wp2_with (go_at_call 7; (with_reducible refine (HE.out _ BX.out).mono ?_); rintro e w5 ⟨rfl, h1⟩; have X5 : Hid (Below w.heap.size w w5 ∧ w.heap.size < w5.heap.size) := ⟨chain BX.out h1 (Nat.le_refl _), Nat.lt_of_lt_of_le k0.out.2.2 h1.size⟩; have c0 := (h1.cell (p := ⟨w.heap.size, 0, none⟩) k0.out.2.2).trans k0.out.1; have c1 := (h1.cell (p := ⟨w.heap.size, 1, none⟩) k0.out.2.2).trans k0.out.2.1; clear h1)
  go_loopw [6, 7, 8] (fun a b i wr => ∃ k : Nat, k ≤ s.size ∧ a = .string (ofL ((lowP s k).flatMap encP)) ∧ b = .string (ofL (lowP s k)) ∧ i = .int .i64 (k : Int) ∧ wr = w5) (fun _ _ i _ => s.size - (intOf i).toNat)
  case atStart => exact ⟨0, Nat.zero_le _, rfl, rfl, rfl, rfl⟩
  case round =>
    obtain ⟨k, hk, rfl, rfl, rfl, hw⟩ := hrel
    replace hw := hw.symm
    subst hw
    rcases Nat.lt_or_ge k s.size with hlt | hge
    · obtain ⟨y, hy⟩ : ∃ y, s[k]'hlt = y := ⟨_, rfl⟩
      have gy : s.data.toList[k]? = some y := by rw [← hy]; exact List.getElem?_eq_getElem (by rw [size_list]; exact hlt)
      have hnx := lowP_next gy
      have z1 : (ofL ((lowP s k).flatMap encP)).size ≤ 1800 := by
        rw [ofL_size]
        have h1 := encP_len (lowP s k)
        have h2 := lowP_len s k
        omega
      have z2 : (ofL (lowP s k)).size ≤ 900 := by rw [ofL_size]; have := lowP_len s k; omega
      obtain ⟨c, hc⟩ : ∃ c, s.extract k (k + 1) = c := ⟨_, rfl⟩
      have hcc : c = ofL [y] := hc.symm.trans (ext_one gy)
      have hcs : c.size = 1 := by rw [hcc, ofL_size]; rfl
      have E1 : Hid (ofL (lowP s k) ++ c = ofL (lowP s k ++ [y])) := (by rw [hcc]; exact ofL_app _ _ : ofL (lowP s k) ++ c = ofL (lowP s k ++ [y]))
      have E2 : Hid (ofL ((lowP s k).flatMap encP) ++ c = ofL ((lowP s k).flatMap encP ++ [y])) := (by rw [hcc]; exact ofL_app _ _ : ofL ((lowP s k).flatMap encP) ++ c = ofL ((lowP s k).flatMap encP ++ [y]))
      have E3 : Hid (ofL ((lowP s k).flatMap encP) ++ ⟨#[92]⟩ ++ c = ofL ((lowP s k).flatMap encP ++ [92, y])) := (by
        rw [hcc]
        show ofL ((lowP s k).flatMap encP) ++ ofL [92] ++ ofL [y] = _
        rw [ofL_app, ofL_app, List.append_assoc]
        rfl : ofL ((lowP s k).flatMap encP) ++ ⟨#[92]⟩ ++ c = ofL ((lowP s k).flatMap encP ++ [92, y]))
      have NX : Hid (lowP s (k + 1) = lowP s k ++ (if low y then [y] else [])) := hnx
      have j0 : (0 : Int) ≤ (k : Int) := by omega
      have j1 : (k : Int) < (s.size : Int) := by omega
      have j2 : (k : Int) ≤ (k : Int) + 1 := by omega
      have j3 : (k : Int) + 1 ≤ (s.size : Int) := by omega
      have j4 : ((k : Int) + 1).toNat = k + 1 := by omega
      have j5 : ¬ s.size < k + 1 := by omega
      have hw1 : IntKind.wrap .i64 ((k : Int) + 1) = (k : Int) + 1 := wrap_small _ (by omega) (by omega)
      have hyl : y.toNat < 256 := UInt8.toNat_lt y
      clear hcc hnx gy
      by_cases hlo : y.toNat < 128
      · have i1 : (y.toNat : Int) < 128 := by omega
        have hlow : low y = true := decide_eq_true hlo
        cases hp : plainB y with
        | true =>
          obtain ⟨n1, n2, n3, n4, n5, n6⟩ := plain_not hp
          have HP : Hid (∀ W, Calls Tryd.prog 10 #[.int .u8 (y.toNat : Int)] W fun e w' => e = .returned (.bool true) ∧ w' = W) := fun W => plain_yes hlo n1 n2 n3 n4 n5 n6 W
          have R1 : Hid (ofL (lowP s k) ++ c = ofL (lowP s (k + 1)) ∧ ofL ((lowP s k).flatMap encP) ++ c = ofL ((lowP s (k + 1)).flatMap encP)) := (by
            rw [NX.out, hlow, if_pos rfl, List.flatMap_append]
            have e : [y].flatMap encP = [y] := by simp [encP, hp]
            rw [e]
            exact ⟨E1.out, E2.out⟩ : ofL (lowP s k) ++ c = ofL (lowP s (k + 1)) ∧ ofL ((lowP s k).flatMap encP) ++ c = ofL ((lowP s (k + 1)).flatMap encP))
          clear n1 n2 n3 n4 n5 n6 hlow NX E1 E2 E3
          generalize ofL (lowP s k) = NN at *
          generalize ofL ((lowP s k).flatMap encP) = SS at *
          have s1 : ¬ 9223372036854775807 < SS.size + 1 := by omega
          have s2 : ¬ 9223372036854775807 < NN.size + 1 := by omega
          go_wp2_with (go_at_call 10; (with_reducible refine (HP.out _).mono ?_); rintro e w6 ⟨rfl, h6⟩; subst w6)
          go_roundw
          case rel => exact ⟨k + 1, by omega, congrArg Value.string R1.out.2, congrArg Value.string R1.out.1, by go_num, by first | rfl | trivial⟩
          case measure => simp only [intOf]; omega
        | false =>
          have hsp : y.toNat = 92 ∨ y.toNat = 91 ∨ y.toNat = 46 ∨ y.toNat = 42 ∨ y.toNat = 94 ∨ y.toNat = 36 := by rcases special hp with rfl | rfl | rfl | rfl | rfl | rfl <;> decide
          have HP : Hid (∀ W, Calls Tryd.prog 10 #[.int .u8 (y.toNat : Int)] W fun e w' => e = .returned (.bool false) ∧ w' = W) := fun W => plain_no hsp W
          have R1 : Hid (ofL (lowP s k) ++ c = ofL (lowP s (k + 1)) ∧ ofL ((lowP s k).flatMap encP) ++ ⟨#[92]⟩ ++ c = ofL ((lowP s (k + 1)).flatMap encP)) := (by
            rw [NX.out, hlow, if_pos rfl, List.flatMap_append]
            have e : [y].flatMap encP = [92, y] := by simp [encP, hp]
            rw [e]
            exact ⟨E1.out, E3.out⟩ : ofL (lowP s k) ++ c = ofL (lowP s (k + 1)) ∧ ofL ((lowP s k).flatMap encP) ++ ⟨#[92]⟩ ++ c = ofL ((lowP s (k + 1)).flatMap encP))
          clear hsp hlow NX E1 E2 E3
          generalize ofL (lowP s k) = NN at *
          generalize ofL ((lowP s k).flatMap encP) = SS at *
          have s1 : ¬ 9223372036854775807 < SS.size + 1 := by omega
          have s3 : ¬ 9223372036854775807 < SS.size + 1 + 1 := by omega
          have s2 : ¬ 9223372036854775807 < NN.size + 1 := by omega
          go_wp2_with (go_at_call 10; (with_reducible refine (HP.out _).mono ?_); rintro e w6 ⟨rfl, h6⟩; subst w6)
          go_roundw
          case rel => exact ⟨k + 1, by omega, congrArg Value.string R1.out.2, congrArg Value.string R1.out.1, by go_num, by first | rfl | trivial⟩
          case measure => simp only [intOf]; omega
      · have i1 : ¬ (y.toNat : Int) < 128 := by omega
        have hlow : low y = false := decide_eq_false hlo
        have HP : Hid (∀ W, Calls Tryd.prog 10 #[.int .u8 (y.toNat : Int)] W fun e w' => e = .returned (.bool false) ∧ w' = W) := fun W => plain_hi (by omega) W
        have R1 : Hid (lowP s k = lowP s (k + 1)) := (by rw [NX.out, hlow]; simp : lowP s k = lowP s (k + 1))
        clear hlow NX E1 E2 E3
        go_wp2_with (go_at_call 10; (with_reducible refine (HP.out _).mono ?_); rintro e w6 ⟨rfl, h6⟩; subst w6)
        go_roundw
        case rel => exact ⟨k + 1, by omega, by rw [R1.out], by rw [R1.out], by go_num, by first | rfl | trivial⟩
        case measure => simp only [intOf]; omega
    · have hke : k = s.size := by omega
      subst hke
      have j1 : ¬ (s.size : Int) < (s.size : Int) := by omega
      obtain ⟨R, hR⟩ : ∃ R, lowP s s.size = R := ⟨_, rfl⟩
      have hRl : R.length ≤ 900 := by rw [← hR]; have := lowP_len s s.size; omega
      rw [hR] at TI TLn HL ALL0
      have ALL : Hid (∀ (i : Nat) (x : UInt8), R[i]? = some x → x.toNat < 128) := ALL0.out
      rw [hR]
      clear hR hge
      obtain ⟨SS, hSS⟩ : ∃ SS, ofL (R.flatMap encP) = SS := ⟨_, rfl⟩
      rw [hSS] at HL
      rw [hSS]
      obtain ⟨NN, hNN, NS, NG⟩ : ∃ NN, ofL R = NN ∧ Hid (NN.size = R.length) ∧ Hid (∀ (i : Nat) (x : UInt8) (hi : i < NN.size), R[i]? = some x → NN[i]'hi = x) := ⟨ofL R, rfl, ofL_size R, fun i x hi h => ofL_get h hi⟩
      rw [hNN]
      clear hSS hNN
      go_wp2_with (go_at_call 8; (with_reducible refine (HL.out _ X5.out.1).mono ?_); rintro e w6 ⟨h1, v6, D, rfl, h2, h4⟩; obtain ⟨qa, ka, rfl⟩ := ownsRow_shape h2.own; have X6 : Hid (Below w.heap.size w w6 ∧ TL w5.heap.size w6 (.slice qa D.length ka) D ∧ D.map Prod.fst = T ∧ D.length = R.length) := ⟨chain X5.out.1 h1 (Nat.le_refl _), h2, h4, (len_of h4).symm.trans TLn.out⟩; have d1 := (h1.cell (p := ⟨w.heap.size, 1, none⟩) X5.out.2).trans c1; have n3 : ((D.length : Int) == (NN.size : Int)) = true := (by have := X6.out.2.2.2; have := NS.out; simp; omega); clear h1 h2 h4)
      go_loopw [13] (fun i wr => ∃ k : Nat, k ≤ D.length ∧ i = .int .i64 (k : Int) ∧ wr = w6) (fun i _ => D.length - (intOf i).toNat)
      case atStart => exact ⟨0, Nat.zero_le _, rfl, rfl⟩
      case round =>
        obtain ⟨k, hk, rfl, hw⟩ := hrel
        replace hw := hw.symm
        subst hw
        rcases Nat.lt_or_ge k D.length with hlt | hge
        · have hDl := X6.out.2.2.2
          have hNs := NS.out
          obtain ⟨y, hy⟩ : ∃ y, R[k]? = some y := ⟨_, List.getElem?_eq_getElem (by omega)⟩
          obtain ⟨ta, te, hte⟩ := TI.out k y hy
          obtain ⟨ga, rv, C, rfl, lga, e0, e6, hrr, hic⟩ := tok_at X6.out.2.1 X6.out.2.2.1 hte
          have hin : k < NN.size := by omega
          have hyv : NN[k]'hin = y := NG.out k y hin hy
          have hyl : y.toNat < 128 := ALL.out k y hy
          have j0 : (0 : Int) ≤ (k : Int) := by omega
          have j1' : (k : Int) < (D.length : Int) := by omega
          have j2 : (k : Int) < (NN.size : Int) := by omega
          have hw1 : IntKind.wrap .i64 ((k : Int) + 1) = (k : Int) + 1 := wrap_small _ (by omega) (by omega)
          have hw2 : IntKind.wrap .i64 ((y.toNat : Int) + 32) = (y.toNat : Int) + 32 := wrap_small _ (by omega) (by omega)
          replace e0 : w6.cell? ⟨ga, k * 7, none⟩ = some (.int .i64 1) := e0
          clear hte hDl hNs hy n3
          obtain ⟨mc, mf⟩ := m
          simp only at d1 c1 c0
          cases mf with
          | false =>
            have hC := cls_one hic (by omega) (by omega) (.inl rfl)
            rw [hC] at hrr
            obtain ⟨g2, k2, rfl⟩ := ownsRow_some hrr (by simp)
            have f0 : w6.cell? ⟨g2, 0, none⟩ = some (.int .i64 (y.toNat : Int)) := ownsRow_cell hrr (j := 0) rfl
            have f1 : w6.cell? ⟨g2, 1, none⟩ = some (.int .i64 (y.toNat : Int)) := ownsRow_cell hrr (j := 1) rfl
            have b1 : ((y.toNat : Int) == (y.toNat : Int)) = true := by simp
            replace e6 : w6.cell? ⟨ga, k * 7 + 6, none⟩ = some (.slice (some ⟨g2, 0, none⟩) 1 k2) := e6
            clear hic hC hrr
            go_wp2
            go_roundw
            case rel => exact ⟨k + 1, by omega, by go_num, by first | rfl | trivial⟩
            case measure => simp only [intOf]; omega
          | true =>
            by_cases y1 : y.toNat < 65
            · have hC := cls_one hic (by omega) (by omega) (.inr (by omega))
              have u1 : ¬ (65 : Int) ≤ (y.toNat : Int) := by omega
              have u2 : ¬ (97 : Int) ≤ (y.toNat : Int) := by omega
              rw [hC] at hrr
              obtain ⟨g2, k2, rfl⟩ := ownsRow_some hrr (by simp)
              have f0 : w6.cell? ⟨g2, 0, none⟩ = some (.int .i64 (y.toNat : Int)) := ownsRow_cell hrr (j := 0) rfl
              have f1 : w6.cell? ⟨g2, 1, none⟩ = some (.int .i64 (y.toNat : Int)) := ownsRow_cell hrr (j := 1) rfl
              have b1 : ((y.toNat : Int) == (y.toNat : Int)) = true := by simp
              replace e6 : w6.cell? ⟨ga, k * 7 + 6, none⟩ = some (.slice (some ⟨g2, 0, none⟩) 1 k2) := e6
              clear hic hC hrr
              go_wp2
              go_roundw
              case rel => exact ⟨k + 1, by omega, by go_num, by first | rfl | trivial⟩
              case measure => simp only [intOf]; omega
            by_cases y2 : y.toNat ≤ 90
            · have hC := cls_two (l := (y.toNat : Int)) hic rfl (by omega) (.inl rfl)
              have u1 : (65 : Int) ≤ (y.toNat : Int) := by omega
              have u2 : (y.toNat : Int) ≤ 90 := by omega
              rw [hC] at hrr
              obtain ⟨g2, k2, rfl⟩ := ownsRow_some hrr (by simp)
              have f0 : w6.cell? ⟨g2, 0, none⟩ = some (.int .i64 ((y.toNat : Int))) := ownsRow_cell hrr (j := 0) rfl
              have f1 : w6.cell? ⟨g2, 1, none⟩ = some (.int .i64 ((y.toNat : Int))) := ownsRow_cell hrr (j := 1) rfl
              have f2 : w6.cell? ⟨g2, 2, none⟩ = some (.int .i64 ((y.toNat : Int) + 32)) := ownsRow_cell hrr (j := 2) rfl
              have f3 : w6.cell? ⟨g2, 3, none⟩ = some (.int .i64 ((y.toNat : Int) + 32)) := ownsRow_cell hrr (j := 3) rfl
              have b1 : (((y.toNat : Int)) == ((y.toNat : Int))) = true := by simp
              have b2 : (((y.toNat : Int) + 32) == ((y.toNat : Int) + 32)) = true := by simp
              replace e6 : w6.cell? ⟨ga, k * 7 + 6, none⟩ = some (.slice (some ⟨g2, 0, none⟩) 2 k2) := e6
              clear hic hC hrr
              go_wp2
              go_roundw
              case rel => exact ⟨k + 1, by omega, by go_num, by first | rfl | trivial⟩
              case measure => simp only [intOf]; omega
            by_cases y3 : y.toNat < 97
            · have hC := cls_one hic (by omega) (by omega) (.inr (by omega))
              have u1 : (65 : Int) ≤ (y.toNat : Int) := by omega
              have u2 : ¬ (y.toNat : Int) ≤ 90 := by omega
              have u3 : ¬ (97 : Int) ≤ (y.toNat : Int) := by omega
              rw [hC] at hrr
              obtain ⟨g2, k2, rfl⟩ := ownsRow_some hrr (by simp)
              have f0 : w6.cell? ⟨g2, 0, none⟩ = some (.int .i64 (y.toNat : Int)) := ownsRow_cell hrr (j := 0) rfl
              have f1 : w6.cell? ⟨g2, 1, none⟩ = some (.int .i64 (y.toNat : Int)) := ownsRow_cell hrr (j := 1) rfl
              have b1 : ((y.toNat : Int) == (y.toNat : Int)) = true := by simp
              replace e6 : w6.cell? ⟨ga, k * 7 + 6, none⟩ = some (.slice (some ⟨g2, 0, none⟩) 1 k2) := e6
              clear hic hC hrr
              go_wp2
              go_roundw
              case rel => exact ⟨k + 1, by omega, by go_num, by first | rfl | trivial⟩
              case measure => simp only [intOf]; omega
            by_cases y4 : y.toNat ≤ 122
            · have hC := cls_two (l := (y.toNat : Int) - 32) hic rfl (by omega) (.inr (by omega))
              rw [show (y.toNat : Int) - 32 + 32 = (y.toNat : Int) by omega] at hC
              have u1 : (65 : Int) ≤ (y.toNat : Int) := by omega
              have u2 : ¬ (y.toNat : Int) ≤ 90 := by omega
              have u3 : (97 : Int) ≤ (y.toNat : Int) := by omega
              have u4 : (y.toNat : Int) ≤ 122 := by omega
              have hw3 : IntKind.wrap .i64 ((y.toNat : Int) - 32) = (y.toNat : Int) - 32 := by rw [IntKind.wrap_i64]; omega
              rw [hC] at hrr
              obtain ⟨g2, k2, rfl⟩ := ownsRow_some hrr (by simp)
              have f0 : w6.cell? ⟨g2, 0, none⟩ = some (.int .i64 ((y.toNat : Int) - 32)) := ownsRow_cell hrr (j := 0) rfl
              have f1 : w6.cell? ⟨g2, 1, none⟩ = some (.int .i64 ((y.toNat : Int) - 32)) := ownsRow_cell hrr (j := 1) rfl
              have f2 : w6.cell? ⟨g2, 2, none⟩ = some (.int .i64 ((y.toNat : Int))) := ownsRow_cell hrr (j := 2) rfl
              have f3 : w6.cell? ⟨g2, 3, none⟩ = some (.int .i64 ((y.toNat : Int))) := ownsRow_cell hrr (j := 3) rfl
              have b1 : (((y.toNat : Int) - 32) == ((y.toNat : Int) - 32)) = true := by simp
              have b2 : (((y.toNat : Int)) == ((y.toNat : Int))) = true := by simp
              replace e6 : w6.cell? ⟨ga, k * 7 + 6, none⟩ = some (.slice (some ⟨g2, 0, none⟩) 2 k2) := e6
              clear hic hC hrr
              go_wp2
              go_roundw
              case rel => exact ⟨k + 1, by omega, by go_num, by first | rfl | trivial⟩
              case measure => simp only [intOf]; omega
            have hC := cls_one hic (by omega) (by omega) (.inr (by omega))
            have u1 : (65 : Int) ≤ (y.toNat : Int) := by omega
            have u2 : ¬ (y.toNat : Int) ≤ 90 := by omega
            have u3 : (97 : Int) ≤ (y.toNat : Int) := by omega
            have u4 : ¬ (y.toNat : Int) ≤ 122 := by omega
            rw [hC] at hrr
            obtain ⟨g2, k2, rfl⟩ := ownsRow_some hrr (by simp)
            have f0 : w6.cell? ⟨g2, 0, none⟩ = some (.int .i64 (y.toNat : Int)) := ownsRow_cell hrr (j := 0) rfl
            have f1 : w6.cell? ⟨g2, 1, none⟩ = some (.int .i64 (y.toNat : Int)) := ownsRow_cell hrr (j := 1) rfl
            have b1 : ((y.toNat : Int) == (y.toNat : Int)) = true := by simp
            replace e6 : w6.cell? ⟨ga, k * 7 + 6, none⟩ = some (.slice (some ⟨g2, 0, none⟩) 1 k2) := e6
            clear hic hC hrr
            go_wp2
            go_roundw
            case rel => exact ⟨k + 1, by omega, by go_num, by first | rfl | trivial⟩
            case measure => simp only [intOf]; omega
        · have j1' : ¬ (k : Int) < (D.length : Int) := by omega
          clear hge hk n3
          go_wp2
          go_ret
          exact ⟨rfl, X6.out.1⟩
end Go.Proofs.YtloeajhmmjdlgaaDoor
