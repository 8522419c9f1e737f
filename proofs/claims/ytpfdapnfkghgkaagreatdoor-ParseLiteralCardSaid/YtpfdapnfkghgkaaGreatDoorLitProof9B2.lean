/-
  ParseLiteral of a long text; of any. (mklit9.py writes it.)
-/
import Derived.Test.YtpfdapnfkghgkaaGreatDoorLitProof9B1
namespace Go.Proofs.YtpfdapnfkghgkaaGreatDoor
open Go Go.RowKit
attribute [local go_sem] ext_cell

set_option maxRecDepth 100000 in
set_option maxHeartbeats 16000000 in
theorem lit_long {w : World} (hG : Glb w) (x : ByteArray) (hx0 : 900 < x.size) (m : Md) : Calls Tryz.prog 6 #[.string x, .agg #[.bool m.c, .bool m.f]] w fun e w' => e = .returned (.bool true) ∧ Below w.heap.size w w' := by
  obtain ⟨s, hs0⟩ : ∃ s, x.extract 0 900 = s := ⟨_, rfl⟩
  have hx : s.size ≤ 900 := by rw [← hs0, ByteArray.size_extract]; omega
  have dlt : (900 : Int) < (x.size : Int) := by omega
  have dle : (900 : Int) ≤ (x.size : Int) := by omega
  have dnn : ¬ x.size < 900 := by omega
  have BX : Hid (Below w.heap.size w (boxM9 w m)) := (Below.refl _ _).alloc (Nat.le_refl _) _
  have HE := hide (examples9_c (hG.kept BX.out))
  have M0 := hide (seesM_new w m)
  have zR : (keepP m s s.size).length ≤ 900 := Nat.le_trans (keepP_len m s s.size) hx
  have HP : Hid (∀ W, Below w.heap.size w W → PCall (ofL ((keepP m s s.size).flatMap encP)) m W (ParseOk W (mkB ((keepP m s s.size).map (lfB m))))) := fun W hW => (by
    obtain ⟨T, hT⟩ := takes_plain (m := m) (s := ofL ((keepP m s s.size).flatMap encP)) (R := keepP m s s.size) rfl (keepP_all m s s.size) (by rw [ofL_size]; have := encP_len (keepP m s s.size); omega) zR
    exact hT.calls (hG.kept hW))
  have HT := hide (lit_yes (keepP_all m s s.size) zR)
  have ZS : Hid ((mkB ((keepP m s s.size).map (lfB m))).sz ≤ 2000) := (by
    obtain ⟨T, hT⟩ := takes_plain (m := m) (s := ofL ((keepP m s s.size).flatMap encP)) (R := keepP m s s.size) rfl (keepP_all m s s.size) (by rw [ofL_size]; have := encP_len (keepP m s s.size); omega) zR
    exact hT.sz)
  clear hG zR
  go_enter Tryz.func6, Tryz.ntmps6
  go_wp2_with (go_at_call 8; (with_reducible refine (HE.out).mono ?_); rintro e w5 ⟨rfl, h1⟩; have ST := hide (LtSt.mk (chain BX.out h1 (Nat.le_refl _)) (M0.out.kept h1)); obtain ⟨ml, m0, m1⟩ := ST.out.md; clear h1)
  clear BX HE M0
  go_loopw [6, 7, 8] (fun a b i wr => ∃ k : Nat, k ≤ s.size ∧ a = .string (ofL ((keepP m s k).flatMap encP)) ∧ b = .string (ofL (keepP m s k)) ∧ i = .int .i64 (k : Int) ∧ wr = w5) (fun _ _ i _ => s.size - (intOf i).toNat)
  case atStart => exact ⟨0, Nat.zero_le _, rfl, rfl, rfl, rfl⟩
  case round =>
    obtain ⟨k, hk, rfl, rfl, rfl, hw⟩ := hrel
    replace hw := hw.symm
    subst hw
    rcases Nat.lt_or_ge k s.size with hlt | hge
    · obtain ⟨y, hy⟩ : ∃ y, s[k]'hlt = y := ⟨_, rfl⟩
      have gy : s.data.toList[k]? = some y := by rw [← hy]; exact List.getElem?_eq_getElem (by rw [size_list]; exact hlt)
      have hnx := keepP_next (m := m) gy
      have z1 : (ofL ((keepP m s k).flatMap encP)).size ≤ 1800 := by
        rw [ofL_size]
        have h1 := encP_len (keepP m s k)
        have h2 := keepP_len m s k
        omega
      have z2 : (ofL (keepP m s k)).size ≤ 900 := by rw [ofL_size]; have := keepP_len m s k; omega
      obtain ⟨c, hc⟩ : ∃ c, s.extract k (k + 1) = c := ⟨_, rfl⟩
      have hcc : c = ofL [y] := hc.symm.trans (ext_one gy)
      have hcs : c.size = 1 := by rw [hcc, ofL_size]; rfl
      have NX : Hid (keepP m s (k + 1) = keepP m s k ++ (if keepB m y then [y] else [])) := hnx
      have RP : Hid (keepB m y = true → plainB y = true → ofL (keepP m s k) ++ c = ofL (keepP m s (k + 1)) ∧ ofL ((keepP m s k).flatMap encP) ++ c = ofL ((keepP m s (k + 1)).flatMap encP)) := fun hb hp => (by
        have e : [y].flatMap encP = [y] := by simp [encP, hp]
        rw [NX.out, hb, if_pos rfl, List.flatMap_append, e, hcc]
        exact ⟨ofL_app _ _, ofL_app _ _⟩)
      have RS : Hid (keepB m y = true → plainB y = false → ofL (keepP m s k) ++ c = ofL (keepP m s (k + 1)) ∧ ofL ((keepP m s k).flatMap encP) ++ ⟨#[92]⟩ ++ c = ofL ((keepP m s (k + 1)).flatMap encP)) := fun hb hp => (by
        have e : [y].flatMap encP = [92, y] := by simp [encP, hp]
        rw [NX.out, hb, if_pos rfl, List.flatMap_append, e, hcc]
        refine ⟨ofL_app _ _, ?_⟩
        show ofL ((keepP m s k).flatMap encP) ++ ofL [92] ++ ofL [y] = _
        rw [ofL_app, ofL_app, List.append_assoc]
        rfl)
      have j0 : (0 : Int) ≤ (k : Int) := by omega
      have j1 : (k : Int) < (s.size : Int) := by omega
      have j2 : (k : Int) ≤ (k : Int) + 1 := by omega
      have j3 : (k : Int) + 1 ≤ (s.size : Int) := by omega
      have j4 : ((k : Int) + 1).toNat = k + 1 := by omega
      have j5 : ¬ s.size < k + 1 := by omega
      have hw1 : IntKind.wrap .i64 ((k : Int) + 1) = (k : Int) + 1 := wrap_small _ (by omega) (by omega)
      have hyl : y.toNat < 256 := UInt8.toNat_lt y
      clear hcc hnx gy
      by_cases hlo : y.toNat < 128
      · have i1 : ¬ (127 : Int) < (y.toNat : Int) := by omega
        have hkp : keepB m y = true := by unfold keepB low; simp [hlo]
        cases hp : plainB y with
        | true =>
          obtain ⟨n1, n2, n3, n4, n5, n6⟩ := plain_not hp
          have c0 : ((y.toNat : Int) == 92) = false := by simp; omega
          have c1 : ((y.toNat : Int) == 91) = false := by simp; omega
          have c2 : ((y.toNat : Int) == 46) = false := by simp; omega
          have c3 : ((y.toNat : Int) == 42) = false := by simp; omega
          have c4 : ((y.toNat : Int) == 94) = false := by simp; omega
          have c5 : ((y.toNat : Int) == 36) = false := by simp; omega
          have R1 := hide (RP.out hkp hp)
          clear n1 n2 n3 n4 n5 n6 NX RP RS hkp
          generalize ofL (keepP m s k) = NN at *
          generalize ofL ((keepP m s k).flatMap encP) = SS at *
          have s1 : ¬ 9223372036854775807 < SS.size + 1 := by omega
          have s3 : ¬ 9223372036854775807 < SS.size + 1 + 1 := by omega
          have s2 : ¬ 9223372036854775807 < NN.size + 1 := by omega
          go_wp2
          go_roundw
          case rel => exact ⟨k + 1, by omega, congrArg Value.string R1.out.2, congrArg Value.string R1.out.1, by go_num, by first | rfl | trivial⟩
          case measure => simp only [intOf]; omega
        | false =>
          have R1 := hide (RS.out hkp hp)
          have hsp : y.toNat = 92 ∨ y.toNat = 91 ∨ y.toNat = 46 ∨ y.toNat = 42 ∨ y.toNat = 94 ∨ y.toNat = 36 := by rcases special hp with rfl | rfl | rfl | rfl | rfl | rfl <;> decide
          clear NX RP RS hkp
          generalize ofL (keepP m s k) = NN at *
          generalize ofL ((keepP m s k).flatMap encP) = SS at *
          have s1 : ¬ 9223372036854775807 < SS.size + 1 := by omega
          have s3 : ¬ 9223372036854775807 < SS.size + 1 + 1 := by omega
          have s2 : ¬ 9223372036854775807 < NN.size + 1 := by omega
          rcases hsp with hq | hq | hq | hq | hq | hq
          · have c0 : ((y.toNat : Int) == 92) = true := by simp; omega
            clear hq
            go_wp2
            go_roundw
            case rel => exact ⟨k + 1, by omega, congrArg Value.string R1.out.2, congrArg Value.string R1.out.1, by go_num, by first | rfl | trivial⟩
            case measure => simp only [intOf]; omega
          · have c0 : ((y.toNat : Int) == 92) = false := by simp; omega
            have c1 : ((y.toNat : Int) == 91) = true := by simp; omega
            clear hq
            go_wp2
            go_roundw
            case rel => exact ⟨k + 1, by omega, congrArg Value.string R1.out.2, congrArg Value.string R1.out.1, by go_num, by first | rfl | trivial⟩
            case measure => simp only [intOf]; omega
          · have c0 : ((y.toNat : Int) == 92) = false := by simp; omega
            have c1 : ((y.toNat : Int) == 91) = false := by simp; omega
            have c2 : ((y.toNat : Int) == 46) = true := by simp; omega
            clear hq
            go_wp2
            go_roundw
            case rel => exact ⟨k + 1, by omega, congrArg Value.string R1.out.2, congrArg Value.string R1.out.1, by go_num, by first | rfl | trivial⟩
            case measure => simp only [intOf]; omega
          · have c0 : ((y.toNat : Int) == 92) = false := by simp; omega
            have c1 : ((y.toNat : Int) == 91) = false := by simp; omega
            have c2 : ((y.toNat : Int) == 46) = false := by simp; omega
            have c3 : ((y.toNat : Int) == 42) = true := by simp; omega
            clear hq
            go_wp2
            go_roundw
            case rel => exact ⟨k + 1, by omega, congrArg Value.string R1.out.2, congrArg Value.string R1.out.1, by go_num, by first | rfl | trivial⟩
            case measure => simp only [intOf]; omega
          · have c0 : ((y.toNat : Int) == 92) = false := by simp; omega
            have c1 : ((y.toNat : Int) == 91) = false := by simp; omega
            have c2 : ((y.toNat : Int) == 46) = false := by simp; omega
            have c3 : ((y.toNat : Int) == 42) = false := by simp; omega
            have c4 : ((y.toNat : Int) == 94) = true := by simp; omega
            clear hq
            go_wp2
            go_roundw
            case rel => exact ⟨k + 1, by omega, congrArg Value.string R1.out.2, congrArg Value.string R1.out.1, by go_num, by first | rfl | trivial⟩
            case measure => simp only [intOf]; omega
          · have c0 : ((y.toNat : Int) == 92) = false := by simp; omega
            have c1 : ((y.toNat : Int) == 91) = false := by simp; omega
            have c2 : ((y.toNat : Int) == 46) = false := by simp; omega
            have c3 : ((y.toNat : Int) == 42) = false := by simp; omega
            have c4 : ((y.toNat : Int) == 94) = false := by simp; omega
            have c5 : ((y.toNat : Int) == 36) = true := by simp; omega
            clear hq
            go_wp2
            go_roundw
            case rel => exact ⟨k + 1, by omega, congrArg Value.string R1.out.2, congrArg Value.string R1.out.1, by go_num, by first | rfl | trivial⟩
            case measure => simp only [intOf]; omega
      · have i1 : (127 : Int) < (y.toNat : Int) := by omega
        cases hmc : m.c with
        | true =>
          have hkp : keepB m y = false := by unfold keepB low; simp [hlo, hmc]
          have R1 : Hid (keepP m s k = keepP m s (k + 1)) := (by rw [NX.out, hkp]; simp : keepP m s k = keepP m s (k + 1))
          rw [hmc] at m0
          clear NX RP RS hkp
          go_wp2
          go_roundw
          case rel => exact ⟨k + 1, by omega, by rw [R1.out], by rw [R1.out], by go_num, by first | rfl | trivial⟩
          case measure => simp only [intOf]; omega
        | false =>
          have hkp : keepB m y = true := by unfold keepB; simp [hmc]
          have hp : plainB y = true := by
            cases hp : plainB y with
            | true => rfl
            | false => exact absurd (by rcases special hp with rfl | rfl | rfl | rfl | rfl | rfl <;> decide) hlo
          obtain ⟨n1, n2, n3, n4, n5, n6⟩ := plain_not hp
          have c0 : ((y.toNat : Int) == 92) = false := by simp; omega
          have c1 : ((y.toNat : Int) == 91) = false := by simp; omega
          have c2 : ((y.toNat : Int) == 46) = false := by simp; omega
          have c3 : ((y.toNat : Int) == 42) = false := by simp; omega
          have c4 : ((y.toNat : Int) == 94) = false := by simp; omega
          have c5 : ((y.toNat : Int) == 36) = false := by simp; omega
          have R1 := hide (RP.out hkp hp)
          rw [hmc] at m0
          clear n1 n2 n3 n4 n5 n6 NX RP RS hkp
          generalize ofL (keepP m s k) = NN at *
          generalize ofL ((keepP m s k).flatMap encP) = SS at *
          have s1 : ¬ 9223372036854775807 < SS.size + 1 := by omega
          have s3 : ¬ 9223372036854775807 < SS.size + 1 + 1 := by omega
          have s2 : ¬ 9223372036854775807 < NN.size + 1 := by omega
          go_wp2
          go_roundw
          case rel => exact ⟨k + 1, by omega, congrArg Value.string R1.out.2, congrArg Value.string R1.out.1, by go_num, by first | rfl | trivial⟩
          case measure => simp only [intOf]; omega
    · have hke : k = s.size := by omega
      subst hke
      have j1 : ¬ (s.size : Int) < (s.size : Int) := by omega
      generalize keepP m s s.size = R at HP HT ZS ⊢
      generalize ofL (R.flatMap encP) = SS at HP ⊢
      generalize ofL R = NN at HT ⊢
      generalize mkB (R.map (lfB m)) = X at HP HT ZS
      clear hge
      go_wp2_with first
        | (go_at_call 9; (with_reducible refine (HP.out _ ST.out.bel).mono ?_); rintro e w6 ⟨tx, rfl, h1, h2, h3, h4⟩; have b2 := ((Below.refl w6.heap.size w6).alloc (Nat.le_refl _) (.cells #[.int .i64 tx.f.k, .int .i64 tx.f.n, .int .i64 tx.f.mn, .int .i64 tx.f.mx, .slice tx.f.rq tx.f.rs.length tx.f.rc, .slice tx.f.kq tx.f.kl tx.f.kc] 28)); have bb := chain h4 b2 (Nat.le_refl _); have ST := hide (ST.out.kept bb); have BA := hide (boxL_new h1 h2); obtain ⟨ml, m0, m1⟩ := ST.out.md; clear h1 h2 h3 h4 b2 bb)
        | (go_at_call 18; (with_reducible refine (HT.out _).mono ?_); rintro e w7 ⟨ty, rfl, h1, h2, h4⟩; have b2 := ((Below.refl w7.heap.size w7).alloc (Nat.le_refl _) (.cells #[.int .i64 ty.f.k, .int .i64 ty.f.n, .int .i64 ty.f.mn, .int .i64 ty.f.mx, .slice ty.f.rq ty.f.rs.length ty.f.rc, .slice ty.f.kq ty.f.kl ty.f.kc] 28)); have bb := chain h4 b2 (Nat.le_refl _); have ST := hide (ST.out.kept bb); have BA := hide (BA.out.kept bb); have BB := hide (boxL_new h1 h2); obtain ⟨ql, q0, q1, q2, q3, q4, q5⟩ := BA.out.sx; obtain ⟨rl, r0, r1, r2, r3, r4, r5⟩ := BB.out.sx; clear h1 h2 h4 b2 bb)
        | (go_at_call 14; (with_reducible refine (same_yes8 BA.out.ta BB.out.ta ?_ ?_).mono ?_); (rw [BA.out.er, BB.out.er]); (rw [BA.out.er, te_sz]; exact ZS.out); rintro e w8 ⟨rfl, bb⟩; have ST := hide (ST.out.kept bb); clear bb)
      go_ret
      exact ⟨by simp, ST.out.bel⟩
theorem law_lit9 {w : World} (hG : Glb w) (x : ByteArray) (m : Md) : Calls Tryz.prog 6 #[.string x, .agg #[.bool m.c, .bool m.f]] w fun e w' => e = .returned (.bool true) ∧ Below w.heap.size w w' := by
  rcases Nat.lt_or_ge 900 x.size with h | h
  · exact lit_long hG x h m
  · exact lit_short hG x h m
end Go.Proofs.YtpfdapnfkghgkaaGreatDoor
