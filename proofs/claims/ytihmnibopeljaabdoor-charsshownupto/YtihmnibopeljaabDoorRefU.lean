/-
  The document's own answer: Read, walked.
-/
import Derived.Test.YtihmnibopeljaabDoorRefR
import Derived.Test.YtihmnibopeljaabDoorExamples
import Derived.Lib.AppendStr
namespace Go.Proofs.YtihmnibopeljaabDoor
open Go Go.RowKit
attribute [local go_sem] ext_cell

theorem strCells_eq (s : ByteArray) : Lib.strCells s = Lib.byteCells s.data.toList := rfl
/-- A list of bytes of one's own. -/
structure OU (w : World) (v : Value) (L : List UInt8) (wr : World) : Prop where
  own : wr.ownsRow w.heap.size 5 1 v L.length (Lib.byteCells L)
  bel : Below w.heap.size w wr
theorem OU.then {w wr w6 : World} {v : Value} {L : List UInt8} (h : OU w v L wr) (hb : Below wr.heap.size wr w6) : OU w v L w6 :=
  ⟨ownsRow_fr h.own (Fr.of_below (S := fun _ => False) hb) (fun _ _ q => q), chain h.bel hb (Nat.le_refl _)⟩
theorem OU.app0 {w wr w6 : World} {v v' : Value} {L M : List UInt8} (h : OU w v L wr) (hown : w6.ownsRow w.heap.size 5 1 v' M.length (Lib.byteCells M)) (hg : wr.grownBy w6 v.ownBlock) : OU w v' M w6 :=
  ⟨hown, chainF h.bel ((Fr.refl (fun z => v.ownBlock = some z) wr).grown hg (fun _ hz => hz)) (Nat.le_refl _) (fun _ hz => (ownsRow_at h.own hz).1)⟩
theorem OU.app {w wr w6 : World} {v v' : Value} {L M : List UInt8} {o : Obj} (h : OU w v L wr) (hown : w6.ownsRow w.heap.size 5 1 v' M.length (Lib.byteCells M)) (hg : (wr.alloc o).grownBy w6 v.ownBlock) : OU w v' M w6 :=
  ⟨hown, chainF h.bel (((Fr.refl (fun z => v.ownBlock = some z) wr).alloc _).grown hg (fun _ hz => hz)) (Nat.le_refl _) (fun _ hz => (ownsRow_at h.own hz).1)⟩
theorem len1 (L : List UInt8) (x : UInt8) : (L ++ [x]).length = L.length + 1 := by simp

set_option maxHeartbeats 8000000 in
set_option maxRecDepth 1000000 in
theorem rRead_c (s : ByteArray) (w : World) (hs : s.size ≤ 1048576) :
    Calls Tryd.prog 6 #[.string s] w fun e w' => e = .returned (.tuple #[.string (txt (rdTxt s (readO s))), .int .i64 (rdErr s (readO s)), .int .i64 (rdPl s (readO s))]) ∧ Below w.heap.size w w' := by
  obtain ⟨t0, hi, hz0, hz1, hz2⟩ := info_parts size_u8
  go_enter Tryd.func6, Tryd.ntmps6
  go_wp2
  go_loopw [5, 6] (fun t i wr => ∃ (pos : Nat) (L : List UInt8), i = .int .i64 (pos : Int) ∧ OU w t L wr ∧ At s pos L ∧ L.length ≤ pos ∧ pos ≤ s.size) (fun _ i _ => s.size - (intOf i).toNat)
  case atStart => exact ⟨0, [], rfl, ⟨World.ownsRow_nil _ _ _ _, Below.refl _ w⟩, at_start s, by simp, Nat.zero_le _⟩
  case round =>
    obtain ⟨pos, L, rfl, hR, hat, hLp, hps⟩ := hrel
    obtain ⟨q, c, rfl⟩ := ownsRow_shape hR.own
    have R : Hid (OU w (.slice q L.length c) L wr) := hR
    have AT : Hid (At s pos L) := hat
    have hsz := hR.bel.size
    clear hR hat
    by_cases hp : pos < s.size
    · have hw := wd_pos s pos
      have hwd := (wd_le s pos hp).2
      have hw4 := (wd_le s pos hp).1
      have hnx := rNext_c s pos wr hp (by omega)
      have i1 : (pos : Int) < (s.size : Int) := by omega
      have CH : Hid (plainI (ch s pos) = false → readO s = .inr (20, (pos : Int))) := at_char AT.out hp
      have NX : Hid (plainI (ch s pos) = true → ch s pos ≠ 92 → At s (pos + wd s pos) (L ++ sl s pos (wd s pos))) := at_next AT.out hp
      have SL : Hid (ch s pos = 92 → wd s pos = 1 ∧ ∃ hi, In s (pos + 1) L 1 pos hi) := at_slash AT.out hp
      obtain ⟨cc, hcc⟩ : ∃ x, ch s pos = x := ⟨_, rfl⟩
      obtain ⟨wp, hwp⟩ : ∃ x, wd s pos = x := ⟨_, rfl⟩
      rw [hcc] at hnx CH NX SL
      rw [hwp] at hnx hw hwd hw4 NX SL
      clear hcc hwp
      have hpl := rPlain_c cc
      rcases hpb : plainI cc with _ | _
      · rw [hpb] at hpl
        have E : Hid (readO s = .inr (20, (pos : Int))) := CH.out hpb
        go_wp2_with first
          | (go_at_call 15; (with_reducible refine (Calls.mono hnx ?_)); rintro e w5 ⟨rfl, h5⟩; have R5 : Hid (OU w (.slice q L.length c) L w5) := R.out.then h5; clear h5)
          | (go_at_call 16; (with_reducible refine (hpl _).mono ?_); rintro e w6 ⟨rfl, h6⟩; subst w6)
        go_ret3
        rw [E.out]
        exact ⟨rfl, R5.out.bel⟩
      rw [hpb] at hpl
      by_cases h92 : cc = 92
      · subst h92
        obtain ⟨hw1, hi1, hin⟩ := SL.out rfl
        have IN : Hid (In s (pos + 1) L 1 pos hi1) := hin
        subst hw1
        clear hin
        have v1 : IntKind.wrap .i64 ((pos : Int) + 1) = ((pos + 1 : Nat) : Int) := by rw [wrap_small _ (by omega) (by omega)]; omega
        obtain ⟨p1, hp1⟩ : ∃ x, pos + 1 = x := ⟨_, rfl⟩
        obtain ⟨p2, hp2⟩ : ∃ x, pos + 2 = x := ⟨_, rfl⟩
        obtain ⟨p4, hp4⟩ : ∃ x, pos + 4 = x := ⟨_, rfl⟩
        have v2 : IntKind.wrap .i64 ((pos : Int) + 2) = (p2 : Int) := by rw [wrap_small _ (by omega) (by omega)]; omega
        have v4 : IntKind.wrap .i64 ((pos : Int) + 4) = (p4 : Int) := by rw [wrap_small _ (by omega) (by omega)]; omega
        have HP2 : Hid (pos + 2 = p2) := hp2
        have HP4 : Hid (pos + 4 = p4) := hp4
        have HP1 : Hid (pos + 1 = p1) := hp1
        rw [hp1] at v1
        by_cases s1 : s.size ≤ p1
        · have E : Hid (readO s = .inl ⟨L, 1, pos, hi1⟩) := in_end IN.out (by omega)
          have q1 : (s.size : Int) ≤ (p1 : Int) := by omega
          clear hp1 hp2 hp4
          go_wp2_with first
            | (go_at_call 15; (with_reducible refine (Calls.mono hnx ?_)); rintro e w5 ⟨rfl, h5⟩; have R5 : Hid (OU w (.slice q L.length c) L w5) := R.out.then h5; clear h5)
            | (go_at_call 16; (with_reducible refine (hpl _).mono ?_); rintro e w6 ⟨rfl, h6⟩; subst w6)
          go_ret3
          rw [E.out]
          have r1 : rdTxt s (.inl ⟨L, 1, pos, hi1⟩) = [] := by rw [rdTxt, if_neg (by simp)]
          have r2 : rdErr s (.inl ⟨L, 1, pos, hi1⟩) = 31 := by rw [rdErr, if_pos (by simp)]
          have r3 : rdPl s (.inl ⟨L, 1, pos, hi1⟩) = (s.size : Int) := by rw [rdPl, if_pos (by simp)]
          rw [r1, r2, r3]
          exact ⟨rfl, R5.out.bel⟩
        have hl1 : p1 < s.size := by omega
        have g1 := bt_get s p1 hl1
        have AS : Hid _ := after_slash IN.out (by omega)
        rw [hp1] at AS
        obtain ⟨b1, hb1⟩ : ∃ b, bt s p1 = b := ⟨_, rfl⟩
        rw [hb1] at g1 AS
        have hb1l : b1 < 256 := by rw [← hb1]; exact bt_lt s p1
        have q1 : ¬ (s.size : Int) ≤ (p1 : Int) := by omega
        have q0 : (0 : Int) ≤ (p1 : Int) := by omega
        have q2 : (p1 : Int) < (s.size : Int) := by omega
        clear hp1 hp2 hp4 hb1
        by_cases k92 : b1 = 92
        · subst k92
          have A2 : Hid (At s p2 (L ++ [92])) := by show At s p2 (L ++ [92]); rw [← HP2.out]; exact AS.out.1 rfl
          go_wp2_with first
            | (go_at_call 15; (with_reducible refine (Calls.mono hnx ?_)); rintro e w5 ⟨rfl, h5⟩; have R5 : Hid (OU w (.slice q L.length c) L w5) := R.out.then h5; have z5 := R5.out.bel.size; clear h5)
            | (go_at_call 16; (with_reducible refine (hpl _).mono ?_); rintro e w6 ⟨rfl, h6⟩; subst w6)
            | (at_builtin; refine wpList_append_own_at _ rfl _ _ 39 rfl w.heap.size 5 t0 (.int .u8 0) 1 1 und_u8s hi hz0 hz1 hz2 rfl (by decide) (.slice q L.length c) L.length (Lib.byteCells L) rfl (World.ownsRow.alloc R5.out.own (.cells #[.int .u8 92] 5)) ⟨w5.heap.size, 0, none⟩ 1 1 [.int .u8 92] rfl rfl (news1 _ _ _) (by simp [Value.oneCell']) (by unfold maxLen; omega) (by omega) (by simp; omega) ?_; intro v' w6 hown' hgrow _ hblk; obtain ⟨g6, cap6, rfl⟩ := ownsRow_some hown' (Nat.succ_pos _); have R6 : Hid (OU w (.slice (some ⟨g6, 0, none⟩) (L.length + 1) cap6) (L ++ [92]) w6) := R5.out.app (by rw [len1, Lib.byteCells_append]; exact hown') hgrow; clear hown' hgrow hblk)
          go_roundw
          case rel => exact ⟨p2, L ++ [92], rfl, R6.out, A2.out, by have := HP2.out; rw [len1]; omega, by have := HP2.out; have := HP1.out; omega⟩
          case measure => simp only [intOf]; have := HP2.out; omega
        have n92 : ((b1 : Int) == 92) = false := by simp; omega
        by_cases k110 : b1 = 110
        · subst k110
          have A2 : Hid (At s p2 (L ++ [10])) := by show At s p2 (L ++ [10]); rw [← HP2.out]; exact AS.out.2.1 rfl
          go_wp2_with first
            | (go_at_call 15; (with_reducible refine (Calls.mono hnx ?_)); rintro e w5 ⟨rfl, h5⟩; have R5 : Hid (OU w (.slice q L.length c) L w5) := R.out.then h5; have z5 := R5.out.bel.size; clear h5)
            | (go_at_call 16; (with_reducible refine (hpl _).mono ?_); rintro e w6 ⟨rfl, h6⟩; subst w6)
            | (at_builtin; refine wpList_append_own_at _ rfl _ _ 39 rfl w.heap.size 5 t0 (.int .u8 0) 1 1 und_u8s hi hz0 hz1 hz2 rfl (by decide) (.slice q L.length c) L.length (Lib.byteCells L) rfl (World.ownsRow.alloc R5.out.own (.cells #[.int .u8 10] 5)) ⟨w5.heap.size, 0, none⟩ 1 1 [.int .u8 10] rfl rfl (news1 _ _ _) (by simp [Value.oneCell']) (by unfold maxLen; omega) (by omega) (by simp; omega) ?_; intro v' w6 hown' hgrow _ hblk; obtain ⟨g6, cap6, rfl⟩ := ownsRow_some hown' (Nat.succ_pos _); have R6 : Hid (OU w (.slice (some ⟨g6, 0, none⟩) (L.length + 1) cap6) (L ++ [10]) w6) := R5.out.app (by rw [len1, Lib.byteCells_append]; exact hown') hgrow; clear hown' hgrow hblk)
          go_roundw
          case rel => exact ⟨p2, L ++ [10], rfl, R6.out, A2.out, by have := HP2.out; rw [len1]; omega, by have := HP2.out; have := HP1.out; omega⟩
          case measure => simp only [intOf]; have := HP2.out; omega
        have n110 : ((b1 : Int) == 110) = false := by simp; omega
        by_cases k120 : b1 = 120
        · subst k120
          have IX : Hid (In s (pos + 2) L 2 pos hi1) := AS.out.2.2.1 rfl
          have AX : Hid _ := after_x IX.out
          have hhx := rHex_c s pos
          obtain ⟨xe, hxe⟩ : ∃ x, hxErr s pos = x := ⟨_, rfl⟩
          obtain ⟨xp, hxp⟩ : ∃ x, hxPl s pos = x := ⟨_, rfl⟩
          obtain ⟨xb, hxb⟩ : ∃ x, hxB s pos = x := ⟨_, rfl⟩
          rw [hxe, hxp, hxb] at hhx AX
          clear hxe hxp hxb
          by_cases hx0 : xe = 0
          · subst hx0
            have A4 : Hid (At s p4 (L ++ [xb]) ∧ pos + 3 < s.size) := by
              show At s p4 (L ++ [xb]) ∧ pos + 3 < s.size
              rw [← HP4.out]; exact AX.out.1 rfl
            go_wp2_with first
              | (go_at_call 15; (with_reducible refine (Calls.mono hnx ?_)); rintro e w5 ⟨rfl, h5⟩; have R5 : Hid (OU w (.slice q L.length c) L w5) := R.out.then h5; have z5 := R5.out.bel.size; clear h5)
              | (go_at_call 16; (with_reducible refine (hpl _).mono ?_); rintro e w6 ⟨rfl, h6⟩; subst w6)
              | (go_at_call 17; (with_reducible refine (hhx _ hp (by omega)).mono ?_); rintro e w6 ⟨rfl, h6⟩; subst w6)
              | (at_builtin; refine wpList_append_own_at _ rfl _ _ 39 rfl w.heap.size 5 t0 (.int .u8 0) 1 1 und_u8s hi hz0 hz1 hz2 rfl (by decide) (.slice q L.length c) L.length (Lib.byteCells L) rfl (World.ownsRow.alloc R5.out.own (.cells #[.int .u8 (xb.toNat : Int)] 5)) ⟨w5.heap.size, 0, none⟩ 1 1 [.int .u8 (xb.toNat : Int)] rfl rfl (news1 _ _ _) (by simp [Value.oneCell']) (by unfold maxLen; omega) (by omega) (by simp; omega) ?_; intro v' w6 hown' hgrow _ hblk; obtain ⟨g6, cap6, rfl⟩ := ownsRow_some hown' (Nat.succ_pos _); have R6 : Hid (OU w (.slice (some ⟨g6, 0, none⟩) (L.length + 1) cap6) (L ++ [xb]) w6) := R5.out.app (by rw [len1, Lib.byteCells_append]; exact hown') hgrow; clear hown' hgrow hblk)
            go_roundw
            case rel => exact ⟨p4, L ++ [xb], rfl, R6.out, A4.out.1, by have := HP4.out; rw [len1]; omega, by have := HP4.out; have := A4.out.2; omega⟩
            case measure => simp only [intOf]; have := HP4.out; omega
          · have bx : (xe != 0) = true := by simpa using hx0
            have E : Hid (rdErr s (readO s) = xe ∧ rdPl s (readO s) = xp ∧ rdTxt s (readO s) = []) := AX.out.2 hx0
            go_wp2_with first
              | (go_at_call 15; (with_reducible refine (Calls.mono hnx ?_)); rintro e w5 ⟨rfl, h5⟩; have R5 : Hid (OU w (.slice q L.length c) L w5) := R.out.then h5; have z5 := R5.out.bel.size; clear h5)
              | (go_at_call 16; (with_reducible refine (hpl _).mono ?_); rintro e w6 ⟨rfl, h6⟩; subst w6)
              | (go_at_call 17; (with_reducible refine (hhx _ hp (by omega)).mono ?_); rintro e w6 ⟨rfl, h6⟩; subst w6)
            go_ret3
            rw [E.out.1, E.out.2.1, E.out.2.2]
            exact ⟨rfl, R5.out.bel⟩
        have n120 : ((b1 : Int) == 120) = false := by simp; omega
        have E : Hid (readO s = .inr (32, (pos : Int))) := AS.out.2.2.2 k92 k110 k120
        go_wp2_with first
          | (go_at_call 15; (with_reducible refine (Calls.mono hnx ?_)); rintro e w5 ⟨rfl, h5⟩; have R5 : Hid (OU w (.slice q L.length c) L w5) := R.out.then h5; clear h5)
          | (go_at_call 16; (with_reducible refine (hpl _).mono ?_); rintro e w6 ⟨rfl, h6⟩; subst w6)
        go_ret3
        rw [E.out]
        exact ⟨rfl, R5.out.bel⟩
      · have n92 : (cc != 92) = true := by simpa using h92
        have A2 : Hid (At s (pos + wp) (L ++ sl s pos wp)) := NX.out hpb h92
        obtain ⟨np, hnp⟩ : ∃ x, pos + wp = x := ⟨_, rfl⟩
        have v1 : IntKind.wrap .i64 ((pos : Int) + (wp : Int)) = (np : Int) := by rw [wrap_small _ (by omega) (by omega)]; omega
        have hex := ext_txt s pos wp
        rw [hnp] at A2 hex
        have hSl := sl_len s pos wp
        obtain ⟨S, hS⟩ : ∃ S, sl s pos wp = S := ⟨_, rfl⟩
        rw [hS] at A2 hex hSl
        have n0 : (0 : Int) ≤ (pos : Int) := by omega
        have n1 : (pos : Int) ≤ (np : Int) := by omega
        have n2 : (np : Int) ≤ (s.size : Int) := by omega
        have n3 : pos < np ∧ np ≤ s.size ∧ np ≤ pos + wp ∧ pos + wp ≤ np := by omega
        clear hnp hS
        go_wp2_with first
          | (go_at_call 15; (with_reducible refine (Calls.mono hnx ?_)); rintro e w5 ⟨rfl, h5⟩; have R5 : Hid (OU w (.slice q L.length c) L w5) := R.out.then h5; have z5 := R5.out.bel.size; clear h5)
          | (go_at_call 16; (with_reducible refine (hpl _).mono ?_); rintro e w6 ⟨rfl, h6⟩; subst w6)
          | (at_builtin; refine Lib.wpList_append_own_string _ rfl _ _ 39 9 rfl w.heap.size 5 t0 und_u8s Tryd.underlying9 hi hz0 hz1 hz2 (.slice q L.length c) L.length (Lib.byteCells L) rfl R5.out.own (txt S) rfl (by rw [txt_size]; unfold maxLen; omega) (by rw [txt_size]; omega) z5 ?_; intro v' w6 hown' hgrow _; obtain ⟨q6, c6, rfl⟩ := ownsRow_shape hown'; have R6 : Hid (OU w (.slice q6 (L.length + (txt S).size) c6) (L ++ S) w6) := R5.out.app0 (by rw [List.length_append, Lib.byteCells_append]; exact hown') hgrow; clear hown' hgrow)
        go_roundw
        case rel => exact ⟨np, L ++ S, rfl, R6.out, A2.out, by rw [List.length_append]; omega, by omega⟩
        case measure => simp only [intOf]; omega
    · obtain ⟨bg, hi', hro⟩ := at_end AT.out hp
      have RO : Hid (readO s = .inl ⟨L, 0, bg, hi'⟩) := hro
      have i1 : ¬ (pos : Int) < (s.size : Int) := by omega
      have hcv := conv_own R.out.own
      have hLs : (txt L).size ≤ 1048576 := by rw [txt_size]; omega
      have hsh := rShown_c (txt L) wr (by omega)
      have hshl : (shown (txt L)).length ≤ 4194304 * 4 := by
        have h1 : ∀ f p, (shUs (txt L) (uFrom (txt L) f p)).length ≤ 4 * ((txt L).size - p) := fun f => by
          induction f with
          | zero => intro p; simp [uFrom, shUs]
          | succ f ih =>
            intro p
            by_cases hp : p < (txt L).size
            · rw [uFrom_more _ f p hp]
              have h1 := shU_len (txt L) p
              have h2 := ih (p + wd (txt L) p)
              have h3 := (wd_le (txt L) p hp).2
              simp only [shUs, List.flatMap_cons, List.length_append] at h2 ⊢
              omega
            · rw [uFrom_end _ _ _ hp]; simp [shUs]
        have := h1 (txt L).size 0
        unfold shown us
        omega
      obtain ⟨T, hT⟩ : ∃ T, txt (shown (txt L)) = T := ⟨_, rfl⟩
      rw [hT] at hsh
      have HT : Hid (shown (txt L) = T.data.toList) := txt_inj hT
      have hTs : T.size ≤ 16777216 := by rw [← hT, txt_size]; omega
      clear hT hro hshl
      go_upto_region 28 with (go_at_call 8; (with_reducible refine (Calls.mono hsh ?_)); rintro e w6 ⟨rfl, h6⟩; have R6 : Hid (OU w (.slice q L.length c) L w6) := R.out.then h6; clear h6)
      clear hcv
      go_wp2
      go_loopw [14] (fun i wr => ∃ k : Nat, i = .int .i64 (k : Int) ∧ k ≤ T.size ∧ k ≤ s.size ∧ k + cpl (T.data.toList.drop k) (s.data.toList.drop k) = cpl T.data.toList s.data.toList ∧ Below w6.heap.size w6 wr) (fun i _ => s.size - (intOf i).toNat)
      case atStart => exact ⟨0, rfl, Nat.zero_le _, Nat.zero_le _, by simp, Below.refl _ _⟩
      case round =>
        obtain ⟨k, rfl, hka, hkb, hc, hbw⟩ := hrel
        have BB : Hid (Below w6.heap.size w6 wr) := hbw
        have C : Hid (k + cpl (T.data.toList.drop k) (s.data.toList.drop k) = cpl T.data.toList s.data.toList) := hc
        clear hbw hc
        by_cases hlt : k < T.size ∧ k < s.size
        · obtain ⟨ha1, hb1⟩ := hlt
          obtain ⟨x, hx⟩ : ∃ x, T[k]'ha1 = x := ⟨_, rfl⟩
          obtain ⟨y, hy⟩ : ∃ y, s[k]'hb1 = y := ⟨_, rfl⟩
          have gx : T.data.toList[k]? = some x := by rw [← hx]; exact List.getElem?_eq_getElem (by rw [size_list]; exact ha1)
          have gy : s.data.toList[k]? = some y := by rw [← hy]; exact List.getElem?_eq_getElem (by rw [size_list]; exact hb1)
          have CA : Hid _ := cpl_at _ _ k x y gx gy
          clear gx gy
          have i0 : (0 : Int) ≤ (k : Int) := by omega
          have i1 : (k : Int) < (T.size : Int) := by omega
          have i2 : (k : Int) < (s.size : Int) := by omega
          have hwr : IntKind.wrap .i64 ((k : Int) + 1) = (k : Int) + 1 := wrap_small _ (by omega) (by omega)
          by_cases hxy : x = y
          · have bxy : ((x.toNat : Int) != (y.toNat : Int)) = false := by rw [hxy]; simp
            go_wp2
            refine wp_region_ext (by kernel_rfl) (by kernel_rfl) ?_
            repeat (go_big_quiet_step (first | exact rfl))
            refine wpQuiet_nil ?_
            intro w7 hw7
            have B7 : Hid (Below w6.heap.size w6 w7) := chain BB.out (ext_of hw7) (Nat.le_refl _)
            clear hw7
            go_wp2
            go_roundw
            case rel =>
              refine ⟨k + 1, by go_num, by omega, by omega, ?_, B7.out⟩
              have h1 := CA.out
              rw [if_pos hxy] at h1
              have h2 := C.out
              omega
            case measure => simp only [intOf]; omega
          · have bxy : ((x.toNat : Int) != (y.toNat : Int)) = true := by
              simp
              intro q
              exact hxy (UInt8.toNat_inj.1 (by omega))
            go_wp2
            refine wp_region_ext (by kernel_rfl) (by kernel_rfl) ?_
            repeat (go_big_quiet_step (first | exact rfl))
            refine wpQuiet_nil ?_
            intro w7 hw7
            have B7 : Hid (Below w6.heap.size w6 w7) := chain BB.out (ext_of hw7) (Nat.le_refl _)
            clear hw7
            go_wp2
            go_ret3
            have h1 := CA.out
            rw [if_neg hxy] at h1
            have h2 := C.out
            rw [h1, Nat.add_zero] at h2
            have hne : shown (txt L) ≠ s.data.toList := by
              rw [HT.out]
              intro q
              have gx : T.data.toList[k]? = some x := by rw [← hx]; exact List.getElem?_eq_getElem (by rw [size_list]; exact ha1)
              have gy : s.data.toList[k]? = some y := by rw [← hy]; exact List.getElem?_eq_getElem (by rw [size_list]; exact hb1)
              rw [q, gy] at gx
              exact hxy (Option.some.inj gx).symm
            rw [RO.out]
            have r1 : rdTxt s (.inl ⟨L, 0, bg, hi'⟩) = [] := by rw [rdTxt, if_neg (fun q => hne q.2)]
            have r2 : rdErr s (.inl ⟨L, 0, bg, hi'⟩) = 32 := by rw [rdErr, if_neg (by simp), if_neg hne]
            have r3 : rdPl s (.inl ⟨L, 0, bg, hi'⟩) = (k : Int) := by rw [rdPl, if_neg (by simp), if_neg hne]; simp only; rw [HT.out, ← h2]
            rw [r1, r2, r3]
            exact ⟨rfl, chain R6.out.bel B7.out (Nat.le_refl _)⟩
        · have hend := cpl_end T.data.toList s.data.toList k (by rw [size_list, size_list]; omega)
          have h2 := C.out
          rw [hend, Nat.add_zero] at h2
          have heq : shown (txt L) = s.data.toList := by
            by_cases q : shown (txt L) = s.data.toList
            · exact q
            · exfalso
              have d := differ RO.out q
              rw [HT.out, ← h2, size_list] at d
              omega
          have HEQ : Hid (shown (txt L) = s.data.toList) := heq
          have hcut : ¬ (k : Int) < (T.size : Int) ∨ ((k : Int) < (T.size : Int) ∧ ¬ (k : Int) < (s.size : Int)) := by omega
          have done : Hid (rdTxt s (readO s) = L ∧ rdErr s (readO s) = 0 ∧ rdPl s (readO s) = 0) := by
            show rdTxt s (readO s) = L ∧ rdErr s (readO s) = 0 ∧ rdPl s (readO s) = 0
            rw [RO.out]
            exact ⟨by rw [rdTxt, if_pos ⟨rfl, heq⟩], by rw [rdErr, if_neg (by simp), if_pos heq], by rw [rdPl, if_neg (by simp), if_pos heq]⟩
          clear hend h2 heq
          have R8 : Hid (OU w (.slice q L.length c) L wr) := R6.out.then BB.out
          have hcv := conv_own R8.out.own
          rcases hcut with j1 | ⟨j1, j2⟩
          · go_wp2
            go_ret3
            rw [done.out.1, done.out.2.1, done.out.2.2]
            exact ⟨rfl, R8.out.bel⟩
          · go_wp2
            go_ret3
            rw [done.out.1, done.out.2.1, done.out.2.2]
            exact ⟨rfl, R8.out.bel⟩

set_option maxHeartbeats 8000000 in
set_option maxRecDepth 1000000 in
theorem law_shown (s : ByteArray) (w : World) (hG : Glob w) (hs : s.size ≤ 1048576) :
    Calls Tryd.prog 3 #[.string s] w fun e w' => e = .returned (.bool true) ∧ Below w.heap.size w w' := by
  have G : Hid (Glob w) := hG
  have hgz := hG.size
  clear hG
  have h1 := read_c s
  have h2 := rRead_c s
  have h3 := shown_c s
  have h4 := rShown_c s
  obtain ⟨T, hT⟩ : ∃ T, txt (shown s) = T := ⟨_, rfl⟩
  obtain ⟨U, hU⟩ : ∃ T, txt (rdTxt s (readO s)) = T := ⟨_, rfl⟩
  obtain ⟨er, her⟩ : ∃ T, rdErr s (readO s) = T := ⟨_, rfl⟩
  obtain ⟨pl, hpl⟩ : ∃ T, rdPl s (readO s) = T := ⟨_, rfl⟩
  rw [hT] at h3 h4
  rw [hU, her, hpl] at h1 h2
  clear hT hU her hpl
  go_enter Tryd.func3, Tryd.ntmps3
  go_wp2_with first
    | (go_at_call 4; (with_reducible refine (examples_c _ G.out).mono ?_); rintro e w1 ⟨rfl, q1⟩; have B1 : Hid (Below w.heap.size w w1) := q1; clear q1)
    | (go_at_call 5; (with_reducible refine (h1 _ (G.out.then B1.out hgz).tabs (by omega)).mono ?_); rintro e w2 ⟨rfl, q2⟩; have B2 : Hid (Below w.heap.size w w2) := chain B1.out q2 (Nat.le_refl _); clear q2)
    | (go_at_call 6; (with_reducible refine (h2 _ hs).mono ?_); rintro e w3 ⟨rfl, q3⟩; have B3 : Hid (Below w.heap.size w w3) := chain B2.out q3 (Nat.le_refl _); clear q3)
    | (go_at_call 7; (with_reducible refine (h3 _ (G.out.then B3.out hgz).tabs (by omega)).mono ?_); rintro e w4 ⟨rfl, q4⟩; have B4 : Hid (Below w.heap.size w w4) := chain B3.out q4 (Nat.le_refl _); clear q4)
    | (go_at_call 8; (with_reducible refine (h4 _ (by omega)).mono ?_); rintro e w5 ⟨rfl, q5⟩; have B5 : Hid (Below w.heap.size w w5) := chain B4.out q5 (Nat.le_refl _); clear q5)
  go_ret
  exact ⟨by first | rfl | (simp; done), B5.out⟩
end Go.Proofs.YtihmnibopeljaabDoor
