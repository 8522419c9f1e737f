/-
  The document's own answer: Shown.
-/
import Derived.Test.YtihmnibopeljaabDoorRefS
import Derived.Test.YtihmnibopeljaabDoorRefX
namespace Go.Proofs.YtihmnibopeljaabDoor
open Go Go.RowKit
attribute [local go_sem] ext_cell

theorem txt_app5 (a b : List UInt8) : txt a ++ txt b = txt (a ++ b) := by
  unfold txt
  apply ByteArray.ext
  simp [ByteArray.data_append]
theorem digs_ext : ∀ x : Fin 16, ByteArray.extract ⟨#[48, 49, 50, 51, 52, 53, 54, 55, 56, 57, 97, 98, 99, 100, 101, 102]⟩ x.val (x.val + 1) = txt [hexd x.val] := by decide +kernel
theorem ext_txt (s : ByteArray) (p n : Nat) : s.extract p (p + n) = txt (sl s p n) := by
  rw [← ext_sl]; exact (txt_list _).symm
theorem sl_next (s : ByteArray) (p n j : Nat) (hj : j < n) (hp : p + j < s.size) : (sl s p n).take (j + 1) = (sl s p n).take j ++ [s[p + j]'hp] := by
  have hl : j < (sl s p n).length := by unfold sl; rw [List.length_take, List.length_drop, size_list]; omega
  have e : (sl s p n)[j]? = some (s[p + j]'hp) := by
    unfold sl
    rw [List.getElem?_take_of_lt hj, List.getElem?_drop]
    exact List.getElem?_eq_getElem (by rw [size_list]; exact hp)
  obtain ⟨_, e2⟩ := List.getElem?_eq_some_iff.1 e
  rw [take_next _ _ hl, e2]

set_option maxHeartbeats 8000000 in
set_option maxRecDepth 1000000 in
theorem rShown_c (s : ByteArray) (w : World) (hs : s.size ≤ 4194304) :
    Calls Tryd.prog 8 #[.string s] w fun e w' => e = .returned (.string (txt (shown s))) ∧ Below w.heap.size w w' := by
  go_enter Tryd.func8, Tryd.ntmps8
  go_wp2
  go_loopw [3, 4] (fun t i wr => ∃ (pos f : Nat) (acc : List (Nat × Int)), i = .int .i64 (pos : Int) ∧ t = .string (txt (shUs s acc)) ∧ acc ++ uFrom s f pos = us s ∧ s.size ≤ pos + f ∧ (shUs s acc).length ≤ 4 * pos ∧ pos ≤ s.size ∧ Below w.heap.size w wr) (fun _ i _ => s.size - (intOf i).toNat)
  case atStart => exact ⟨0, s.size, [], rfl, rfl, rfl, by omega, by simp [shUs], Nat.zero_le _, Below.refl _ _⟩
  case round =>
    obtain ⟨pos, f, acc, rfl, rfl, hacc, hfu, hap, hps, hb⟩ := hrel
    have B : Hid (Below w.heap.size w wr) := hb
    have A : Hid (acc ++ uFrom s f pos = us s) := hacc
    obtain ⟨L, hL⟩ : ∃ L, shUs s acc = L := ⟨_, rfl⟩
    rw [hL] at hap ⊢
    have HL : Hid (shUs s acc = L) := hL
    clear hb hacc hL
    by_cases hp : pos < s.size
    · obtain ⟨f, rfl⟩ : ∃ g, f = g + 1 := ⟨f - 1, by omega⟩
      have A2 := A.out
      rw [uFrom_more s f pos hp] at A2
      have A3 : Hid (acc ++ ((pos, ch s pos) :: uFrom s f (pos + wd s pos)) = us s) := A2
      have hw := wd_pos s pos
      have hwd := (wd_le s pos hp).2
      have hw4 := (wd_le s pos hp).1
      have hnx := rNext_c s pos wr hp (by omega)
      have hsl := shU_len s pos
      have i1 : (pos : Int) < (s.size : Int) := by omega
      have SH : Hid (shU s pos = if ch s pos = 92 then [92, 92] else if ch s pos = 10 then [92, 110] else if plainI (ch s pos) then sl s pos (wd s pos) else escs (sl s pos (wd s pos))) := rfl
      obtain ⟨c, hcc⟩ : ∃ x, ch s pos = x := ⟨_, rfl⟩
      obtain ⟨wp, hwp⟩ : ∃ x, wd s pos = x := ⟨_, rfl⟩
      rw [hcc] at hnx A3 SH
      rw [hwp] at hnx A3 hw hwd hw4 hsl SH
      clear A2 hcc hwp
      obtain ⟨np, hnp⟩ : ∃ np, pos + wp = np := ⟨_, rfl⟩
      have HNP : Hid (pos + wp = np) := hnp
      have hwr : IntKind.wrap .i64 ((pos : Int) + (wp : Int)) = (np : Int) := by rw [wrap_small _ (by omega) (by omega)]; omega
      have fin : Hid (∀ (w6 : World) (M : List UInt8), Below w.heap.size w w6 → M = L ++ shU s pos → ∃ (pos' f' : Nat) (acc' : List (Nat × Int)), Value.int .i64 (np : Int) = .int .i64 (pos' : Int) ∧ Value.string (txt M) = .string (txt (shUs s acc')) ∧ acc' ++ uFrom s f' pos' = us s ∧ s.size ≤ pos' + f' ∧ (shUs s acc').length ≤ 4 * pos' ∧ pos' ≤ s.size ∧ Below w.heap.size w w6) := fun w6 M h6 hM => by
        refine ⟨np, f, acc ++ [(pos, c)], rfl, by rw [hM, shUs_app, HL.out], ?_, by omega, ?_, by omega, h6⟩
        · rw [← A3.out, HNP.out]; simp
        · rw [shUs_app, HL.out, List.length_append]; omega
      have hpl := rPlain_c c
      have n0 : (0 : Int) ≤ (pos : Int) := by omega
      have n1 : (pos : Int) ≤ (np : Int) := by omega
      have n2 : (np : Int) ≤ (s.size : Int) := by omega
      have n3 : pos < np := by omega
      clear hnp
      by_cases h92 : c = 92
      · subst h92
        have E : Hid (shU s pos = [92, 92]) := by show shU s pos = _; rw [SH.out, if_pos rfl]
        have hap2 : txt L ++ (⟨#[92, 92]⟩ : ByteArray) = txt (L ++ [92, 92]) := txt_app5 L [92, 92]
        have hsm : ((txt L).size : Int) + 2 ≤ 9223372036854775807 := by rw [txt_size]; omega
        have hsn : (txt L).size ≤ 100000000 := by rw [txt_size]; omega
        go_wp2_with first
          | (go_at_call 15; (with_reducible refine (Calls.mono hnx ?_)); rintro e w5 ⟨rfl, h5⟩; have B5 : Hid (Below w.heap.size w w5) := chain B.out h5 (Nat.le_refl _); clear h5)
          | (go_at_call 16; (with_reducible refine (hpl _).mono ?_); rintro e w6 ⟨rfl, h6⟩; subst w6)
        go_roundw
        case rel => exact fin.out _ _ B5.out (by rw [E.out])
        case measure => simp only [intOf]; omega
      have b92 : (c == 92) = false := by simpa using h92
      by_cases h10 : c = 10
      · subst h10
        have E : Hid (shU s pos = [92, 110]) := by show shU s pos = _; rw [SH.out, if_neg h92, if_pos rfl]
        have hap2 : txt L ++ (⟨#[92, 110]⟩ : ByteArray) = txt (L ++ [92, 110]) := txt_app5 L [92, 110]
        have hsm : ((txt L).size : Int) + 2 ≤ 9223372036854775807 := by rw [txt_size]; omega
        have hsn : (txt L).size ≤ 100000000 := by rw [txt_size]; omega
        go_wp2_with first
          | (go_at_call 15; (with_reducible refine (Calls.mono hnx ?_)); rintro e w5 ⟨rfl, h5⟩; have B5 : Hid (Below w.heap.size w w5) := chain B.out h5 (Nat.le_refl _); clear h5)
          | (go_at_call 16; (with_reducible refine (hpl _).mono ?_); rintro e w6 ⟨rfl, h6⟩; subst w6)
        go_roundw
        case rel => exact fin.out _ _ B5.out (by rw [E.out])
        case measure => simp only [intOf]; omega
      have b10 : (c == 10) = false := by simpa using h10
      obtain ⟨S, hS⟩ : ∃ S, sl s pos wp = S := ⟨_, rfl⟩
      have hSl : S.length ≤ wp := by rw [← hS]; exact sl_len s pos wp
      have hex := ext_txt s pos wp
      rw [hS] at hex
      have hex' : s.extract pos np = txt S := by rw [← HNP.out]; exact hex
      rw [hS] at SH
      have HS : Hid (sl s pos wp = S) := hS
      clear hS hex
      rcases hpb : plainI c with _ | _
      · rw [hpb] at hpl SH
        have E : Hid (shU s pos = escs S) := by show shU s pos = _; rw [SH.out, if_neg h92, if_neg h10]; rfl
        have HSF : Hid (S.length = wp) := by
          show S.length = wp
          rw [← HS.out]; unfold sl; rw [List.length_take, List.length_drop, size_list]; omega
        clear hex'
        go_wp2_with first
          | (go_at_call 15; (with_reducible refine (Calls.mono hnx ?_)); rintro e w5 ⟨rfl, h5⟩; have B5 : Hid (Below w.heap.size w w5) := chain B.out h5 (Nat.le_refl _); clear h5)
          | (go_at_call 16; (with_reducible refine (hpl _).mono ?_); rintro e w6 ⟨rfl, h6⟩; subst w6)
        go_loopw [3, 8] (fun t i wr => ∃ j : Nat, j ≤ wp ∧ i = .int .i64 ((pos + j : Nat) : Int) ∧ t = .string (txt (L ++ escs (S.take j))) ∧ Below w.heap.size w wr) (fun _ i _ => np - (intOf i).toNat)
        case atStart => exact ⟨0, Nat.zero_le _, rfl, by simp [escs], B5.out⟩
        case round =>
          obtain ⟨j, hj, rfl, rfl, hb⟩ := hrel
          have BB : Hid (Below w.heap.size w wr) := hb
          clear hb
          obtain ⟨ix, hix⟩ : ∃ ix, pos + j = ix := ⟨_, rfl⟩
          have HIX : Hid (pos + j = ix) := hix
          obtain ⟨M, hM⟩ : ∃ M, L ++ escs (S.take j) = M := ⟨_, rfl⟩
          have hMl : M.length ≤ 100000000 := by
            rw [← hM, List.length_append, escs_len, List.length_take]; omega
          have HM : Hid (L ++ escs (S.take j) = M) := hM
          rw [hix, hM]
          clear hM
          by_cases hlt : ix < np
          · have hixl : ix < s.size := by omega
            have hjw : j < wp := by have := HNP.out; omega
            obtain ⟨b, hbe⟩ : ∃ b, s[ix]'hixl = b := ⟨_, rfl⟩
            have hnx2 : Hid (S.take (j + 1) = S.take j ++ [b]) := by
              show S.take (j + 1) = S.take j ++ [b]
              subst hix
              rw [← HS.out, ← hbe]
              exact sl_next s pos wp j hjw hixl
            clear hix
            have hbl : b.toNat < 256 := b.toNat_lt
            obtain ⟨x, hx⟩ : ∃ x, b.toNat / 16 = x := ⟨_, rfl⟩
            obtain ⟨y, hy⟩ : ∃ y, b.toNat % 16 = y := ⟨_, rfl⟩
            have hxl : x < 16 := by omega
            have hyl : y < 16 := by omega
            have HE : Hid (escB b = [92, 120, hexd x, hexd y]) := by
              show escB b = _
              rw [escB, hx, hy]
            have dx := digs_ext ⟨x, hxl⟩
            have dy := digs_ext ⟨y, hyl⟩
            simp only at dx dy
            have q1 : (b.toNat : Int) / 16 = (x : Int) := by omega
            have q2 : (b.toNat : Int) % 16 = (y : Int) := by omega
            have q3 : (b.toNat : Int).tdiv 16 = (x : Int) := by rw [Int.tdiv_eq_ediv_of_nonneg (by omega)]; exact q1
            have q4 : (b.toNat : Int).tmod 16 = (y : Int) := by rw [Int.tmod_eq_emod_of_nonneg (by omega)]; exact q2
            have q5 : IntKind.wrap .u8 (x : Int) = (x : Int) := by rw [IntKind.wrap_u8]; omega
            have q6 : IntKind.wrap .u8 (y : Int) = (y : Int) := by rw [IntKind.wrap_u8]; omega
            have q7 : IntKind.wrap .u8 ((x : Int) + 1) = (x : Int) + 1 := by rw [IntKind.wrap_u8]; omega
            have q8 : IntKind.wrap .u8 ((y : Int) + 1) = (y : Int) + 1 := by rw [IntKind.wrap_u8]; omega
            clear hx hy
            obtain ⟨hxd, hxe⟩ : ∃ d, hexd x = d := ⟨_, rfl⟩
            obtain ⟨hyd, hye⟩ : ∃ d, hexd y = d := ⟨_, rfl⟩
            rw [hxe] at dx HE
            rw [hye] at dy HE
            clear hxe hye
            have a1 : txt M ++ (⟨#[92, 120]⟩ : ByteArray) = txt (M ++ [92, 120]) := txt_app5 M [92, 120]
            have a2 : txt (M ++ [92, 120]) ++ txt [hxd] = txt (M ++ [92, 120, hxd]) := by rw [txt_app5]; simp
            have a3 : txt (M ++ [92, 120, hxd]) ++ txt [hyd] = txt (M ++ [92, 120, hxd, hyd]) := by rw [txt_app5]; simp
            have z1 : (txt M).size ≤ 100000000 := by rw [txt_size]; exact hMl
            have z2 : (txt (M ++ [92, 120])).size ≤ 100000002 := by rw [txt_size, List.length_append]; simp; omega
            have z3 : (txt (M ++ [92, 120, hxd])).size ≤ 100000003 := by rw [txt_size, List.length_append]; simp; omega
            have z4 : (txt [hxd]).size = 1 := rfl
            have z5 : (txt [hyd]).size = 1 := rfl
            have i0 : (0 : Int) ≤ (ix : Int) := by omega
            have i2 : (ix : Int) < (s.size : Int) := by omega
            have i3 : (ix : Int) < (np : Int) := by omega
            have x0 : (0 : Int) ≤ (x : Int) := by omega
            have x1 : (x : Int) ≤ (x : Int) + 1 := by omega
            have x2 : (x : Int) + 1 ≤ 16 := by omega
            have x3 : ((x : Int) + 1).toNat = x + 1 := by omega
            have y0 : (0 : Int) ≤ (y : Int) := by omega
            have y1 : (y : Int) ≤ (y : Int) + 1 := by omega
            have y2 : (y : Int) + 1 ≤ 16 := by omega
            have y3 : ((y : Int) + 1).toNat = y + 1 := by omega
            have hwi : IntKind.wrap .i64 ((ix : Int) + 1) = ((ix + 1 : Nat) : Int) := by rw [wrap_small _ (by omega) (by omega)]; omega
            go_wp2
            refine wp_region_ext (by kernel_rfl) (by kernel_rfl) ?_
            repeat (go_big_quiet_step (first | exact rfl))
            refine wpQuiet_nil ?_
            intro w9 hw9
            have B9 : Hid (Below w.heap.size w w9) := chain BB.out (ext_of hw9) (Nat.le_refl _)
            clear hw9
            go_wp2
            go_roundw
            case rel =>
              refine ⟨j + 1, by omega, ?_, ?_, B9.out⟩
              · have := HIX.out; subst this; rfl
              · rw [hnx2.out, escs_app, ← List.append_assoc, HM.out]
                have e2 : escs [b] = [92, 120, hxd, hyd] := by rw [← HE.out]; simp [escs]
                rw [e2]
            case measure => simp only [intOf]; omega
          · have i3 : ¬ (ix : Int) < (np : Int) := by omega
            have hjw : j = wp := by have := HNP.out; omega
            have HF : Hid (M = L ++ escs S) := by
              show M = L ++ escs S
              rw [← HM.out, hjw, List.take_of_length_le (by rw [HSF.out]; exact Nat.le_refl _)]
            clear hjw
            go_wp2
            go_roundw
            case rel => exact fin.out _ _ BB.out (by rw [E.out, HF.out])
            case measure => simp only [intOf]; omega
      · rw [hpb] at hpl SH
        have E : Hid (shU s pos = S) := by show shU s pos = _; rw [SH.out, if_neg h92, if_neg h10]; rfl
        have hap2 : txt L ++ txt S = txt (L ++ S) := txt_app5 L S
        have hsn : (txt L).size ≤ 100000000 := by rw [txt_size]; omega
        have hsn2 : (txt S).size ≤ 4 := by rw [txt_size]; omega
        go_wp2_with first
          | (go_at_call 15; (with_reducible refine (Calls.mono hnx ?_)); rintro e w5 ⟨rfl, h5⟩; have B5 : Hid (Below w.heap.size w w5) := chain B.out h5 (Nat.le_refl _); clear h5)
          | (go_at_call 16; (with_reducible refine (hpl _).mono ?_); rintro e w6 ⟨rfl, h6⟩; subst w6)
        go_roundw
        case rel => exact fin.out _ _ B5.out (by rw [E.out])
        case measure => simp only [intOf]; omega
    · have i1 : ¬ (pos : Int) < (s.size : Int) := by omega
      have A2 := A.out
      rw [uFrom_end s f pos hp, List.append_nil] at A2
      have A3 : Hid (shown s = L) := by show shown s = L; rw [shown, ← A2, HL.out]
      clear A2
      go_wp2
      go_ret
      rw [A3.out]
      exact ⟨rfl, B.out⟩
end Go.Proofs.YtihmnibopeljaabDoor
