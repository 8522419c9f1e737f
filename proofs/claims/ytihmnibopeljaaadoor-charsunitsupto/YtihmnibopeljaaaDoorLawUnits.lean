/-
  The law CharsUnits, walked: Valid, Next, Places, Column of any text and place are the document's own answers; the list that comes is its owner's.
-/
import Derived.Test.YtihmnibopeljaaaDoorRefP
import Derived.Test.YtihmnibopeljaaaDoorLawDec
namespace Go.Proofs.YtihmnibopeljaaaDoor
open Go Go.RowKit
attribute [local go_sem] ext_cell

/-- Next, wherever: the program and the document answer alike. -/
theorem next_both (s : ByteArray) (x : Int) (hs : s.size ≤ 1048576) : ∃ a b : Int, (∀ W, Tabs W → Calls Tryd.prog 22 #[.string s, .int .i64 x] W fun e w' => e = .returned (.tuple #[.int .i64 a, .int .i64 b]) ∧ Below W.heap.size W w') ∧
    (∀ W, Calls Tryd.prog 25 #[.string s, .int .i64 x] W fun e w' => e = .returned (.tuple #[.int .i64 a, .int .i64 b]) ∧ Below W.heap.size W w') := by
  by_cases h : x < 0 ∨ (s.size : Int) ≤ x
  · exact ⟨0, 0, fun W _ => (next_out s x W h).mono fun e w' ⟨q1, q2⟩ => ⟨q1, by rw [q2]; exact Below.refl _ _⟩, fun W => (rNext_out s x W h).mono fun e w' ⟨q1, q2⟩ => ⟨q1, by rw [q2]; exact Below.refl _ _⟩⟩
  · obtain ⟨p, rfl⟩ : ∃ p : Nat, x = p := ⟨x.toNat, by omega⟩
    exact ⟨ch s p, wd s p, fun W hT => next_in s p W hT (by omega) (by unfold maxLen; omega), fun W => rNext_c s p W (by omega) (by omega)⟩

set_option maxHeartbeats 8000000 in
set_option maxRecDepth 1000000 in
theorem law_units (s : ByteArray) (x : Int) (w : World) (hG : Glob w) (hs : s.size ≤ 1048576) :
    Calls Tryd.prog 6 #[.string s, .int .i64 x] w fun e w' => e = .returned (.bool true) ∧ Below w.heap.size w w' := by
  have G : Hid (Glob w) := hG
  have hz := hG.size
  clear hG
  obtain ⟨a, b, hn1, hn2⟩ := next_both s x hs
  have hrp := rPlaces_c s
  have hpp := places_c s
  obtain ⟨D, hD⟩ : ∃ D, plc (us s) ++ [(s.size : Int)] = D := ⟨_, rfl⟩
  rw [hD] at hrp hpp
  have hDl : D.length = (us s).length + 1 := by rw [← hD]; simp [plc]
  have hul := us_length s
  rw [← hDl] at hpp
  have hv1 := valid_c s
  have hv2 := rValid_c s
  have hc1 := column_c s x
  have hc2 := rColumn_c s x
  obtain ⟨va, hva⟩ : ∃ v : Int, ((validOf s.size (us s) : Nat) : Int) = v := ⟨_, rfl⟩
  obtain ⟨ca, hca⟩ : ∃ v : Int, ((colOf x (us s) : Nat) : Int) = v := ⟨_, rfl⟩
  rw [hva] at hv1 hv2
  rw [hca] at hc1 hc2
  have HM : Hid (s.size ≤ maxLen) := by show s.size ≤ maxLen; unfold maxLen; omega
  have hD0 : 0 < D.length := by omega
  have hDm : D.length ≤ 1048577 := by omega
  clear hD hva hca hDl hul
  go_enter Tryd.func6, Tryd.ntmps6
  go_upto_region 2 with (go_at_call 9; (with_reducible refine (examples_c _ G.out).mono ?_); rintro e w1 ⟨rfl, h1⟩; have B1 : Hid (Below w.heap.size w w1) := h1; clear h1)
  go_upto_region 3 with (go_at_call 22; (with_reducible refine (hn1 _ (G.out.then B1.out hz).tabs).mono ?_); rintro e w2 ⟨rfl, h2⟩; have B2 : Hid (Below w.heap.size w w2) := chain B1.out h2 (Nat.le_refl _); clear h2)
  go_upto_region 4 with (go_at_call 25; (with_reducible refine (hn2 _).mono ?_); rintro e w3 ⟨rfl, h3⟩; have B3 : Hid (Below w.heap.size w w3) := chain B2.out h3 (Nat.le_refl _); clear h3)
  go_upto_region 5 with (go_at_call 26; (with_reducible refine (hrp _ (by omega)).mono ?_); rintro e w4 ⟨v4, rfl, h4⟩; have O4 : Hid (OI w3 v4 D w4) := h4; clear h4)
  obtain ⟨q4, c4, rfl⟩ := ownsRow_shape O4.out.own
  have B4 : Hid (Below w.heap.size w w4) := chain B3.out O4.out.bel (Nat.le_refl _)
  have A4 : Hid (ArgI w4 (.slice q4 D.length c4) D) := own_arg O4.out.own
  clear O4
  go_upto_region 6 with (go_at_call 21; (with_reducible refine (hpp _ (by omega)).mono ?_); rintro e w5 ⟨v5, rfl, o5, h5⟩; have O5 : Hid (w5.ownsRow w4.heap.size 3 1 v5 D.length (ints D)) := o5; have B5 : Hid (Below w4.heap.size w4 w5) := h5; clear o5 h5)
  have A5 : Hid (ArgI w5 v5 D) := own_arg O5.out
  have A5' : Hid (ArgI w5 (.slice q4 D.length c4) D) := A4.out.below B5.out rfl
  go_upto_region 7 with (go_at_call 18; (refine (same_same A5.out A5'.out).mono ?_); rintro e w6 ⟨rfl, h6⟩; have O6 : Hid (w6.ownsRow w4.heap.size 3 1 v5 D.length (ints D)) := ownsRow_fr O5.out (Fr.of_below (S := fun _ => False) h6) (fun _ _ q => q); have B6 : Hid (Below w4.heap.size w4 w6) := chain B5.out h6 (Nat.le_refl _); clear h6)
  clear O5 A5 A5' B5
  obtain ⟨g, cc, rfl⟩ := ownsRow_some O6.out hD0
  go_wp2
  go_loopw [13] (fun i wr => ∃ (j : Nat) (L : List Int), j ≤ D.length ∧ i = .int .i64 (j : Int) ∧ L.length = D.length ∧ wr.ownsRow w4.heap.size 3 1 (.slice (some ⟨g, 0, none⟩) D.length cc) D.length (ints L) ∧ Below w4.heap.size w4 wr) (fun i _ => D.length - (intOf i).toNat)
  case atStart => exact ⟨0, D, by omega, rfl, rfl, O6.out, B6.out⟩
  case round =>
    obtain ⟨j, L, hj, rfl, hL, hO, hB⟩ := hrel
    have O : Hid (wr.ownsRow w4.heap.size 3 1 (.slice (some ⟨g, 0, none⟩) D.length cc) D.length (ints L)) := hO
    have BB : Hid (Below w4.heap.size w4 wr) := hB
    clear hO hB
    by_cases hjl : j < D.length
    · have j1 : (j : Int) < (D.length : Int) := by omega
      have j0 : (0 : Int) ≤ (j : Int) := by omega
      have hwj : IntKind.wrap .i64 ((j : Int) + 1) = (j : Int) + 1 := wrap_small _ (by omega) (by omega)
      obtain ⟨u, hu⟩ : ∃ u, L[j]? = some u := ⟨_, List.getElem?_eq_getElem (by omega)⟩
      have cj := ownsRow_cell O.out (ints_get hu)
      obtain ⟨hg, hgl, cur, hcur⟩ := ownsRow_at O.out (g := g) rfl
      have fj := frz_row hcur j
      have S : Hid ((wr.setCell ⟨g, j, none⟩ (.int .i64 (-5))).ownsRow w4.heap.size 3 1 (.slice (some ⟨g, 0, none⟩) D.length cc) D.length (ints (L.set j (-5)))) := ownsRow_set O.out j (-5)
      have SB : Hid (Below w4.heap.size w4 (wr.setCell ⟨g, j, none⟩ (.int .i64 (-5)))) := ((Fr.of_below (S := fun _ => False) BB.out).setNew (p := ⟨g, j, none⟩) hg _).below (Nat.le_refl _) (fun _ q => q.elim)
      have HL : Hid ((L.set j (-5)).length = D.length) := by show (L.set j (-5)).length = D.length; rw [List.length_set]; exact hL
      clear hcur
      go_wp2
      go_roundw
      case rel => exact ⟨j + 1, L.set j (-5), by omega, by go_num, HL.out, S.out, SB.out⟩
      case measure => simp only [intOf]; omega
    · have j1 : ¬ (j : Int) < (D.length : Int) := by omega
      have A7 : Hid (ArgI wr (.slice q4 D.length c4) D) := A4.out.below BB.out rfl
      have B7 : Hid (Below w.heap.size w wr) := chain B4.out BB.out (Nat.le_refl _)
      go_upto_region 12 with (go_at_call 21; (with_reducible refine (hpp _ (by omega)).mono ?_); rintro e w8 ⟨v8, rfl, o8, h8⟩; have A8 : Hid (ArgI w8 v8 D) := own_arg o8; have A8' : Hid (ArgI w8 (.slice q4 D.length c4) D) := A7.out.kept h8; have B8 : Hid (Below w.heap.size w w8) := chain B7.out h8 (Nat.le_refl _); clear o8 h8)
      go_upto_region 13 with (go_at_call 18; (refine (same_same A8.out A8'.out).mono ?_); rintro e w9 ⟨rfl, h9⟩; have B9 : Hid (Below w.heap.size w w9) := chain B8.out h9 (Nat.le_refl _); clear h9)
      go_wp2_with first
        | (go_at_call 24; (with_reducible refine (hv1 _ HM.out).mono ?_); rintro e w10 ⟨rfl, h10⟩; have B10 : Hid (Below w.heap.size w w10) := chain B9.out h10 (Nat.le_refl _); clear h10)
        | (go_at_call 27; (with_reducible refine (hv2 _ (by omega)).mono ?_); rintro e w11 ⟨rfl, h11⟩; have B11 : Hid (Below w.heap.size w w11) := chain B10.out h11 (Nat.le_refl _); clear h11)
        | (go_at_call 23; (with_reducible refine (hc1 _ HM.out).mono ?_); rintro e w12 ⟨rfl, h12⟩; have B12 : Hid (Below w.heap.size w w12) := chain B11.out h12 (Nat.le_refl _); clear h12)
        | (go_at_call 28; (with_reducible refine (hc2 _ (by omega)).mono ?_); rintro e w13 ⟨rfl, h13⟩; have B13 : Hid (Below w.heap.size w w13) := chain B12.out h13 (Nat.le_refl _); clear h13)
      go_ret
      exact ⟨by first | rfl | (simp; done), B13.out⟩
end Go.Proofs.YtihmnibopeljaaaDoor
