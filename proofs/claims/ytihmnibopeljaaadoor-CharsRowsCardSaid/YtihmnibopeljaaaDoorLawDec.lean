/-
  The law CharsDecode, walked: Decode of any text is the document's own answer; what comes is its owner's.
-/
import Derived.Test.YtihmnibopeljaaaDoorRefD
namespace Go.Proofs.YtihmnibopeljaaaDoor
open Go Go.RowKit
attribute [local go_sem] ext_cell

theorem ints_set (V : List Int) (i : Nat) (x : Int) : ints (V.set i x) = (ints V).set i (.int .i64 x) := by simp [ints, List.map_set]
theorem ownsRow_set {w : World} {base : Nat} {g c n : Nat} {A : List Int} (h : w.ownsRow base 3 1 (.slice (some ⟨g, 0, none⟩) n c) n (ints A)) (j : Nat) (x : Int) : (w.setCell ⟨g, j, none⟩ (.int .i64 x)).ownsRow base 3 1 (.slice (some ⟨g, 0, none⟩) n c) n (ints (A.set j x)) := by
  rcases h with ⟨h1, ⟨q, _⟩ | ⟨g', cap, cur, q1, q2, q3, q4, q5, q6, q7⟩⟩
  · cases q
  · cases q1
    refine ⟨by rw [ints_set, List.length_set]; exact h1, .inr ⟨g, c, cur.setIfInBounds j (.int .i64 x), rfl, q2, heap_set_in q3 j _, q4, q5, by simpa using q6, ?_⟩⟩
    rw [ints_set, ← q7, Array.toList_setIfInBounds, List.take_set]

/-- A list that came out is written over. -/
theorem OI.cell {w wr : World} {g c : Nat} {L : List Int} (h : wr.ownsRow w.heap.size 3 1 (.slice (some ⟨g, 0, none⟩) L.length c) L.length (ints L)) {k : Nat} (hk : k < L.length) : (∃ u, wr.cell? ⟨g, k, none⟩ = some u) ∧ wr.frozen? ⟨g, k, none⟩ = false ∧ g < wr.heap.size := by
  obtain ⟨h1, h2, cur, h3⟩ := ownsRow_at h (g := g) rfl
  exact ⟨⟨_, ownsRow_cell h (ints_get (List.getElem?_eq_getElem hk))⟩, frz_row h3 k, h2⟩

set_option maxHeartbeats 8000000 in
set_option maxRecDepth 1000000 in
theorem law_decode (s : ByteArray) (w : World) (hG : Glob w) (hs : s.size ≤ 1048576) :
    Calls Tryd.prog 7 #[.string s] w fun e w' => e = .returned (.bool true) ∧ Below w.heap.size w w' := by
  have G : Hid (Glob w) := hG
  clear hG
  obtain ⟨D, hD⟩ : ∃ D, dList (us s) = D := ⟨_, rfl⟩
  obtain ⟨gd, hgd⟩ : ∃ g, good (us s) = g := ⟨_, rfl⟩
  obtain ⟨er, her⟩ : ∃ e, dErr (us s) = e := ⟨_, rfl⟩
  have hge : Hid (gd = true ∧ er = 0 ∨ gd = false ∧ er = 20) := by
    show gd = true ∧ er = 0 ∨ gd = false ∧ er = 20
    rw [← her, ← hgd, dErr]
    cases good (us s) <;> simp
  have hrd := rDecode_c s
  rw [hD, hgd] at hrd
  have hdc := decode_c s
  rw [hD, her] at hdc
  have hDl : D.length ≤ 1048576 := by
    rw [← hD, dList]
    split
    · rw [chs_len]; have := us_length s; omega
    · simp
  clear hD hgd her
  go_enter Tryd.func7, Tryd.ntmps7
  go_upto_region 2 with (go_at_call 9; (with_reducible refine (examples_c _ G.out).mono ?_); rintro e w1 ⟨rfl, h1⟩; have B1 : Hid (Below w.heap.size w w1) := h1; clear h1)
  go_upto_region 3 with (go_at_call 29; (with_reducible refine (hrd _ (by omega)).mono ?_); rintro e w2 ⟨v2, rfl, h2⟩; have O2 : Hid (OI w1 v2 D w2) := h2; clear h2)
  obtain ⟨q2, c2, rfl⟩ := ownsRow_shape O2.out.own
  have B2 : Hid (Below w.heap.size w w2) := chain B1.out O2.out.bel (Nat.le_refl _)
  have A2 : Hid (ArgI w2 (.slice q2 D.length c2) D) := own_arg O2.out.own
  clear O2
  go_wp2
  go_loopw [6] (fun i wr => ∃ k : Nat, k ≤ 2 ∧ i = .int .i64 (k : Int) ∧ Below w2.heap.size w2 wr) (fun i _ => 2 - (intOf i).toNat)
  case atStart => exact ⟨0, by omega, rfl, Below.refl _ _⟩
  case round =>
    obtain ⟨k, hk, rfl, hb⟩ := hrel
    have B : Hid (Below w2.heap.size w2 wr) := hb
    have hsz := hb.size
    clear hb
    by_cases hlt : k < 2
    · have i1 : (k : Int) < 2 := by omega
      have hwr : IntKind.wrap .i64 ((k : Int) + 1) = (k : Int) + 1 := wrap_small _ (by omega) (by omega)
      go_upto_region 7 with (go_at_call 17; (with_reducible refine (hdc _ (by omega)).mono ?_); rintro e w3 ⟨v3, rfl, o3, h3⟩; have O3 : Hid (w3.ownsRow wr.heap.size 3 1 v3 D.length (ints D)) := o3; have B3 : Hid (Below w2.heap.size w2 w3) := chain B.out h3 (Nat.le_refl _); clear o3 h3)
      have A3 : Hid (ArgI w3 v3 D) := own_arg O3.out
      have A4 : Hid (ArgI w3 (.slice q2 D.length c2) D) := A2.out.below B3.out rfl
      go_upto_region 8 with (go_at_call 18; (refine (same_same A3.out A4.out).mono ?_); rintro e w4 ⟨rfl, h4⟩; have O4 : Hid (w4.ownsRow wr.heap.size 3 1 v3 D.length (ints D)) := ownsRow_fr O3.out (Fr.of_below (S := fun _ => False) h4) (fun _ _ q => q); have B4 : Hid (Below w2.heap.size w2 w4) := chain B3.out h4 (Nat.le_refl _); clear h4)
      clear O3 A3 A4
      obtain ⟨nb, hnb⟩ : ∃ nb, wr.heap.size = nb := ⟨_, rfl⟩
      rw [hnb] at O4 hsz
      clear hnb
      obtain ⟨q4, c4, rfl⟩ := ownsRow_shape O4.out
      rcases hge.out with ⟨e1, e2⟩ | ⟨e1, e2⟩
      all_goals
        subst e1 e2
        go_wp2
        go_loopw [10] (fun i wr => ∃ (j : Nat) (L : List Int), j ≤ D.length ∧ i = .int .i64 (j : Int) ∧ L.length = D.length ∧ wr.ownsRow nb 3 1 (.slice q4 D.length c4) D.length (ints L) ∧ Below w2.heap.size w2 wr) (fun i _ => D.length - (intOf i).toNat)
        case atStart => exact ⟨0, D, by omega, rfl, rfl, O4.out, B4.out⟩
        case round =>
          obtain ⟨j, L, hj, rfl, hL, hO, hB⟩ := hrel
          have O : Hid (wr.ownsRow nb 3 1 (.slice q4 D.length c4) D.length (ints L)) := hO
          have BB : Hid (Below w2.heap.size w2 wr) := hB
          clear hO hB
          by_cases hjl : j < D.length
          · have j1 : (j : Int) < (D.length : Int) := by omega
            have j0 : (0 : Int) ≤ (j : Int) := by omega
            have hwj : IntKind.wrap .i64 ((j : Int) + 1) = (j : Int) + 1 := wrap_small _ (by omega) (by omega)
            obtain ⟨g, cc, hgc⟩ := ownsRow_some O.out (by omega)
            injection hgc with hg1 _ hg2
            subst hg1 hg2
            obtain ⟨u, hu⟩ : ∃ u, L[j]? = some u := ⟨_, List.getElem?_eq_getElem (by omega)⟩
            have cj := ownsRow_cell O.out (ints_get hu)
            obtain ⟨hg, hgl, cur, hcur⟩ := ownsRow_at O.out (g := g) rfl
            have fj := frz_row hcur j
            have S : Hid ((wr.setCell ⟨g, j, none⟩ (.int .i64 (-5))).ownsRow nb 3 1 (.slice (some ⟨g, 0, none⟩) D.length c4) D.length (ints (L.set j (-5)))) := ownsRow_set O.out j (-5)
            have SB : Hid (Below w2.heap.size w2 (wr.setCell ⟨g, j, none⟩ (.int .i64 (-5)))) := ((Fr.of_below (S := fun _ => False) BB.out).setNew (p := ⟨g, j, none⟩) (by show w2.heap.size ≤ g; omega) _).below (Nat.le_refl _) (fun _ q => q.elim)
            have HL : Hid ((L.set j (-5)).length = D.length) := by show (L.set j (-5)).length = D.length; rw [List.length_set]; exact hL
            clear hcur
            go_wp2
            go_roundw
            case rel => exact ⟨j + 1, L.set j (-5), by omega, by go_num, HL.out, S.out, SB.out⟩
            case measure => simp only [intOf]; omega
          · have j1 : ¬ (j : Int) < (D.length : Int) := by omega
            go_wp2
            go_roundw
            case rel => exact ⟨k + 1, by omega, by go_num, BB.out⟩
            case measure => simp only [intOf]; omega
    · have i1 : ¬ (k : Int) < 2 := by omega
      go_wp2
      go_ret
      exact ⟨rfl, chainF B2.out (Fr.of_below (S := fun _ => False) B.out) (Nat.le_refl _) (fun _ q => q.elim)⟩
end Go.Proofs.YtihmnibopeljaaaDoor
