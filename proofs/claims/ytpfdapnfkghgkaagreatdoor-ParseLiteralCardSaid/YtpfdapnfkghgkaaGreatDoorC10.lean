/-
  What fields a node of a kind has.
-/
import Derived.Test.YtpfdapnfkghgkaaGreatDoorC3
import Derived.Test.YtpfdapnfkghgkaaGreatDoorC9
namespace Go.Proofs.YtpfdapnfkghgkaaGreatDoor
open Go Go.RowKit
attribute [local go_sem] ext_cell

/-- A class of the mode, with both cases where it folds. -/
def setM (c f : Bool) (L : List (Int × Int)) : Prop := IsC L (fun x => In L x ∧ isChar c x) ∧ (f = true → ∀ x, In L x ↔ foldP L x)
theorem setM_len {c : Bool} {L : List (Int × Int)} (h : IsC L (fun x => In L x ∧ isChar c x)) : L.length ≤ 600000 := char_len (m := c) h (fun _ q => q.2)

set_option maxHeartbeats 2000000 in
theorem rightSet_c {w : World} {q : Option Addr} {k : Nat} {L : List (Int × Int)} (c f : Bool) (h : ArgR w (.slice q L.length k) L) (hF : Fit L) (hl : L.length + 3 ≤ 8796093022208) :
    Calls Tryz.prog 88 #[.slice q L.length k, .agg #[.bool c, .bool f]] w fun e w' => ∃ r : Bool, e = .returned (.bool r) ∧ (r = true ↔ setM c f L) ∧ Below w.heap.size w w' := by
  have H := hide h
  have B1 : Hid (Below w.heap.size w (w.alloc (.cells #[.bool c, .bool f] 23))) := (Below.refl _ _).alloc (Nat.le_refl _) _
  have N1 := alloc_new w (.cells #[.bool c, .bool f] 23)
  have m0 : (w.alloc (.cells #[.bool c, .bool f] 23)).cell? ⟨w.heap.size, 0, none⟩ = some (.bool c) := cell_row N1 (i := 0) rfl
  clear h
  by_cases hc : IsC L (fun x => In L x ∧ isChar c x)
  · have hlen := setM_len hc
    have HC := hide hc
    have HR : Hid (∀ W : World, Below w.heap.size w W → Calls Tryz.prog 114 #[.slice q L.length k, .bool c] W fun e w' => e = .returned (.bool true) ∧ Below W.heap.size W w') := fun W hW => (right_c (m := c) (H.out.kept hW) hF hl).mono fun e w' ⟨b, h1, h2, h3⟩ => ⟨by rw [h1, h2.2 HC.out], h3⟩
    clear hc
    cases f with
    | false =>
      go_enter Tryz.func88, Tryz.ntmps88
      go_wp2_with (go_at_call 114; (with_reducible refine (HR.out _ B1.out).mono ?_); rintro e w2 ⟨rfl, h2⟩; have B2 : Hid (Below w.heap.size w w2) := chain B1.out h2 (Nat.le_refl _); have m1 : w2.cell? ⟨w.heap.size, 1, none⟩ = some (.bool false) := (h2.cell (p := ⟨w.heap.size, 1, none⟩) (lt_of_heap N1)).trans (cell_row N1 (i := 1) rfl); clear h2)
      go_ret
      exact ⟨true, rfl, by simp [setM, HC.out], B2.out⟩
    | true =>
      go_enter Tryz.func88, Tryz.ntmps88
      go_wp2_with first | (go_at_call 114; (with_reducible refine (HR.out _ B1.out).mono ?_); rintro e w2 ⟨rfl, h2⟩; have B2 : Hid (Below w.heap.size w w2) := chain B1.out h2 (Nat.le_refl _); have m1 : w2.cell? ⟨w.heap.size, 1, none⟩ = some (.bool true) := (h2.cell (p := ⟨w.heap.size, 1, none⟩) (lt_of_heap N1)).trans (cell_row N1 (i := 1) rfl); clear h2) | (go_at_call 70; (with_reducible refine (fold_c (H.out.kept B2.out) hF (by omega)).mono ?_); rintro e w3 ⟨v3, C3, rfl, h31, h32, h33, h34⟩; obtain ⟨q3, c3, rfl⟩ := h31.shape; have X3 : Hid (RR w2.heap.size w3 (.slice q3 C3.length c3) C3 ∧ IsC C3 (foldP L) ∧ C3.length ≤ 3 * L.length + 2 ∧ Below w.heap.size w w3) := ⟨h31, h32, h33, chain B2.out h34 (Nat.le_refl _)⟩; clear h31 h32 h33 h34) | (go_at_call 115; (with_reducible refine (same_c (H.out.kept X3.out.2.2.2) X3.out.1.arg hF X3.out.2.1.fit (by omega) (by have := X3.out.2.2.1; omega)).mono ?_); rintro e w4 ⟨r4, rfl, h41, h42⟩; have X4 : Hid ((r4 = true ↔ ∀ x, In L x ↔ In C3 x) ∧ Below w.heap.size w w4) := ⟨h41, chain X3.out.2.2.2 h42 (Nat.le_refl _)⟩; clear h41 h42)
      go_ret
      refine ⟨r4, rfl, ?_, X4.out.2⟩
      rw [X4.out.1]
      unfold setM
      constructor
      · intro h
        exact ⟨HC.out, fun _ x => (h x).trans (X3.out.2.1.mem x)⟩
      · intro h x
        exact (h.2 rfl x).trans (X3.out.2.1.mem x).symm
  · have HC := hide hc
    have HR : Hid (∀ W : World, Below w.heap.size w W → Calls Tryz.prog 114 #[.slice q L.length k, .bool c] W fun e w' => e = .returned (.bool false) ∧ Below W.heap.size W w') := fun W hW => (right_c (m := c) (H.out.kept hW) hF hl).mono fun e w' ⟨b, h1, h2, h3⟩ => ⟨by
      cases b with
      | false => exact h1
      | true => exact absurd (h2.1 rfl) HC.out, h3⟩
    clear hc
    go_enter Tryz.func88, Tryz.ntmps88
    go_wp2_with (go_at_call 114; (with_reducible refine (HR.out _ B1.out).mono ?_); rintro e w2 ⟨rfl, h2⟩; have B2 : Hid (Below w.heap.size w w2) := chain B1.out h2 (Nat.le_refl _); clear h2)
    go_ret
    exact ⟨false, rfl, by simp [setM, HC.out], B2.out⟩

/-- The fields of a node, its Kids aside: g is the number that it would have as a group. -/
def fieldsM (c f : Bool) (g : Int) (F : Fl) : Prop :=
  if F.k = 2 then setM c f F.rs ∧ F.n = 0 ∧ F.mn = 0 ∧ F.mx = 0
  else if F.k = 7 then F.n = g ∧ F.mn = 0 ∧ F.mx = 0 ∧ F.rs.length = 0
  else if F.k = 8 then (1 ≤ F.n ∧ F.n ≤ 9) ∧ F.mn = 0 ∧ F.mx = 0 ∧ F.rs.length = 0
  else if F.k = 9 then bndB F.mn F.mx = true ∧ F.n = 0 ∧ F.rs.length = 0
  else F.n = 0 ∧ F.mn = 0 ∧ F.mx = 0 ∧ F.rs.length = 0
theorem bel_set {n : Nat} {w W : World} (h : Below n w W) {b : Nat} (hb : n ≤ b) (j : Nat) (u : Value) (hn : n ≤ w.heap.size) : Below n w (W.setCell ⟨b, j, none⟩ u) :=
  chainF h (S := fun z => z = b) ((Fr.refl (fun z => z = b) W).setCell (p := ⟨b, j, none⟩) rfl u) hn (fun k e => by omega)
set_option maxHeartbeats 8000000 in
theorem rightFields_c {w : World} (F : Fl) (c f : Bool) (g : Int) (h : ArgR w (.slice F.rq F.rs.length F.rc) F.rs) (hF : Fit F.rs) (hl : F.rs.length + 3 ≤ 8796093022208) :
    Calls Tryz.prog 60 #[.agg #[.int .i64 F.k, .int .i64 F.n, .int .i64 F.mn, .int .i64 F.mx, .slice F.rq F.rs.length F.rc, .slice F.kq F.kl F.kc], .agg #[.bool c, .bool f], .int .i64 g] w fun e w' => ∃ r : Bool, e = .returned (.bool r) ∧ (r = true ↔ fieldsM c f g F) ∧ Below w.heap.size w w' := by
  obtain ⟨r, hr⟩ : ∃ r : Bool, r = true ↔ fieldsM c f g F := ⟨@decide (fieldsM c f g F) (Classical.propDecidable _), by simp⟩
  suffices hs : Calls Tryz.prog 60 #[.agg #[.int .i64 F.k, .int .i64 F.n, .int .i64 F.mn, .int .i64 F.mx, .slice F.rq F.rs.length F.rc, .slice F.kq F.kl F.kc], .agg #[.bool c, .bool f], .int .i64 g] w fun e w' => e = .returned (.bool r) ∧ Below w.heap.size w w' from hs.mono fun e w' ⟨h1, h2⟩ => ⟨r, h1, hr, h2⟩
  have HR := hide hr
  clear hr
  have B1 : Hid (Below w.heap.size w ((w.alloc (.cells #[.int .i64 F.k, .int .i64 F.n, .int .i64 F.mn, .int .i64 F.mx, .slice F.rq F.rs.length F.rc, .slice F.kq F.kl F.kc] 28)).alloc (.cells #[.bool c, .bool f] 23))) := ((Below.refl _ _).alloc (Nat.le_refl _) _).alloc (by simp) _
  have N1 : Hid (BoxN ((w.alloc (.cells #[.int .i64 F.k, .int .i64 F.n, .int .i64 F.mn, .int .i64 F.mx, .slice F.rq F.rs.length F.rc, .slice F.kq F.kl F.kc] 28)).alloc (.cells #[.bool c, .bool f] 23)) w.heap.size F) := (Below.heap_alloc _ _ _ (by simp)).trans (alloc_new w _)
  have M1 : Hid (((w.alloc (.cells #[.int .i64 F.k, .int .i64 F.n, .int .i64 F.mn, .int .i64 F.mx, .slice F.rq F.rs.length F.rc, .slice F.kq F.kl F.kc] 28)).alloc (.cells #[.bool c, .bool f] 23)).heap[w.heap.size + 1]? = some (.cells #[.bool c, .bool f] 23 (0, 0))) := (by
    have := alloc_new (w.alloc (.cells #[.int .i64 F.k, .int .i64 F.n, .int .i64 F.mn, .int .i64 F.mx, .slice F.rq F.rs.length F.rc, .slice F.kq F.kl F.kc] 28)) (.cells #[.bool c, .bool f] 23)
    rwa [World.size_alloc] at this)
  have H := hide h
  obtain ⟨k, n, mn, mx, rs, rq, rc, kq, kl, kc⟩ := F
  dsimp only at *
  have m0 : ((w.alloc (.cells #[.int .i64 k, .int .i64 n, .int .i64 mn, .int .i64 mx, .slice rq rs.length rc, .slice kq kl kc] 28)).alloc (.cells #[.bool c, .bool f] 23)).cell? ⟨w.heap.size + 1, 0, none⟩ = some (.bool c) := cell_row M1.out (i := 0) rfl
  have m1 : ((w.alloc (.cells #[.int .i64 k, .int .i64 n, .int .i64 mn, .int .i64 mx, .slice rq rs.length rc, .slice kq kl kc] 28)).alloc (.cells #[.bool c, .bool f] 23)).cell? ⟨w.heap.size + 1, 1, none⟩ = some (.bool f) := cell_row M1.out (i := 1) rfl
  obtain ⟨c0, c1, c2, c3, c4, c5⟩ := N1.out.six
  simp only [Nat.zero_add] at c1 c2 c3 c4 c5
  have fz := fun j => frz_row N1.out j
  have ln := lt_of_heap N1.out
  clear h
  by_cases k2 : k = 2
  · subst k2
    by_cases z0 : setM c f rs
    · have HS : Hid (∀ W : World, Below w.heap.size w W → Calls Tryz.prog 88 #[.slice rq rs.length rc, .agg #[.bool c, .bool f]] W fun e w' => e = .returned (.bool true) ∧ Below W.heap.size W w') := fun W hW => (rightSet_c c f (H.out.kept hW) hF hl).mono fun e w' ⟨b, h1, h2, h3⟩ => ⟨by rw [h1]; cases b <;> simp_all, h3⟩
      by_cases z1 : n = 0
      · subst z1
        by_cases z2 : mn = 0
        · subst z2
          by_cases z3 : mx = 0
          · subst z3
            have R : r = true := HR.out.2 (by unfold fieldsM; simp_all)
            subst R
            go_enter Tryz.func60, Tryz.ntmps60
            go_wp2_with (go_at_call 88; (with_reducible refine (HS.out _ B1.out).mono ?_); rintro e w2 ⟨rfl, h2⟩; have B2 : Hid (Below w.heap.size w (w2.setCell ⟨w.heap.size, 4, none⟩ (.slice none 0 0))) := bel_set (chain B1.out h2 (Nat.le_refl _)) (Nat.le_refl _) _ _ (Nat.le_refl _); have N2 : BoxN w2 w.heap.size _ := (h2.block _ (lt_of_heap N1.out)).trans N1.out; obtain ⟨d0, d1, d2, d3, d4, d5⟩ := N2.six; simp only [Nat.zero_add] at d1 d2 d3 d4 d5; have gz := frz_row N2 4; have p1 := cell_off (j := 4) (u := .slice none 0 0) d1 (by decide); have p2 := cell_off (j := 4) (u := .slice none 0 0) d2 (by decide); have p3 := cell_off (j := 4) (u := .slice none 0 0) d3 (by decide); have p4 := World.cell?_setCell_same w2 ⟨w.heap.size, 4, none⟩ (.slice none 0 0) d4; have ln2 := lt_of_heap N2; clear h2 N2)
            go_ret
            exact ⟨rfl, B2.out⟩
          · have R : r = false := (by cases r with | false => rfl | true => exact absurd (HR.out.1 rfl) (by unfold fieldsM; simp_all <;> omega))
            subst R
            have ez3 : (mx == 0) = false := by simpa using z3
            go_enter Tryz.func60, Tryz.ntmps60
            go_wp2_with (go_at_call 88; (with_reducible refine (HS.out _ B1.out).mono ?_); rintro e w2 ⟨rfl, h2⟩; have B2 : Hid (Below w.heap.size w (w2.setCell ⟨w.heap.size, 4, none⟩ (.slice none 0 0))) := bel_set (chain B1.out h2 (Nat.le_refl _)) (Nat.le_refl _) _ _ (Nat.le_refl _); have N2 : BoxN w2 w.heap.size _ := (h2.block _ (lt_of_heap N1.out)).trans N1.out; obtain ⟨d0, d1, d2, d3, d4, d5⟩ := N2.six; simp only [Nat.zero_add] at d1 d2 d3 d4 d5; have gz := frz_row N2 4; have p1 := cell_off (j := 4) (u := .slice none 0 0) d1 (by decide); have p2 := cell_off (j := 4) (u := .slice none 0 0) d2 (by decide); have p3 := cell_off (j := 4) (u := .slice none 0 0) d3 (by decide); have p4 := World.cell?_setCell_same w2 ⟨w.heap.size, 4, none⟩ (.slice none 0 0) d4; have ln2 := lt_of_heap N2; clear h2 N2)
            go_ret
            exact ⟨rfl, B2.out⟩
        · have R : r = false := (by cases r with | false => rfl | true => exact absurd (HR.out.1 rfl) (by unfold fieldsM; simp_all <;> omega))
          subst R
          have ez2 : (mn == 0) = false := by simpa using z2
          go_enter Tryz.func60, Tryz.ntmps60
          go_wp2_with (go_at_call 88; (with_reducible refine (HS.out _ B1.out).mono ?_); rintro e w2 ⟨rfl, h2⟩; have B2 : Hid (Below w.heap.size w (w2.setCell ⟨w.heap.size, 4, none⟩ (.slice none 0 0))) := bel_set (chain B1.out h2 (Nat.le_refl _)) (Nat.le_refl _) _ _ (Nat.le_refl _); have N2 : BoxN w2 w.heap.size _ := (h2.block _ (lt_of_heap N1.out)).trans N1.out; obtain ⟨d0, d1, d2, d3, d4, d5⟩ := N2.six; simp only [Nat.zero_add] at d1 d2 d3 d4 d5; have gz := frz_row N2 4; have p1 := cell_off (j := 4) (u := .slice none 0 0) d1 (by decide); have p2 := cell_off (j := 4) (u := .slice none 0 0) d2 (by decide); have p3 := cell_off (j := 4) (u := .slice none 0 0) d3 (by decide); have p4 := World.cell?_setCell_same w2 ⟨w.heap.size, 4, none⟩ (.slice none 0 0) d4; have ln2 := lt_of_heap N2; clear h2 N2)
          go_ret
          exact ⟨rfl, B2.out⟩
      · have R : r = false := (by cases r with | false => rfl | true => exact absurd (HR.out.1 rfl) (by unfold fieldsM; simp_all <;> omega))
        subst R
        have ez1 : (n == 0) = false := by simpa using z1
        go_enter Tryz.func60, Tryz.ntmps60
        go_wp2_with (go_at_call 88; (with_reducible refine (HS.out _ B1.out).mono ?_); rintro e w2 ⟨rfl, h2⟩; have B2 : Hid (Below w.heap.size w (w2.setCell ⟨w.heap.size, 4, none⟩ (.slice none 0 0))) := bel_set (chain B1.out h2 (Nat.le_refl _)) (Nat.le_refl _) _ _ (Nat.le_refl _); have N2 : BoxN w2 w.heap.size _ := (h2.block _ (lt_of_heap N1.out)).trans N1.out; obtain ⟨d0, d1, d2, d3, d4, d5⟩ := N2.six; simp only [Nat.zero_add] at d1 d2 d3 d4 d5; have gz := frz_row N2 4; have p1 := cell_off (j := 4) (u := .slice none 0 0) d1 (by decide); have p2 := cell_off (j := 4) (u := .slice none 0 0) d2 (by decide); have p3 := cell_off (j := 4) (u := .slice none 0 0) d3 (by decide); have p4 := World.cell?_setCell_same w2 ⟨w.heap.size, 4, none⟩ (.slice none 0 0) d4; have ln2 := lt_of_heap N2; clear h2 N2)
        go_ret
        exact ⟨rfl, B2.out⟩
    · have HS : Hid (∀ W : World, Below w.heap.size w W → Calls Tryz.prog 88 #[.slice rq rs.length rc, .agg #[.bool c, .bool f]] W fun e w' => e = .returned (.bool false) ∧ Below W.heap.size W w') := fun W hW => (rightSet_c c f (H.out.kept hW) hF hl).mono fun e w' ⟨b, h1, h2, h3⟩ => ⟨by rw [h1]; cases b <;> simp_all, h3⟩
      have R : r = false := (by cases r with | false => rfl | true => exact absurd (HR.out.1 rfl) (by unfold fieldsM; simp_all))
      subst R
      go_enter Tryz.func60, Tryz.ntmps60
      go_wp2_with (go_at_call 88; (with_reducible refine (HS.out _ B1.out).mono ?_); rintro e w2 ⟨rfl, h2⟩; have B2 : Hid (Below w.heap.size w (w2.setCell ⟨w.heap.size, 4, none⟩ (.slice none 0 0))) := bel_set (chain B1.out h2 (Nat.le_refl _)) (Nat.le_refl _) _ _ (Nat.le_refl _); have N2 : BoxN w2 w.heap.size _ := (h2.block _ (lt_of_heap N1.out)).trans N1.out; obtain ⟨d0, d1, d2, d3, d4, d5⟩ := N2.six; simp only [Nat.zero_add] at d1 d2 d3 d4 d5; have gz := frz_row N2 4; have p1 := cell_off (j := 4) (u := .slice none 0 0) d1 (by decide); have p2 := cell_off (j := 4) (u := .slice none 0 0) d2 (by decide); have p3 := cell_off (j := 4) (u := .slice none 0 0) d3 (by decide); have p4 := World.cell?_setCell_same w2 ⟨w.heap.size, 4, none⟩ (.slice none 0 0) d4; have ln2 := lt_of_heap N2; clear h2 N2)
      go_ret
      exact ⟨rfl, B2.out⟩
  · have eb2 : (k == 2) = false := by simpa using k2
    by_cases k7 : k = 7
    · subst k7
      have p1 := World.cell?_setCell_same _ _ (.int .i64 0) c1
      have p2 := cell_off (j := 1) (u := .int .i64 0) c2 (by decide)
      have p3 := cell_off (j := 1) (u := .int .i64 0) c3 (by decide)
      have p4 := cell_off (j := 1) (u := .int .i64 0) c4 (by decide)
      by_cases z0 : n = g
      · subst z0
        by_cases z2 : mn = 0
        · subst z2
          by_cases z3 : mx = 0
          · subst z3
            by_cases z4 : rs.length = 0
            · obtain rfl := List.eq_nil_of_length_eq_zero z4
              have R : r = true := HR.out.2 (by unfold fieldsM; simp_all)
              subst R
              go_enter Tryz.func60, Tryz.ntmps60
              go_wp2
              go_ret
              exact ⟨rfl, ((Below.refl _ _).alloc (Nat.le_refl _) _).alloc (by simp) _⟩
            · have R : r = false := (by cases r with | false => rfl | true => exact absurd (HR.out.1 rfl) (by unfold fieldsM; simp_all <;> omega))
              subst R
              have el : ((rs.length : Int) == 0) = false := by simpa using z4
              go_enter Tryz.func60, Tryz.ntmps60
              go_wp2
              go_ret
              exact ⟨rfl, ((Below.refl _ _).alloc (Nat.le_refl _) _).alloc (by simp) _⟩
          · have R : r = false := (by cases r with | false => rfl | true => exact absurd (HR.out.1 rfl) (by unfold fieldsM; simp_all <;> omega))
            subst R
            have ez3 : (mx == 0) = false := by simpa using z3
            go_enter Tryz.func60, Tryz.ntmps60
            go_wp2
            go_ret
            exact ⟨rfl, ((Below.refl _ _).alloc (Nat.le_refl _) _).alloc (by simp) _⟩
        · have R : r = false := (by cases r with | false => rfl | true => exact absurd (HR.out.1 rfl) (by unfold fieldsM; simp_all <;> omega))
          subst R
          have ez2 : (mn == 0) = false := by simpa using z2
          go_enter Tryz.func60, Tryz.ntmps60
          go_wp2
          go_ret
          exact ⟨rfl, ((Below.refl _ _).alloc (Nat.le_refl _) _).alloc (by simp) _⟩
      · have R : r = false := (by cases r with | false => rfl | true => exact absurd (HR.out.1 rfl) (by unfold fieldsM; simp_all <;> omega))
        subst R
        have e0 : (n == g) = false := by simpa using z0
        go_enter Tryz.func60, Tryz.ntmps60
        go_wp2
        go_ret
        exact ⟨rfl, ((Below.refl _ _).alloc (Nat.le_refl _) _).alloc (by simp) _⟩
    · have eb7 : (k == 7) = false := by simpa using k7
      by_cases k8 : k = 8
      · subst k8
        have p1 := World.cell?_setCell_same _ _ (.int .i64 0) c1
        have p2 := cell_off (j := 1) (u := .int .i64 0) c2 (by decide)
        have p3 := cell_off (j := 1) (u := .int .i64 0) c3 (by decide)
        have p4 := cell_off (j := 1) (u := .int .i64 0) c4 (by decide)
        by_cases z0 : 1 ≤ n
        · skip
          by_cases z1 : n ≤ 9
          · skip
            by_cases z2 : mn = 0
            · subst z2
              by_cases z3 : mx = 0
              · subst z3
                by_cases z4 : rs.length = 0
                · obtain rfl := List.eq_nil_of_length_eq_zero z4
                  have R : r = true := HR.out.2 (by unfold fieldsM; simp_all)
                  subst R
                  go_enter Tryz.func60, Tryz.ntmps60
                  go_wp2
                  go_ret
                  exact ⟨rfl, ((Below.refl _ _).alloc (Nat.le_refl _) _).alloc (by simp) _⟩
                · have R : r = false := (by cases r with | false => rfl | true => exact absurd (HR.out.1 rfl) (by unfold fieldsM; simp_all <;> omega))
                  subst R
                  have el : ((rs.length : Int) == 0) = false := by simpa using z4
                  go_enter Tryz.func60, Tryz.ntmps60
                  go_wp2
                  go_ret
                  exact ⟨rfl, ((Below.refl _ _).alloc (Nat.le_refl _) _).alloc (by simp) _⟩
              · have R : r = false := (by cases r with | false => rfl | true => exact absurd (HR.out.1 rfl) (by unfold fieldsM; simp_all <;> omega))
                subst R
                have ez3 : (mx == 0) = false := by simpa using z3
                go_enter Tryz.func60, Tryz.ntmps60
                go_wp2
                go_ret
                exact ⟨rfl, ((Below.refl _ _).alloc (Nat.le_refl _) _).alloc (by simp) _⟩
            · have R : r = false := (by cases r with | false => rfl | true => exact absurd (HR.out.1 rfl) (by unfold fieldsM; simp_all <;> omega))
              subst R
              have ez2 : (mn == 0) = false := by simpa using z2
              go_enter Tryz.func60, Tryz.ntmps60
              go_wp2
              go_ret
              exact ⟨rfl, ((Below.refl _ _).alloc (Nat.le_refl _) _).alloc (by simp) _⟩
          · have R : r = false := (by cases r with | false => rfl | true => exact absurd (HR.out.1 rfl) (by unfold fieldsM; simp_all <;> omega))
            subst R
            go_enter Tryz.func60, Tryz.ntmps60
            go_wp2
            go_ret
            exact ⟨rfl, ((Below.refl _ _).alloc (Nat.le_refl _) _).alloc (by simp) _⟩
        · have R : r = false := (by cases r with | false => rfl | true => exact absurd (HR.out.1 rfl) (by unfold fieldsM; simp_all <;> omega))
          subst R
          go_enter Tryz.func60, Tryz.ntmps60
          go_wp2
          go_ret
          exact ⟨rfl, ((Below.refl _ _).alloc (Nat.le_refl _) _).alloc (by simp) _⟩
      · have eb8 : (k == 8) = false := by simpa using k8
        by_cases k9 : k = 9
        · subst k9
          have p2 := cell_off (j := 3) (u := .int .i64 0) (World.cell?_setCell_same _ _ (.int .i64 0) c2) (by decide)
          have q3 := cell_off (j := 2) (u := .int .i64 0) c3 (by decide)
          have p3 := World.cell?_setCell_same _ _ (.int .i64 0) q3
          have p1 := cell_off (j := 3) (u := .int .i64 0) (cell_off (j := 2) (u := .int .i64 0) c1 (by decide)) (by decide)
          have p4 := cell_off (j := 3) (u := .int .i64 0) (cell_off (j := 2) (u := .int .i64 0) c4 (by decide)) (by decide)
          have HB := hide (rightBounds_c mn mx)
          obtain ⟨bb, hbb⟩ : ∃ bb, bndB mn mx = bb := ⟨_, rfl⟩
          rw [hbb] at HB
          cases bb with
          | true =>
            by_cases z1 : n = 0
            · subst z1
              by_cases z4 : rs.length = 0
              · obtain rfl := List.eq_nil_of_length_eq_zero z4
                have R : r = true := HR.out.2 (by unfold fieldsM; simp_all)
                subst R
                go_enter Tryz.func60, Tryz.ntmps60
                go_wp2_with (go_at_call 34; (with_reducible refine (HB.out _).mono ?_); rintro e w5 ⟨rfl, h5⟩; subst w5)
                go_ret
                exact ⟨rfl, ((Below.refl _ _).alloc (Nat.le_refl _) _).alloc (by simp) _⟩
              · have R : r = false := (by cases r with | false => rfl | true => exact absurd (HR.out.1 rfl) (by unfold fieldsM; simp_all <;> omega))
                subst R
                have el : ((rs.length : Int) == 0) = false := by simpa using z4
                go_enter Tryz.func60, Tryz.ntmps60
                go_wp2_with (go_at_call 34; (with_reducible refine (HB.out _).mono ?_); rintro e w5 ⟨rfl, h5⟩; subst w5)
                go_ret
                exact ⟨rfl, ((Below.refl _ _).alloc (Nat.le_refl _) _).alloc (by simp) _⟩
            · have R : r = false := (by cases r with | false => rfl | true => exact absurd (HR.out.1 rfl) (by unfold fieldsM; simp_all <;> omega))
              subst R
              have ez1 : (n == 0) = false := by simpa using z1
              go_enter Tryz.func60, Tryz.ntmps60
              go_wp2_with (go_at_call 34; (with_reducible refine (HB.out _).mono ?_); rintro e w5 ⟨rfl, h5⟩; subst w5)
              go_ret
              exact ⟨rfl, ((Below.refl _ _).alloc (Nat.le_refl _) _).alloc (by simp) _⟩
          | false =>
            have R : r = false := (by cases r with | false => rfl | true => exact absurd (HR.out.1 rfl) (by unfold fieldsM; simp_all))
            subst R
            go_enter Tryz.func60, Tryz.ntmps60
            go_wp2_with (go_at_call 34; (with_reducible refine (HB.out _).mono ?_); rintro e w5 ⟨rfl, h5⟩; subst w5)
            go_ret
            exact ⟨rfl, ((Below.refl _ _).alloc (Nat.le_refl _) _).alloc (by simp) _⟩
        · have eb9 : (k == 9) = false := by simpa using k9
          by_cases z1 : n = 0
          · subst z1
            by_cases z2 : mn = 0
            · subst z2
              by_cases z3 : mx = 0
              · subst z3
                by_cases z4 : rs.length = 0
                · obtain rfl := List.eq_nil_of_length_eq_zero z4
                  have R : r = true := HR.out.2 (by unfold fieldsM; simp_all)
                  subst R
                  go_enter Tryz.func60, Tryz.ntmps60
                  go_wp2
                  go_ret
                  exact ⟨rfl, B1.out⟩
                · have R : r = false := (by cases r with | false => rfl | true => exact absurd (HR.out.1 rfl) (by unfold fieldsM; simp_all <;> omega))
                  subst R
                  have el : ((rs.length : Int) == 0) = false := by simpa using z4
                  go_enter Tryz.func60, Tryz.ntmps60
                  go_wp2
                  go_ret
                  exact ⟨rfl, B1.out⟩
              · have R : r = false := (by cases r with | false => rfl | true => exact absurd (HR.out.1 rfl) (by unfold fieldsM; simp_all <;> omega))
                subst R
                have ez3 : (mx == 0) = false := by simpa using z3
                go_enter Tryz.func60, Tryz.ntmps60
                go_wp2
                go_ret
                exact ⟨rfl, B1.out⟩
            · have R : r = false := (by cases r with | false => rfl | true => exact absurd (HR.out.1 rfl) (by unfold fieldsM; simp_all <;> omega))
              subst R
              have ez2 : (mn == 0) = false := by simpa using z2
              go_enter Tryz.func60, Tryz.ntmps60
              go_wp2
              go_ret
              exact ⟨rfl, B1.out⟩
          · have R : r = false := (by cases r with | false => rfl | true => exact absurd (HR.out.1 rfl) (by unfold fieldsM; simp_all <;> omega))
            subst R
            have ez1 : (n == 0) = false := by simpa using z1
            go_enter Tryz.func60, Tryz.ntmps60
            go_wp2
            go_ret
            exact ⟨rfl, B1.out⟩
end Go.Proofs.YtpfdapnfkghgkaaGreatDoor
