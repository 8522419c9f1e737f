/-
  LexerStands: the tokens stand one behind the other.
-/
import Derived.Test.YtloeajhmmjdlgaaDoorC19
namespace Go.Proofs.YtloeajhmmjdlgaaDoor
open Go Go.RowKit
attribute [local go_sem] ext_cell

theorem TL.cell {base : Nat} {w : World} {g c : Nat} {D : List Dt} (h : TL base w (.slice (some ⟨g, 0, none⟩) D.length c) D) {i : Nat} {d : Dt} (hd : D[i]? = some d) {j : Nat} {u : Value} (hj : (tc d)[j]? = some u) : w.cell? ⟨g, i * 7 + j, none⟩ = some u := by
  have h7 : j < 7 := by have := (List.getElem?_eq_some_iff.1 hj).1; rwa [tc_length] at this
  exact ownsRow_cell h.own ((tcs_get D i d j hd h7).trans hj)
theorem tk_of {D : List Dt} {T : List Tp} (hT : D.map Prod.fst = T) {i : Nat} {d : Dt} (hd : D[i]? = some d) : T[i]? = some d.1 := by rw [← hT, List.getElem?_map, hd]; rfl
theorem len_of {D : List Dt} {T : List Tp} (hT : D.map Prod.fst = T) : T.length = D.length := by rw [← hT, List.length_map]
abbrev boxM (w : World) (m : Md) : World := w.alloc (.cells #[.bool m.c, .bool m.f] 23)
theorem below_box (w : World) (m : Md) : Below w.heap.size w (boxM w m) := (Below.refl _ _).alloc (Nat.le_refl _) _

set_option maxRecDepth 100000 in
set_option maxHeartbeats 4000000 in
theorem law_stands {w : World} (hG : Glb w) (s : ByteArray) (m : Md) : Calls Tryd.prog 3 #[.string s, .agg #[.bool m.c, .bool m.f]] w fun e w' => e = .returned (.bool true) ∧ Below w.heap.size w w' := by
  have GL : Hid (Glb w) := hG
  have BX : Hid (Below w.heap.size w (boxM w m)) := below_box w m
  have HE : Hid (∀ W, Below w.heap.size w W → Calls Tryd.prog 7 #[] W fun e w' => e = .returned (.bool true) ∧ Below W.heap.size W w') := fun W hW => examples_c (GL.out.kept hW)
  have HL : Hid (∀ W, Below w.heap.size w W → Calls Tryd.prog 8 #[.string s, .agg #[.bool m.c, .bool m.f]] W (LexIs W (lexM m s))) := fun W hW => lex_c (GL.out.kept hW) s m
  have hends := lexM_ends m s
  have k0 : Hid ((boxM w m).cell? ⟨w.heap.size, 0, none⟩ = some (.bool m.c) ∧ (boxM w m).cell? ⟨w.heap.size, 1, none⟩ = some (.bool m.f) ∧ w.heap.size < (boxM w m).heap.size) := ⟨cell_row (alloc_new w _) (i := 0) rfl, cell_row (alloc_new w _) (i := 1) rfl, lt_of_heap (alloc_new w _)⟩
  clear hG
  cases hr : lexM m s with
  | error x =>
    obtain ⟨c, a⟩ := x
    rw [hr] at hends HL
    obtain ⟨hc, ha⟩ := hends
    have n0 : ((c : Int) == 0) = false := by simp; omega
    have n1 : (0 : Int) ≤ (a : Int) := by omega
    have n2 : (a : Int) ≤ (s.size : Int) := by omega
    rcases hc with rfl | ⟨hc1, hc2⟩
    · go_enter Tryd.func3, Tryd.ntmps3
      go_wp2_with first
        | (go_at_call 7; (with_reducible refine (HE.out _ BX.out).mono ?_); rintro e w5 ⟨rfl, h1⟩; have X5 : Hid (Below w.heap.size w w5) := chain BX.out h1 (Nat.le_refl _); have c0 := (h1.cell (p := ⟨w.heap.size, 0, none⟩) k0.out.2.2).trans k0.out.1; have c1 := (h1.cell (p := ⟨w.heap.size, 1, none⟩) k0.out.2.2).trans k0.out.2.1; clear h1)
        | (go_at_call 8; (with_reducible refine (HL.out _ X5.out).mono ?_); rintro e w6 ⟨h1, g, h2, rfl, h4⟩; have X6 : Hid (Below w.heap.size w w6 ∧ BadAt w6 g 20 a) := ⟨chain X5.out h1 (Nat.le_refl _), h4⟩; clear h1 h2 h4)
        | (go_at_call 9; (with_reducible refine (told_bad X6.out.2).mono ?_); rintro e w7 ⟨rfl, h1⟩; have X7 : Hid (Below w.heap.size w w7) := chain X6.out.1 h1 (Nat.le_refl _); clear h1)
      go_ret
      exact ⟨rfl, X7.out⟩
    · have n3 : ((c : Int) == 20) = false := by simp; omega
      have n4 : (30 : Int) ≤ (c : Int) := by omega
      have n5 : (c : Int) ≤ 38 := by omega
      go_enter Tryd.func3, Tryd.ntmps3
      go_wp2_with first
        | (go_at_call 7; (with_reducible refine (HE.out _ BX.out).mono ?_); rintro e w5 ⟨rfl, h1⟩; have X5 : Hid (Below w.heap.size w w5) := chain BX.out h1 (Nat.le_refl _); have c0 := (h1.cell (p := ⟨w.heap.size, 0, none⟩) k0.out.2.2).trans k0.out.1; have c1 := (h1.cell (p := ⟨w.heap.size, 1, none⟩) k0.out.2.2).trans k0.out.2.1; clear h1)
        | (go_at_call 8; (with_reducible refine (HL.out _ X5.out).mono ?_); rintro e w6 ⟨h1, g, h2, rfl, h4⟩; have X6 : Hid (Below w.heap.size w w6 ∧ BadAt w6 g c a) := ⟨chain X5.out h1 (Nat.le_refl _), h4⟩; clear h1 h2 h4)
        | (go_at_call 9; (with_reducible refine (told_bad X6.out.2).mono ?_); rintro e w7 ⟨rfl, h1⟩; have X7 : Hid (Below w.heap.size w w7) := chain X6.out.1 h1 (Nat.le_refl _); clear h1)
      go_ret
      exact ⟨rfl, X7.out⟩
  | ok T =>
    rw [hr] at hends HL
    have ST : Hid (Stands s T s.size) := hends
    have hfew := hends.few
    clear hends
    go_enter Tryd.func3, Tryd.ntmps3
    go_wp2_with first
      | (go_at_call 7; (with_reducible refine (HE.out _ BX.out).mono ?_); rintro e w5 ⟨rfl, h1⟩; have X5 : Hid (Below w.heap.size w w5) := chain BX.out h1 (Nat.le_refl _); have c0 := (h1.cell (p := ⟨w.heap.size, 0, none⟩) k0.out.2.2).trans k0.out.1; have c1 := (h1.cell (p := ⟨w.heap.size, 1, none⟩) k0.out.2.2).trans k0.out.2.1; clear h1)
      | (go_at_call 8; (with_reducible refine (HL.out _ X5.out).mono ?_); rintro e w6 ⟨h1, v6, D, rfl, h2, h4⟩; obtain ⟨q6, k6, rfl⟩ := ownsRow_shape h2.own; have X6 : Hid (Below w.heap.size w w6 ∧ TL w5.heap.size w6 (.slice q6 D.length k6) D ∧ D.map Prod.fst = T) := ⟨chain X5.out h1 (Nat.le_refl _), h2, h4⟩; clear h1 h2 h4)
      | (go_at_call 9; (with_reducible refine (told_nil _).mono ?_); rintro e w7 ⟨rfl, h1⟩; have X7 : Hid (Below w.heap.size w w7 ∧ TL w5.heap.size w7 (.slice q6 D.length k6) D) := ⟨chain X6.out.1 h1 (Nat.le_refl _), X6.out.2.1.kept h1⟩; clear h1)
    have hl := len_of X6.out.2.2
    go_loopw [11, 12] (fun p i wr => ∃ k : Nat, k ≤ D.length ∧ p = .int .i64 (plc T k : Int) ∧ i = .int .i64 (k : Int) ∧ wr = w7) (fun _ i _ => D.length - (intOf i).toNat)
    case atStart => exact ⟨0, Nat.zero_le _, rfl, rfl, rfl⟩
    case round =>
      obtain ⟨k, hk, rfl, rfl, hw⟩ := hrel
      subst hw
      rcases Nat.lt_or_ge k D.length with hlt | hge
      · obtain ⟨d, hd⟩ : ∃ d, D[k]? = some d := ⟨_, List.getElem?_eq_getElem hlt⟩
        obtain ⟨g, c, hv⟩ := ownsRow_some X7.out.2.own (by omega)
        cases hv
        have ht := tk_of X6.out.2.2 hd
        obtain ⟨s1, s2, s3, s4⟩ := ST.out.each k d.1 ht
        have e0 := X7.out.2.cell hd (j := 0) rfl
        have e1 := X7.out.2.cell hd (j := 1) rfl
        have e2 := X7.out.2.cell hd (j := 2) rfl
        have hp1 : plc T (k + 1) = d.1.2.2 := by simp only [plc]; rw [ht]
        rw [s1] at e1 s2
        have HP : Hid (plc T (k + 1) = d.1.2.2) := hp1
        have ok1 := s4.1
        have ok2 := s4.2.1
        clear s1 s3 s4 ht hp1 hd
        generalize plc T k = p at *
        generalize d.1.2.2 = en at *
        generalize d.1.1.kind = kd at *
        have j0 : (0 : Int) ≤ (k : Int) := by omega
        have j1 : (k : Int) < (D.length : Int) := by omega
        have j2 : ((p : Int) == (p : Int)) = true := by simp
        have j3 : ¬ (en : Int) ≤ (p : Int) := by omega
        have j4 : ¬ (kd : Int) < 1 := by omega
        have j5 : ¬ (8 : Int) < (kd : Int) := by omega
        have hw1 : IntKind.wrap .i64 ((k : Int) + 1) = (k : Int) + 1 := wrap_small _ (by omega) (by have := ownsRow_len X7.out.2.own; unfold maxLen at this; omega)
        rw [Nat.add_zero] at e0
        go_wp2
        go_roundw
        case rel => exact ⟨k + 1, by omega, by rw [HP.out], by go_num, by first | rfl | trivial⟩
        case measure => simp only [intOf]; omega
      · have hkl : k = D.length := by omega
        have j1 : ¬ (k : Int) < (D.length : Int) := by omega
        have hpl : plc T k = s.size := by rw [hkl, ← hl]; exact ST.out.last
        rw [hpl]
        clear hkl hge hpl
        go_wp2
        go_ret
        refine ⟨?_, X7.out.1⟩
        simp
end Go.Proofs.YtloeajhmmjdlgaaDoor
