/-
  Parts of the proof.
-/
import Derived.Test.YtbghleihgcenmaaC20
set_option linter.unusedSimpArgs false
namespace Go.Proofs.Ytbghleihgcenmaa
open Go Go.RowKit
attribute [local go_sem] Oper.semAt_some eq_span eqg_span
abbrev tpA : Array Value := #[.int .i64 2, .int .i64 1, .int .i64 3, .int .i64 0, .int .i64 0, .int .i64 0, .int .u64 0, .int .u64 0, .int .u64 0, .int .u64 0, .int .i64 1, .int .i64 0, .int .i64 0, .int .i64 0, .int .i64 0, .int .i64 0, .int .u64 0, .int .u64 8589934592, .int .u64 0, .int .u64 0, .int .i64 11, .int .i64 0, .int .i64 0, .int .i64 0, .int .i64 0, .int .i64 0, .int .u64 0, .int .u64 0, .int .u64 0, .int .u64 0, .int .i64 11, .int .i64 0, .int .i64 0, .int .i64 0, .int .i64 0, .int .i64 0, .int .u64 0, .int .u64 0, .int .u64 0, .int .u64 0]
theorem li_tp {w : World} {g : Nat} (h : w.heap[g]? = some (.cells tpA 42 (0, 0))) : LI w (some ⟨g, 10, none⟩) twN := li_block h fun j i hi m v hm => by
  have hj : j < 2 := (List.getElem?_eq_some_iff.1 hi).1
  obtain ⟨a0, a1, a2, a3⟩ := aN_w
  obtain ⟨n0, n1, n2, n3⟩ := nN_w
  match j, hj, hi with
  | 0, _, hi => cases hi; refine inC_at (P := fun m v => tpA[10 + 0 * 10 + m]? = some v) hm ?_ ?_ ?_ ?_ ?_ ?_ ?_ ?_ ?_ ?_ <;> simp [a0, a1, a2, a3, n0, n1, n2, n3]
  | 1, _, hi => cases hi; refine inC_at (P := fun m v => tpA[10 + 1 * 10 + m]? = some v) hm ?_ ?_ ?_ ?_ ?_ ?_ ?_ ?_ ?_ ?_ <;> simp [a0, a1, a2, a3, n0, n1, n2, n3]
theorem two_set {w4 : World} {g3 xb : Nat} (G : w4.heap[g3]? = some (.cells lpA 42 (0, 0))) (X : w4.heap[xb]? = some (.cells #[.slice (some ⟨g3, 0, none⟩) 4 4, .int .i64 0, .int .i64 0, .bool false] 24 (0, 0))) (hne : g3 ≠ xb) :
    ((((((((((((w4.setCell ⟨xb, 0, none⟩ (.slice (some ⟨g3, 10, none⟩) 1 3)).setCell ⟨g3, 20, none⟩ (.int .i64 11)).setCell ⟨g3, 21, none⟩ (.int .i64 0)).setCell ⟨g3, 22, none⟩ (.int .i64 0)).setCell ⟨g3, 23, none⟩ (.int .i64 0)).setCell ⟨g3, 24, none⟩ (.int .i64 0)).setCell ⟨g3, 25, none⟩ (.int .i64 0)).setCell ⟨g3, 26, none⟩ (.int .u64 0)).setCell ⟨g3, 27, none⟩ (.int .u64 0)).setCell ⟨g3, 28, none⟩ (.int .u64 0)).setCell ⟨g3, 29, none⟩ (.int .u64 0)).setCell ⟨xb, 0, none⟩ (.slice (some ⟨g3, 10, none⟩) 2 3)).heap[g3]? = some (.cells tpA 42 (0, 0)) ∧ ((((((((((((w4.setCell ⟨xb, 0, none⟩ (.slice (some ⟨g3, 10, none⟩) 1 3)).setCell ⟨g3, 20, none⟩ (.int .i64 11)).setCell ⟨g3, 21, none⟩ (.int .i64 0)).setCell ⟨g3, 22, none⟩ (.int .i64 0)).setCell ⟨g3, 23, none⟩ (.int .i64 0)).setCell ⟨g3, 24, none⟩ (.int .i64 0)).setCell ⟨g3, 25, none⟩ (.int .i64 0)).setCell ⟨g3, 26, none⟩ (.int .u64 0)).setCell ⟨g3, 27, none⟩ (.int .u64 0)).setCell ⟨g3, 28, none⟩ (.int .u64 0)).setCell ⟨g3, 29, none⟩ (.int .u64 0)).setCell ⟨xb, 0, none⟩ (.slice (some ⟨g3, 10, none⟩) 2 3)).heap[xb]? = some (.cells #[.slice (some ⟨g3, 10, none⟩) 2 3, .int .i64 0, .int .i64 0, .bool false] 24 (0, 0)) ∧ ∀ (w : World) (n : Nat), Below n w w4 → n ≤ g3 → n ≤ xb → Below n w ((((((((((((w4.setCell ⟨xb, 0, none⟩ (.slice (some ⟨g3, 10, none⟩) 1 3)).setCell ⟨g3, 20, none⟩ (.int .i64 11)).setCell ⟨g3, 21, none⟩ (.int .i64 0)).setCell ⟨g3, 22, none⟩ (.int .i64 0)).setCell ⟨g3, 23, none⟩ (.int .i64 0)).setCell ⟨g3, 24, none⟩ (.int .i64 0)).setCell ⟨g3, 25, none⟩ (.int .i64 0)).setCell ⟨g3, 26, none⟩ (.int .u64 0)).setCell ⟨g3, 27, none⟩ (.int .u64 0)).setCell ⟨g3, 28, none⟩ (.int .u64 0)).setCell ⟨g3, 29, none⟩ (.int .u64 0)).setCell ⟨xb, 0, none⟩ (.slice (some ⟨g3, 10, none⟩) 2 3)) := by
  refine ⟨(Below.heap_setCell _ _ _ _ hne).trans (heap_set_in (heap_set_in (heap_set_in (heap_set_in (heap_set_in (heap_set_in (heap_set_in (heap_set_in (heap_set_in (heap_set_in ((Below.heap_setCell _ _ _ _ hne).trans G) 20 _) 21 _) 22 _) 23 _) 24 _) 25 _) 26 _) 27 _) 28 _) 29 _), ?_, fun w n h h1 h2 => ?_⟩
  · refine heap_set_in (cur := #[.slice (some ⟨g3, 10, none⟩) 1 3, .int .i64 0, .int .i64 0, .bool false]) ?_ 0 _
    repeat (refine (Below.heap_setCell _ _ _ _ (Ne.symm hne)).trans ?_)
    exact heap_set_in X 0 _
  · exact (((((((((((((h.setCell (p := ⟨xb, 0, none⟩) (by exact h2) _).setCell (p := ⟨g3, 20, none⟩) (by exact h1) _).setCell (p := ⟨g3, 21, none⟩) (by exact h1) _).setCell (p := ⟨g3, 22, none⟩) (by exact h1) _).setCell (p := ⟨g3, 23, none⟩) (by exact h1) _).setCell (p := ⟨g3, 24, none⟩) (by exact h1) _).setCell (p := ⟨g3, 25, none⟩) (by exact h1) _).setCell (p := ⟨g3, 26, none⟩) (by exact h1) _).setCell (p := ⟨g3, 27, none⟩) (by exact h1) _).setCell (p := ⟨g3, 28, none⟩) (by exact h1) _).setCell (p := ⟨g3, 29, none⟩) (by exact h1) _).setCell (p := ⟨xb, 0, none⟩) (by exact h2) _))
set_option maxRecDepth 100000 in
set_option maxHeartbeats 8000000 in
theorem known_c (w : World) : Calls Try.prog 7 #[] w fun e w' => e = .returned (.bool true) ∧ Below w.heap.size w w' := by
  go_enter Try.func7, Try.ntmps7
  go_upto_region 2 with first
    | (go_at_call 11; (with_reducible refine (loop_c _).mono ?_); rintro e w1 ⟨g, rfl, h11, h12, h13⟩; have G1 := hide h11; have B1 := hide h13; have LC : Hid (Calls Try.prog 8 #[.agg #[.slice (some ⟨g, 0, none⟩) 4 4, .int .i64 0, .int .i64 0, .bool false], .string ⟨#[97, 97, 98]⟩, .int .i64 0] w1 fun e w' => (∃ n ok st, e = .returned (.tuple #[.int .i64 n, .bool ok, .int .i64 st, .int .i64 0]) ∧ LgS smN [97, 97, 98] 0 n ok) ∧ Below w1.heap.size w1 w') := longest_ok (p := ⟨some ⟨g, 0, none⟩, smN, 4, 0, 0, false⟩) ⟨(by decide : (4 : Nat) ≤ 9223372036854775807), li_lp G1.out⟩ ⟨#[97, 97, 98]⟩ 0 (wrM_0 (by rw [rt_smN]) (fr_smN _ _) (by decide) (by decide)) (by decide); clear h11 h12 h13)
    | (go_at_call 8; (with_reducible refine (LC.out).mono ?_); rintro e w2 ⟨⟨n, ok, st, rfl, h21⟩, h22⟩; have B2 := hide (chain B1.out h22 (Nat.le_refl _)); have K2 := hide (lg_sm h21); clear h21 h22)
  obtain ⟨hn, hok⟩ := K2.out
  subst hn
  subst hok
  clear LC K2 G1
  go_upto_region 3 with (go_at_call 11; (with_reducible refine (loop_c _).mono ?_); rintro e w3 ⟨g3, rfl, h11, h12, h13⟩; have G3 := hide h11; have B3 := hide (chain B2.out h13 (Nat.le_refl _)); have hwg := Nat.le_trans B2.out.size h12; clear h11 h12 h13)
  have BA : Below w3.heap.size w3 (w3.alloc (.cells #[.slice (some ⟨g3, 0, none⟩) 4 4, .int .i64 0, .int .i64 0, .bool false] 24)) := (Below.refl _ _).alloc (Nat.le_refl _) _
  have G4 := hide ((BA.block _ (lt_of_heap G3.out)).trans G3.out)
  have X4 : Hid ((w3.alloc (.cells #[.slice (some ⟨g3, 0, none⟩) 4 4, .int .i64 0, .int .i64 0, .bool false] 24)).heap[w3.heap.size]? = some (.cells #[.slice (some ⟨g3, 0, none⟩) 4 4, .int .i64 0, .int .i64 0, .bool false] 24 (0, 0))) := alloc_new w3 _
  have B4 := hide (chain B3.out BA (Nat.le_refl _))
  have hgx := lt_of_heap G3.out
  have hwx := B3.out.size
  clear BA B3 G3
  generalize (w3.alloc (.cells #[.slice (some ⟨g3, 0, none⟩) 4 4, .int .i64 0, .int .i64 0, .bool false] 24)) = w4 at G4 X4 B4 ⊢
  obtain ⟨xb, hxb⟩ : ∃ xb, w3.heap.size = xb := ⟨_, rfl⟩
  rw [hxb] at X4 hgx hwx ⊢
  clear hxb
  have x0 := cell_row X4.out (i := 0) rfl
  have x1 := cell_row X4.out (i := 1) rfl
  have x2 := cell_row X4.out (i := 2) rfl
  have x3 := cell_row X4.out (i := 3) rfl
  have f0 := frz_row X4.out 0
  have hne : g3 ≠ xb := by omega
  have hne' : xb ≠ g3 := by omega
  have lg4 := lt_of_heap G4.out
  have lx4 := lt_of_heap X4.out
  have d20 := cell_row G4.out (i := 20) rfl
  have e20 := frz_row G4.out 20
  have d21 := cell_row G4.out (i := 21) rfl
  have e21 := frz_row G4.out 21
  have d22 := cell_row G4.out (i := 22) rfl
  have e22 := frz_row G4.out 22
  have d23 := cell_row G4.out (i := 23) rfl
  have e23 := frz_row G4.out 23
  have d24 := cell_row G4.out (i := 24) rfl
  have e24 := frz_row G4.out 24
  have d25 := cell_row G4.out (i := 25) rfl
  have e25 := frz_row G4.out 25
  have d26 := cell_row G4.out (i := 26) rfl
  have e26 := frz_row G4.out 26
  have d27 := cell_row G4.out (i := 27) rfl
  have e27 := frz_row G4.out 27
  have d28 := cell_row G4.out (i := 28) rfl
  have e28 := frz_row G4.out 28
  have d29 := cell_row G4.out (i := 29) rfl
  have e29 := frz_row G4.out 29
  go_upto_region 5 with fail
  have TS := hide (two_set G4.out X4.out hne)
  clear d20 d21 d22 d23 d24 d25 d26 d27 d28 d29 e20 e21 e22 e23 e24 e25 e26 e27 e28 e29 x0 x1 x2 x3 f0
  generalize ((((((((((((w4.setCell ⟨xb, 0, none⟩ (.slice (some ⟨g3, 10, none⟩) 1 3)).setCell ⟨g3, 20, none⟩ (.int .i64 11)).setCell ⟨g3, 21, none⟩ (.int .i64 0)).setCell ⟨g3, 22, none⟩ (.int .i64 0)).setCell ⟨g3, 23, none⟩ (.int .i64 0)).setCell ⟨g3, 24, none⟩ (.int .i64 0)).setCell ⟨g3, 25, none⟩ (.int .i64 0)).setCell ⟨g3, 26, none⟩ (.int .u64 0)).setCell ⟨g3, 27, none⟩ (.int .u64 0)).setCell ⟨g3, 28, none⟩ (.int .u64 0)).setCell ⟨g3, 29, none⟩ (.int .u64 0)).setCell ⟨xb, 0, none⟩ (.slice (some ⟨g3, 10, none⟩) 2 3)) = V at TS ⊢
  have BZ := hide (TS.out.2.2 w w.heap.size B4.out hwg hwx)
  have BA : Below V.heap.size V (V.alloc (.cells #[.int .i64 11, .int .i64 0, .int .i64 0, .int .i64 0, .int .i64 0, .int .i64 0, .int .u64 0, .int .u64 0, .int .u64 0, .int .u64 0] 42)) := (Below.refl _ _).alloc (Nat.le_refl _) _
  have G5 := hide ((BA.block _ (lt_of_heap TS.out.1)).trans TS.out.1)
  have X5 := hide ((BA.block _ (lt_of_heap TS.out.2.1)).trans TS.out.2.1)
  have B5 := hide (chain BZ.out BA (Nat.le_refl _))
  clear BA TS BZ B4 X4 G4 lg4 lx4
  generalize (V.alloc (.cells #[.int .i64 11, .int .i64 0, .int .i64 0, .int .i64 0, .int .i64 0, .int .i64 0, .int .u64 0, .int .u64 0, .int .u64 0, .int .u64 0] 42)) = w5 at G5 X5 B5 ⊢
  have x0 := cell_row X5.out (i := 0) rfl
  have x1 := cell_row X5.out (i := 1) rfl
  have x2 := cell_row X5.out (i := 2) rfl
  have x3 := cell_row X5.out (i := 3) rfl
  have FC : Hid (Calls Try.prog 9 #[.agg #[.slice (some ⟨g3, 10, none⟩) 2 3, .int .i64 0, .int .i64 0, .bool false], .string ⟨#[98, 97, 98]⟩, .int .i64 0] w5 fun e w' => (∃ F T ok st, e = .returned (.tuple #[.agg #[.int .i64 F, .int .i64 T], .bool ok, .int .i64 st, .int .i64 0]) ∧ FinM twN [98, 97, 98] 0 3 ok F T) ∧ Below w5.heap.size w5 w') := find_ok (p := ⟨some ⟨g3, 10, none⟩, twN, 3, 0, 0, false⟩) ⟨(by decide : (2 : Nat) ≤ 9223372036854775807), li_tp G5.out⟩ ⟨#[98, 97, 98]⟩ 0 (wrM_0 (by rw [rt_twN]) (fr_twN _ _) (by decide) (by decide)) (by decide)
  go_upto_region 6 with (go_at_call 9; (with_reducible refine (FC.out).mono ?_); rintro e w6 ⟨⟨F, T, ok, st6, rfl, h61⟩, h62⟩; have K6 := hide (fi_tw h61); have B6 := hide (chain B5.out h62 (Nat.le_refl _)); have G6 := hide ((h62.block _ (lt_of_heap G5.out)).trans G5.out); have X6 := hide ((h62.block _ (lt_of_heap X5.out)).trans X5.out); clear h61 h62)
  obtain ⟨hF, hT, hok⟩ := K6.out
  subst hF
  subst hT
  subst hok
  clear K6 FC x0 x1 x2 x3
  have BA : Below w6.heap.size w6 (w6.alloc (.cells #[.int .i64 1, .int .i64 2] 30)) := (Below.refl _ _).alloc (Nat.le_refl _) _
  have G7 := hide ((BA.block _ (lt_of_heap G6.out)).trans G6.out)
  have X7 := hide ((BA.block _ (lt_of_heap X6.out)).trans X6.out)
  have S7 : Hid ((w6.alloc (.cells #[.int .i64 1, .int .i64 2] 30)).heap[w6.heap.size]? = some (.cells #[.int .i64 1, .int .i64 2] 30 (0, 0))) := alloc_new w6 _
  have B7 := hide (chain B6.out BA (Nat.le_refl _))
  clear BA G6 X6 B6
  generalize (w6.alloc (.cells #[.int .i64 1, .int .i64 2] 30)) = w7 at G7 X7 S7 B7 ⊢
  have x0 := cell_row X7.out (i := 0) rfl
  have x1 := cell_row X7.out (i := 1) rfl
  have x2 := cell_row X7.out (i := 2) rfl
  have x3 := cell_row X7.out (i := 3) rfl
  have FC : Hid (Calls Try.prog 9 #[.agg #[.slice (some ⟨g3, 10, none⟩) 2 3, .int .i64 0, .int .i64 0, .bool false], .string ⟨#[98, 97, 98]⟩, .int .i64 2] w7 fun e w' => (∃ F T ok st, e = .returned (.tuple #[.agg #[.int .i64 F, .int .i64 T], .bool ok, .int .i64 st, .int .i64 0]) ∧ FinM twN [98, 97, 98] 2 3 ok F T) ∧ Below w7.heap.size w7 w') := find_ok (p := ⟨some ⟨g3, 10, none⟩, twN, 3, 0, 0, false⟩) ⟨(by decide : (2 : Nat) ≤ 9223372036854775807), li_tp G7.out⟩ ⟨#[98, 97, 98]⟩ 2 (wrM_0 (by rw [rt_twN]) (fr_twN _ _) (by decide) (by decide)) (by decide)
  go_upto_region 7 with (go_at_call 9; (with_reducible refine (FC.out).mono ?_); rintro e w8 ⟨⟨F, T, ok, st8, rfl, h61⟩, h62⟩; have K8 := hide (fi_tw2 h61); have B8 := hide (chain B7.out h62 (Nat.le_refl _)); have S8 := hide ((h62.block _ (lt_of_heap S7.out)).trans S7.out); clear h61 h62)
  obtain ⟨hF, hT, hok⟩ := K8.out
  subst hF
  subst hT
  subst hok
  clear K8 FC x0 x1 x2 x3
  have s0 := cell_row S8.out (i := 0) rfl
  have s1 := cell_row S8.out (i := 1) rfl
  have ls := lt_of_heap S8.out
  go_wp2
  go_ret
  exact ⟨rfl, B8.out.alloc (by exact B8.out.size) _⟩
end Go.Proofs.Ytbghleihgcenmaa
