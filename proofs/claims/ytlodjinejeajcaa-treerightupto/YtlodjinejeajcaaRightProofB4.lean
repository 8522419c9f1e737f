/-
  dredgeref06.And: each two ranges of two classes.
-/
import Derived.Test.YtlodjinejeajcaaRightProofB3
namespace Go.Proofs.Ytlodjinejeajcaa
open Go Go.RowKit
attribute [local go_sem] ext_cell

/-- What the two loops have put together: of the first i ranges of A with all of B, and of one more with the first j. -/
def pairs (A B : List (Int × Int)) : List (Int × Int) := A.flatMap fun a => B.map (comR a)
theorem pairs_next {A B : List (Int × Int)} {i : Nat} {a : Int × Int} (h : A[i]? = some a) : pairs (A.take (i + 1)) B = pairs (A.take i) B ++ B.map (comR a) := by
  obtain ⟨hk, rfl⟩ := List.getElem?_eq_some_iff.1 h
  rw [take_next A i hk]
  unfold pairs
  rw [List.flatMap_append]
  simp only [List.flatMap_cons, List.flatMap_nil, List.append_nil]
theorem map_next {B : List (Int × Int)} {j : Nat} {b a : Int × Int} (h : B[j]? = some b) : (B.take (j + 1)).map (comR a) = (B.take j).map (comR a) ++ [comR a b] := by
  obtain ⟨hk, rfl⟩ := List.getElem?_eq_some_iff.1 h
  rw [take_next B j hk, List.map_append]
  rfl
theorem in_pairs (A B : List (Int × Int)) (c : Int) : In (pairs A B) c ↔ In A c ∧ In B c := by
  unfold pairs In comR
  constructor
  · rintro ⟨r, hr, h1, h2⟩
    obtain ⟨a, ha, hr⟩ := List.mem_flatMap.1 hr
    obtain ⟨b, hb, rfl⟩ := List.mem_map.1 hr
    simp only at h1 h2
    exact ⟨⟨a, ha, by omega, by omega⟩, b, hb, by omega, by omega⟩
  · rintro ⟨⟨a, ha, h1, h2⟩, b, hb, h3, h4⟩
    exact ⟨_, List.mem_flatMap.2 ⟨a, ha, List.mem_map.2 ⟨b, hb, rfl⟩⟩, by simp only; omega, by simp only; omega⟩
theorem fit_pairs {A B : List (Int × Int)} (fa : Fit A) (fb : Fit B) : Fit (pairs A B) := fun r hr => by
  obtain ⟨a, ha, hr⟩ := List.mem_flatMap.1 hr
  obtain ⟨b, hb, rfl⟩ := List.mem_map.1 hr
  have h1 := fa a ha
  have h2 := fb b hb
  simp only [comR]
  omega
theorem pairs_length (A B : List (Int × Int)) : (pairs A B).length = A.length * B.length := by
  induction A with
  | nil => simp [pairs]
  | cons a A ih => simp only [pairs, List.flatMap_cons, List.length_append, List.length_map, List.length_cons, Nat.succ_mul] at *; omega

set_option maxRecDepth 100000 in
set_option maxHeartbeats 4000000 in
theorem rand_c {w : World} {va vb : Value} {A0 B0 : List (Int × Int)} (ha : ArgR w va A0) (hb : ArgR w vb B0) (fa : Fit A0) (fb : Fit B0) (hl1 : A0.length + 1 ≤ 8796093022208) (hl2 : B0.length + 1 ≤ 8796093022208) (hl : A0.length * B0.length + 1 ≤ 8796093022208) :
    Calls Try.prog 75 #[va, vb] w (Gets w (fun c => In A0 c ∧ In B0 c) (A0.length * B0.length)) := by
  obtain ⟨t0, ti, hz0, hz1, hz2⟩ := info_parts size_range
  have H : Hid ((ArgR w va A0 ∧ Fit A0) ∧ ArgR w vb B0 ∧ Fit B0) := ⟨⟨ha, fa⟩, hb, fb⟩
  clear ha hb fa fb
  go_enter Try.func75, Try.ntmps75
  go_upto_region 5 with first
    | (go_at_call 74; have hx := X5.out; clear hx; have hih := rclass_c (H.out.2.1.kept X5.out.2.2.2) H.out.2.2 hl2; (with_reducible refine hih.mono ?_); clear hih; rintro e w6 ⟨v6, B, rfl, h1, h2, h3, h4⟩; obtain ⟨qb, cb, rfl⟩ := h1.shape; have X6 : Hid (RR w5.heap.size w6 (.slice qb B.length cb) B ∧ IsC B (In B0) ∧ B.length ≤ B0.length ∧ Below w5.heap.size w5 w6) := ⟨h1, h2, h3, h4⟩; clear h1 h2 h3 h4)
    | (go_at_call 74; have hih := rclass_c H.out.1.1 H.out.1.2 hl1; (with_reducible refine hih.mono ?_); clear hih; rintro e w5 ⟨v5, A, rfl, h1, h2, h3, h4⟩; obtain ⟨qa, ca, rfl⟩ := h1.shape; have X5 : Hid (RR w.heap.size w5 (.slice qa A.length ca) A ∧ IsC A (In A0) ∧ A.length ≤ A0.length ∧ Below w.heap.size w w5) := ⟨h1, h2, h3, h4⟩; clear h1 h2 h3 h4)
  rename World => W1
  have hla := X5.out.2.2.1
  have hlb := X6.out.2.2.1
  have HA : Hid (∀ (i : Nat) (r : Int × Int), A[i]? = some r → ∃ g off, qa = some ⟨g, off, none⟩ ∧ g < W1.heap.size ∧ W1.cell? ⟨g, off + 2 * i, none⟩ = some (.int .i64 r.1) ∧ W1.cell? ⟨g, off + 2 * i + 1, none⟩ = some (.int .i64 r.2)) := by
    obtain ⟨q', cap', e, -, -, hc⟩ := (X5.out.1.kept X6.out.2.2.2).arg.slice
    cases e
    exact hc
  have HB : Hid (∀ (i : Nat) (r : Int × Int), B[i]? = some r → ∃ g off, qb = some ⟨g, off, none⟩ ∧ g < W1.heap.size ∧ W1.cell? ⟨g, off + 2 * i, none⟩ = some (.int .i64 r.1) ∧ W1.cell? ⟨g, off + 2 * i + 1, none⟩ = some (.int .i64 r.2)) := by
    obtain ⟨q', cap', e, -, -, hc⟩ := X6.out.1.arg.slice
    cases e
    exact hc
  have LP : Hid (∀ i, (pairs (A.take i) B).length + B.length * (A.length - i) ≤ A0.length * B0.length ∨ A.length < i) := fun i => by
    rcases Nat.lt_or_ge A.length i with h | h
    · exact .inr h
    · left
      rw [pairs_length, List.length_take, Nat.min_eq_left h, Nat.mul_comm B.length, ← Nat.add_mul, Nat.add_sub_cancel' h]
      exact Nat.mul_le_mul hla hlb
  have BW : Hid (Below w.heap.size w W1) := chain X5.out.2.2.2 X6.out.2.2.2 (Nat.le_refl _)
  go_loopw [7, 8] (fun ov i wr => ∃ k : Nat, k ≤ A.length ∧ i = .int .i64 k ∧ RR W1.heap.size wr ov (pairs (A.take k) B) ∧ Below W1.heap.size W1 wr) (fun _ i _ => A.length - (intOf i).toNat)
  case atStart => exact ⟨0, Nat.zero_le _, rfl, RR.nil _ _, Below.refl _ _⟩
  case round =>
    obtain ⟨k, hk, rfl, hrr, hb⟩ := hrel
    have RO : Hid (RR W1.heap.size wr u7 (pairs (A.take k) B)) := hrr
    have BB : Hid (Below W1.heap.size W1 wr) := hb
    clear hrr hb
    by_cases hlt : k < A.length
    · obtain ⟨a, ea⟩ : ∃ r, A[k]? = some r := ⟨_, List.getElem?_eq_getElem hlt⟩
      obtain ⟨ga, oa, rfl, hga, xa1, xa2⟩ := HA.out k _ ea
      have PN : Hid (pairs (A.take (k + 1)) B = pairs (A.take k) B ++ B.map (comR a)) := pairs_next ea
      rw [Nat.mul_comm] at xa1 xa2
      have XA : Hid (W1.cell? ⟨ga, oa + k * 2, none⟩ = some (.int .i64 a.1) ∧ W1.cell? ⟨ga, oa + k * 2 + 1, none⟩ = some (.int .i64 a.2) ∧ ga < W1.heap.size) := ⟨xa1, xa2, hga⟩
      have LK : Hid ((pairs (A.take k) B).length + B.length + 1 ≤ 8796093022208) := hide (by
        rcases LP.out (k + 1) with h | h
        · have := PN.out; rw [this, List.length_append, List.length_map] at h; omega
        · omega)
      have i0 : (0 : Int) ≤ (k : Int) := by omega
      have i1 : (k : Int) < (A.length : Int) := by omega
      clear xa1 xa2 hga ea
      rename World => W2
      generalize pairs (A.take k) B = P at *
      go_wp2
      go_loopw [7, 9] (fun ov i wr => ∃ j : Nat, j ≤ B.length ∧ i = .int .i64 j ∧ RR W1.heap.size wr ov (P ++ (B.take j).map (comR a)) ∧ Below W1.heap.size W1 wr) (fun _ i _ => B.length - (intOf i).toNat)
      case atStart => exact ⟨0, Nat.zero_le _, rfl, by simpa using RO.out, BB.out⟩
      case round =>
        clear RO BB
        obtain ⟨j, hj, rfl, hrr, hb⟩ := hrel
        obtain ⟨qo, co, e3⟩ := hrr.shape
        subst e3
        obtain ⟨O, hO⟩ : ∃ O, P ++ (B.take j).map (comR a) = O := ⟨_, rfl⟩
        have EO : Hid (P ++ (B.take j).map (comR a) = O) := hO
        rw [hO] at hrr ⊢
        have RO : Hid (RR W1.heap.size wr (.slice qo O.length co) O) := hrr
        have BB : Hid (Below W1.heap.size W1 wr) := hb
        have hbs := hb.size
        have hol : O.length + 1 ≤ 8796093022208 := by have := LK.out; rw [← hO, List.length_append, List.length_map, List.length_take]; omega
        clear hrr hb hO
        by_cases hjlt : j < B.length
        · obtain ⟨b, eb⟩ : ∃ r, B[j]? = some r := ⟨_, List.getElem?_eq_getElem hjlt⟩
          obtain ⟨gb, ob, rfl, hgb, xb1, xb2⟩ := HB.out j _ eb
          have MN : Hid (P ++ (B.take (j + 1)).map (comR a) = O ++ [comR a b]) := hide (by rw [map_next eb, ← List.append_assoc, EO.out])
          rw [Nat.mul_comm] at xb1 xb2
          have c1 := (BB.out.cell (p := ⟨ga, oa + k * 2, none⟩) XA.out.2.2).trans XA.out.1
          have c2 := (BB.out.cell (p := ⟨ga, oa + k * 2 + 1, none⟩) XA.out.2.2).trans XA.out.2.1
          have c3 := (BB.out.cell (p := ⟨gb, ob + j * 2, none⟩) hgb).trans xb1
          have c4 := (BB.out.cell (p := ⟨gb, ob + j * 2 + 1, none⟩) hgb).trans xb2
          have s1 : ga < wr.heap.size := Nat.lt_of_lt_of_le XA.out.2.2 hbs
          have s2 : gb < wr.heap.size := Nat.lt_of_lt_of_le hgb hbs
          obtain ⟨a1, ha1⟩ : ∃ x, a.1 = x := ⟨_, rfl⟩
          obtain ⟨a2, ha2⟩ : ∃ x, a.2 = x := ⟨_, rfl⟩
          obtain ⟨b1, hb1⟩ : ∃ x, b.1 = x := ⟨_, rfl⟩
          obtain ⟨b2, hb2⟩ : ∃ x, b.2 = x := ⟨_, rfl⟩
          rw [ha1] at c1
          rw [ha2] at c2
          rw [hb1] at c3
          rw [hb2] at c4
          obtain ⟨cr, hcr⟩ : ∃ cr, comR a b = cr := ⟨_, rfl⟩
          have hmx : ∀ t ty w, (Builtin.max_ t ty #[.int .i64 a1, .int .i64 b1]).run Try.prog w = .ok (.int .i64 cr.1) w := fun t ty w => by rw [max_run, ← hcr, ← ha1, ← hb1]; rfl
          have hmn : ∀ t ty w, (Builtin.min_ t ty #[.int .i64 a2, .int .i64 b2]).run Try.prog w = .ok (.int .i64 cr.2) w := fun t ty w => by rw [min_run, ← hcr, ← ha2, ← hb2]; rfl
          have MN2 : Hid (P ++ (B.take (j + 1)).map (comR a) = O ++ [(cr.1, cr.2)]) := hide (by rw [MN.out, hcr])
          have j0 : (0 : Int) ≤ (j : Int) := by omega
          have j1 : (j : Int) < (B.length : Int) := by omega
          have RD : Hid (RR W1.heap.size wr.drew (.slice qo O.length co) O) := World.ownsRow.drew RO.out
          have BD : Hid (Below W1.heap.size W1 wr.drew) := BB.out.drew
          have ne1 := World.new_ne wr _ c1
          have ne3 := World.new_ne wr _ c3
          have XK : Hid (W1.cell? ⟨ga, oa + k * 2, none⟩ = some (.int .i64 a1) ∧ W1.cell? ⟨ga, oa + k * 2 + 1, none⟩ = some (.int .i64 a2) ∧ W1.cell? ⟨gb, ob + j * 2, none⟩ = some (.int .i64 b1) ∧ W1.cell? ⟨gb, ob + j * 2 + 1, none⟩ = some (.int .i64 b2) ∧ gb < W1.heap.size) := ⟨by rw [← ha1]; exact XA.out.1, by rw [← ha2]; exact XA.out.2.1, by rw [← hb1]; exact xb1, by rw [← hb2]; exact xb2, hgb⟩
          clear xb1 xb2 eb hgb MN ha1 ha2 hb1 hb2 hcr
          have QC : Hid (∀ w', Below W1.heap.size W1 w' → w'.cell? ⟨ga, oa + k * 2, none⟩ = some (.int .i64 a1) ∧ w'.cell? ⟨ga, oa + k * 2 + 1, none⟩ = some (.int .i64 a2) ∧ w'.cell? ⟨gb, ob + j * 2, none⟩ = some (.int .i64 b1) ∧ w'.cell? ⟨gb, ob + j * 2 + 1, none⟩ = some (.int .i64 b2)) := fun w' hb => ⟨(hb.cell (p := ⟨ga, oa + k * 2, none⟩) XA.out.2.2).trans XK.out.1, (hb.cell (p := ⟨ga, oa + k * 2 + 1, none⟩) XA.out.2.2).trans XK.out.2.1, (hb.cell (p := ⟨gb, ob + j * 2, none⟩) XK.out.2.2.2.2).trans XK.out.2.2.1, (hb.cell (p := ⟨gb, ob + j * 2 + 1, none⟩) XK.out.2.2.2.2).trans XK.out.2.2.2.1⟩
          clear c1 c2 c3 c4
          go_wp2
          refine wp_region_held_drew (S := fun w' => Below W1.heap.size W1 w') (by kernel_rfl) BD.out (fun hHeld => ?_)
          refine wpAnyH_take (i := 0) (oi := _) (v := ?_) rfl (by kernel_rfl) (by kernel_rfl) (by kernel_rfl) (fun _ _ _ h => h) (Or.inl ⟨by rfl, ?_⟩) (by assumption) ?_
          rotate_left
          · intro wz hSw; obtain ⟨q1, q2, q3, q4⟩ := QC.out wz hSw; clear hSw; go_simp; try with_reducible rfl
          dsimp only [Act.put, List.getElem_toArray, List.getElem_cons_zero, List.getElem_cons_succ]
          simp only [List.setIfInBounds_toArray, List.set_cons_zero, List.set_cons_succ]
          refine wpAnyH_take (i := 1) (oi := _) (v := ?_) rfl (by kernel_rfl) (by kernel_rfl) (by kernel_rfl) (fun _ _ _ h => h) (Or.inl ⟨by rfl, ?_⟩) (by assumption) ?_
          rotate_left
          · intro wz hSw; obtain ⟨q1, q2, q3, q4⟩ := QC.out wz hSw; clear hSw; go_simp; try with_reducible rfl
          dsimp only [Act.put, List.getElem_toArray, List.getElem_cons_zero, List.getElem_cons_succ]
          simp only [List.setIfInBounds_toArray, List.set_cons_zero, List.set_cons_succ]
          refine wpAnyH_take (i := 2) (oi := _) (v := ?_) rfl (by kernel_rfl) (by kernel_rfl) (by kernel_rfl) (fun _ _ _ h => h) (Or.inl ⟨by rfl, ?_⟩) (by assumption) ?_
          rotate_left
          · intro wz hSw; obtain ⟨q1, q2, q3, q4⟩ := QC.out wz hSw; clear hSw; go_simp; try with_reducible rfl
          dsimp only [Act.put, List.getElem_toArray, List.getElem_cons_zero, List.getElem_cons_succ]
          simp only [List.setIfInBounds_toArray, List.set_cons_zero, List.set_cons_succ]
          refine wpAnyH_take (i := 3) (oi := _) (v := ?_) rfl (by kernel_rfl) (by kernel_rfl) (by kernel_rfl) (fun _ _ _ h => h) (Or.inl ⟨by rfl, ?_⟩) (by assumption) ?_
          rotate_left
          · intro wz hSw; obtain ⟨q1, q2, q3, q4⟩ := QC.out wz hSw; clear hSw; go_simp; try with_reducible rfl
          dsimp only [Act.put, List.getElem_toArray, List.getElem_cons_zero, List.getElem_cons_succ]
          simp only [List.setIfInBounds_toArray, List.set_cons_zero, List.set_cons_succ]
          refine wpAnyH_take (i := 4) (oi := _) (v := ?_) rfl (by kernel_rfl) (by kernel_rfl) (by kernel_rfl) (fun _ _ _ h => h) (Or.inl ⟨by rfl, ?_⟩) (by assumption) ?_
          rotate_left
          · intro wz hSw; obtain ⟨q1, q2, q3, q4⟩ := QC.out wz hSw; clear hSw; go_simp; try with_reducible rfl
          dsimp only [Act.put, List.getElem_toArray, List.getElem_cons_zero, List.getElem_cons_succ]
          simp only [List.setIfInBounds_toArray, List.set_cons_zero, List.set_cons_succ]
          refine wpAnyH_take (i := 5) (oi := _) (v := ?_) rfl (by kernel_rfl) (by kernel_rfl) (by kernel_rfl) (fun _ _ _ h => h) (Or.inl ⟨by rfl, ?_⟩) (by assumption) ?_
          rotate_left
          · intro wz hSw; obtain ⟨q1, q2, q3, q4⟩ := QC.out wz hSw; clear hSw; go_simp; try with_reducible rfl
          dsimp only [Act.put, List.getElem_toArray, List.getElem_cons_zero, List.getElem_cons_succ]
          simp only [List.setIfInBounds_toArray, List.set_cons_zero, List.set_cons_succ]
          refine wpAnyH_take (i := 6) (oi := _) (v := ?_) rfl (by kernel_rfl) (by kernel_rfl) (by kernel_rfl) (fun _ _ _ h => h) (Or.inl ⟨by rfl, ?_⟩) (by assumption) ?_
          rotate_left
          · intro wz hSw; obtain ⟨q1, q2, q3, q4⟩ := QC.out wz hSw; clear hSw; go_simp; try with_reducible rfl
          dsimp only [Act.put, List.getElem_toArray, List.getElem_cons_zero, List.getElem_cons_succ]
          simp only [List.setIfInBounds_toArray, List.set_cons_zero, List.set_cons_succ]
          refine wpAnyH_take (i := 7) (oi := _) (v := ?_) rfl (by kernel_rfl) (by kernel_rfl) (by kernel_rfl) (fun _ _ _ h => h) (Or.inl ⟨by rfl, ?_⟩) (by assumption) ?_
          rotate_left
          · intro wz hSw; obtain ⟨q1, q2, q3, q4⟩ := QC.out wz hSw; clear hSw; go_simp; try with_reducible rfl
          dsimp only [Act.put, List.getElem_toArray, List.getElem_cons_zero, List.getElem_cons_succ]
          simp only [List.setIfInBounds_toArray, List.set_cons_zero, List.set_cons_succ]
          refine wpAnyH_take (i := 8) (oi := _) (v := ?_) rfl (by kernel_rfl) (by kernel_rfl) (by kernel_rfl) (fun _ _ _ h => h) (Or.inl ⟨by rfl, ?_⟩) (by assumption) ?_
          rotate_left
          · intro wz hSw; obtain ⟨q1, q2, q3, q4⟩ := QC.out wz hSw; clear hSw; go_simp; try with_reducible rfl
          dsimp only [Act.put, List.getElem_toArray, List.getElem_cons_zero, List.getElem_cons_succ]
          simp only [List.setIfInBounds_toArray, List.set_cons_zero, List.set_cons_succ]
          refine wpAnyH_take (i := 9) (oi := _) (v := ?_) rfl (by kernel_rfl) (by kernel_rfl) (by kernel_rfl) (fun _ _ _ h => h) (Or.inl ⟨by rfl, ?_⟩) (by assumption) ?_
          rotate_left
          · intro wz hSw; obtain ⟨q1, q2, q3, q4⟩ := QC.out wz hSw; clear hSw; go_simp; try with_reducible rfl
          dsimp only [Act.put, List.getElem_toArray, List.getElem_cons_zero, List.getElem_cons_succ]
          simp only [List.setIfInBounds_toArray, List.set_cons_zero, List.set_cons_succ]
          refine wpAnyH_take (i := 10) (oi := _) (v := ?_) rfl (by kernel_rfl) (by kernel_rfl) (by kernel_rfl) (fun _ _ _ h => h) (Or.inl ⟨by rfl, ?_⟩) (by assumption) ?_
          rotate_left
          · intro wz hSw; obtain ⟨q1, q2, q3, q4⟩ := QC.out wz hSw; clear hSw; go_simp; try with_reducible rfl
          dsimp only [Act.put, List.getElem_toArray, List.getElem_cons_zero, List.getElem_cons_succ]
          simp only [List.setIfInBounds_toArray, List.set_cons_zero, List.set_cons_succ]
          refine wpAnyH_take (i := 11) (oi := _) (v := ?_) rfl (by kernel_rfl) (by kernel_rfl) (by kernel_rfl) (fun _ _ _ h => h) (Or.inl ⟨by rfl, ?_⟩) (by assumption) ?_
          rotate_left
          · intro wz hSw; obtain ⟨q1, q2, q3, q4⟩ := QC.out wz hSw; clear hSw; go_simp; try with_reducible rfl
          dsimp only [Act.put, List.getElem_toArray, List.getElem_cons_zero, List.getElem_cons_succ]
          simp only [List.setIfInBounds_toArray, List.set_cons_zero, List.set_cons_succ]
          refine wpAnyH_take (i := 12) (oi := _) (v := ?_) rfl (by kernel_rfl) (by kernel_rfl) (by kernel_rfl) (fun _ _ _ h => h) (Or.inl ⟨by rfl, ?_⟩) (by assumption) ?_
          rotate_left
          · intro wz hSw; obtain ⟨q1, q2, q3, q4⟩ := QC.out wz hSw; clear hSw; go_simp; try with_reducible rfl
          dsimp only [Act.put, List.getElem_toArray, List.getElem_cons_zero, List.getElem_cons_succ]
          simp only [List.setIfInBounds_toArray, List.set_cons_zero, List.set_cons_succ]
          refine wpAnyH_take (i := 13) (oi := _) (v := ?_) rfl (by kernel_rfl) (by kernel_rfl) (by kernel_rfl) (fun _ _ _ h => h) (Or.inl ⟨by rfl, ?_⟩) (by assumption) ?_
          rotate_left
          · intro wz hSw; obtain ⟨q1, q2, q3, q4⟩ := QC.out wz hSw; clear hSw; go_simp; try with_reducible rfl
          dsimp only [Act.put, List.getElem_toArray, List.getElem_cons_zero, List.getElem_cons_succ]
          simp only [List.setIfInBounds_toArray, List.set_cons_zero, List.set_cons_succ]
          refine wpAnyH_take (i := 14) (oi := _) (v := ?_) rfl (by kernel_rfl) (by kernel_rfl) (by kernel_rfl) (fun _ _ _ h => h) (Or.inl ⟨by rfl, ?_⟩) (by assumption) ?_
          rotate_left
          · intro wz hSw; obtain ⟨q1, q2, q3, q4⟩ := QC.out wz hSw; clear hSw; go_simp; try with_reducible rfl
          dsimp only [Act.put, List.getElem_toArray, List.getElem_cons_zero, List.getElem_cons_succ]
          simp only [List.setIfInBounds_toArray, List.set_cons_zero, List.set_cons_succ]
          refine wpAnyH_take (i := 15) (oi := _) (v := ?_) rfl (by kernel_rfl) (by kernel_rfl) (by kernel_rfl) (fun _ _ _ h => h) (Or.inl ⟨by rfl, ?_⟩) (by assumption) ?_
          rotate_left
          · intro wz hSw; obtain ⟨q1, q2, q3, q4⟩ := QC.out wz hSw; clear hSw; go_simp; try with_reducible rfl
          dsimp only [Act.put, List.getElem_toArray, List.getElem_cons_zero, List.getElem_cons_succ]
          simp only [List.setIfInBounds_toArray, List.set_cons_zero, List.set_cons_succ]
          refine wpAnyH_take (i := 16) (oi := _) (v := ?_) rfl (by kernel_rfl) (by kernel_rfl) (by kernel_rfl) (fun _ _ _ h => h) (Or.inl ⟨by rfl, ?_⟩) (by assumption) ?_
          rotate_left
          · intro wz hSw; obtain ⟨q1, q2, q3, q4⟩ := QC.out wz hSw; clear hSw; go_simp; try with_reducible rfl
          dsimp only [Act.put, List.getElem_toArray, List.getElem_cons_zero, List.getElem_cons_succ]
          simp only [List.setIfInBounds_toArray, List.set_cons_zero, List.set_cons_succ]
          refine wpAnyH_take (i := 17) (oi := _) (v := ?_) rfl (by kernel_rfl) (by kernel_rfl) (by kernel_rfl) (fun _ _ _ h => h) (Or.inl ⟨by rfl, ?_⟩) (by assumption) ?_
          rotate_left
          · intro wz hSw; obtain ⟨q1, q2, q3, q4⟩ := QC.out wz hSw; clear hSw; go_simp; try with_reducible rfl
          dsimp only [Act.put, List.getElem_toArray, List.getElem_cons_zero, List.getElem_cons_succ]
          simp only [List.setIfInBounds_toArray, List.set_cons_zero, List.set_cons_succ]
          refine wpAnyH_take (i := 18) (oi := _) (v := ?_) rfl (by kernel_rfl) (by kernel_rfl) (by kernel_rfl) (fun _ _ _ h => h) (Or.inl ⟨by rfl, ?_⟩) (by assumption) ?_
          rotate_left
          · intro wz hSw; obtain ⟨q1, q2, q3, q4⟩ := QC.out wz hSw; clear hSw; go_simp; try with_reducible rfl
          dsimp only [Act.put, List.getElem_toArray, List.getElem_cons_zero, List.getElem_cons_succ]
          simp only [List.setIfInBounds_toArray, List.set_cons_zero, List.set_cons_succ]
          refine wpAnyH_take (i := 19) (oi := _) (v := ?_) rfl (by kernel_rfl) (by kernel_rfl) (by kernel_rfl) (fun _ _ _ h => h) (Or.inl ⟨by rfl, ?_⟩) (by assumption) ?_
          rotate_left
          · intro wz hSw; obtain ⟨q1, q2, q3, q4⟩ := QC.out wz hSw; clear hSw; go_simp; try with_reducible rfl
          dsimp only [Act.put, List.getElem_toArray, List.getElem_cons_zero, List.getElem_cons_succ]
          simp only [List.setIfInBounds_toArray, List.set_cons_zero, List.set_cons_succ]
          refine wpAnyH_take (i := 20) (oi := _) (v := ?_) rfl (by kernel_rfl) (by kernel_rfl) (by kernel_rfl) (fun _ _ _ h => h) (Or.inl ⟨by rfl, ?_⟩) (by assumption) ?_
          rotate_left
          · intro wz hSw; obtain ⟨q1, q2, q3, q4⟩ := QC.out wz hSw; clear hSw; go_simp; try with_reducible rfl
          dsimp only [Act.put, List.getElem_toArray, List.getElem_cons_zero, List.getElem_cons_succ]
          simp only [List.setIfInBounds_toArray, List.set_cons_zero, List.set_cons_succ]
          refine wpAnyH_take (i := 21) (oi := _) (v := ?_) rfl (by kernel_rfl) (by kernel_rfl) (by kernel_rfl) (fun _ _ _ h => h) (Or.inl ⟨by rfl, ?_⟩) (by assumption) ?_
          rotate_left
          · intro wz hSw; obtain ⟨q1, q2, q3, q4⟩ := QC.out wz hSw; clear hSw; go_simp; try with_reducible rfl
          dsimp only [Act.put, List.getElem_toArray, List.getElem_cons_zero, List.getElem_cons_succ]
          simp only [List.setIfInBounds_toArray, List.set_cons_zero, List.set_cons_succ]
          refine wpAnyH_take (i := 22) (oi := _) (v := ?_) rfl (by kernel_rfl) (by kernel_rfl) (by kernel_rfl) (fun _ _ _ h => h) (Or.inl ⟨by rfl, ?_⟩) (by assumption) ?_
          rotate_left
          · intro wz hSw; obtain ⟨q1, q2, q3, q4⟩ := QC.out wz hSw; clear hSw; go_simp; try with_reducible rfl
          dsimp only [Act.put, List.getElem_toArray, List.getElem_cons_zero, List.getElem_cons_succ]
          simp only [List.setIfInBounds_toArray, List.set_cons_zero, List.set_cons_succ]
          refine wpAnyH_take (i := 23) (oi := _) (v := ?_) rfl (by kernel_rfl) (by kernel_rfl) (by kernel_rfl) (fun _ _ _ h => h) (Or.inl ⟨by rfl, ?_⟩) (by assumption) ?_
          rotate_left
          · intro wz hSw; obtain ⟨q1, q2, q3, q4⟩ := QC.out wz hSw; clear hSw; go_simp; try with_reducible rfl
          dsimp only [Act.put, List.getElem_toArray, List.getElem_cons_zero, List.getElem_cons_succ]
          simp only [List.setIfInBounds_toArray, List.set_cons_zero, List.set_cons_succ]
          refine wpAnyH_ready (rs := [24]) (by kernel_rfl) (by simp) ?_
          refine AllReadyH.cons rfl (fun K hK => ?_) AllReadyH.nil
          go_simp
          refine hK.out _ _ (BD.out.alloc (by simp; omega) _) (fun hHeld2 => ?_)
          clear hK K
          refine wpAnyH_ready (rs := [25]) (by kernel_rfl) (by simp) ?_
          refine AllReadyH.cons rfl (fun K hK => ?_) AllReadyH.nil
          refine step_append_at rfl _ _ 22 rfl W1.heap.size 72 t0 (.agg #[.int .i64 0, .int .i64 0]) 2 16 und_ranges ti hz0 hz1 hz2 rfl (by decide) (.slice qo O.length co) O.length (cellsR O) (by simp [Act.eval]) (World.ownsRow.alloc RD.out (.cells #[.int .i64 cr.1, .int .i64 cr.2] 72)) ⟨wr.heap.size, 0, none⟩ 1 1 [.int .i64 cr.1, .int .i64 cr.2] (by simp [Act.eval]) rfl (news2 _ _ _ _) (by simp [Value.oneCell']) (by unfold maxLen; omega) (by omega) (by simp; omega) ?_
          intro v' w6 hown' hgrow hblk
          obtain ⟨g6, cap6, rfl⟩ := ownsRow_some hown' (Nat.succ_pos _)
          have A6 : Hid (RR W1.heap.size w6 (.slice (some ⟨g6, 0, none⟩) (O.length + 1) cap6) (O ++ [(cr.1, cr.2)])) := rr_app hown'
          have B6 : Hid (Below W1.heap.size W1 w6) := below_grown (BD.out.alloc (by simp; omega) _) (World.ownsRow.alloc RD.out _) hgrow
          clear hown' hgrow hblk
          refine hK.out _ _ B6.out (fun hHeld3 => ?_)
          clear hK K
          refine wpAnyH_ready (rs := [26]) (by kernel_rfl) (by simp) ?_
          refine AllReadyH.cons rfl (fun K hK => ?_) AllReadyH.nil
          go_simp
          refine hK.out _ _ B6.out (fun hHeld4 => ?_)
          clear hK K
          refine wpAnyH_done (by kernel_rfl) ?_ _
          all_goals (
            go_wp2
            go_roundw
            case rel => exact ⟨j + 1, by omega, by go_num, rr_cast MN2.out.symm A6.out, B6.out⟩
            case measure => simp [intOf]; omega)
        · have j1 : ¬ (j : Int) < (B.length : Int) := by omega
          have EE : Hid (pairs (A.take (k + 1)) B = O) := hide (by rw [PN.out, ← EO.out, List.take_of_length_le (by omega)])
          go_wp2
          go_roundw
          case rel => exact ⟨k + 1, by omega, by go_num, rr_cast EE.out.symm RO.out, BB.out⟩
          case measure => simp [intOf]; omega
    · have i1 : ¬ (k : Int) < (A.length : Int) := by omega
      have E : Hid (A.take k = A) := hide (List.take_of_length_le (by omega))
      rw [E.out] at RO
      have LN : Hid ((pairs A B).length ≤ A0.length * B0.length) := hide (by rw [pairs_length]; exact Nat.mul_le_mul hla hlb)
      go_wp2_with (go_at_call 74; refine (rclass_c RO.out.arg (fit_pairs X5.out.2.1.fit X6.out.2.1.fit) (by have := LN.out; omega)).mono ?_; rintro e w7 ⟨v7, C, rfl, h1, h2, h3, h4⟩; have X7 : Hid (RR wr.heap.size w7 v7 C ∧ IsC C (In (pairs A B)) ∧ C.length ≤ (pairs A B).length ∧ Below wr.heap.size wr w7) := ⟨h1, h2, h3, h4⟩; clear h1 h2 h3 h4)
      go_ret
      have BZ := chain BW.out BB.out (Nat.le_refl _)
      refine ⟨_, _, rfl, X7.out.1.mono BZ.size, X7.out.2.1.to fun c => ?_, Nat.le_trans X7.out.2.2.1 LN.out, chain BZ X7.out.2.2.2 (Nat.le_refl _)⟩
      rw [in_pairs, X5.out.2.1.mem, X6.out.2.1.mem]
end Go.Proofs.Ytlodjinejeajcaa
