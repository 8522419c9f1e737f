/-
  ClassesEach: number by number.
-/
import Derived.Test.YtfihhliiecdnaaaExamples
namespace Go.Proofs.Ytfihhliiecdnaaa
open Go Go.RowKit

instance (m : Bool) (c : Int) : Decidable (isChar m c) := by unfold isChar; infer_instance
def charB (m : Bool) (c : Int) : Bool := decide (isChar m c)
/-- The other case of a letter. -/
def other (c : Int) : Int := if 65 ≤ c ∧ c ≤ 90 then c + 32 else if 97 ≤ c ∧ c ≤ 122 then c - 32 else c
theorem hasB_of {C : List (Int × Int)} {p : Int → Prop} (h : IsC C p) {c : Int} {b : Bool} (hb : b = true ↔ p c) : hasB C c = b := by
  have := (hasB_iff C c).trans (h.mem c)
  cases b with
  | true => exact this.2 (hb.1 rfl)
  | false =>
    cases hh : hasB C c with
    | false => rfl
    | true => exact absurd (hb.2 (this.1 hh)) (by simp)
theorem fold_other (A : List (Int × Int)) (c : Int) : (In A c ∨ In A (other c)) ↔ foldP A c := by
  unfold other foldP
  by_cases h : 65 ≤ c ∧ c ≤ 90
  · rw [if_pos h]
    constructor
    · rintro (q | q)
      · exact .inl q
      · exact .inr (.inr ⟨q, by omega, by omega⟩)
    · rintro (q | ⟨_, _, _⟩ | ⟨q, _, _⟩)
      · exact .inl q
      · omega
      · exact .inr q
  · rw [if_neg h]
    by_cases h2 : 97 ≤ c ∧ c ≤ 122
    · rw [if_pos h2]
      constructor
      · rintro (q | q)
        · exact .inl q
        · exact .inr (.inl ⟨q, by omega, by omega⟩)
      · rintro (q | ⟨q, _, _⟩ | ⟨_, _, _⟩)
        · exact .inl q
        · exact .inr q
        · omega
    · rw [if_neg h2]
      constructor
      · rintro (q | q) <;> exact .inl q
      · rintro (q | ⟨_, _, _⟩ | ⟨_, _, _⟩)
        · exact .inl q
        · omega
        · omega
theorem top_false (w : World) : Calls Try.prog 11 #[.bool false] w fun e w' => e = .returned (.int .i64 255) ∧ w' = w := top_c false w
theorem top_true (w : World) : Calls Try.prog 11 #[.bool true] w fun e w' => e = .returned (.int .i64 1114111) ∧ w' = w := top_c true w
theorem top_m (m : Bool) (w : World) : Calls Try.prog 11 #[.bool m] w fun e w' => e = .returned (.int .i64 (top m)) ∧ w' = w := top_c m w

set_option maxRecDepth 100000 in
set_option maxHeartbeats 8000000 in
theorem law_each_true {w : World} {va vb : Value} {A B : List (Int × Int)} {c : Int} (ha : ArgR w va A) (hb : ArgR w vb B) (fa : Fit A) (fb : Fit B) (hc : -9223372036854775808 ≤ c ∧ c ≤ 9223372036854775807) (la : A.length ≤ 1048576) (lb : B.length ≤ 1048576) :
    Calls Try.prog 3 #[va, vb, .int .i64 c, .bool true] w fun e w' => e = .returned (.bool true) ∧ Below w.heap.size w w' := by
  have H : Hid ((ArgR w va A ∧ Fit A) ∧ (ArgR w vb B ∧ Fit B)) := ⟨⟨ha, fa⟩, hb, fb⟩
  obtain ⟨x, hx⟩ : ∃ x, hasB A c = x := ⟨_, rfl⟩
  obtain ⟨y, hy⟩ : ∃ y, hasB B c = y := ⟨_, rfl⟩
  obtain ⟨f, hf⟩ : ∃ f, hasB A (other c) = f := ⟨_, rfl⟩
  have HX : Hid (hasB A c = x) := hx
  have HY : Hid (hasB B c = y) := hy
  have HF : Hid (hasB A (other c) = f) := hf
  clear ha hb fa fb hx hy hf
  go_enter Try.func3, Try.ntmps3
  go_upto_region 4 with first
    | (go_at_call 9; refine (examples_c _).mono ?_; rintro e w1 ⟨rfl, h1⟩; have X1 : Hid (Below w.heap.size w w1) := h1; clear h1)
    | (go_at_call 10; have hx := X2.out; clear hx; refine (has_c (H.out.2.1.kept X2.out)).mono ?_; rw [HY.out]; rintro e w3 ⟨rfl, h1⟩; have X3 : Hid (Below w.heap.size w w3) := chain X2.out h1 (Nat.le_refl _); clear h1)
    | (go_at_call 10; refine (has_c (H.out.1.1.kept X1.out)).mono ?_; rw [HX.out]; rintro e w2 ⟨rfl, h1⟩; have X2 : Hid (Below w.heap.size w w2) := chain X1.out h1 (Nat.le_refl _); clear h1)
  go_cut [12] (fun ch wx => ch = .bool (charB true c) ∧ wx = w3)
  case first =>
    go_wp2_with (go_at_call 11; refine (top_true _).mono ?_; rintro e w9 ⟨rfl, h9⟩; subst w9)
    all_goals go_meet
    all_goals refine ⟨?_, rfl⟩
    all_goals congr 1
    all_goals rw [Bool.eq_iff_iff]
    all_goals simp [charB, isChar, top]
    all_goals omega
  case rest =>
    obtain ⟨rfl, rfl⟩ := hcut
    go_upto_region 6 with fail
    go_cut [48] (fun b wx => b = .bool (decide (65 ≤ c ∧ c ≤ 90)) ∧ wx = wc)
    case first =>
      go_wp2_with fail
      all_goals go_meet
      all_goals refine ⟨?_, rfl⟩
      all_goals congr 1
      all_goals rw [Bool.eq_iff_iff]
      all_goals simp
      all_goals omega
    case rest =>
      obtain ⟨rfl, rfl⟩ := hcut
      go_upto_if 48 with fail
      go_cut [13] (fun o wx => o = .int .i64 (other c) ∧ wx = wc)
      case first =>
        by_cases h : 65 ≤ c ∧ c ≤ 90
        · have hd : decide (65 ≤ c ∧ c ≤ 90) = true := decide_eq_true h
          have E : Hid (other c = c + 32) := if_pos h
          have wc1 : IntKind.wrap .i64 (c + 32) = c + 32 := by rw [IntKind.wrap_i64]; omega
          rw [hd]
          clear hd h
          go_wp2_with fail
          go_meet
          exact ⟨by rw [E.out], rfl⟩
        · have hd : decide (65 ≤ c ∧ c ≤ 90) = false := decide_eq_false h
          rw [hd]
          clear hd
          by_cases h2 : 97 ≤ c ∧ c ≤ 122
          · have E : Hid (other c = c - 32) := hide (by unfold other; rw [if_neg h, if_pos h2])
            have wc1 : IntKind.wrap .i64 (c - 32) = c - 32 := by rw [IntKind.wrap_i64]; omega
            have h3 := h2.1
            have h4 := h2.2
            clear h h2
            go_wp2_with fail
            go_meet
            exact ⟨by rw [E.out], rfl⟩
          · have E : Hid (other c = c) := hide (by unfold other; rw [if_neg h, if_neg h2])
            have H2 : Hid (¬ (97 ≤ c ∧ c ≤ 122)) := h2
            clear h h2
            by_cases h3 : 97 ≤ c
            · have h4 : ¬ c ≤ 122 := fun q => H2.out ⟨h3, q⟩
              go_wp2_with fail
              go_meet
              exact ⟨by rw [E.out], rfl⟩
            · go_wp2_with fail
              go_meet
              exact ⟨by rw [E.out], rfl⟩
      case rest =>
        obtain ⟨rfl, rfl⟩ := hcut
        have VO : Hid (∀ C, IsC C (fun c => In A c ∨ In B c) → hasB C c = (x || y)) := fun C h => hasB_of h (by rw [← HX.out, ← HY.out, Bool.or_eq_true, hasB_iff, hasB_iff])
        have VA : Hid (∀ C, IsC C (fun c => In A c ∧ In B c) → hasB C c = (x && y)) := fun C h => hasB_of h (by rw [← HX.out, ← HY.out, Bool.and_eq_true, hasB_iff, hasB_iff])
        have VL : Hid (∀ C, IsC C (fun c => In A c ∧ ¬ In B c) → hasB C c = (x && !y)) := fun C h => hasB_of h (by rw [← HX.out, ← HY.out, Bool.and_eq_true, hasB_iff, Bool.not_eq_true', ← hasB_iff B c, Bool.not_eq_true])
        have VN : Hid (∀ C, IsC C (fun c => In A c ∧ isChar true c) → hasB C c = (x && charB true c)) := fun C h => hasB_of h (by rw [← HX.out, Bool.and_eq_true, hasB_iff, charB, decide_eq_true_iff])
        have VT : Hid (∀ C, IsC C (fun c => isChar true c ∧ ¬ In A c) → hasB C c = (charB true c && !x)) := fun C h => hasB_of h (by rw [← HX.out, Bool.and_eq_true, charB, decide_eq_true_iff, Bool.not_eq_true', ← hasB_iff A c, Bool.not_eq_true])
        have VF : Hid (∀ C, IsC C (foldP A) → hasB C c = (x || f)) := fun C h => hasB_of h (by rw [← HX.out, ← HF.out, Bool.or_eq_true, hasB_iff, hasB_iff]; exact fold_other A c)
        generalize charB true c = ch at *
        cases x with
        | true =>
          cases ch <;> (
            go_wp2_with first
            | (go_at_call 10; have hx := XF.out; clear hx; refine (has_c XF.out.1).mono ?_; rw [VF.out _ XF.out.2.1]; rintro e yF ⟨rfl, h1⟩; have YF : Hid (Below w.heap.size w yF) := chain XF.out.2.2 h1 (Nat.le_refl _); clear h1)
            | (go_at_call 17; have hx := YT.out; clear hx; refine (fold_c (H.out.1.1.kept YT.out) H.out.1.2 (by omega)).mono ?_; rintro e wF ⟨vF, CF, rfl, h1, h2, h3, h4⟩; have XF : Hid (ArgR wF vF CF ∧ IsC CF (foldP A) ∧ Below w.heap.size w wF) := ⟨h1.arg, h2, chain YT.out h4 (Nat.le_refl _)⟩; clear h1 h2 h3 h4)
            | (go_at_call 10; have hx := XT.out; clear hx; refine (has_c XT.out.1).mono ?_; rw [VT.out _ XT.out.2.1]; rintro e yT ⟨rfl, h1⟩; have YT : Hid (Below w.heap.size w yT) := chain XT.out.2.2 h1 (Nat.le_refl _); clear h1)
            | (go_at_call 16; have hx := YN.out; clear hx; refine (not_c (m := true) (H.out.1.1.kept YN.out) H.out.1.2 (by omega)).mono ?_; rintro e wT ⟨vT, CT, rfl, h1, h2, h3, h4⟩; have XT : Hid (ArgR wT vT CT ∧ IsC CT (fun c => isChar true c ∧ ¬ In A c) ∧ Below w.heap.size w wT) := ⟨h1.arg, h2, chain YN.out h4 (Nat.le_refl _)⟩; clear h1 h2 h3 h4)
            | (go_at_call 10; have hx := XN.out; clear hx; refine (has_c XN.out.1).mono ?_; rw [VN.out _ XN.out.2.1]; rintro e yN ⟨rfl, h1⟩; have YN : Hid (Below w.heap.size w yN) := chain XN.out.2.2 h1 (Nat.le_refl _); clear h1)
            | (go_at_call 15; have hx := YL.out; clear hx; refine (norm_c (m := true) (H.out.1.1.kept YL.out) H.out.1.2 (by omega)).mono ?_; rintro e wN ⟨vN, CN, rfl, h1, h2, h3, h4⟩; have XN : Hid (ArgR wN vN CN ∧ IsC CN (fun c => In A c ∧ isChar true c) ∧ Below w.heap.size w wN) := ⟨h1.arg, h2, chain YL.out h4 (Nat.le_refl _)⟩; clear h1 h2 h3 h4)
            | (go_at_call 10; have hx := XL.out; clear hx; refine (has_c XL.out.1).mono ?_; rw [VL.out _ XL.out.2.1]; rintro e yL ⟨rfl, h1⟩; have YL : Hid (Below w.heap.size w yL) := chain XL.out.2.2 h1 (Nat.le_refl _); clear h1)
            | (go_at_call 14; have hx := YA.out; clear hx; refine (less_c (H.out.1.1.kept YA.out) (H.out.2.1.kept YA.out) H.out.1.2 H.out.2.2 (by omega)).mono ?_; rintro e wL ⟨vL, CL, rfl, h1, h2, h3, h4⟩; have XL : Hid (ArgR wL vL CL ∧ IsC CL (fun c => In A c ∧ ¬ In B c) ∧ Below w.heap.size w wL) := ⟨h1.arg, h2, chain YA.out h4 (Nat.le_refl _)⟩; clear h1 h2 h3 h4)
            | (go_at_call 10; have hx := XA.out; clear hx; refine (has_c XA.out.1).mono ?_; rw [VA.out _ XA.out.2.1]; rintro e yA ⟨rfl, h1⟩; have YA : Hid (Below w.heap.size w yA) := chain XA.out.2.2 h1 (Nat.le_refl _); clear h1)
            | (go_at_call 13; have hx := YO.out; clear hx; refine (and_c (H.out.1.1.kept YO.out) (H.out.2.1.kept YO.out) H.out.1.2 H.out.2.2 (by omega)).mono ?_; rintro e wA ⟨vA, CA, rfl, h1, h2, h3, h4⟩; have XA : Hid (ArgR wA vA CA ∧ IsC CA (fun c => In A c ∧ In B c) ∧ Below w.heap.size w wA) := ⟨h1.arg, h2, chain YO.out h4 (Nat.le_refl _)⟩; clear h1 h2 h3 h4)
            | (go_at_call 10; have hx := XO.out; clear hx; refine (has_c XO.out.1).mono ?_; rw [VO.out _ XO.out.2.1]; rintro e yO ⟨rfl, h1⟩; have YO : Hid (Below w.heap.size w yO) := chain XO.out.2.2 h1 (Nat.le_refl _); clear h1)
            | (go_at_call 12; refine (or_c (H.out.1.1.kept X3.out) (H.out.2.1.kept X3.out) H.out.1.2 H.out.2.2 (by omega)).mono ?_; rintro e wO ⟨vO, CO, rfl, h1, h2, h3, h4⟩; have XO : Hid (ArgR wO vO CO ∧ IsC CO (fun c => In A c ∨ In B c) ∧ Below w.heap.size w wO) := ⟨h1.arg, h2, chain X3.out h4 (Nat.le_refl _)⟩; clear h1 h2 h3 h4)
            go_ret
            exact ⟨rfl, YF.out⟩)
        | false =>
          cases ch <;> (
            go_wp2_with first
            | (go_at_call 10; have hx := XF.out; clear hx; refine (has_c XF.out.1).mono ?_; rw [VF.out _ XF.out.2.1]; rintro e yF ⟨rfl, h1⟩; have YF : Hid (Below w.heap.size w yF) := chain XF.out.2.2 h1 (Nat.le_refl _); clear h1)
            | (go_at_call 17; have hx := YT.out; clear hx; refine (fold_c (H.out.1.1.kept YT.out) H.out.1.2 (by omega)).mono ?_; rintro e wF ⟨vF, CF, rfl, h1, h2, h3, h4⟩; have XF : Hid (ArgR wF vF CF ∧ IsC CF (foldP A) ∧ Below w.heap.size w wF) := ⟨h1.arg, h2, chain YT.out h4 (Nat.le_refl _)⟩; clear h1 h2 h3 h4)
            | (go_at_call 10; have hx := XT.out; clear hx; refine (has_c XT.out.1).mono ?_; rw [VT.out _ XT.out.2.1]; rintro e yT ⟨rfl, h1⟩; have YT : Hid (Below w.heap.size w yT) := chain XT.out.2.2 h1 (Nat.le_refl _); clear h1)
            | (go_at_call 16; have hx := YN.out; clear hx; refine (not_c (m := true) (H.out.1.1.kept YN.out) H.out.1.2 (by omega)).mono ?_; rintro e wT ⟨vT, CT, rfl, h1, h2, h3, h4⟩; have XT : Hid (ArgR wT vT CT ∧ IsC CT (fun c => isChar true c ∧ ¬ In A c) ∧ Below w.heap.size w wT) := ⟨h1.arg, h2, chain YN.out h4 (Nat.le_refl _)⟩; clear h1 h2 h3 h4)
            | (go_at_call 10; have hx := XN.out; clear hx; refine (has_c XN.out.1).mono ?_; rw [VN.out _ XN.out.2.1]; rintro e yN ⟨rfl, h1⟩; have YN : Hid (Below w.heap.size w yN) := chain XN.out.2.2 h1 (Nat.le_refl _); clear h1)
            | (go_at_call 15; have hx := YL.out; clear hx; refine (norm_c (m := true) (H.out.1.1.kept YL.out) H.out.1.2 (by omega)).mono ?_; rintro e wN ⟨vN, CN, rfl, h1, h2, h3, h4⟩; have XN : Hid (ArgR wN vN CN ∧ IsC CN (fun c => In A c ∧ isChar true c) ∧ Below w.heap.size w wN) := ⟨h1.arg, h2, chain YL.out h4 (Nat.le_refl _)⟩; clear h1 h2 h3 h4)
            | (go_at_call 10; have hx := XL.out; clear hx; refine (has_c XL.out.1).mono ?_; rw [VL.out _ XL.out.2.1]; rintro e yL ⟨rfl, h1⟩; have YL : Hid (Below w.heap.size w yL) := chain XL.out.2.2 h1 (Nat.le_refl _); clear h1)
            | (go_at_call 14; have hx := YA.out; clear hx; refine (less_c (H.out.1.1.kept YA.out) (H.out.2.1.kept YA.out) H.out.1.2 H.out.2.2 (by omega)).mono ?_; rintro e wL ⟨vL, CL, rfl, h1, h2, h3, h4⟩; have XL : Hid (ArgR wL vL CL ∧ IsC CL (fun c => In A c ∧ ¬ In B c) ∧ Below w.heap.size w wL) := ⟨h1.arg, h2, chain YA.out h4 (Nat.le_refl _)⟩; clear h1 h2 h3 h4)
            | (go_at_call 10; have hx := XA.out; clear hx; refine (has_c XA.out.1).mono ?_; rw [VA.out _ XA.out.2.1]; rintro e yA ⟨rfl, h1⟩; have YA : Hid (Below w.heap.size w yA) := chain XA.out.2.2 h1 (Nat.le_refl _); clear h1)
            | (go_at_call 13; have hx := YO.out; clear hx; refine (and_c (H.out.1.1.kept YO.out) (H.out.2.1.kept YO.out) H.out.1.2 H.out.2.2 (by omega)).mono ?_; rintro e wA ⟨vA, CA, rfl, h1, h2, h3, h4⟩; have XA : Hid (ArgR wA vA CA ∧ IsC CA (fun c => In A c ∧ In B c) ∧ Below w.heap.size w wA) := ⟨h1.arg, h2, chain YO.out h4 (Nat.le_refl _)⟩; clear h1 h2 h3 h4)
            | (go_at_call 10; have hx := XO.out; clear hx; refine (has_c XO.out.1).mono ?_; rw [VO.out _ XO.out.2.1]; rintro e yO ⟨rfl, h1⟩; have YO : Hid (Below w.heap.size w yO) := chain XO.out.2.2 h1 (Nat.le_refl _); clear h1)
            | (go_at_call 12; have hx := XZ.out; clear hx; refine (or_c (H.out.1.1.kept XZ.out) (H.out.2.1.kept XZ.out) H.out.1.2 H.out.2.2 (by omega)).mono ?_; rintro e wO ⟨vO, CO, rfl, h1, h2, h3, h4⟩; have XO : Hid (ArgR wO vO CO ∧ IsC CO (fun c => In A c ∨ In B c) ∧ Below w.heap.size w wO) := ⟨h1.arg, h2, chain XZ.out h4 (Nat.le_refl _)⟩; clear h1 h2 h3 h4)
            | (go_at_call 10; refine (has_c (H.out.1.1.kept X3.out)).mono ?_; rw [HF.out]; rintro e wz ⟨rfl, h1⟩; have XZ : Hid (Below w.heap.size w wz) := chain X3.out h1 (Nat.le_refl _); clear h1)
            go_ret
            exact ⟨rfl, YF.out⟩)
set_option maxRecDepth 100000 in
set_option maxHeartbeats 8000000 in
theorem law_each_false {w : World} {va vb : Value} {A B : List (Int × Int)} {c : Int} (ha : ArgR w va A) (hb : ArgR w vb B) (fa : Fit A) (fb : Fit B) (hc : -9223372036854775808 ≤ c ∧ c ≤ 9223372036854775807) (la : A.length ≤ 1048576) (lb : B.length ≤ 1048576) :
    Calls Try.prog 3 #[va, vb, .int .i64 c, .bool false] w fun e w' => e = .returned (.bool true) ∧ Below w.heap.size w w' := by
  have H : Hid ((ArgR w va A ∧ Fit A) ∧ (ArgR w vb B ∧ Fit B)) := ⟨⟨ha, fa⟩, hb, fb⟩
  obtain ⟨x, hx⟩ : ∃ x, hasB A c = x := ⟨_, rfl⟩
  obtain ⟨y, hy⟩ : ∃ y, hasB B c = y := ⟨_, rfl⟩
  obtain ⟨f, hf⟩ : ∃ f, hasB A (other c) = f := ⟨_, rfl⟩
  have HX : Hid (hasB A c = x) := hx
  have HY : Hid (hasB B c = y) := hy
  have HF : Hid (hasB A (other c) = f) := hf
  clear ha hb fa fb hx hy hf
  go_enter Try.func3, Try.ntmps3
  go_upto_region 4 with first
    | (go_at_call 9; refine (examples_c _).mono ?_; rintro e w1 ⟨rfl, h1⟩; have X1 : Hid (Below w.heap.size w w1) := h1; clear h1)
    | (go_at_call 10; have hx := X2.out; clear hx; refine (has_c (H.out.2.1.kept X2.out)).mono ?_; rw [HY.out]; rintro e w3 ⟨rfl, h1⟩; have X3 : Hid (Below w.heap.size w w3) := chain X2.out h1 (Nat.le_refl _); clear h1)
    | (go_at_call 10; refine (has_c (H.out.1.1.kept X1.out)).mono ?_; rw [HX.out]; rintro e w2 ⟨rfl, h1⟩; have X2 : Hid (Below w.heap.size w w2) := chain X1.out h1 (Nat.le_refl _); clear h1)
  go_cut [12] (fun ch wx => ch = .bool (charB false c) ∧ wx = w3)
  case first =>
    go_wp2_with (go_at_call 11; refine (top_false _).mono ?_; rintro e w9 ⟨rfl, h9⟩; subst w9)
    all_goals go_meet
    all_goals refine ⟨?_, rfl⟩
    all_goals congr 1
    all_goals rw [Bool.eq_iff_iff]
    all_goals simp [charB, isChar, top]
    all_goals omega
  case rest =>
    obtain ⟨rfl, rfl⟩ := hcut
    go_upto_region 6 with fail
    go_cut [48] (fun b wx => b = .bool (decide (65 ≤ c ∧ c ≤ 90)) ∧ wx = wc)
    case first =>
      go_wp2_with fail
      all_goals go_meet
      all_goals refine ⟨?_, rfl⟩
      all_goals congr 1
      all_goals rw [Bool.eq_iff_iff]
      all_goals simp
      all_goals omega
    case rest =>
      obtain ⟨rfl, rfl⟩ := hcut
      go_upto_if 48 with fail
      go_cut [13] (fun o wx => o = .int .i64 (other c) ∧ wx = wc)
      case first =>
        by_cases h : 65 ≤ c ∧ c ≤ 90
        · have hd : decide (65 ≤ c ∧ c ≤ 90) = true := decide_eq_true h
          have E : Hid (other c = c + 32) := if_pos h
          have wc1 : IntKind.wrap .i64 (c + 32) = c + 32 := by rw [IntKind.wrap_i64]; omega
          rw [hd]
          clear hd h
          go_wp2_with fail
          go_meet
          exact ⟨by rw [E.out], rfl⟩
        · have hd : decide (65 ≤ c ∧ c ≤ 90) = false := decide_eq_false h
          rw [hd]
          clear hd
          by_cases h2 : 97 ≤ c ∧ c ≤ 122
          · have E : Hid (other c = c - 32) := hide (by unfold other; rw [if_neg h, if_pos h2])
            have wc1 : IntKind.wrap .i64 (c - 32) = c - 32 := by rw [IntKind.wrap_i64]; omega
            have h3 := h2.1
            have h4 := h2.2
            clear h h2
            go_wp2_with fail
            go_meet
            exact ⟨by rw [E.out], rfl⟩
          · have E : Hid (other c = c) := hide (by unfold other; rw [if_neg h, if_neg h2])
            have H2 : Hid (¬ (97 ≤ c ∧ c ≤ 122)) := h2
            clear h h2
            by_cases h3 : 97 ≤ c
            · have h4 : ¬ c ≤ 122 := fun q => H2.out ⟨h3, q⟩
              go_wp2_with fail
              go_meet
              exact ⟨by rw [E.out], rfl⟩
            · go_wp2_with fail
              go_meet
              exact ⟨by rw [E.out], rfl⟩
      case rest =>
        obtain ⟨rfl, rfl⟩ := hcut
        have VO : Hid (∀ C, IsC C (fun c => In A c ∨ In B c) → hasB C c = (x || y)) := fun C h => hasB_of h (by rw [← HX.out, ← HY.out, Bool.or_eq_true, hasB_iff, hasB_iff])
        have VA : Hid (∀ C, IsC C (fun c => In A c ∧ In B c) → hasB C c = (x && y)) := fun C h => hasB_of h (by rw [← HX.out, ← HY.out, Bool.and_eq_true, hasB_iff, hasB_iff])
        have VL : Hid (∀ C, IsC C (fun c => In A c ∧ ¬ In B c) → hasB C c = (x && !y)) := fun C h => hasB_of h (by rw [← HX.out, ← HY.out, Bool.and_eq_true, hasB_iff, Bool.not_eq_true', ← hasB_iff B c, Bool.not_eq_true])
        have VN : Hid (∀ C, IsC C (fun c => In A c ∧ isChar false c) → hasB C c = (x && charB false c)) := fun C h => hasB_of h (by rw [← HX.out, Bool.and_eq_true, hasB_iff, charB, decide_eq_true_iff])
        have VT : Hid (∀ C, IsC C (fun c => isChar false c ∧ ¬ In A c) → hasB C c = (charB false c && !x)) := fun C h => hasB_of h (by rw [← HX.out, Bool.and_eq_true, charB, decide_eq_true_iff, Bool.not_eq_true', ← hasB_iff A c, Bool.not_eq_true])
        have VF : Hid (∀ C, IsC C (foldP A) → hasB C c = (x || f)) := fun C h => hasB_of h (by rw [← HX.out, ← HF.out, Bool.or_eq_true, hasB_iff, hasB_iff]; exact fold_other A c)
        generalize charB false c = ch at *
        cases x with
        | true =>
          cases ch <;> (
            go_wp2_with first
            | (go_at_call 10; have hx := XF.out; clear hx; refine (has_c XF.out.1).mono ?_; rw [VF.out _ XF.out.2.1]; rintro e yF ⟨rfl, h1⟩; have YF : Hid (Below w.heap.size w yF) := chain XF.out.2.2 h1 (Nat.le_refl _); clear h1)
            | (go_at_call 17; have hx := YT.out; clear hx; refine (fold_c (H.out.1.1.kept YT.out) H.out.1.2 (by omega)).mono ?_; rintro e wF ⟨vF, CF, rfl, h1, h2, h3, h4⟩; have XF : Hid (ArgR wF vF CF ∧ IsC CF (foldP A) ∧ Below w.heap.size w wF) := ⟨h1.arg, h2, chain YT.out h4 (Nat.le_refl _)⟩; clear h1 h2 h3 h4)
            | (go_at_call 10; have hx := XT.out; clear hx; refine (has_c XT.out.1).mono ?_; rw [VT.out _ XT.out.2.1]; rintro e yT ⟨rfl, h1⟩; have YT : Hid (Below w.heap.size w yT) := chain XT.out.2.2 h1 (Nat.le_refl _); clear h1)
            | (go_at_call 16; have hx := YN.out; clear hx; refine (not_c (m := false) (H.out.1.1.kept YN.out) H.out.1.2 (by omega)).mono ?_; rintro e wT ⟨vT, CT, rfl, h1, h2, h3, h4⟩; have XT : Hid (ArgR wT vT CT ∧ IsC CT (fun c => isChar false c ∧ ¬ In A c) ∧ Below w.heap.size w wT) := ⟨h1.arg, h2, chain YN.out h4 (Nat.le_refl _)⟩; clear h1 h2 h3 h4)
            | (go_at_call 10; have hx := XN.out; clear hx; refine (has_c XN.out.1).mono ?_; rw [VN.out _ XN.out.2.1]; rintro e yN ⟨rfl, h1⟩; have YN : Hid (Below w.heap.size w yN) := chain XN.out.2.2 h1 (Nat.le_refl _); clear h1)
            | (go_at_call 15; have hx := YL.out; clear hx; refine (norm_c (m := false) (H.out.1.1.kept YL.out) H.out.1.2 (by omega)).mono ?_; rintro e wN ⟨vN, CN, rfl, h1, h2, h3, h4⟩; have XN : Hid (ArgR wN vN CN ∧ IsC CN (fun c => In A c ∧ isChar false c) ∧ Below w.heap.size w wN) := ⟨h1.arg, h2, chain YL.out h4 (Nat.le_refl _)⟩; clear h1 h2 h3 h4)
            | (go_at_call 10; have hx := XL.out; clear hx; refine (has_c XL.out.1).mono ?_; rw [VL.out _ XL.out.2.1]; rintro e yL ⟨rfl, h1⟩; have YL : Hid (Below w.heap.size w yL) := chain XL.out.2.2 h1 (Nat.le_refl _); clear h1)
            | (go_at_call 14; have hx := YA.out; clear hx; refine (less_c (H.out.1.1.kept YA.out) (H.out.2.1.kept YA.out) H.out.1.2 H.out.2.2 (by omega)).mono ?_; rintro e wL ⟨vL, CL, rfl, h1, h2, h3, h4⟩; have XL : Hid (ArgR wL vL CL ∧ IsC CL (fun c => In A c ∧ ¬ In B c) ∧ Below w.heap.size w wL) := ⟨h1.arg, h2, chain YA.out h4 (Nat.le_refl _)⟩; clear h1 h2 h3 h4)
            | (go_at_call 10; have hx := XA.out; clear hx; refine (has_c XA.out.1).mono ?_; rw [VA.out _ XA.out.2.1]; rintro e yA ⟨rfl, h1⟩; have YA : Hid (Below w.heap.size w yA) := chain XA.out.2.2 h1 (Nat.le_refl _); clear h1)
            | (go_at_call 13; have hx := YO.out; clear hx; refine (and_c (H.out.1.1.kept YO.out) (H.out.2.1.kept YO.out) H.out.1.2 H.out.2.2 (by omega)).mono ?_; rintro e wA ⟨vA, CA, rfl, h1, h2, h3, h4⟩; have XA : Hid (ArgR wA vA CA ∧ IsC CA (fun c => In A c ∧ In B c) ∧ Below w.heap.size w wA) := ⟨h1.arg, h2, chain YO.out h4 (Nat.le_refl _)⟩; clear h1 h2 h3 h4)
            | (go_at_call 10; have hx := XO.out; clear hx; refine (has_c XO.out.1).mono ?_; rw [VO.out _ XO.out.2.1]; rintro e yO ⟨rfl, h1⟩; have YO : Hid (Below w.heap.size w yO) := chain XO.out.2.2 h1 (Nat.le_refl _); clear h1)
            | (go_at_call 12; refine (or_c (H.out.1.1.kept X3.out) (H.out.2.1.kept X3.out) H.out.1.2 H.out.2.2 (by omega)).mono ?_; rintro e wO ⟨vO, CO, rfl, h1, h2, h3, h4⟩; have XO : Hid (ArgR wO vO CO ∧ IsC CO (fun c => In A c ∨ In B c) ∧ Below w.heap.size w wO) := ⟨h1.arg, h2, chain X3.out h4 (Nat.le_refl _)⟩; clear h1 h2 h3 h4)
            go_ret
            exact ⟨rfl, YF.out⟩)
        | false =>
          cases ch <;> (
            go_wp2_with first
            | (go_at_call 10; have hx := XF.out; clear hx; refine (has_c XF.out.1).mono ?_; rw [VF.out _ XF.out.2.1]; rintro e yF ⟨rfl, h1⟩; have YF : Hid (Below w.heap.size w yF) := chain XF.out.2.2 h1 (Nat.le_refl _); clear h1)
            | (go_at_call 17; have hx := YT.out; clear hx; refine (fold_c (H.out.1.1.kept YT.out) H.out.1.2 (by omega)).mono ?_; rintro e wF ⟨vF, CF, rfl, h1, h2, h3, h4⟩; have XF : Hid (ArgR wF vF CF ∧ IsC CF (foldP A) ∧ Below w.heap.size w wF) := ⟨h1.arg, h2, chain YT.out h4 (Nat.le_refl _)⟩; clear h1 h2 h3 h4)
            | (go_at_call 10; have hx := XT.out; clear hx; refine (has_c XT.out.1).mono ?_; rw [VT.out _ XT.out.2.1]; rintro e yT ⟨rfl, h1⟩; have YT : Hid (Below w.heap.size w yT) := chain XT.out.2.2 h1 (Nat.le_refl _); clear h1)
            | (go_at_call 16; have hx := YN.out; clear hx; refine (not_c (m := false) (H.out.1.1.kept YN.out) H.out.1.2 (by omega)).mono ?_; rintro e wT ⟨vT, CT, rfl, h1, h2, h3, h4⟩; have XT : Hid (ArgR wT vT CT ∧ IsC CT (fun c => isChar false c ∧ ¬ In A c) ∧ Below w.heap.size w wT) := ⟨h1.arg, h2, chain YN.out h4 (Nat.le_refl _)⟩; clear h1 h2 h3 h4)
            | (go_at_call 10; have hx := XN.out; clear hx; refine (has_c XN.out.1).mono ?_; rw [VN.out _ XN.out.2.1]; rintro e yN ⟨rfl, h1⟩; have YN : Hid (Below w.heap.size w yN) := chain XN.out.2.2 h1 (Nat.le_refl _); clear h1)
            | (go_at_call 15; have hx := YL.out; clear hx; refine (norm_c (m := false) (H.out.1.1.kept YL.out) H.out.1.2 (by omega)).mono ?_; rintro e wN ⟨vN, CN, rfl, h1, h2, h3, h4⟩; have XN : Hid (ArgR wN vN CN ∧ IsC CN (fun c => In A c ∧ isChar false c) ∧ Below w.heap.size w wN) := ⟨h1.arg, h2, chain YL.out h4 (Nat.le_refl _)⟩; clear h1 h2 h3 h4)
            | (go_at_call 10; have hx := XL.out; clear hx; refine (has_c XL.out.1).mono ?_; rw [VL.out _ XL.out.2.1]; rintro e yL ⟨rfl, h1⟩; have YL : Hid (Below w.heap.size w yL) := chain XL.out.2.2 h1 (Nat.le_refl _); clear h1)
            | (go_at_call 14; have hx := YA.out; clear hx; refine (less_c (H.out.1.1.kept YA.out) (H.out.2.1.kept YA.out) H.out.1.2 H.out.2.2 (by omega)).mono ?_; rintro e wL ⟨vL, CL, rfl, h1, h2, h3, h4⟩; have XL : Hid (ArgR wL vL CL ∧ IsC CL (fun c => In A c ∧ ¬ In B c) ∧ Below w.heap.size w wL) := ⟨h1.arg, h2, chain YA.out h4 (Nat.le_refl _)⟩; clear h1 h2 h3 h4)
            | (go_at_call 10; have hx := XA.out; clear hx; refine (has_c XA.out.1).mono ?_; rw [VA.out _ XA.out.2.1]; rintro e yA ⟨rfl, h1⟩; have YA : Hid (Below w.heap.size w yA) := chain XA.out.2.2 h1 (Nat.le_refl _); clear h1)
            | (go_at_call 13; have hx := YO.out; clear hx; refine (and_c (H.out.1.1.kept YO.out) (H.out.2.1.kept YO.out) H.out.1.2 H.out.2.2 (by omega)).mono ?_; rintro e wA ⟨vA, CA, rfl, h1, h2, h3, h4⟩; have XA : Hid (ArgR wA vA CA ∧ IsC CA (fun c => In A c ∧ In B c) ∧ Below w.heap.size w wA) := ⟨h1.arg, h2, chain YO.out h4 (Nat.le_refl _)⟩; clear h1 h2 h3 h4)
            | (go_at_call 10; have hx := XO.out; clear hx; refine (has_c XO.out.1).mono ?_; rw [VO.out _ XO.out.2.1]; rintro e yO ⟨rfl, h1⟩; have YO : Hid (Below w.heap.size w yO) := chain XO.out.2.2 h1 (Nat.le_refl _); clear h1)
            | (go_at_call 12; have hx := XZ.out; clear hx; refine (or_c (H.out.1.1.kept XZ.out) (H.out.2.1.kept XZ.out) H.out.1.2 H.out.2.2 (by omega)).mono ?_; rintro e wO ⟨vO, CO, rfl, h1, h2, h3, h4⟩; have XO : Hid (ArgR wO vO CO ∧ IsC CO (fun c => In A c ∨ In B c) ∧ Below w.heap.size w wO) := ⟨h1.arg, h2, chain XZ.out h4 (Nat.le_refl _)⟩; clear h1 h2 h3 h4)
            | (go_at_call 10; refine (has_c (H.out.1.1.kept X3.out)).mono ?_; rw [HF.out]; rintro e wz ⟨rfl, h1⟩; have XZ : Hid (Below w.heap.size w wz) := chain X3.out h1 (Nat.le_refl _); clear h1)
            go_ret
            exact ⟨rfl, YF.out⟩)
theorem law_each {w : World} {va vb : Value} {A B : List (Int × Int)} {c : Int} {m : Bool} (ha : ArgR w va A) (hb : ArgR w vb B) (fa : Fit A) (fb : Fit B) (hc : -9223372036854775808 ≤ c ∧ c ≤ 9223372036854775807) (la : A.length ≤ 1048576) (lb : B.length ≤ 1048576) :
    Calls Try.prog 3 #[va, vb, .int .i64 c, .bool m] w fun e w' => e = .returned (.bool true) ∧ Below w.heap.size w w' := by
  cases m with
  | true => exact law_each_true ha hb fa fb hc la lb
  | false => exact law_each_false ha hb fa fb hc la lb
end Go.Proofs.Ytfihhliiecdnaaa
