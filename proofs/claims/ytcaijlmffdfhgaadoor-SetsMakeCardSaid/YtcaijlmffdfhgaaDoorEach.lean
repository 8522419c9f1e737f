/-
  The law SetsEach, walked: a set with a byte has it, and all others as before; without it, likewise.
-/
import Derived.Test.YtcaijlmffdfhgaaDoorEx
namespace Go.Proofs.YtcaijlmffdfhgaaDoor
open Go Go.RowKit
attribute [local go_sem] idx0 idx1 idx2 idx3 u64_signed ext_cell eqg_set eqIn_set

theorem bit_and (a b : S) (n : Nat) : (sand a b).getLsbD n = (a.getLsbD n && b.getLsbD n) := by simp [sand]
theorem bit_or (a b : S) (n : Nat) : (sor a b).getLsbD n = (a.getLsbD n || b.getLsbD n) := by simp [sor]
theorem shas_eq (s : S) (b : Int) : shas s b = (decide (0 ≤ b ∧ b ≤ 255) && s.getLsbD b.toNat) := by
  unfold shas
  by_cases h : 0 ≤ b ∧ b ≤ 255
  · rw [decide_eq_true h, Bool.true_and]
    have e : (s.getLsbD b.toNat = false) ↔ sand s (sonly b) = 0#256 := by
      constructor
      · intro hb
        refine BitVec.eq_of_getLsbD_eq fun n hn => ?_
        rw [bit_and, bit_only]
        by_cases hbn : b = (n : Int)
        · have : b.toNat = n := by omega
          rw [this] at hb; simp [hb]
        · simp [hbn]
      · intro h0
        have := congrArg (fun z => z.getLsbD b.toNat) h0
        simp only [bit_and, bit_only] at this
        have hx : decide (0 ≤ b ∧ b ≤ 255 ∧ b = (b.toNat : Int)) = true := by simp; omega
        rw [hx] at this
        simpa using this
    by_cases hb : s.getLsbD b.toNat = true
    · have : ¬ sand s (sonly b) = 0#256 := fun h0 => by rw [← e, hb] at h0; cases h0
      simp [this, hb]
    · have hb' : s.getLsbD b.toNat = false := by simpa using hb
      rw [hb']; simp [e.1 hb']
  · have : sonly b = 0#256 := by unfold sonly; rw [if_neg h]; rfl
    rw [this, decide_eq_false h]
    simp [sand]

theorem each_same_with (s : S) (b : Int) : shas (sor s (sonly b)) b = decide (0 ≤ b ∧ b ≤ 255) := by
  rw [shas_eq, bit_or, bit_only]
  by_cases h : 0 ≤ b ∧ b ≤ 255
  · have : b = (b.toNat : Int) := by omega
    simp [h, ← this]
  · simp [h]
theorem each_same_without (s : S) (b : Int) : shas (sless s (sonly b)) b = false := by
  rw [shas_eq, bit_less, bit_only]
  by_cases h : 0 ≤ b ∧ b ≤ 255
  · have : b = (b.toNat : Int) := by omega
    simp [h, ← this]
  · simp [h]
theorem each_other_with (s : S) (b c : Int) (h : ¬ c = b) : shas (sor s (sonly b)) c = shas s c := by
  rw [shas_eq, shas_eq, bit_or, bit_only]
  by_cases g : 0 ≤ c ∧ c ≤ 255
  · rw [decide_eq_false (show ¬ (0 ≤ b ∧ b ≤ 255 ∧ b = (c.toNat : Int)) by omega)]; simp
  · simp [g]
theorem each_other_without (s : S) (b c : Int) (h : ¬ c = b) : shas (sless s (sonly b)) c = shas s c := by
  rw [shas_eq, shas_eq, bit_less, bit_only]
  by_cases g : 0 ≤ c ∧ c ≤ 255
  · rw [decide_eq_false (show ¬ (0 ≤ b ∧ b ≤ 255 ∧ b = (c.toNat : Int)) by omega)]; simp
  · simp [g]

set_option maxRecDepth 100000 in
set_option maxHeartbeats 1000000 in
theorem law_each (s : S) (b c : Int) (w : World) (hT : Tab w) :
    Calls Tryd.prog 5 #[.agg #[.int .u64 (wd (s) 0), .int .u64 (wd (s) 1), .int .u64 (wd (s) 2), .int .u64 (wd (s) 3)], .int .i64 b, .int .i64 c] w fun e w' => e = .returned (.bool true) ∧ Below w.heap.size w w' := by
  have HT : Hid (Tab w) := hT
  clear hT
  by_cases hcb : c = b
  · subst hcb
    have E1 := each_same_with s c
    have E2 := each_same_without s c
    have hq : c < 0 ∨ (0 ≤ c ∧ c ≤ 255) ∨ 255 < c := by omega
    have HE1 : Hid (shas (sor s (sonly c)) c = decide (0 ≤ c ∧ c ≤ 255)) := E1
    clear E1
    rcases hq with h | ⟨h, h'⟩ | h
    all_goals
      have E1 := HE1.out
      first | rw [decide_eq_true (by omega)] at E1 | rw [decide_eq_false (by omega)] at E1
      go_enter Tryd.func5, Tryd.ntmps5
      go_wp2_with (first
        | (go_at_call 9; refine (examples_any _ (HT.out.below ((Below.refl _ _).alloc (Nat.le_refl _) _))).mono ?_; rintro e w1 ⟨rfl, hb1⟩; have H1 : Hid (Below w.heap.size w w1) := chain ((Below.refl _ _).alloc (Nat.le_refl _) _) hb1; have S1 : Hid (SetAt w1 w.heap.size s) := (SetAt.new w s).below hb1 (by simp); clear hb1; obtain ⟨a0, a1, a2, a3⟩ := S1.out.cells)
        | (go_at_call 21; refine (with_any _ _ _).mono ?_; rintro e w2 ⟨rfl, hb2⟩; have H2 : Hid (Below w.heap.size w w2) := chain H1.out hb2; have S2 : Hid (SetAt w2 w.heap.size s) := S1.out.below hb2 S1.out.lt; clear hb2 a0 a1 a2 a3; obtain ⟨a0, a1, a2, a3⟩ := S2.out.cells; have z2 := S2.out.lt)
        | (go_at_call 22; refine (without_any _ _ _).mono ?_; rintro e w3 ⟨rfl, hb3⟩; have H3 : Hid (Below w.heap.size w w3) := chain (H2.out.alloc H2.out.size _) hb3; have X3 : Hid (SetAt w3 w2.heap.size (sor s (sonly c))) := (SetAt.new w2 _).below hb3 (by simp); clear hb3 a0 a1 a2 a3; obtain ⟨x0, x1, x2, x3⟩ := X3.out.cells; have z3 := X3.out.lt)
        | (go_at_call 20; refine (has_any _ _ _).mono ?_; rintro e w5 ⟨rfl, hb5⟩; have H5 : Hid (Below w.heap.size w w5) := chain H4.out hb5; clear hb5)
        | (go_at_call 20; refine (has_any _ _ _).mono ?_; rintro e w4 ⟨rfl, hb4⟩; have H4 : Hid (Below w.heap.size w w4) := chain (H3.out.alloc H3.out.size _) hb4; have Y4 : Hid (SetAt w4 w3.heap.size (sless s (sonly c))) := (SetAt.new w3 _).below hb4 (by simp); clear hb4; obtain ⟨y0, y1, y2, y3⟩ := Y4.out.cells))
      go_ret
      exact ⟨by first | (simp; done) | (simp; omega), H5.out⟩
  · have E1 := each_other_with s b c hcb
    have E2 := each_other_without s b c hcb
    have hne : (c == b) = false := by simp [hcb]
    clear hcb
    go_enter Tryd.func5, Tryd.ntmps5
    go_wp2_with (first
      | (go_at_call 9; refine (examples_any _ (HT.out.below ((Below.refl _ _).alloc (Nat.le_refl _) _))).mono ?_; rintro e w1 ⟨rfl, hb1⟩; have H1 : Hid (Below w.heap.size w w1) := chain ((Below.refl _ _).alloc (Nat.le_refl _) _) hb1; have S1 : Hid (SetAt w1 w.heap.size s) := (SetAt.new w s).below hb1 (by simp); clear hb1; obtain ⟨a0, a1, a2, a3⟩ := S1.out.cells)
      | (go_at_call 21; refine (with_any _ _ _).mono ?_; rintro e w2 ⟨rfl, hb2⟩; have H2 : Hid (Below w.heap.size w w2) := chain H1.out hb2; have S2 : Hid (SetAt w2 w.heap.size s) := S1.out.below hb2 S1.out.lt; clear hb2 a0 a1 a2 a3; obtain ⟨a0, a1, a2, a3⟩ := S2.out.cells; have z2 := S2.out.lt)
      | (go_at_call 22; refine (without_any _ _ _).mono ?_; rintro e w3 ⟨rfl, hb3⟩; have H3 : Hid (Below w.heap.size w w3) := chain (H2.out.alloc H2.out.size _) hb3; have X3 : Hid (SetAt w3 w2.heap.size (sor s (sonly b))) := (SetAt.new w2 _).below hb3 (by simp); have S3 : Hid (SetAt w3 w.heap.size s) := (S2.out.alloc _).below hb3 (S2.out.alloc _).lt; clear hb3 a0 a1 a2 a3; obtain ⟨x0, x1, x2, x3⟩ := X3.out.cells; obtain ⟨a0, a1, a2, a3⟩ := S3.out.cells; have z3 : w2.heap.size ≤ w3.heap.size := Nat.le_of_lt X3.out.lt; have z4 : w.heap.size ≤ w3.heap.size := Nat.le_of_lt S3.out.lt; have z5 := X3.out.lt; have z6 := S3.out.lt))
    all_goals
      refine wp_region_ext (by kernel_rfl) (by kernel_rfl) ?_
      repeat (go_big_quiet_step (first | exact rfl | (go_at_call 20; exact ext_call (has_any _ _ _))))
      refine wpQuiet_nil ?_
      intro w5 hw
      have hb5 := ext_of hw
      clear hw
      go_wp2
      go_ret
      exact ⟨by simp, chain (H3.out.alloc H3.out.size _) hb5⟩
end Go.Proofs.YtcaijlmffdfhgaaDoor
