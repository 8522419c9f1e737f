/-
  The document's own answer: Or, And, Less, Not, Fold.
-/
import Derived.Test.YtcaijlmffdfhgaaDoorRefE
namespace Go.Proofs.YtcaijlmffdfhgaaDoor
open Go Go.RowKit
attribute [local go_sem] u64_signed ext_cell zero_arr

theorem both_or (a b : S) : lai (bothF a b true true true false) 256 = sor a b := by
  refine lai_eq _ _ fun n hn => ?_
  rw [bit_or]; unfold bothF sbit
  cases a.getLsbD n <;> cases b.getLsbD n <;> rfl
theorem both_and (a b : S) : lai (bothF a b false false true false) 256 = sand a b := by
  refine lai_eq _ _ fun n hn => ?_
  rw [bit_and]; unfold bothF sbit
  cases a.getLsbD n <;> cases b.getLsbD n <;> rfl
theorem both_less (a b : S) : lai (bothF a b true false false false) 256 = sless a b := by
  refine lai_eq _ _ fun n hn => ?_
  rw [bit_less]; unfold bothF sbit
  cases a.getLsbD n <;> cases b.getLsbD n <;> simp
theorem both_not (a : S) : lai (bothF a a false false false true) 256 = snot a := by
  refine lai_eq _ _ fun n hn => ?_
  have : (snot a).getLsbD n = !a.getLsbD n := by unfold snot; simp [hn]
  rw [this]; unfold bothF sbit
  cases a.getLsbD n <;> rfl

set_option maxHeartbeats 1000000 in
theorem rOr (a b : S) (w : World) :
    Calls Tryd.prog 34 #[.agg #[.int .u64 (wd (a) 0), .int .u64 (wd (a) 1), .int .u64 (wd (a) 2), .int .u64 (wd (a) 3)], .agg #[.int .u64 (wd (b) 0), .int .u64 (wd (b) 1), .int .u64 (wd (b) 2), .int .u64 (wd (b) 3)]] w fun e w' => e = .returned (.agg #[.int .u64 (wd (sor a b) 0), .int .u64 (wd (sor a b) 1), .int .u64 (wd (sor a b) 2), .int .u64 (wd (sor a b) 3)]) ∧ Below w.heap.size w w' := by
  have HB0 : Hid (Below w.heap.size w (((w.alloc (.cells #[.int .u64 (wd (a) 0), .int .u64 (wd (a) 1), .int .u64 (wd (a) 2), .int .u64 (wd (a) 3)] 24)).alloc (.cells #[.int .u64 (wd (b) 0), .int .u64 (wd (b) 1), .int .u64 (wd (b) 2), .int .u64 (wd (b) 3)] 24)).alloc (.cells #[.int .u64 0, .int .u64 0, .int .u64 0, .int .u64 0] 24))) := (((Below.refl _ _).alloc (Nat.le_refl _) _).alloc (by simp) _).alloc (by simp; omega) _
  have RR0 : Hid (SetAt (((w.alloc (.cells #[.int .u64 (wd (a) 0), .int .u64 (wd (a) 1), .int .u64 (wd (a) 2), .int .u64 (wd (a) 3)] 24)).alloc (.cells #[.int .u64 (wd (b) 0), .int .u64 (wd (b) 1), .int .u64 (wd (b) 2), .int .u64 (wd (b) 3)] 24)).alloc (.cells #[.int .u64 0, .int .u64 0, .int .u64 0, .int .u64 0] 24)) (w.heap.size + 1 + 1) (0#256)) := (by have h := SetAt.new0 ((w.alloc (.cells #[.int .u64 (wd (a) 0), .int .u64 (wd (a) 1), .int .u64 (wd (a) 2), .int .u64 (wd (a) 3)] 24)).alloc (.cells #[.int .u64 (wd (b) 0), .int .u64 (wd (b) 1), .int .u64 (wd (b) 2), .int .u64 (wd (b) 3)] 24)); rw [World.size_alloc, World.size_alloc] at h; exact h)
  have HC : Hid (∀ w, Calls Tryd.prog 49 #[.agg #[.int .u64 (wd (a) 0), .int .u64 (wd (a) 1), .int .u64 (wd (a) 2), .int .u64 (wd (a) 3)], .agg #[.int .u64 (wd (b) 0), .int .u64 (wd (b) 1), .int .u64 (wd (b) 2), .int .u64 (wd (b) 3)], .bool true, .bool true, .bool true, .bool false] w fun e w' => e = .returned (.agg #[.int .u64 (wd (sor a b) 0), .int .u64 (wd (sor a b) 1), .int .u64 (wd (sor a b) 2), .int .u64 (wd (sor a b) 3)]) ∧ Below w.heap.size w w') := fun w => by have := both_any a b true true true false w; rw [both_or] at this; exact this
  go_enter Tryd.func34, Tryd.ntmps34
  go_wp2_with (go_at_call 49; refine (HC.out _).mono ?_; rintro e w1 ⟨rfl, hb1⟩; have H1 : Hid (Below w.heap.size w w1) := chain HB0.out hb1; have R1 : Hid (SetAt w1 (w.heap.size + 1 + 1) (0#256)) := RR0.out.below hb1 RR0.out.lt; clear hb1; obtain ⟨e0, e1, e2, e3⟩ := R1.out.cells; have fz := R1.out.frozen)
  exact bodyPost_ret (v := .agg #[.int .u64 (wd (sor a b) 0), .int .u64 (wd (sor a b) 1), .int .u64 (wd (sor a b) 2), .int .u64 (wd (sor a b) 3)]) (by simp [results, Tryd.results34, go_sem, e0, e1, e2, e3]) rfl ⟨rfl, (((H1.out.setCell (by simp; omega) _).setCell (by simp; omega) _).setCell (by simp; omega) _).setCell (by simp; omega) _⟩

set_option maxHeartbeats 1000000 in
theorem rAnd (a b : S) (w : World) :
    Calls Tryd.prog 35 #[.agg #[.int .u64 (wd (a) 0), .int .u64 (wd (a) 1), .int .u64 (wd (a) 2), .int .u64 (wd (a) 3)], .agg #[.int .u64 (wd (b) 0), .int .u64 (wd (b) 1), .int .u64 (wd (b) 2), .int .u64 (wd (b) 3)]] w fun e w' => e = .returned (.agg #[.int .u64 (wd (sand a b) 0), .int .u64 (wd (sand a b) 1), .int .u64 (wd (sand a b) 2), .int .u64 (wd (sand a b) 3)]) ∧ Below w.heap.size w w' := by
  have HB0 : Hid (Below w.heap.size w (((w.alloc (.cells #[.int .u64 (wd (a) 0), .int .u64 (wd (a) 1), .int .u64 (wd (a) 2), .int .u64 (wd (a) 3)] 24)).alloc (.cells #[.int .u64 (wd (b) 0), .int .u64 (wd (b) 1), .int .u64 (wd (b) 2), .int .u64 (wd (b) 3)] 24)).alloc (.cells #[.int .u64 0, .int .u64 0, .int .u64 0, .int .u64 0] 24))) := (((Below.refl _ _).alloc (Nat.le_refl _) _).alloc (by simp) _).alloc (by simp; omega) _
  have RR0 : Hid (SetAt (((w.alloc (.cells #[.int .u64 (wd (a) 0), .int .u64 (wd (a) 1), .int .u64 (wd (a) 2), .int .u64 (wd (a) 3)] 24)).alloc (.cells #[.int .u64 (wd (b) 0), .int .u64 (wd (b) 1), .int .u64 (wd (b) 2), .int .u64 (wd (b) 3)] 24)).alloc (.cells #[.int .u64 0, .int .u64 0, .int .u64 0, .int .u64 0] 24)) (w.heap.size + 1 + 1) (0#256)) := (by have h := SetAt.new0 ((w.alloc (.cells #[.int .u64 (wd (a) 0), .int .u64 (wd (a) 1), .int .u64 (wd (a) 2), .int .u64 (wd (a) 3)] 24)).alloc (.cells #[.int .u64 (wd (b) 0), .int .u64 (wd (b) 1), .int .u64 (wd (b) 2), .int .u64 (wd (b) 3)] 24)); rw [World.size_alloc, World.size_alloc] at h; exact h)
  have HC : Hid (∀ w, Calls Tryd.prog 49 #[.agg #[.int .u64 (wd (a) 0), .int .u64 (wd (a) 1), .int .u64 (wd (a) 2), .int .u64 (wd (a) 3)], .agg #[.int .u64 (wd (b) 0), .int .u64 (wd (b) 1), .int .u64 (wd (b) 2), .int .u64 (wd (b) 3)], .bool false, .bool false, .bool true, .bool false] w fun e w' => e = .returned (.agg #[.int .u64 (wd (sand a b) 0), .int .u64 (wd (sand a b) 1), .int .u64 (wd (sand a b) 2), .int .u64 (wd (sand a b) 3)]) ∧ Below w.heap.size w w') := fun w => by have := both_any a b false false true false w; rw [both_and] at this; exact this
  go_enter Tryd.func35, Tryd.ntmps35
  go_wp2_with (go_at_call 49; refine (HC.out _).mono ?_; rintro e w1 ⟨rfl, hb1⟩; have H1 : Hid (Below w.heap.size w w1) := chain HB0.out hb1; have R1 : Hid (SetAt w1 (w.heap.size + 1 + 1) (0#256)) := RR0.out.below hb1 RR0.out.lt; clear hb1; obtain ⟨e0, e1, e2, e3⟩ := R1.out.cells; have fz := R1.out.frozen)
  exact bodyPost_ret (v := .agg #[.int .u64 (wd (sand a b) 0), .int .u64 (wd (sand a b) 1), .int .u64 (wd (sand a b) 2), .int .u64 (wd (sand a b) 3)]) (by simp [results, Tryd.results35, go_sem, e0, e1, e2, e3]) rfl ⟨rfl, (((H1.out.setCell (by simp; omega) _).setCell (by simp; omega) _).setCell (by simp; omega) _).setCell (by simp; omega) _⟩

set_option maxHeartbeats 1000000 in
theorem rLess (a b : S) (w : World) :
    Calls Tryd.prog 36 #[.agg #[.int .u64 (wd (a) 0), .int .u64 (wd (a) 1), .int .u64 (wd (a) 2), .int .u64 (wd (a) 3)], .agg #[.int .u64 (wd (b) 0), .int .u64 (wd (b) 1), .int .u64 (wd (b) 2), .int .u64 (wd (b) 3)]] w fun e w' => e = .returned (.agg #[.int .u64 (wd (sless a b) 0), .int .u64 (wd (sless a b) 1), .int .u64 (wd (sless a b) 2), .int .u64 (wd (sless a b) 3)]) ∧ Below w.heap.size w w' := by
  have HB0 : Hid (Below w.heap.size w (((w.alloc (.cells #[.int .u64 (wd (a) 0), .int .u64 (wd (a) 1), .int .u64 (wd (a) 2), .int .u64 (wd (a) 3)] 24)).alloc (.cells #[.int .u64 (wd (b) 0), .int .u64 (wd (b) 1), .int .u64 (wd (b) 2), .int .u64 (wd (b) 3)] 24)).alloc (.cells #[.int .u64 0, .int .u64 0, .int .u64 0, .int .u64 0] 24))) := (((Below.refl _ _).alloc (Nat.le_refl _) _).alloc (by simp) _).alloc (by simp; omega) _
  have RR0 : Hid (SetAt (((w.alloc (.cells #[.int .u64 (wd (a) 0), .int .u64 (wd (a) 1), .int .u64 (wd (a) 2), .int .u64 (wd (a) 3)] 24)).alloc (.cells #[.int .u64 (wd (b) 0), .int .u64 (wd (b) 1), .int .u64 (wd (b) 2), .int .u64 (wd (b) 3)] 24)).alloc (.cells #[.int .u64 0, .int .u64 0, .int .u64 0, .int .u64 0] 24)) (w.heap.size + 1 + 1) (0#256)) := (by have h := SetAt.new0 ((w.alloc (.cells #[.int .u64 (wd (a) 0), .int .u64 (wd (a) 1), .int .u64 (wd (a) 2), .int .u64 (wd (a) 3)] 24)).alloc (.cells #[.int .u64 (wd (b) 0), .int .u64 (wd (b) 1), .int .u64 (wd (b) 2), .int .u64 (wd (b) 3)] 24)); rw [World.size_alloc, World.size_alloc] at h; exact h)
  have HC : Hid (∀ w, Calls Tryd.prog 49 #[.agg #[.int .u64 (wd (a) 0), .int .u64 (wd (a) 1), .int .u64 (wd (a) 2), .int .u64 (wd (a) 3)], .agg #[.int .u64 (wd (b) 0), .int .u64 (wd (b) 1), .int .u64 (wd (b) 2), .int .u64 (wd (b) 3)], .bool true, .bool false, .bool false, .bool false] w fun e w' => e = .returned (.agg #[.int .u64 (wd (sless a b) 0), .int .u64 (wd (sless a b) 1), .int .u64 (wd (sless a b) 2), .int .u64 (wd (sless a b) 3)]) ∧ Below w.heap.size w w') := fun w => by have := both_any a b true false false false w; rw [both_less] at this; exact this
  go_enter Tryd.func36, Tryd.ntmps36
  go_wp2_with (go_at_call 49; refine (HC.out _).mono ?_; rintro e w1 ⟨rfl, hb1⟩; have H1 : Hid (Below w.heap.size w w1) := chain HB0.out hb1; have R1 : Hid (SetAt w1 (w.heap.size + 1 + 1) (0#256)) := RR0.out.below hb1 RR0.out.lt; clear hb1; obtain ⟨e0, e1, e2, e3⟩ := R1.out.cells; have fz := R1.out.frozen)
  exact bodyPost_ret (v := .agg #[.int .u64 (wd (sless a b) 0), .int .u64 (wd (sless a b) 1), .int .u64 (wd (sless a b) 2), .int .u64 (wd (sless a b) 3)]) (by simp [results, Tryd.results36, go_sem, e0, e1, e2, e3]) rfl ⟨rfl, (((H1.out.setCell (by simp; omega) _).setCell (by simp; omega) _).setCell (by simp; omega) _).setCell (by simp; omega) _⟩

set_option maxHeartbeats 1000000 in
theorem rNot (s : S) (w : World) :
    Calls Tryd.prog 37 #[.agg #[.int .u64 (wd (s) 0), .int .u64 (wd (s) 1), .int .u64 (wd (s) 2), .int .u64 (wd (s) 3)]] w fun e w' => e = .returned (.agg #[.int .u64 (wd (snot s) 0), .int .u64 (wd (snot s) 1), .int .u64 (wd (snot s) 2), .int .u64 (wd (snot s) 3)]) ∧ Below w.heap.size w w' := by
  have HB0 : Hid (Below w.heap.size w ((w.alloc (.cells #[.int .u64 (wd (s) 0), .int .u64 (wd (s) 1), .int .u64 (wd (s) 2), .int .u64 (wd (s) 3)] 24)).alloc (.cells #[.int .u64 0, .int .u64 0, .int .u64 0, .int .u64 0] 24))) := ((Below.refl _ _).alloc (Nat.le_refl _) _).alloc (by simp) _
  have HC : Hid (∀ w, Calls Tryd.prog 49 #[.agg #[.int .u64 (wd (s) 0), .int .u64 (wd (s) 1), .int .u64 (wd (s) 2), .int .u64 (wd (s) 3)], .agg #[.int .u64 (wd (s) 0), .int .u64 (wd (s) 1), .int .u64 (wd (s) 2), .int .u64 (wd (s) 3)], .bool false, .bool false, .bool false, .bool true] w fun e w' => e = .returned (.agg #[.int .u64 (wd (snot s) 0), .int .u64 (wd (snot s) 1), .int .u64 (wd (snot s) 2), .int .u64 (wd (snot s) 3)]) ∧ Below w.heap.size w w') := fun w => by have := both_any s s false false false true w; rw [both_not] at this; exact this
  go_enter Tryd.func37, Tryd.ntmps37
  go_wp2_with (go_at_call 49; refine (HC.out _).mono ?_; rintro e w1 ⟨rfl, hb1⟩; have H1 : Hid (Below w.heap.size w w1) := chain HB0.out hb1; have R1 : Hid (SetAt w1 (w.heap.size + 1) (0#256)) := (by have h := SetAt.new0 (w.alloc (.cells #[.int .u64 (wd (s) 0), .int .u64 (wd (s) 1), .int .u64 (wd (s) 2), .int .u64 (wd (s) 3)] 24)); rw [World.size_alloc] at h; exact h.below hb1 (by simp)); clear hb1; obtain ⟨e0, e1, e2, e3⟩ := R1.out.cells; have fz := R1.out.frozen)
  exact bodyPost_ret (v := .agg #[.int .u64 (wd (snot s) 0), .int .u64 (wd (snot s) 1), .int .u64 (wd (snot s) 2), .int .u64 (wd (snot s) 3)]) (by simp [results, Tryd.results37, go_sem, e0, e1, e2, e3]) rfl ⟨rfl, (((H1.out.setCell (by simp) _).setCell (by simp) _).setCell (by simp) _).setCell (by simp) _⟩

set_option maxHeartbeats 1000000 in
theorem rOther (b : Int) (w : World) (h0 : 0 ≤ b) (h1 : b < 256) :
    Calls Tryd.prog 51 #[.int .i64 b] w fun e w' => e = .returned (.int .i64 (oc b)) ∧ w' = w := by
  have hq : b < 65 ∨ (65 ≤ b ∧ b ≤ 90) ∨ (90 < b ∧ b < 97) ∨ (97 ≤ b ∧ b ≤ 122) ∨ 122 < b := by omega
  rcases hq with h | ⟨h, h'⟩ | ⟨h, h'⟩ | ⟨h, h'⟩ | h
  all_goals
    go_enter Tryd.func51, Tryd.ntmps51
    go_wp2
    go_ret
    exact ⟨by unfold oc; (first | rw [if_pos (by omega)] | rw [if_neg (by omega), if_pos (by omega)] | rw [if_neg (by omega), if_neg (by omega)]); rfl, rfl⟩
end Go.Proofs.YtcaijlmffdfhgaaDoor
