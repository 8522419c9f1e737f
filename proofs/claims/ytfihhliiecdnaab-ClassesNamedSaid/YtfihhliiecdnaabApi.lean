/-
  Norm, Or, And, Less, Not: each makes a class.
-/
import Derived.Test.YtfihhliiecdnaabClass
import Derived.Test.YtfihhliiecdnaabCommon
import Derived.Test.YtfihhliiecdnaabRest2
import Derived.Test.YtfihhliiecdnaabConcat
import Derived.Test.YtfihhliiecdnaabChars
namespace Go.Proofs.Ytfihhliiecdnaab
open Go Go.RowKit

def num (c : Int) : Prop := -9223372036854775808 ≤ c ∧ c ≤ 9223372036854775807
set_option maxHeartbeats 1000000 in
theorem norm_c {w : World} {v : Value} {L : List (Int × Int)} {m : Bool} (h : ArgR w v L) (hF : Fit L) (hl : L.length + 3 ≤ 8796093022208) :
    Calls Try.prog 11 #[v, .bool m] w (Gets w (fun c => In L c ∧ isChar m c) (L.length + 2)) := by
  have H : Hid (ArgR w v L ∧ Fit L) := ⟨h, hF⟩
  have hl1 : L.length ≤ 8796093022208 := by omega
  clear h hF
  go_enter Try.func11, Try.ntmps11
  go_wp2_with first
    | (go_at_call 18; refine (classOf_c H.out.1 H.out.2 hl1).mono ?_; rintro e w5 ⟨v5, C5, rfl, h1, h2, h3, h4⟩; have X5 : Hid (RR w.heap.size w5 v5 C5 ∧ IsC C5 (In L) ∧ C5.length ≤ L.length ∧ Below w.heap.size w w5) := ⟨h1, h2, h3, h4⟩; clear h1 h2 h3 h4)
    | (go_at_call 20; refine (chars_c m _).mono ?_; rintro e w6 ⟨v6, rfl, h1, h2⟩; have X6 : Hid (RR w5.heap.size w6 v6 (charsL m) ∧ Below w5.heap.size w5 w6) := ⟨h1, h2⟩; clear h1 h2)
    | (go_at_call 19; refine (common_c (X5.out.1.kept X6.out.2).arg X6.out.1.arg X5.out.2.1.cls (charsL_is m).cls X5.out.2.1.fit (charsL_is m).fit (by have := X5.out.2.2.1; have := charsL_length m; omega)).mono ?_; rintro e w7 ⟨v7, C7, rfl, h1, h2, h3, h4⟩; have X7 : Hid (RR w6.heap.size w7 v7 C7 ∧ IsC C7 (fun c => In C5 c ∧ In (charsL m) c) ∧ C7.length ≤ C5.length + (charsL m).length ∧ Below w6.heap.size w6 w7) := ⟨h1, h2, h3, h4⟩; clear h1 h2 h3 h4)
  go_ret
  have B6 := chain X5.out.2.2.2 X6.out.2 (Nat.le_refl _)
  refine ⟨_, _, rfl, X7.out.1.mono B6.size, X7.out.2.1.to fun c => ?_, ?_, chain B6 X7.out.2.2.2 (Nat.le_refl _)⟩
  · rw [X5.out.2.1.mem, (charsL_is m).mem]
  · have := X7.out.2.2.1
    have := X5.out.2.2.1
    have := charsL_length m
    omega

set_option maxHeartbeats 1000000 in
theorem and_c {w : World} {va vb : Value} {A B : List (Int × Int)} (ha : ArgR w va A) (hb : ArgR w vb B) (fa : Fit A) (fb : Fit B) (hl : A.length + B.length + 1 ≤ 8796093022208) :
    Calls Try.prog 27 #[va, vb] w (Gets w (fun c => In A c ∧ In B c) (A.length + B.length)) := by
  have H : Hid (ArgR w va A ∧ Fit A) := ⟨ha, fa⟩
  have K : Hid (ArgR w vb B ∧ Fit B) := ⟨hb, fb⟩
  have hl1 : A.length ≤ 8796093022208 := by omega
  have hl2 : B.length ≤ 8796093022208 := by omega
  clear ha hb fa fb
  go_enter Try.func27, Try.ntmps27
  go_wp2_with first
    | (have hx := X5.out; clear hx; go_at_call 18; have hih := classOf_c (K.out.1.kept X5.out.2.2.2) K.out.2 hl2; refine hih.mono ?_; clear hih; rintro e w6 ⟨v6, C6, rfl, h1, h2, h3, h4⟩; have X6 : Hid (RR w5.heap.size w6 v6 C6 ∧ IsC C6 (In B) ∧ C6.length ≤ B.length ∧ Below w5.heap.size w5 w6) := ⟨h1, h2, h3, h4⟩; clear h1 h2 h3 h4)
    | (go_at_call 18; refine (classOf_c H.out.1 H.out.2 hl1).mono ?_; rintro e w5 ⟨v5, C5, rfl, h1, h2, h3, h4⟩; have X5 : Hid (RR w.heap.size w5 v5 C5 ∧ IsC C5 (In A) ∧ C5.length ≤ A.length ∧ Below w.heap.size w w5) := ⟨h1, h2, h3, h4⟩; clear h1 h2 h3 h4)
    | (go_at_call 19; refine (common_c (X5.out.1.kept X6.out.2.2.2).arg X6.out.1.arg X5.out.2.1.cls X6.out.2.1.cls X5.out.2.1.fit X6.out.2.1.fit (by have := X5.out.2.2.1; have := X6.out.2.2.1; omega)).mono ?_; rintro e w7 ⟨v7, C7, rfl, h1, h2, h3, h4⟩; have X7 : Hid (RR w6.heap.size w7 v7 C7 ∧ IsC C7 (fun c => In C5 c ∧ In C6 c) ∧ C7.length ≤ C5.length + C6.length ∧ Below w6.heap.size w6 w7) := ⟨h1, h2, h3, h4⟩; clear h1 h2 h3 h4)
  go_ret
  have B6 := chain X5.out.2.2.2 X6.out.2.2.2 (Nat.le_refl _)
  refine ⟨_, _, rfl, X7.out.1.mono B6.size, X7.out.2.1.to fun c => ?_, ?_, chain B6 X7.out.2.2.2 (Nat.le_refl _)⟩
  · rw [X5.out.2.1.mem, X6.out.2.1.mem]
  · have := X7.out.2.2.1
    have := X5.out.2.2.1
    have := X6.out.2.2.1
    omega

theorem char_num {m : Bool} {c : Int} (h : isChar m c) : -9223372036854775808 ≤ c ∧ c ≤ 9223372036854775807 := by
  obtain ⟨h1, h2, _⟩ := h
  unfold top at h2
  split at h2 <;> omega
theorem two_args {w : World} {va vb : Value} {A B : List (Int × Int)} (ha : ArgR w va A) (hb : ArgR w vb B) (t : TypeId) : ∀ (i : Nat) (p : Value × List (Int × Int)), [(va, A), (vb, B)][i]? = some p → (w.alloc (.cells #[va, vb] t)).cell? ⟨w.heap.size, i, none⟩ = some p.1 ∧ ArgR (w.alloc (.cells #[va, vb] t)) p.1 p.2 := by
  have B1 : Below w.heap.size w (w.alloc (.cells #[va, vb] t)) := (Below.refl _ _).alloc (Nat.le_refl _) _
  intro i p hp
  match i, hp with
  | 0, hp => simp at hp; subst hp; exact ⟨cell_row (alloc_new w _) (i := 0) rfl, ha.kept B1⟩
  | 1, hp => simp at hp; subst hp; exact ⟨cell_row (alloc_new w _) (i := 1) rfl, hb.kept B1⟩
end Go.Proofs.Ytfihhliiecdnaab
