/-
  Norm, Or, And, Less, Not: each makes a class.
-/
import Derived.Test.YtfihhliiecdnaaaClass
import Derived.Test.YtfihhliiecdnaaaCommon
import Derived.Test.YtfihhliiecdnaaaRest2
import Derived.Test.YtfihhliiecdnaaaConcat
import Derived.Test.YtfihhliiecdnaaaChars
namespace Go.Proofs.Ytfihhliiecdnaaa
open Go Go.RowKit

def num (c : Int) : Prop := -9223372036854775808 ≤ c ∧ c ≤ 9223372036854775807
set_option maxHeartbeats 1000000 in
theorem norm_c {w : World} {v : Value} {L : List (Int × Int)} {m : Bool} (h : ArgR w v L) (hF : Fit L) (hl : L.length + 3 ≤ 8796093022208) :
    Calls Try.prog 15 #[v, .bool m] w (Gets w (fun c => In L c ∧ isChar m c) (L.length + 2)) := by
  have H : Hid (ArgR w v L ∧ Fit L) := ⟨h, hF⟩
  have hl1 : L.length ≤ 8796093022208 := by omega
  clear h hF
  go_enter Try.func15, Try.ntmps15
  go_wp2_with first
    | (go_at_call 40; refine (classOf_c H.out.1 H.out.2 hl1).mono ?_; rintro e w5 ⟨v5, C5, rfl, h1, h2, h3, h4⟩; have X5 : Hid (RR w.heap.size w5 v5 C5 ∧ IsC C5 (In L) ∧ C5.length ≤ L.length ∧ Below w.heap.size w w5) := ⟨h1, h2, h3, h4⟩; clear h1 h2 h3 h4)
    | (go_at_call 44; refine (chars_c m _).mono ?_; rintro e w6 ⟨v6, rfl, h1, h2⟩; have X6 : Hid (RR w5.heap.size w6 v6 (charsL m) ∧ Below w5.heap.size w5 w6) := ⟨h1, h2⟩; clear h1 h2)
    | (go_at_call 42; refine (common_c (X5.out.1.kept X6.out.2).arg X6.out.1.arg X5.out.2.1.cls (charsL_is m).cls X5.out.2.1.fit (charsL_is m).fit (by have := X5.out.2.2.1; have := charsL_length m; omega)).mono ?_; rintro e w7 ⟨v7, C7, rfl, h1, h2, h3, h4⟩; have X7 : Hid (RR w6.heap.size w7 v7 C7 ∧ IsC C7 (fun c => In C5 c ∧ In (charsL m) c) ∧ C7.length ≤ C5.length + (charsL m).length ∧ Below w6.heap.size w6 w7) := ⟨h1, h2, h3, h4⟩; clear h1 h2 h3 h4)
  go_ret
  have B6 := chain X5.out.2.2.2 X6.out.2 (Nat.le_refl _)
  refine ⟨_, _, rfl, X7.out.1.mono B6.size, X7.out.2.1.to fun c => ?_, ?_, chain B6 X7.out.2.2.2 (Nat.le_refl _)⟩
  · rw [X5.out.2.1.mem, (charsL_is m).mem]
  · have := X7.out.2.2.1
    have := X5.out.2.2.1
    have := charsL_length m
    omega

set_option maxHeartbeats 1000000 in
theorem and_c {w : World} {va vb : Value} {A B : List (Int × Int)} (ha : ArgR w va A) (hb : ArgR w vb B) (fa : Fit A) (fb : Fit B) (hl : A.length + B.length + 1 ≤ 8796093022208) :
    Calls Try.prog 13 #[va, vb] w (Gets w (fun c => In A c ∧ In B c) (A.length + B.length)) := by
  have H : Hid (ArgR w va A ∧ Fit A) := ⟨ha, fa⟩
  have K : Hid (ArgR w vb B ∧ Fit B) := ⟨hb, fb⟩
  have hl1 : A.length ≤ 8796093022208 := by omega
  have hl2 : B.length ≤ 8796093022208 := by omega
  clear ha hb fa fb
  go_enter Try.func13, Try.ntmps13
  go_wp2_with first
    | (have hx := X5.out; clear hx; go_at_call 40; have hih := classOf_c (K.out.1.kept X5.out.2.2.2) K.out.2 hl2; refine hih.mono ?_; clear hih; rintro e w6 ⟨v6, C6, rfl, h1, h2, h3, h4⟩; have X6 : Hid (RR w5.heap.size w6 v6 C6 ∧ IsC C6 (In B) ∧ C6.length ≤ B.length ∧ Below w5.heap.size w5 w6) := ⟨h1, h2, h3, h4⟩; clear h1 h2 h3 h4)
    | (go_at_call 40; refine (classOf_c H.out.1 H.out.2 hl1).mono ?_; rintro e w5 ⟨v5, C5, rfl, h1, h2, h3, h4⟩; have X5 : Hid (RR w.heap.size w5 v5 C5 ∧ IsC C5 (In A) ∧ C5.length ≤ A.length ∧ Below w.heap.size w w5) := ⟨h1, h2, h3, h4⟩; clear h1 h2 h3 h4)
    | (go_at_call 42; refine (common_c (X5.out.1.kept X6.out.2.2.2).arg X6.out.1.arg X5.out.2.1.cls X6.out.2.1.cls X5.out.2.1.fit X6.out.2.1.fit (by have := X5.out.2.2.1; have := X6.out.2.2.1; omega)).mono ?_; rintro e w7 ⟨v7, C7, rfl, h1, h2, h3, h4⟩; have X7 : Hid (RR w6.heap.size w7 v7 C7 ∧ IsC C7 (fun c => In C5 c ∧ In C6 c) ∧ C7.length ≤ C5.length + C6.length ∧ Below w6.heap.size w6 w7) := ⟨h1, h2, h3, h4⟩; clear h1 h2 h3 h4)
  go_ret
  have B6 := chain X5.out.2.2.2 X6.out.2.2.2 (Nat.le_refl _)
  refine ⟨_, _, rfl, X7.out.1.mono B6.size, X7.out.2.1.to fun c => ?_, ?_, chain B6 X7.out.2.2.2 (Nat.le_refl _)⟩
  · rw [X5.out.2.1.mem, X6.out.2.1.mem]
  · have := X7.out.2.2.1
    have := X5.out.2.2.1
    have := X6.out.2.2.1
    omega

set_option maxHeartbeats 1000000 in
theorem less_c {w : World} {va vb : Value} {A B : List (Int × Int)} (ha : ArgR w va A) (hb : ArgR w vb B) (fa : Fit A) (fb : Fit B) (hl : A.length + B.length + 3 ≤ 8796093022208) :
    Calls Try.prog 14 #[va, vb] w (Gets w (fun c => In A c ∧ ¬ In B c) (A.length + B.length + 1)) := by
  have H : Hid (ArgR w va A ∧ Fit A) := ⟨ha, fa⟩
  have K : Hid (ArgR w vb B ∧ Fit B) := ⟨hb, fb⟩
  have hl1 : A.length ≤ 8796093022208 := by omega
  have hl2 : B.length ≤ 8796093022208 := by omega
  clear ha hb fa fb
  go_enter Try.func14, Try.ntmps14
  go_wp2_with first
    | (have hx := X5.out; clear hx; go_at_call 40; have hih := classOf_c (K.out.1.kept X5.out.2.2.2) K.out.2 hl2; refine hih.mono ?_; clear hih; rintro e w6 ⟨v6, C6, rfl, h1, h2, h3, h4⟩; have X6 : Hid (RR w5.heap.size w6 v6 C6 ∧ IsC C6 (In B) ∧ C6.length ≤ B.length ∧ Below w5.heap.size w5 w6) := ⟨h1, h2, h3, h4⟩; clear h1 h2 h3 h4)
    | (go_at_call 40; refine (classOf_c H.out.1 H.out.2 hl1).mono ?_; rintro e w5 ⟨v5, C5, rfl, h1, h2, h3, h4⟩; have X5 : Hid (RR w.heap.size w5 v5 C5 ∧ IsC C5 (In A) ∧ C5.length ≤ A.length ∧ Below w.heap.size w w5) := ⟨h1, h2, h3, h4⟩; clear h1 h2 h3 h4)
    | (go_at_call 43; refine (rest_c X6.out.1.arg X6.out.2.1.cls X6.out.2.1.fit (by have := X6.out.2.2.1; omega)).mono ?_; rintro e w8 ⟨v8, C8, rfl, h1, h2, h3, h4⟩; have X8 : Hid (RR w6.heap.size w8 v8 C8 ∧ IsC C8 (fun c => (-9223372036854775808 ≤ c ∧ c ≤ 9223372036854775807) ∧ ¬ In C6 c) ∧ C8.length ≤ C6.length + 1 ∧ Below w6.heap.size w6 w8) := ⟨h1, h2, h3, h4⟩; clear h1 h2 h3 h4)
    | (go_at_call 42; refine (common_c ((X5.out.1.kept X6.out.2.2.2).kept X8.out.2.2.2).arg X8.out.1.arg X5.out.2.1.cls X8.out.2.1.cls X5.out.2.1.fit X8.out.2.1.fit (by have := X5.out.2.2.1; have := X6.out.2.2.1; have := X8.out.2.2.1; omega)).mono ?_; rintro e w7 ⟨v7, C7, rfl, h1, h2, h3, h4⟩; have X7 : Hid (RR w8.heap.size w7 v7 C7 ∧ IsC C7 (fun c => In C5 c ∧ In C8 c) ∧ C7.length ≤ C5.length + C8.length ∧ Below w8.heap.size w8 w7) := ⟨h1, h2, h3, h4⟩; clear h1 h2 h3 h4)
  go_ret
  have B8 := chain (chain X5.out.2.2.2 X6.out.2.2.2 (Nat.le_refl _)) X8.out.2.2.2 (Nat.le_refl _)
  refine ⟨_, _, rfl, X7.out.1.mono B8.size, X7.out.2.1.to fun c => ?_, ?_, chain B8 X7.out.2.2.2 (Nat.le_refl _)⟩
  · rw [X5.out.2.1.mem, X8.out.2.1.mem, X6.out.2.1.mem]
    exact ⟨fun ⟨p, q⟩ => ⟨p, q.2⟩, fun ⟨p, q⟩ => ⟨p, in_fit H.out.2 p, q⟩⟩
  · have := X7.out.2.2.1
    have := X5.out.2.2.1
    have := X6.out.2.2.1
    have := X8.out.2.2.1
    omega
theorem char_num {m : Bool} {c : Int} (h : isChar m c) : -9223372036854775808 ≤ c ∧ c ≤ 9223372036854775807 := by
  obtain ⟨h1, h2, _⟩ := h
  unfold top at h2
  split at h2 <;> omega
set_option maxHeartbeats 1000000 in
theorem not_c {w : World} {v : Value} {L : List (Int × Int)} {m : Bool} (h : ArgR w v L) (hF : Fit L) (hl : L.length + 5 ≤ 8796093022208) :
    Calls Try.prog 16 #[v, .bool m] w (Gets w (fun c => isChar m c ∧ ¬ In L c) (L.length + 3)) := by
  have K : Hid (ArgR w v L ∧ Fit L) := ⟨h, hF⟩
  have hl2 : L.length ≤ 8796093022208 := by omega
  clear h hF
  go_enter Try.func16, Try.ntmps16
  go_wp2_with first
    | (go_at_call 44; refine (chars_c m _).mono ?_; rintro e w5 ⟨v5, rfl, h1, h2⟩; have X5 : Hid (RR w.heap.size w5 v5 (charsL m) ∧ Below w.heap.size w w5) := ⟨h1, h2⟩; clear h1 h2)
    | (go_at_call 40; refine (classOf_c (K.out.1.kept X5.out.2) K.out.2 hl2).mono ?_; rintro e w6 ⟨v6, C6, rfl, h1, h2, h3, h4⟩; have X6 : Hid (RR w5.heap.size w6 v6 C6 ∧ IsC C6 (In L) ∧ C6.length ≤ L.length ∧ Below w5.heap.size w5 w6) := ⟨h1, h2, h3, h4⟩; clear h1 h2 h3 h4)
    | (go_at_call 43; refine (rest_c X6.out.1.arg X6.out.2.1.cls X6.out.2.1.fit (by have := X6.out.2.2.1; omega)).mono ?_; rintro e w8 ⟨v8, C8, rfl, h1, h2, h3, h4⟩; have X8 : Hid (RR w6.heap.size w8 v8 C8 ∧ IsC C8 (fun c => (-9223372036854775808 ≤ c ∧ c ≤ 9223372036854775807) ∧ ¬ In C6 c) ∧ C8.length ≤ C6.length + 1 ∧ Below w6.heap.size w6 w8) := ⟨h1, h2, h3, h4⟩; clear h1 h2 h3 h4)
    | (go_at_call 42; refine (common_c ((X5.out.1.kept X6.out.2.2.2).kept X8.out.2.2.2).arg X8.out.1.arg (charsL_is m).cls X8.out.2.1.cls (charsL_is m).fit X8.out.2.1.fit (by have := charsL_length m; have := X6.out.2.2.1; have := X8.out.2.2.1; omega)).mono ?_; rintro e w7 ⟨v7, C7, rfl, h1, h2, h3, h4⟩; have X7 : Hid (RR w8.heap.size w7 v7 C7 ∧ IsC C7 (fun c => In (charsL m) c ∧ In C8 c) ∧ C7.length ≤ (charsL m).length + C8.length ∧ Below w8.heap.size w8 w7) := ⟨h1, h2, h3, h4⟩; clear h1 h2 h3 h4)
  go_ret
  have B8 := chain (chain X5.out.2 X6.out.2.2.2 (Nat.le_refl _)) X8.out.2.2.2 (Nat.le_refl _)
  refine ⟨_, _, rfl, X7.out.1.mono B8.size, X7.out.2.1.to fun c => ?_, ?_, chain B8 X7.out.2.2.2 (Nat.le_refl _)⟩
  · rw [(charsL_is m).mem, X8.out.2.1.mem, X6.out.2.1.mem]
    exact ⟨fun ⟨p, q⟩ => ⟨p, q.2⟩, fun ⟨p, q⟩ => ⟨p, char_num p, q⟩⟩
  · have := X7.out.2.2.1
    have := charsL_length m
    have := X6.out.2.2.1
    have := X8.out.2.2.1
    omega

theorem two_args {w : World} {va vb : Value} {A B : List (Int × Int)} (ha : ArgR w va A) (hb : ArgR w vb B) (t : TypeId) : ∀ (i : Nat) (p : Value × List (Int × Int)), [(va, A), (vb, B)][i]? = some p → (w.alloc (.cells #[va, vb] t)).cell? ⟨w.heap.size, i, none⟩ = some p.1 ∧ ArgR (w.alloc (.cells #[va, vb] t)) p.1 p.2 := by
  have B1 : Below w.heap.size w (w.alloc (.cells #[va, vb] t)) := (Below.refl _ _).alloc (Nat.le_refl _) _
  intro i p hp
  match i, hp with
  | 0, hp => simp at hp; subst hp; exact ⟨cell_row (alloc_new w _) (i := 0) rfl, ha.kept B1⟩
  | 1, hp => simp at hp; subst hp; exact ⟨cell_row (alloc_new w _) (i := 1) rfl, hb.kept B1⟩
set_option maxHeartbeats 1000000 in
theorem or_c {w : World} {va vb : Value} {A B : List (Int × Int)} (ha : ArgR w va A) (hb : ArgR w vb B) (fa : Fit A) (fb : Fit B) (hl : A.length + B.length + 1 ≤ 8796093022208) :
    Calls Try.prog 12 #[va, vb] w (Gets w (fun c => In A c ∨ In B c) (A.length + B.length)) := by
  obtain ⟨q1, k1, e1, -, -, -⟩ := ha.slice
  obtain ⟨q2, k2, e2, -, -, -⟩ := hb.slice
  subst e1 e2
  have H : Hid (ArgR w (.slice q1 A.length k1) A ∧ ArgR w (.slice q2 B.length k2) B) := ⟨ha, hb⟩
  have FF : Hid (Fit (A ++ B)) := fit_append fa fb
  have B1 : Hid (Below w.heap.size w (w.alloc (.cells #[.slice q1 A.length k1, .slice q2 B.length k2] 22))) := (Below.refl _ _).alloc (Nat.le_refl _) _
  clear ha hb fa fb
  have CC : Hid (Calls Try.prog 41 #[.slice (some ⟨w.heap.size, 0, none⟩) 2 2] (w.alloc (.cells #[.slice q1 A.length k1, .slice q2 B.length k2] 22)) fun e w' => ∃ v, e = .returned v ∧ RR w.heap.size w' v (A ++ B) ∧ Below w.heap.size w w') :=
    hide ((concat_c (V := [(.slice q1 A.length k1, A), (.slice q2 B.length k2, B)]) (m := 2) rfl (two_args H.out.1 H.out.2 22) (by simp) (by omega) (by simp [flat]; omega)).mono fun e w' ⟨v, h1, h2, h3⟩ => ⟨v, h1, by have := h2.mono (base' := w.heap.size) (by simp); simpa [flat] using this, chain B1.out h3 (Nat.le_refl _)⟩)
  go_enter Try.func12, Try.ntmps12
  go_wp2_with first
    | (go_at_call 41; refine CC.out.mono ?_; rintro e w5 ⟨v5, rfl, h1, h2⟩; have X5 : Hid (RR w.heap.size w5 v5 (A ++ B) ∧ Below w.heap.size w w5) := ⟨h1, h2⟩; clear h1 h2)
    | (go_at_call 40; refine (classOf_c X5.out.1.arg FF.out (by simp; omega)).mono ?_; rintro e w6 ⟨v6, C6, rfl, h1, h2, h3, h4⟩; have X6 : Hid (RR w5.heap.size w6 v6 C6 ∧ IsC C6 (In (A ++ B)) ∧ C6.length ≤ (A ++ B).length ∧ Below w5.heap.size w5 w6) := ⟨h1, h2, h3, h4⟩; clear h1 h2 h3 h4)
  go_ret
  refine ⟨_, _, rfl, X6.out.1.mono X5.out.2.size, X6.out.2.1.to fun c => in_append A B c, by have := X6.out.2.2.1; simpa using this, chain X5.out.2 X6.out.2.2.2 (Nat.le_refl _)⟩
end Go.Proofs.Ytfihhliiecdnaaa
