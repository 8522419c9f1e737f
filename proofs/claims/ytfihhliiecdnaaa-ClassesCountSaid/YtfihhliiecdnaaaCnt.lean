/-
  How many characters there are in classes of a mode.
-/
import Derived.Test.YtfihhliiecdnaaaCount
import Derived.Test.YtfihhliiecdnaaaHas
import Derived.Test.YtfihhliiecdnaaaRising
namespace Go.Proofs.Ytfihhliiecdnaaa
open Go Go.RowKit

theorem countP_both {α : Type} (l : List α) (p q : α → Bool) : l.countP (fun x => p x || q x) + l.countP (fun x => p x && q x) = l.countP p + l.countP q := by
  induction l with
  | nil => rfl
  | cons a l ih =>
    simp only [List.countP_cons]
    cases hp : p a <;> cases hq : q a <;> simp <;> omega
theorem countP_iv (lo hi : Int) (h0 : 0 ≤ lo) : ∀ N : Nat, (((List.range N).countP fun n : Nat => decide (lo ≤ (n : Int)) && decide ((n : Int) ≤ hi) : Nat) : Int) = max 0 (min (hi + 1) N - lo)
  | 0 => by simp; omega
  | N + 1 => by
    have ih := countP_iv lo hi h0 N
    rw [List.range_succ, List.countP_append]
    simp only [List.countP_cons, List.countP_nil]
    by_cases h1 : lo ≤ (N : Int)
    · by_cases h2 : (N : Int) ≤ hi
      · simp [h1, h2]; omega
      · simp [h1, h2]; omega
    · simp [h1]; omega
theorem cntR_count : ∀ (C : List (Int × Int)), Cls C → (∀ c, In C c → 0 ≤ c ∧ c < 1114112) → cntR C = ((List.range 1114112).countP fun n : Nat => hasB C (n : Int) : Nat)
  | [], _, _ => by
    rw [List.countP_eq_zero.2 (by simp [hasB])]
    rfl
  | r :: C, h, hb => by
    have ih := cntR_count C (cls_tail h) fun c hc => hb c ((in_cons ..).2 (.inr hc))
    have hr := cls_head h
    have b1 := hb r.1 ((in_cons ..).2 (.inl ⟨Int.le_refl _, hr⟩))
    have b2 := hb r.2 ((in_cons ..).2 (.inl ⟨hr, Int.le_refl _⟩))
    have e := countP_both (List.range 1114112) (fun n : Nat => decide (r.1 ≤ (n : Int)) && decide ((n : Int) ≤ r.2)) (fun n : Nat => hasB C (n : Int))
    have z : (List.range 1114112).countP (fun n : Nat => (decide (r.1 ≤ (n : Int)) && decide ((n : Int) ≤ r.2)) && hasB C (n : Int)) = 0 := by
      rw [List.countP_eq_zero]
      intro n _ hn
      rw [Bool.and_eq_true, hasB_iff] at hn
      have := cls_above h hn.2
      have h3 := hn.1
      simp at h3
      omega
    have iv := countP_iv r.1 r.2 b1.1 1114112
    have ec : (List.range 1114112).countP (fun n : Nat => hasB (r :: C) (n : Int)) = (List.range 1114112).countP (fun n : Nat => (decide (r.1 ≤ (n : Int)) && decide ((n : Int) ≤ r.2)) || hasB C (n : Int)) := by
      simp only [hasB, List.any_cons]
    have ecn : cntR (r :: C) = (r.2 - r.1 + 1) + cntR C := by simp [cntR]
    rw [ec, ecn, ih]
    generalize (List.range 1114112).countP (fun n : Nat => (decide (r.1 ≤ (n : Int)) && decide ((n : Int) ≤ r.2)) || hasB C (n : Int)) = a at *
    generalize (List.range 1114112).countP (fun n : Nat => hasB C (n : Int)) = b at *
    generalize (List.range 1114112).countP (fun n : Nat => (decide (r.1 ≤ (n : Int)) && decide ((n : Int) ≤ r.2)) && hasB C (n : Int)) = d at *
    generalize (List.range 1114112).countP (fun n : Nat => decide (r.1 ≤ (n : Int)) && decide ((n : Int) ≤ r.2)) = f at *
    omega
theorem char_num' {m : Bool} {c : Int} (h : isChar m c) : 0 ≤ c ∧ c < 1114112 := by
  obtain ⟨h1, h2, _⟩ := h
  unfold top at h2
  split at h2 <;> omega
theorem cnt_is {C : List (Int × Int)} {p : Int → Prop} {m : Bool} (h : IsC C p) (hc : ∀ c, p c → isChar m c) : cntR C = ((List.range 1114112).countP fun n : Nat => hasB C (n : Int) : Nat) :=
  cntR_count C h.cls fun c q => char_num' (hc c ((h.mem c).1 q))
theorem cnt_le {C : List (Int × Int)} {p : Int → Prop} {m : Bool} (h : IsC C p) (hc : ∀ c, p c → isChar m c) : 0 ≤ cntR C ∧ cntR C ≤ 1114112 := by
  rw [cnt_is h hc]
  have := List.countP_le_length (p := fun n : Nat => hasB C (n : Int)) (l := List.range 1114112)
  rw [List.length_range] at this
  omega
theorem cnt_or_and {X Y O D : List (Int × Int)} {m : Bool} {p q : Int → Prop} (hX : IsC X p) (hY : IsC Y q) (hO : IsC O (fun c => In X c ∨ In Y c)) (hD : IsC D (fun c => In X c ∧ In Y c)) (hp : ∀ c, p c → isChar m c) (hq : ∀ c, q c → isChar m c) : cntR O + cntR D = cntR X + cntR Y := by
  rw [cnt_is hX hp, cnt_is hY hq, cnt_is hO (fun c h => h.elim (fun h => hp c ((hX.mem c).1 h)) (fun h => hq c ((hY.mem c).1 h))), cnt_is hD (fun c h => hp c ((hX.mem c).1 h.1))]
  have e := countP_both (List.range 1114112) (fun n : Nat => hasB X (n : Int)) (fun n : Nat => hasB Y (n : Int))
  have e1 : (fun n : Nat => hasB O (n : Int)) = fun n : Nat => hasB X (n : Int) || hasB Y (n : Int) := funext fun n : Nat => by
    rw [Bool.eq_iff_iff, Bool.or_eq_true, hasB_iff, hasB_iff, hasB_iff, hO.mem]
  have e2 : (fun n : Nat => hasB D (n : Int)) = fun n : Nat => hasB X (n : Int) && hasB Y (n : Int) := funext fun n : Nat => by
    rw [Bool.eq_iff_iff, Bool.and_eq_true, hasB_iff, hasB_iff, hasB_iff, hD.mem]
  rw [e1, e2]
  omega
theorem cnt_rest {X M A : List (Int × Int)} {m : Bool} {p : Int → Prop} (hX : IsC X p) (hp : ∀ c, p c → isChar m c) (hM : IsC M (fun c => isChar m c ∧ ¬ In X c)) (hA : IsC A (fun c => isChar m c ∧ ¬ In [] c)) : cntR X + cntR M = cntR A := by
  rw [cnt_is hX hp, cnt_is hM (fun c h => h.1), cnt_is hA (fun c h => h.1)]
  have e := countP_both (List.range 1114112) (fun n : Nat => hasB X (n : Int)) (fun n : Nat => hasB M (n : Int))
  have e1 : (fun n : Nat => hasB A (n : Int)) = fun n : Nat => hasB X (n : Int) || hasB M (n : Int) := funext fun n : Nat => by
    rw [Bool.eq_iff_iff, Bool.or_eq_true, hasB_iff, hasB_iff, hasB_iff, hA.mem, hM.mem]
    constructor
    · rintro ⟨q, _⟩
      rcases Classical.em (In X (n : Int)) with h | h
      · exact .inl h
      · exact .inr ⟨q, h⟩
    · rintro (q | ⟨q, _⟩)
      · exact ⟨hp _ ((hX.mem _).1 q), in_nil _⟩
      · exact ⟨q, in_nil _⟩
  have z : (List.range 1114112).countP (fun n : Nat => hasB X (n : Int) && hasB M (n : Int)) = 0 := by
    rw [List.countP_eq_zero]
    intro n _ hn
    rw [Bool.and_eq_true, hasB_iff, hasB_iff, hM.mem] at hn
    exact hn.2.2 hn.1
  rw [z] at e
  rw [e1]
  omega
theorem cls_len : ∀ (C : List (Int × Int)) (lo hi : Int), Cls C → (∀ c, In C c → lo ≤ c ∧ c ≤ hi) → C = [] ∨ 2 * (C.length : Int) ≤ hi - lo + 2
  | [], _, _, _, _ => .inl rfl
  | r :: C, lo, hi, h, hb => by
    have hr := cls_head h
    have b1 := hb r.1 ((in_cons ..).2 (.inl ⟨Int.le_refl _, hr⟩))
    have b2 := hb r.2 ((in_cons ..).2 (.inl ⟨hr, Int.le_refl _⟩))
    refine .inr ?_
    rcases cls_len C (r.2 + 2) hi (cls_tail h) (fun c hc => ⟨by have := cls_above h hc; omega, (hb c ((in_cons ..).2 (.inr hc))).2⟩) with rfl | q
    · simp; omega
    · simp; omega
theorem char_len {C : List (Int × Int)} {p : Int → Prop} {m : Bool} (h : IsC C p) (hc : ∀ c, p c → isChar m c) : C.length ≤ 600000 := by
  rcases cls_len C 0 1114111 h.cls (fun c q => by have := char_num' (hc c ((h.mem c).1 q)); omega) with rfl | q
  · simp
  · omega
theorem count_is {w : World} {v : Value} {L : List (Int × Int)} {m : Bool} {p : Int → Prop} {n : Int} (h : ArgR w v L) (hp : IsC L p) (hc : ∀ c, p c → isChar m c) (hn : cntR L = n) :
    Calls Try.prog 21 #[v] w fun e w' => e = .returned (.int .i64 n) ∧ Below w.heap.size w w' :=
  (count_c h hp.fit (by have := char_len hp hc; omega)).mono fun e w' ⟨C, h1, h2, h3⟩ => ⟨by
    have e : C = L := h1.one hp hp.mem
    have q := cnt_le hp hc
    rw [h2, e, ← hn]
    unfold cntM
    rw [Int.min_eq_left (by omega)], h3⟩
theorem fold_twice {X F : List (Int × Int)} (hF : IsC F (foldP X)) (c : Int) : foldP F c ↔ In F c := by
  constructor
  · rintro (q | ⟨q, h1, h2⟩ | ⟨q, h1, h2⟩)
    · exact q
    · rw [hF.mem] at q ⊢
      rcases q with q | ⟨q, h3, h4⟩ | ⟨q, h3, h4⟩
      · exact .inr (.inl ⟨q, h1, h2⟩)
      · omega
      · rw [show c - 32 + 32 = c by omega] at q
        exact .inl q
    · rw [hF.mem] at q ⊢
      rcases q with q | ⟨q, h3, h4⟩ | ⟨q, h3, h4⟩
      · exact .inr (.inr ⟨q, h1, h2⟩)
      · rw [show c + 32 - 32 = c by omega] at q
        exact .inl q
      · omega
  · exact .inl
end Go.Proofs.Ytfihhliiecdnaaa
