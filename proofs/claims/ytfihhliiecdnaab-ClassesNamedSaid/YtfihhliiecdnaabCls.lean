/-
  Classes as mathematics: ranges that rise, are apart, have numbers; one list for each set.
-/
import Derived.Test.YtfihhliiecdnaabRows4
namespace Go.Proofs.Ytfihhliiecdnaab

/-- Is a number in one of some ranges? -/
def In (L : List (Int × Int)) (c : Int) : Prop := ∃ r ∈ L, r.1 ≤ c ∧ c ≤ r.2
structure Cls (L : List (Int × Int)) : Prop where
  some : ∀ r ∈ L, r.1 ≤ r.2
  apart : L.Pairwise (fun a b => a.2 + 1 < b.1)

theorem in_nil (c : Int) : ¬ In [] c := fun ⟨_, h, _⟩ => by cases h
theorem in_cons (r : Int × Int) (L : List (Int × Int)) (c : Int) : In (r :: L) c ↔ (r.1 ≤ c ∧ c ≤ r.2) ∨ In L c := by
  simp [In]
theorem in_append (A B : List (Int × Int)) (c : Int) : In (A ++ B) c ↔ In A c ∨ In B c := by
  constructor
  · rintro ⟨r, h, q⟩
    rcases List.mem_append.1 h with h | h
    · exact .inl ⟨r, h, q⟩
    · exact .inr ⟨r, h, q⟩
  · rintro (⟨r, h, q⟩ | ⟨r, h, q⟩)
    · exact ⟨r, List.mem_append.2 (.inl h), q⟩
    · exact ⟨r, List.mem_append.2 (.inr h), q⟩
theorem in_one (r : Int × Int) (c : Int) : In [r] c ↔ r.1 ≤ c ∧ c ≤ r.2 := by simp [In]
theorem cls_nil : Cls [] := ⟨fun _ h => (by cases h), List.Pairwise.nil⟩
theorem cls_tail {r : Int × Int} {L : List (Int × Int)} (h : Cls (r :: L)) : Cls L := ⟨fun x hx => h.some x (List.mem_cons_of_mem _ hx), (List.pairwise_cons.1 h.apart).2⟩
theorem cls_head {r : Int × Int} {L : List (Int × Int)} (h : Cls (r :: L)) : r.1 ≤ r.2 := h.some r List.mem_cons_self
theorem cls_next {r x : Int × Int} {L : List (Int × Int)} (h : Cls (r :: L)) (hx : x ∈ L) : r.2 + 1 < x.1 := (List.pairwise_cons.1 h.apart).1 x hx
theorem cls_above {r : Int × Int} {L : List (Int × Int)} (h : Cls (r :: L)) {c : Int} (hc : In L c) : r.2 + 1 < c := by
  obtain ⟨x, hx, h1, h2⟩ := hc
  have := cls_next h hx
  omega
theorem cls_unique : ∀ (A B : List (Int × Int)), Cls A → Cls B → (∀ c, In A c ↔ In B c) → A = B
  | [], [], _, _, _ => rfl
  | [], b :: B, _, hB, h => absurd ((h b.1).2 ⟨b, List.mem_cons_self, Int.le_refl _, cls_head hB⟩) (in_nil _)
  | a :: A, [], hA, _, h => absurd ((h a.1).1 ⟨a, List.mem_cons_self, Int.le_refl _, cls_head hA⟩) (in_nil _)
  | a :: A, b :: B, hA, hB, h => by
    have ha := cls_head hA
    have hb := cls_head hB
    have h1 : a.1 = b.1 := by
      have p := (h a.1).1 ((in_cons ..).2 (.inl ⟨Int.le_refl _, ha⟩))
      have q := (h b.1).2 ((in_cons ..).2 (.inl ⟨Int.le_refl _, hb⟩))
      rcases (in_cons ..).1 p with p | p
      · rcases (in_cons ..).1 q with q | q
        · omega
        · have := cls_above hA q; omega
      · have := cls_above hB p
        rcases (in_cons ..).1 q with q | q
        · omega
        · have := cls_above hA q; omega
    have h2 : a.2 = b.2 := by
      rcases Int.lt_trichotomy a.2 b.2 with q | q | q
      · have p := (h (a.2 + 1)).2 ((in_cons ..).2 (.inl ⟨by omega, by omega⟩))
        rcases (in_cons ..).1 p with p | p
        · omega
        · have := cls_above hA p; omega
      · exact q
      · have p := (h (b.2 + 1)).1 ((in_cons ..).2 (.inl ⟨by omega, by omega⟩))
        rcases (in_cons ..).1 p with p | p
        · omega
        · have := cls_above hB p; omega
    have e : a = b := Prod.ext h1 h2
    subst e
    rw [cls_unique A B (cls_tail hA) (cls_tail hB) fun c => ?_]
    constructor
    · intro p
      have := cls_above hA p
      rcases (in_cons ..).1 ((h c).1 ((in_cons ..).2 (.inr p))) with q | q
      · omega
      · exact q
    · intro p
      have := cls_above hB p
      rcases (in_cons ..).1 ((h c).2 ((in_cons ..).2 (.inr p))) with q | q
      · omega
      · exact q

/-- A class with a range that begins nowhere ahead of the class's last one. -/
def addM (C : List (Int × Int)) (r : Int × Int) : List (Int × Int) :=
  if r.2 < r.1 then C else
    match C.getLast? with
    | none => [r]
    | some x => if x.2 + 1 < r.1 then C ++ [r] else C.dropLast ++ [(x.1, max x.2 r.2)]
theorem addM_empty {C : List (Int × Int)} {r : Int × Int} (h : r.2 < r.1) : addM C r = C := if_pos h
theorem addM_nil {r : Int × Int} (h : ¬ r.2 < r.1) : addM [] r = [r] := by unfold addM; rw [if_neg h]; rfl
theorem addM_far {C : List (Int × Int)} {x r : Int × Int} (h : ¬ r.2 < r.1) (hf : x.2 + 1 < r.1) : addM (C ++ [x]) r = C ++ [x] ++ [r] := by
  unfold addM
  rw [if_neg h]
  simp [hf]
theorem addM_near {C : List (Int × Int)} {x r : Int × Int} (h : ¬ r.2 < r.1) (hf : ¬ x.2 + 1 < r.1) : addM (C ++ [x]) r = C ++ [(x.1, max x.2 r.2)] := by
  unfold addM
  rw [if_neg h]
  simp [hf]
theorem last_cases {α : Type} (C : List α) : C = [] ∨ ∃ D x, C = D ++ [x] := by
  rcases List.eq_nil_or_concat C with h | ⟨D, x, h⟩
  · exact .inl h
  · exact .inr ⟨D, x, by rw [h, List.concat_eq_append]⟩
theorem cls_append {A : List (Int × Int)} {r : Int × Int} (hA : Cls A) (hr : r.1 ≤ r.2) (h : ∀ x ∈ A, x.2 + 1 < r.1) : Cls (A ++ [r]) :=
  ⟨fun x hx => by
    rcases List.mem_append.1 hx with q | q
    · exact hA.some x q
    · simp at q; subst q; exact hr,
   List.pairwise_append.2 ⟨hA.apart, List.pairwise_singleton _ _, fun x hx y hy => by simp at hy; subst hy; exact h x hx⟩⟩
theorem cls_init {A : List (Int × Int)} {x : Int × Int} (h : Cls (A ++ [x])) : Cls A ∧ x.1 ≤ x.2 ∧ ∀ y ∈ A, y.2 + 1 < x.1 :=
  ⟨⟨fun y hy => h.some y (List.mem_append.2 (.inl hy)), (List.pairwise_append.1 h.apart).1⟩, h.some x (by simp), fun y hy => (List.pairwise_append.1 h.apart).2.2 y hy x (by simp)⟩
/-- What add answers. -/
theorem addM_spec {C : List (Int × Int)} {r : Int × Int} (hC : Cls C) (hl : r.1 ≤ r.2 → ∀ x ∈ C, x.1 ≤ r.1) :
    Cls (addM C r) ∧ (∀ c, In (addM C r) c ↔ In C c ∨ (r.1 ≤ c ∧ c ≤ r.2)) ∧ (∀ m, (r.1 ≤ r.2 → r.1 ≤ m) → (∀ x ∈ C, x.1 ≤ m) → ∀ x ∈ addM C r, x.1 ≤ m) := by
  by_cases h : r.2 < r.1
  · rw [addM_empty h]
    exact ⟨hC, fun c => ⟨.inl, fun q => q.elim id fun q => by omega⟩, fun m _ q => q⟩
  · have hr : r.1 ≤ r.2 := by omega
    have hl := hl hr
    rcases last_cases C with rfl | ⟨D, x, rfl⟩
    · rw [addM_nil h]
      refine ⟨⟨fun y hy => by simp at hy; subst hy; exact hr, List.pairwise_singleton _ _⟩, fun c => ?_, fun m hm _ y hy => by simp at hy; subst hy; exact hm hr⟩
      rw [in_one]
      exact ⟨.inr, fun q => q.elim (fun q => absurd q (in_nil _)) id⟩
    · obtain ⟨hD, hx, hDx⟩ := cls_init hC
      have hxr := hl x (by simp)
      by_cases hf : x.2 + 1 < r.1
      · rw [addM_far h hf]
        refine ⟨cls_append hC hr fun y hy => ?_, fun c => by rw [in_append, in_one], fun m hm q y hy => ?_⟩
        · rcases List.mem_append.1 hy with q | q
          · have := hDx y q; omega
          · simp at q; subst q; exact hf
        · rcases List.mem_append.1 hy with p | p
          · exact q y p
          · simp at p; subst p; exact hm hr
      · rw [addM_near h hf]
        refine ⟨cls_append hD (by simp only; omega) hDx, fun c => ?_, fun m hm q y hy => ?_⟩
        · rw [in_append, in_append, in_one, in_one]
          constructor
          · rintro (p | ⟨p1, p2⟩)
            · exact .inl (.inl p)
            · simp only at p1 p2
              by_cases hc : c ≤ x.2
              · exact .inl (.inr ⟨p1, hc⟩)
              · exact .inr ⟨by omega, by omega⟩
          · rintro ((p | ⟨p1, p2⟩) | ⟨p1, p2⟩)
            · exact .inl p
            · exact .inr ⟨p1, by simp only; omega⟩
            · exact .inr ⟨by simp only; omega, by simp only; omega⟩
        · rcases List.mem_append.1 hy with p | p
          · exact q y (List.mem_append.2 (.inl p))
          · simp at p; subst p; exact q x (by simp)

/-- Numbers of a machine. -/
def Fit (L : List (Int × Int)) : Prop := ∀ r ∈ L, (-9223372036854775808 ≤ r.1 ∧ r.1 ≤ 9223372036854775807) ∧ (-9223372036854775808 ≤ r.2 ∧ r.2 ≤ 9223372036854775807)
theorem fit_nil : Fit [] := fun _ h => by cases h
theorem fit_append {A B : List (Int × Int)} (hA : Fit A) (hB : Fit B) : Fit (A ++ B) := fun r hr => (List.mem_append.1 hr).elim (hA r) (hB r)
theorem fit_one {a b : Int} (h : (-9223372036854775808 ≤ a ∧ a ≤ 9223372036854775807) ∧ (-9223372036854775808 ≤ b ∧ b ≤ 9223372036854775807)) : Fit [(a, b)] := fun r hr => by simp at hr; subst hr; exact h
theorem fit_sub {A B : List (Int × Int)} (hA : Fit A) (h : ∀ x ∈ B, x ∈ A) : Fit B := fun r hr => hA r (h r hr)
theorem fit_addM {C : List (Int × Int)} {r : Int × Int} (hC : Fit C) (hr : Fit [r]) : Fit (addM C r) := by
  have q := hr r (by simp)
  by_cases h : r.2 < r.1
  · rw [addM_empty h]; exact hC
  · rcases last_cases C with rfl | ⟨D, x, rfl⟩
    · rw [addM_nil h]; exact hr
    · have hx := hC x (by simp)
      by_cases hf : x.2 + 1 < r.1
      · rw [addM_far h hf]; exact fit_append hC hr
      · rw [addM_near h hf]
        exact fit_append (fit_sub hC fun y hy => List.mem_append.2 (.inl hy)) (fit_one ⟨hx.1, by omega, by omega⟩)
theorem addM_length (C : List (Int × Int)) (r : Int × Int) : (addM C r).length ≤ C.length + 1 := by
  by_cases h : r.2 < r.1
  · rw [addM_empty h]; omega
  · rcases last_cases C with rfl | ⟨D, x, rfl⟩
    · rw [addM_nil h]; simp
    · by_cases hf : x.2 + 1 < r.1
      · rw [addM_far h hf]; simp
      · rw [addM_near h hf]; simp
theorem in_perm {A B : List (Int × Int)} (h : A.Perm B) (c : Int) : In A c ↔ In B c :=
  ⟨fun ⟨r, q, p⟩ => ⟨r, h.mem_iff.1 q, p⟩, fun ⟨r, q, p⟩ => ⟨r, h.mem_iff.2 q, p⟩⟩
theorem in_fit {L : List (Int × Int)} (hL : Fit L) {c : Int} (h : In L c) : -9223372036854775808 ≤ c ∧ c ≤ 9223372036854775807 := by
  obtain ⟨r, hr, h1, h2⟩ := h
  have := hL r hr
  omega

/-- The class of two: how the walk side by side goes. -/
theorem both_left {a b : Int × Int} {A B : List (Int × Int)} (hb : Cls (b :: B)) (h : a.2 < b.2) (c : Int) :
    (In (a :: A) c ∧ In (b :: B) c) ↔ (max a.1 b.1 ≤ c ∧ c ≤ min a.2 b.2) ∨ (In A c ∧ In (b :: B) c) := by
  rw [in_cons, in_cons]
  constructor
  · rintro ⟨p | p, q | q⟩
    · exact .inl ⟨by omega, by omega⟩
    · have := cls_above hb q; omega
    · exact .inr ⟨p, .inl q⟩
    · exact .inr ⟨p, .inr q⟩
  · rintro (⟨p, q⟩ | ⟨p, q⟩)
    · exact ⟨.inl ⟨by omega, by omega⟩, .inl ⟨by omega, by omega⟩⟩
    · exact ⟨.inr p, q⟩
theorem both_right {a b : Int × Int} {A B : List (Int × Int)} (ha : Cls (a :: A)) (h : b.2 ≤ a.2) (c : Int) :
    (In (a :: A) c ∧ In (b :: B) c) ↔ (max a.1 b.1 ≤ c ∧ c ≤ min a.2 b.2) ∨ (In (a :: A) c ∧ In B c) := by
  rw [in_cons, in_cons]
  constructor
  · rintro ⟨p | p, q | q⟩
    · exact .inl ⟨by omega, by omega⟩
    · exact .inr ⟨.inl p, q⟩
    · have := cls_above ha p; omega
    · exact .inr ⟨.inr p, q⟩
  · rintro (⟨p, q⟩ | ⟨p, q⟩)
    · exact ⟨.inl ⟨by omega, by omega⟩, .inl ⟨by omega, by omega⟩⟩
    · exact ⟨p, .inr q⟩

/-! ### Lists of ranges as values -/
def cellsR (L : List (Int × Int)) : List Go.Value := L.flatMap fun r => [.int .i64 r.1, .int .i64 r.2]
theorem cellsR_length (L : List (Int × Int)) : (cellsR L).length = L.length * 2 := by
  induction L with
  | nil => rfl
  | cons r L ih => simp [cellsR] at ih ⊢; omega
theorem cellsR_append (A B : List (Int × Int)) : cellsR (A ++ B) = cellsR A ++ cellsR B := by simp [cellsR]
theorem cellsR_one (L : List (Int × Int)) : ∀ v ∈ cellsR L, v.oneCell' = true := fun v hv => by
  simp [cellsR] at hv
  obtain ⟨a, b, _, rfl | rfl⟩ := hv <;> rfl
theorem cellsR_get : ∀ (L : List (Int × Int)) (i : Nat) (r : Int × Int), L[i]? = some r → (cellsR L)[2 * i]? = some (.int .i64 r.1) ∧ (cellsR L)[2 * i + 1]? = some (.int .i64 r.2)
  | [], i, r, h => by cases h
  | x :: L, 0, r, h => by
    simp at h
    subst h
    simp [cellsR]
  | x :: L, i + 1, r, h => by
    have := cellsR_get L i r (by simpa using h)
    simp only [cellsR, List.flatMap_cons] at this ⊢
    rw [show 2 * (i + 1) = 2 * i + 2 from by omega]
    simpa using this
theorem cellsR_set : ∀ (L : List (Int × Int)) (i : Nat) (a b : Int), ((cellsR L).set (i * 2) (.int .i64 a)).set (i * 2 + 1) (.int .i64 b) = cellsR (L.set i (a, b))
  | [], i, a, b => by simp [cellsR]
  | x :: L, 0, a, b => by simp [cellsR]
  | x :: L, i + 1, a, b => by
    have := cellsR_set L i a b
    simp only [cellsR, List.flatMap_cons, List.set_cons_succ] at this ⊢
    rw [show (i + 1) * 2 = i * 2 + 2 from by omega]
    simpa using this
theorem cellsR_setHi : ∀ (L : List (Int × Int)) (i : Nat) (r : Int × Int) (b : Int), L[i]? = some r → (cellsR L).set (i * 2 + 1) (.int .i64 b) = cellsR (L.set i (r.1, b))
  | [], i, r, b, h => by cases h
  | x :: L, 0, r, b, h => by simp at h; subst h; simp [cellsR]
  | x :: L, i + 1, r, b, h => by
    have := cellsR_setHi L i r b (by simpa using h)
    simp only [cellsR, List.flatMap_cons, List.set_cons_succ] at this ⊢
    rw [show (i + 1) * 2 = i * 2 + 2 from by omega]
    simpa using this
theorem cellsR_setLo : ∀ (L : List (Int × Int)) (i : Nat) (r : Int × Int) (b : Int), L[i]? = some r → (cellsR L).set (i * 2) (.int .i64 b) = cellsR (L.set i (b, r.2))
  | [], i, r, b, h => by cases h
  | x :: L, 0, r, b, h => by simp at h; subst h; simp [cellsR]
  | x :: L, i + 1, r, b, h => by
    have := cellsR_setLo L i r b (by simpa using h)
    simp only [cellsR, List.flatMap_cons, List.set_cons_succ] at this ⊢
    rw [show (i + 1) * 2 = i * 2 + 2 from by omega]
    simpa using this
end Go.Proofs.Ytfihhliiecdnaab
