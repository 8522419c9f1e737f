/-
  rest: the class of all numbers that are not in a class.
-/
import Derived.Test.YtfihhliiecdnaabAdd
namespace Go.Proofs.Ytfihhliiecdnaab
open Go Go.RowKit

def lenV : Value → Nat
  | .slice _ n _ => n
  | _ => 0
/-- What rest has made of the first k ranges: the gaps G below f. -/
structure RestI (C : List (Int × Int)) (k : Nat) (f : Int) (G : List (Int × Int)) : Prop where
  cls : Cls G
  fit : Fit G
  len : G.length ≤ k
  mem : ∀ c, In G c ↔ -9223372036854775808 ≤ c ∧ c < f ∧ ¬ In (C.take k) c
  apart : ∀ x ∈ G, x.2 + 1 < f
  lo : -9223372036854775808 ≤ f
  hi : f ≤ 9223372036854775807
  below : ∀ x ∈ C.take k, x.2 < f
  next : ∀ r, C[k]? = some r → f ≤ r.1
theorem RestI.start {C : List (Int × Int)} (hF : Fit C) : RestI C 0 (-9223372036854775808) [] :=
  ⟨cls_nil, fit_nil, Nat.le_refl _, fun c => ⟨fun q => absurd q (in_nil c), fun q => by omega⟩, fun _ h => (by cases h), by omega, by omega, fun _ h => (by simp at h), fun r hr => (hF r (List.mem_of_getElem? hr)).1.1⟩
def gapG (f lo : Int) (G : List (Int × Int)) : List (Int × Int) := if f < lo then G ++ [(f, lo - 1)] else G
theorem in_take_next {C : List (Int × Int)} {k : Nat} {r : Int × Int} (hr : C[k]? = some r) (c : Int) : In (C.take (k + 1)) c ↔ In (C.take k) c ∨ (r.1 ≤ c ∧ c ≤ r.2) := by
  obtain ⟨hk, rfl⟩ := List.getElem?_eq_some_iff.1 hr
  rw [take_next C k hk, in_append, in_one]
theorem RestI.gap {C : List (Int × Int)} {k : Nat} {f : Int} {G : List (Int × Int)} {r : Int × Int} (I : RestI C k f G) (hr : C[k]? = some r) (hC : Cls C) (hF : Fit C) :
    Cls (gapG f r.1 G) ∧ Fit (gapG f r.1 G) ∧ (gapG f r.1 G).length ≤ k + 1 ∧ (∀ c, In (gapG f r.1 G) c ↔ -9223372036854775808 ≤ c ∧ c ≤ r.2 ∧ ¬ In (C.take (k + 1)) c) ∧ ∀ x ∈ gapG f r.1 G, x.2 + 1 < r.2 + 1 := by
  have hrm := List.mem_of_getElem? hr
  have h1 := hC.some r hrm
  have h2 := hF r hrm
  have h3 := I.next r hr
  have l1 := I.lo
  have hnot : ∀ c, f ≤ c → ¬ In (C.take k) c := fun c hc ⟨x, hx, _, q⟩ => by have := I.below x hx; omega
  unfold gapG
  by_cases hf : f < r.1
  · rw [if_pos hf]
    refine ⟨cls_append I.cls (by simp only; omega) I.apart, fit_append I.fit (fit_one (by omega)), by have := I.len; simp; omega, fun c => ?_, fun x hx => ?_⟩
    · rw [in_append, in_one, I.mem, in_take_next hr]
      simp only
      constructor
      · rintro (⟨a, b, d⟩ | ⟨a, b⟩)
        · exact ⟨a, by omega, fun q => q.elim d fun q => by omega⟩
        · exact ⟨by omega, by omega, fun q => q.elim (hnot c a) fun q => by omega⟩
      · rintro ⟨a, b, d⟩
        by_cases hc : c < f
        · exact .inl ⟨a, hc, fun q => d (.inl q)⟩
        · refine .inr ⟨by omega, ?_⟩
          have : ¬ r.1 ≤ c := fun q => d (.inr ⟨q, b⟩)
          omega
    · rcases List.mem_append.1 hx with q | q
      · have := I.apart x q; omega
      · simp at q; subst q; simp only; omega
  · rw [if_neg hf]
    refine ⟨I.cls, I.fit, by have := I.len; omega, fun c => ?_, fun x hx => by have := I.apart x hx; omega⟩
    rw [I.mem, in_take_next hr]
    constructor
    · rintro ⟨a, b, d⟩
      exact ⟨a, by omega, fun q => q.elim d fun q => by omega⟩
    · rintro ⟨a, b, d⟩
      refine ⟨a, ?_, fun q => d (.inl q)⟩
      have : ¬ r.1 ≤ c := fun q => d (.inr ⟨q, b⟩)
      omega
theorem RestI.go {C : List (Int × Int)} {k : Nat} {f : Int} {G : List (Int × Int)} {r : Int × Int} (I : RestI C k f G) (hr : C[k]? = some r) (hC : Cls C) (hF : Fit C) (h : r.2 ≠ 9223372036854775807) : RestI C (k + 1) (r.2 + 1) (gapG f r.1 G) := by
  obtain ⟨g1, g2, g3, g4, g5⟩ := I.gap hr hC hF
  have hrm := List.mem_of_getElem? hr
  have h1 := hC.some r hrm
  have h2 := hF r hrm
  refine ⟨g1, g2, g3, fun c => (g4 c).trans ⟨fun ⟨a, b, d⟩ => ⟨a, by omega, d⟩, fun ⟨a, b, d⟩ => ⟨a, by omega, d⟩⟩, g5, by omega, by omega, fun x hx => ?_, fun s hs => ?_⟩
  · obtain ⟨hk, rfl⟩ := List.getElem?_eq_some_iff.1 hr
    rw [take_next C k hk] at hx
    rcases List.mem_append.1 hx with q | q
    · have q1 := I.below x q
      have q2 := I.next _ hr
      omega
    · simp at q; subst q; omega
  · obtain ⟨hk, rfl⟩ := List.getElem?_eq_some_iff.1 hr
    obtain ⟨hk', rfl⟩ := List.getElem?_eq_some_iff.1 hs
    have := List.pairwise_iff_getElem.1 hC.apart k (k + 1) hk hk' (by omega)
    omega
theorem RestI.full {C : List (Int × Int)} {k : Nat} {f : Int} {G : List (Int × Int)} {r : Int × Int} (I : RestI C k f G) (hr : C[k]? = some r) (hC : Cls C) (hF : Fit C) (h : r.2 = 9223372036854775807) : IsC (gapG f r.1 G) (fun c => (-9223372036854775808 ≤ c ∧ c ≤ 9223372036854775807) ∧ ¬ In C c) := by
  obtain ⟨g1, g2, g3, g4, g5⟩ := I.gap hr hC hF
  refine ⟨g1, g2, fun c => (g4 c).trans ⟨fun ⟨a, b, d⟩ => ⟨⟨a, by omega⟩, fun ⟨x, hx, p1, p2⟩ => ?_⟩, fun ⟨⟨a, b⟩, d⟩ => ⟨a, by omega, fun ⟨x, hx, q⟩ => d ⟨x, List.mem_of_mem_take hx, q⟩⟩⟩⟩
  obtain ⟨j, hj⟩ := List.getElem?_of_mem hx
  by_cases hjk : j < k + 1
  · exact d ⟨x, List.mem_of_getElem? (by rw [List.getElem?_take_of_lt hjk]; exact hj), p1, p2⟩
  · obtain ⟨hk, rfl⟩ := List.getElem?_eq_some_iff.1 hr
    obtain ⟨hk', rfl⟩ := List.getElem?_eq_some_iff.1 hj
    have := List.pairwise_iff_getElem.1 hC.apart k j hk hk' (by omega)
    omega
theorem RestI.all {C : List (Int × Int)} {f : Int} {G : List (Int × Int)} (I : RestI C C.length f G) : IsC (G ++ [(f, 9223372036854775807)]) (fun c => (-9223372036854775808 ≤ c ∧ c ≤ 9223372036854775807) ∧ ¬ In C c) := by
  have hlo := I.lo
  have hhi := I.hi
  have hnot : ∀ c, f ≤ c → ¬ In C c := fun c hc ⟨x, hx, _, q⟩ => by have := I.below x (by rw [List.take_length]; exact hx); omega
  refine ⟨cls_append I.cls (by simp only; omega) I.apart, fit_append I.fit (fit_one (by omega)), fun c => ?_⟩
  rw [in_append, in_one, I.mem, List.take_length]
  simp only
  constructor
  · rintro (⟨a, b, d⟩ | ⟨a, b⟩)
    · exact ⟨⟨a, by omega⟩, d⟩
    · exact ⟨⟨by omega, b⟩, hnot c a⟩
  · rintro ⟨⟨a, b⟩, d⟩
    by_cases hc : c < f
    · exact .inl ⟨a, hc, d⟩
    · exact .inr ⟨by omega, b⟩
theorem gapG_pos {f lo : Int} {G : List (Int × Int)} (h : f < lo) : gapG f lo G = G ++ [(f, lo - 1)] := if_pos h
theorem gapG_neg {f lo : Int} {G : List (Int × Int)} (h : ¬ f < lo) : gapG f lo G = G := if_neg h
end Go.Proofs.Ytfihhliiecdnaab
