/-
  dredgeref06.sorted, as mathematics: two rising lists, the lesser one first.
-/
import Derived.Test.YtfihhliiecdnaaaCommon
import Derived.Test.YtfihhliiecdnaaaRest2
import Derived.Laws.AppendOwnNone
import Derived.Test.YtfihhliiecdnaaaConcat
namespace Go.Proofs.Ytfihhliiecdnaaa
open Go Go.RowKit

/-- Ranges that have numbers, by their first ones. -/
structure Srt (S : List (Int × Int)) : Prop where
  some : ∀ r ∈ S, r.1 ≤ r.2
  rise : S.Pairwise (fun a b => a.1 ≤ b.1)
theorem srt_nil : Srt [] := ⟨fun _ h => (by cases h), List.Pairwise.nil⟩
theorem srt_tail {r : Int × Int} {L : List (Int × Int)} (h : Srt (r :: L)) : Srt L := ⟨fun x hx => h.some x (List.mem_cons_of_mem _ hx), (List.pairwise_cons.1 h.rise).2⟩
theorem srt_app {O L : List (Int × Int)} (h : Srt O) (k : Srt L) (hx : ∀ x ∈ O, ∀ y ∈ L, x.1 ≤ y.1) : Srt (O ++ L) :=
  ⟨fun r hr => (List.mem_append.1 hr).elim (h.some r) (k.some r), List.pairwise_append.2 ⟨h.rise, k.rise, hx⟩⟩
theorem srt_one {r : Int × Int} (h : r.1 ≤ r.2) : Srt [r] := ⟨fun x hx => by simp at hx; subst hx; exact h, List.pairwise_singleton _ _⟩
/-- The merge, on its way: O is out, A' and B' are left. -/
structure MI (A B A' B' O : List (Int × Int)) : Prop where
  out : Srt O
  a : Srt A'
  b : Srt B'
  mem : ∀ c, (In O c ∨ In A' c ∨ In B' c) ↔ (In A c ∨ In B c)
  le : ∀ x ∈ O, ∀ y, y ∈ A' ∨ y ∈ B' → x.1 ≤ y.1
  fit : Fit O ∧ Fit A' ∧ Fit B'
  len : O.length + A'.length + B'.length ≤ A.length + B.length
theorem MI.start {A B : List (Int × Int)} (ha : Srt A) (hb : Srt B) (fa : Fit A) (fb : Fit B) : MI A B A B [] :=
  ⟨srt_nil, ha, hb, fun c => ⟨fun q => q.elim (fun q => absurd q (in_nil c)) id, .inr⟩, fun _ h => (by cases h), ⟨fit_nil, fa, fb⟩, by simp⟩
theorem MI.right {A B A' B' O : List (Int × Int)} {a b : Int × Int} (I : MI A B (a :: A') (b :: B') O) (h : b.1 < a.1) : MI A B (a :: A') B' (O ++ [b]) := by
  refine ⟨srt_app I.out (srt_one (I.b.some b (by simp))) (fun x hx y hy => by simp at hy; subst hy; exact I.le x hx y (.inr (by simp))), I.a, srt_tail I.b, fun c => ?_, fun x hx y hy => ?_, ⟨fit_append I.fit.1 (fit_sub I.fit.2.2 fun z hz => by simp at hz; subst hz; simp), I.fit.2.1, fit_sub I.fit.2.2 fun z hz => List.mem_cons_of_mem _ hz⟩, by have := I.len; simp at *; omega⟩
  · rw [← I.mem, in_append, in_one, in_cons b B']
    constructor
    · rintro ((q | q) | q | q)
      · exact .inl q
      · exact .inr (.inr (.inl q))
      · exact .inr (.inl q)
      · exact .inr (.inr (.inr q))
    · rintro (q | q | q | q)
      · exact .inl (.inl q)
      · exact .inr (.inl q)
      · exact .inl (.inr q)
      · exact .inr (.inr q)
  · rcases List.mem_append.1 hx with hx | hx
    · exact I.le x hx y (hy.elim .inl fun q => .inr (List.mem_cons_of_mem _ q))
    · simp at hx
      subst hx
      rcases hy with hy | hy
      · rcases List.mem_cons.1 hy with rfl | hy
        · omega
        · have := (List.pairwise_cons.1 I.a.rise).1 y hy; omega
      · exact (List.pairwise_cons.1 I.b.rise).1 y hy
theorem MI.left {A B A' B' O : List (Int × Int)} {a : Int × Int} (I : MI A B (a :: A') B' O) (h : ∀ b ∈ B', a.1 ≤ b.1) : MI A B A' B' (O ++ [a]) := by
  refine ⟨srt_app I.out (srt_one (I.a.some a (by simp))) (fun x hx y hy => by simp at hy; subst hy; exact I.le x hx y (.inl (by simp))), srt_tail I.a, I.b, fun c => ?_, fun x hx y hy => ?_, ⟨fit_append I.fit.1 (fit_sub I.fit.2.1 fun z hz => by simp at hz; subst hz; simp), fit_sub I.fit.2.1 fun z hz => List.mem_cons_of_mem _ hz, I.fit.2.2⟩, by have := I.len; simp at *; omega⟩
  · rw [← I.mem, in_append, in_one, in_cons a A']
    constructor
    · rintro ((q | q) | q | q)
      · exact .inl q
      · exact .inr (.inl (.inl q))
      · exact .inr (.inl (.inr q))
      · exact .inr (.inr q)
    · rintro (q | (q | q) | q)
      · exact .inl (.inl q)
      · exact .inl (.inr q)
      · exact .inr (.inl q)
      · exact .inr (.inr q)
  · rcases List.mem_append.1 hx with hx | hx
    · exact I.le x hx y (hy.elim (fun q => .inl (List.mem_cons_of_mem _ q)) .inr)
    · simp at hx
      subst hx
      rcases hy with hy | hy
      · exact (List.pairwise_cons.1 I.a.rise).1 y hy
      · exact h y hy
theorem MI.done {A B B' O : List (Int × Int)} (I : MI A B [] B' O) : Srt (O ++ B') ∧ (∀ c, In (O ++ B') c ↔ (In A c ∨ In B c)) ∧ Fit (O ++ B') ∧ (O ++ B').length ≤ A.length + B.length := by
  refine ⟨srt_app I.out I.b fun x hx y hy => I.le x hx y (.inr hy), fun c => ?_, fit_append I.fit.1 I.fit.2.2, by have := I.len; simp at *; omega⟩
  rw [← I.mem, in_append]
  exact ⟨fun q => q.elim .inl fun q => .inr (.inr q), fun q => q.elim .inl fun q => q.elim (fun q => absurd q (in_nil c)) .inr⟩
/-- What sorted tells. -/
def SortOf (w : World) (L : List (Int × Int)) (e : Ending) (w' : World) : Prop := ∃ v S, e = .returned v ∧ RR w.heap.size w' v S ∧ Srt S ∧ Fit S ∧ (∀ c, In S c ↔ In L c) ∧ S.length ≤ L.length ∧ Below w.heap.size w w'
theorem ArgR.take {W : World} {g off n cap : Nat} {L : List (Int × Int)} (h : ArgR W (.slice (some ⟨g, off, none⟩) n cap) L) {k : Nat} (hk : k ≤ L.length) : ArgR W (.slice (some ⟨g, off, none⟩) k cap) (L.take k) := by
  have hl : (L.take k).length = k := by simp; omega
  rcases h with ⟨p, c, e, rfl, e2⟩ | ⟨g', off', cap', e, h2, h3, h4, h5⟩
  · simp at hk
    subst hk
    cases e
    exact .inl ⟨_, _, rfl, rfl, fun q => by cases q⟩
  · cases e
    refine .inr ⟨g, off, cap, by rw [hl], h2, by omega, h4, fun i r hi => h5 i r ?_⟩
    rw [List.getElem?_take] at hi
    split at hi
    · exact hi
    · cases hi
theorem ArgR.drop {W : World} {g off n cap : Nat} {L : List (Int × Int)} (h : ArgR W (.slice (some ⟨g, off, none⟩) n cap) L) {k : Nat} (hk : k < L.length) : ArgR W (.slice (some ⟨g, off + k * 2, none⟩) (n - k) (cap - k)) (L.drop k) := by
  rcases h with ⟨p, c, e, rfl, e2⟩ | ⟨g', off', cap', e, h2, h3, h4, h5⟩
  · simp at hk
  · cases e
    refine .inr ⟨g, off + k * 2, cap - k, by simp, h2, by simp; omega, by omega, fun i r hi => ?_⟩
    rw [List.getElem?_drop] at hi
    have := h5 (k + i) r hi
    rw [show off + k * 2 + 2 * i = off + 2 * (k + i) by omega]
    exact this
theorem in_halves (L : List (Int × Int)) (k : Nat) (c : Int) : (In (L.take k) c ∨ In (L.drop k) c) ↔ In L c := by rw [← in_append, List.take_append_drop]
end Go.Proofs.Ytfihhliiecdnaaa
