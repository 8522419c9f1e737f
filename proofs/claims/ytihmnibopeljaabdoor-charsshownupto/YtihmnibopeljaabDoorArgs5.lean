/-
  Lists of numbers that came in, or are one's own; two lists that are the same.
-/
import Derived.Test.YtihmnibopeljaabDoorLists5
namespace Go.Proofs.YtihmnibopeljaabDoor
open Go Go.RowKit
attribute [local go_sem] ext_cell

theorem ArgI.slice {W : World} {v : Value} {zs : List Int} (h : ArgI W v zs) : ∃ q cap, v = .slice q zs.length cap ∧ zs.length ≤ maxLen ∧
    (∀ (i : Nat) (x : Int), zs[i]? = some x → ∃ g off, q = some ⟨g, off, none⟩ ∧ g < W.heap.size ∧ W.cell? ⟨g, off + i, none⟩ = some (.int .i64 x)) := by
  rcases h with ⟨p, cap, rfl, rfl⟩ | ⟨g, off, cap, rfl, h2, h3, h4, h5⟩
  · exact ⟨p, cap, rfl, Nat.zero_le _, fun i x hx => by simp at hx⟩
  · exact ⟨_, cap, rfl, Nat.le_trans h3 h4, fun i x hx => ⟨g, off, rfl, h2, h5 i x hx⟩⟩
theorem ArgI.kept {W W' : World} {v : Value} {zs : List Int} (h : ArgI W v zs) (hb : Below W.heap.size W W') : ArgI W' v zs := h.below hb rfl
def pk (c : Int) (n : Int) : Int := (if c < 0 then -(c + 1) else c).tmod n
theorem pk_range {c : Int} {n : Nat} (hn : 0 < n) : 0 ≤ pk c n ∧ pk c n < n := by
  unfold pk
  have h0 : 0 ≤ (if c < 0 then -(c + 1) else c) := by split <;> omega
  rw [Int.tmod_eq_emod_of_nonneg h0]
  exact ⟨Int.emod_nonneg _ (by omega), Int.emod_lt_of_pos _ (by omega)⟩
theorem wf_range {x : Int} (h : (Lit.int .i64 x).wf = true) : -9223372036854775808 ≤ x ∧ x ≤ 9223372036854775807 := by
  simp [Lit.wf, IntKind.min, IntKind.max, IntKind.signed, IntKind.bits] at h
  omega

theorem own_arg {W : World} {base n : Nat} {v : Value} {A : List Int} (h : W.ownsRow base 3 1 v n (ints A)) : ArgI W v A := by
  have hl : A.length = n := by have := h.1; rw [ints_length] at this; omega
  subst hl
  rcases h.2 with ⟨rfl, hn⟩ | ⟨g, cap, cur, rfl, hg, hc, h1, h2, h3, h4⟩
  · exact .inl ⟨none, 0, rfl, List.eq_nil_of_length_eq_zero hn⟩
  · exact .inr ⟨g, 0, cap, rfl, lt_of_heap hc, h1, h2, fun i x hx => by rw [Nat.zero_add]; exact ownsRow_cell h (ints_get hx)⟩
theorem row_own {W : World} {g base : Nat} {V : List Int} (h : W.heap[g]? = some (.cells (ints V).toArray 3 (0, 0))) (hb : base ≤ g) (hl : V.length ≤ maxLen) : W.ownsRow base 3 1 (.slice (some ⟨g, 0, none⟩) V.length V.length) V.length (ints V) :=
  ⟨by rw [ints_length]; omega, .inr ⟨g, _, _, rfl, hb, h, Nat.le_refl _, hl, by simp [ints_length], by rw [List.take_of_length_le (by simp [ints_length])]⟩⟩
end Go.Proofs.YtihmnibopeljaabDoor
