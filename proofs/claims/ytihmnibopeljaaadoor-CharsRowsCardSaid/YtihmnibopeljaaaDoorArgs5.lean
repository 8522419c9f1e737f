/-
  Lists of numbers that came in, or are one's own; two lists that are the same.
-/
import Derived.Test.YtihmnibopeljaaaDoorLists5
namespace Go.Proofs.YtihmnibopeljaaaDoor
open Go Go.RowKit
attribute [local go_sem] ext_cell

theorem ArgI.slice {W : World} {v : Value} {zs : List Int} (h : ArgI W v zs) : ∃ q cap, v = .slice q zs.length cap ∧ zs.length ≤ maxLen ∧
    (∀ (i : Nat) (x : Int), zs[i]? = some x → ∃ g off, q = some ⟨g, off, none⟩ ∧ g < W.heap.size ∧ W.cell? ⟨g, off + i, none⟩ = some (.int .i64 x)) := by
  rcases h with ⟨p, cap, rfl, rfl⟩ | ⟨g, off, cap, rfl, h2, h3, h4, h5⟩
  · exact ⟨p, cap, rfl, Nat.zero_le _, fun i x hx => by simp at hx⟩
  · exact ⟨_, cap, rfl, Nat.le_trans h3 h4, fun i x hx => ⟨g, off, rfl, h2, h5 i x hx⟩⟩
theorem ArgI.kept {W W' : World} {v : Value} {zs : List Int} (h : ArgI W v zs) (hb : Below W.heap.size W W') : ArgI W' v zs := h.below hb rfl
def pk (c : Int) (n : Int) : Int := (if c < 0 then -(c + 1) else c).tmod n
theorem pk_range {c : Int} {n : Nat} (hn : 0 < n) : 0 ≤ pk c n ∧ pk c n < n := by
  unfold pk
  have h0 : 0 ≤ (if c < 0 then -(c + 1) else c) := by split <;> omega
  rw [Int.tmod_eq_emod_of_nonneg h0]
  exact ⟨Int.emod_nonneg _ (by omega), Int.emod_lt_of_pos _ (by omega)⟩
theorem wf_range {x : Int} (h : (Lit.int .i64 x).wf = true) : -9223372036854775808 ≤ x ∧ x ≤ 9223372036854775807 := by
  simp [Lit.wf, IntKind.min, IntKind.max, IntKind.signed, IntKind.bits] at h
  omega

theorem own_arg {W : World} {base n : Nat} {v : Value} {A : List Int} (h : W.ownsRow base 3 1 v n (ints A)) : ArgI W v A := by
  have hl : A.length = n := by have := h.1; rw [ints_length] at this; omega
  subst hl
  rcases h.2 with ⟨rfl, hn⟩ | ⟨g, cap, cur, rfl, hg, hc, h1, h2, h3, h4⟩
  · exact .inl ⟨none, 0, rfl, List.eq_nil_of_length_eq_zero hn⟩
  · exact .inr ⟨g, 0, cap, rfl, lt_of_heap hc, h1, h2, fun i x hx => by rw [Nat.zero_add]; exact ownsRow_cell h (ints_get hx)⟩
theorem row_own {W : World} {g base : Nat} {V : List Int} (h : W.heap[g]? = some (.cells (ints V).toArray 3 (0, 0))) (hb : base ≤ g) (hl : V.length ≤ maxLen) : W.ownsRow base 3 1 (.slice (some ⟨g, 0, none⟩) V.length V.length) V.length (ints V) :=
  ⟨by rw [ints_length]; omega, .inr ⟨g, _, _, rfl, hb, h, Nat.le_refl _, hl, by simp [ints_length], by rw [List.take_of_length_le (by simp [ints_length])]⟩⟩
set_option maxRecDepth 100000 in
set_option maxHeartbeats 1000000 in
theorem same_same {w : World} {v1 v2 : Value} {a : List Int} (h1 : ArgI w v1 a) (h2 : ArgI w v2 a) :
    Calls Tryd.prog 18 #[v1, v2] w fun e w' => e = .returned (.bool true) ∧ Below w.heap.size w w' := by
  obtain ⟨q1, cap1, rfl, hlen1, hc1⟩ := h1.slice
  obtain ⟨q2, cap2, rfl, hlen2, hc2⟩ := h2.slice
  have HC1 : Hid (∀ (i : Nat) (x : Int), a[i]? = some x → ∃ g off, q1 = some ⟨g, off, none⟩ ∧ g < w.heap.size ∧ w.cell? ⟨g, off + i, none⟩ = some (.int .i64 x)) := hc1
  have HC2 : Hid (∀ (i : Nat) (x : Int), a[i]? = some x → ∃ g off, q2 = some ⟨g, off, none⟩ ∧ g < w.heap.size ∧ w.cell? ⟨g, off + i, none⟩ = some (.int .i64 x)) := hc2
  clear hc1 hc2 h1 h2
  unfold maxLen at hlen1 hlen2
  have hb1 : (((a.length : Nat) : Int) != ((a.length : Nat) : Int)) = false := by simp
  go_enter Tryd.func18, Tryd.ntmps18
  go_wp2
  go_loopw [5] (fun i wr => ∃ k : Nat, k ≤ a.length ∧ i = .int .i64 k ∧ Below w.heap.size w wr) (fun i _ => a.length - (intOf i).toNat)
  case atStart => exact ⟨0, Nat.zero_le _, rfl, Below.refl _ _⟩
  case round =>
    obtain ⟨k, hk, rfl, hb⟩ := hrel
    have B : Hid (Below w.heap.size w wr) := hb
    clear hb
    by_cases hlt : k < a.length
    · obtain ⟨g1, o1, rfl, hg1, hx1⟩ := HC1.out k _ (List.getElem?_eq_getElem hlt)
      obtain ⟨g2, o2, rfl, hg2, hx2⟩ := HC2.out k _ (List.getElem?_eq_getElem hlt)
      generalize a[k] = x at hx1 hx2
      have d1 := (B.out.cell (p := ⟨g1, o1 + k, none⟩) hg1).trans hx1
      have d2 := (B.out.cell (p := ⟨g2, o2 + k, none⟩) hg2).trans hx2
      have s1 : g1 < wr.heap.size := Nat.lt_of_lt_of_le hg1 B.out.size
      have s2 : g2 < wr.heap.size := Nat.lt_of_lt_of_le hg2 B.out.size
      clear hx1 hx2
      have i0 : (0 : Int) ≤ (k : Int) := by omega
      have i1 : (k : Int) < (a.length : Int) := by omega
      have hxe : (x != x) = false := by simp
      go_wp2
      refine wp_region_ext (by kernel_rfl) (by kernel_rfl) ?_
      repeat (go_big_quiet_step (first | exact rfl))
      refine wpQuiet_nil ?_
      intro w5 hw
      have B5 : Hid (Below w.heap.size w w5) := chain B.out (ext_of hw) (Nat.le_refl _)
      clear hw
      go_wp2
      go_roundw
      case rel => exact ⟨k + 1, by omega, by go_num, B5.out⟩
      case measure => simp only [intOf]; omega
    · have i1 : ¬ (k : Int) < (a.length : Int) := by omega
      go_wp2
      go_ret
      exact ⟨rfl, B.out⟩

end Go.Proofs.YtihmnibopeljaaaDoor
