/-
  Has: is a number in one of some ranges?
-/
import Derived.Test.YtfihhliiecdnaabMem6
import Derived.Test.YtfihhliiecdnaabExt
namespace Go.Proofs.Ytfihhliiecdnaab
open Go Go.RowKit
attribute [local go_sem] ext_cell

def hasB (L : List (Int × Int)) (c : Int) : Bool := L.any fun r => decide (r.1 ≤ c) && decide (c ≤ r.2)
theorem hasB_iff (L : List (Int × Int)) (c : Int) : hasB L c = true ↔ In L c := by
  simp [hasB, In]
theorem hasB_next {L : List (Int × Int)} {k : Nat} {r : Int × Int} (h : L[k]? = some r) (c : Int) : hasB (L.take (k + 1)) c = (hasB (L.take k) c || (decide (r.1 ≤ c) && decide (c ≤ r.2))) := by
  obtain ⟨hk, rfl⟩ := List.getElem?_eq_some_iff.1 h
  rw [take_next L k hk]
  unfold hasB
  rw [List.any_append]
  simp only [List.any_cons, List.any_nil, Bool.or_false]
theorem hasB_found {L : List (Int × Int)} {k : Nat} {r : Int × Int} {c : Int} (h : L[k]? = some r) (h1 : r.1 ≤ c) (h2 : c ≤ r.2) : hasB L c = true := (hasB_iff L c).2 ⟨r, List.mem_of_getElem? h, h1, h2⟩

set_option maxHeartbeats 1000000 in
theorem has1_c {w : World} {b : Nat} {lo hi c : Int} (hc : w.cell? ⟨b, 0, none⟩ = some (.int .i64 c)) (hb : b < w.heap.size) :
    Calls Try.prog 24 #[.agg #[.int .i64 lo, .int .i64 hi], .pointer (some ⟨b, 0, none⟩)] w fun e w' => e = .returned (.bool (decide (lo ≤ c) && decide (c ≤ hi))) ∧ Below w.heap.size w w' := by
  by_cases h1 : lo ≤ c
  · by_cases h2 : c ≤ hi
    · have E : Hid ((decide (lo ≤ c) && decide (c ≤ hi)) = true) := hide (by simp [h1, h2])
      rw [E.out]
      go_enter Try.func24, Try.ntmps24
      go_wp2
      go_ret
      exact ⟨rfl, (Below.refl _ _).alloc (Nat.le_refl _) _⟩
    · have E : Hid ((decide (lo ≤ c) && decide (c ≤ hi)) = false) := hide (by simp [h1, h2])
      rw [E.out]
      go_enter Try.func24, Try.ntmps24
      go_wp2
      go_ret
      exact ⟨rfl, (Below.refl _ _).alloc (Nat.le_refl _) _⟩
  · have E : Hid ((decide (lo ≤ c) && decide (c ≤ hi)) = false) := hide (by simp [h1])
    rw [E.out]
    go_enter Try.func24, Try.ntmps24
    go_wp2
    go_ret
    exact ⟨rfl, (Below.refl _ _).alloc (Nat.le_refl _) _⟩

set_option maxRecDepth 100000 in
set_option maxHeartbeats 1000000 in
theorem index_c {w : World} {v : Value} {L : List (Int × Int)} {b : Nat} {c : Int} (h : ArgR w v L) (hc : w.cell? ⟨b, 0, none⟩ = some (.int .i64 c)) (hb : b < w.heap.size) :
    Calls Try.prog 29 #[v, .func (.func 24) #[] #[.pointer (some ⟨b, 0, none⟩)]] w fun e w' => ∃ i : Int, e = .returned (.int .i64 i) ∧ ((0 ≤ i) = (hasB L c = true)) ∧ Below w.heap.size w w' := by
  obtain ⟨q, cap, rfl, hlen, -, hcells⟩ := h.slice
  have HC : Hid (∀ (i : Nat) (r : Int × Int), L[i]? = some r → ∃ g off, q = some ⟨g, off, none⟩ ∧ g < w.heap.size ∧ w.cell? ⟨g, off + 2 * i, none⟩ = some (.int .i64 r.1) ∧ w.cell? ⟨g, off + 2 * i + 1, none⟩ = some (.int .i64 r.2)) := hcells
  clear hcells h
  unfold maxLen at hlen
  go_enter Try.func29, Try.ntmps29
  go_wp2
  go_loopw [8] (fun i wr => ∃ k : Nat, k ≤ L.length ∧ i = .int .i64 k ∧ hasB (L.take k) c = false ∧ Below w.heap.size w wr) (fun i _ => L.length - (intOf i).toNat)
  case atStart => exact ⟨0, Nat.zero_le _, rfl, rfl, Below.refl _ _⟩
  case round =>
    obtain ⟨k, hk, rfl, hno, hbl⟩ := hrel
    have HB : Hid (Below w.heap.size w wr) := hbl
    have HN : Hid (hasB (L.take k) c = false) := hno
    clear hbl hno
    have cb : wr.cell? ⟨b, 0, none⟩ = some (.int .i64 c) := (HB.out.cell (p := ⟨b, 0, none⟩) hb).trans hc
    have lb : b < wr.heap.size := Nat.lt_of_lt_of_le hb HB.out.size
    by_cases hlt : k < L.length
    · obtain ⟨r, hr⟩ : ∃ r, L[k]? = some r := ⟨_, List.getElem?_eq_getElem hlt⟩
      obtain ⟨g, off, rfl, hg, x1, x2⟩ := HC.out k r hr
      have d1 := (HB.out.cell (p := ⟨g, off + 2 * k, none⟩) hg).trans x1
      have d2 := (HB.out.cell (p := ⟨g, off + 2 * k + 1, none⟩) hg).trans x2
      rw [Nat.mul_comm] at d1 d2
      have HR : Hid (L[k]? = some r) := hr
      have i0 : (0 : Int) ≤ (k : Int) := by omega
      have i1 : (k : Int) < (L.length : Int) := by omega
      clear x1 x2 hr
      obtain ⟨lo, hi⟩ := r
      dsimp only at d1 d2
      by_cases hin : lo ≤ c ∧ c ≤ hi
      · have E : Hid ((decide (lo ≤ c) && decide (c ≤ hi)) = true) := hide (by simp [hin.1, hin.2])
        have F : Hid (hasB L c = true) := hasB_found HR.out hin.1 hin.2
        go_wp2_with (go_at_call 24; refine (has1_c cb lb).mono ?_; rw [E.out]; rintro e w5 ⟨rfl, h5⟩; have B5 : Hid (Below w.heap.size w w5) := chain HB.out h5 (Nat.le_refl _); clear h5)
        go_ret
        exact ⟨k, rfl, by rw [F.out]; simp, B5.out⟩
      · have E : Hid ((decide (lo ≤ c) && decide (c ≤ hi)) = false) := hide (by simpa using hin)
        go_wp2_with (go_at_call 24; refine (has1_c cb lb).mono ?_; rw [E.out]; rintro e w5 ⟨rfl, h5⟩; have B5 : Hid (Below w.heap.size w w5) := chain HB.out h5 (Nat.le_refl _); clear h5)
        go_roundw
        case rel => exact ⟨k + 1, by omega, by go_num, by rw [hasB_next HR.out, HN.out]; exact E.out, B5.out⟩
        case measure => simp [intOf]; omega
    · obtain rfl : k = L.length := by omega
      have i1 : ¬ (L.length : Int) < (L.length : Int) := by omega
      go_wp2
      go_ret
      refine ⟨-1, rfl, ?_, HB.out⟩
      have := HN.out
      rw [List.take_length] at this
      rw [this]
      simp

set_option maxHeartbeats 1000000 in
theorem contains_c {w : World} {v : Value} {L : List (Int × Int)} {b : Nat} {c : Int} (h : ArgR w v L) (hc : w.cell? ⟨b, 0, none⟩ = some (.int .i64 c)) (hb : b < w.heap.size) :
    Calls Try.prog 23 #[v, .func (.func 24) #[] #[.pointer (some ⟨b, 0, none⟩)]] w fun e w' => e = .returned (.bool (hasB L c)) ∧ Below w.heap.size w w' := by
  have II : Hid (ArgR w v L) := h
  clear h
  go_enter Try.func23, Try.ntmps23
  go_wp2_with (go_at_call 29; refine (index_c II.out hc hb).mono ?_; rintro e w5 ⟨i, rfl, h5, h6⟩; have B5 : Hid (Below w.heap.size w w5) := h6; have I5 : Hid ((0 ≤ i) = (hasB L c = true)) := h5; clear h5 h6)
  go_ret
  refine ⟨?_, B5.out⟩
  have e := I5.out
  cases hh : hasB L c with
  | true => rw [hh] at e; simp at e; simp [e]
  | false => rw [hh] at e; simp at e; simp [e]
set_option maxHeartbeats 1000000 in
theorem has_c {w : World} {v : Value} {L : List (Int × Int)} {c : Int} (h : ArgR w v L) :
    Calls Try.prog 15 #[v, .int .i64 c] w fun e w' => e = .returned (.bool (hasB L c)) ∧ Below w.heap.size w w' := by
  have B1 : Hid (Below w.heap.size w (w.alloc (.cells #[.int .i64 c] 3))) := (Below.refl _ _).alloc (Nat.le_refl _) _
  have C1 : Hid ((w.alloc (.cells #[.int .i64 c] 3)).cell? ⟨w.heap.size, 0, none⟩ = some (.int .i64 c)) := cell_row (alloc_new w (.cells #[.int .i64 c] 3)) (i := 0) rfl
  have H : Hid (ArgR w v L) := h
  clear h
  go_enter Try.func15, Try.ntmps15
  go_wp2_with (go_at_call 23; refine (contains_c (H.out.kept B1.out) C1.out (by simp)).mono ?_; rintro e w5 ⟨rfl, h5⟩; have B5 : Hid (Below w.heap.size w w5) := chain B1.out h5 (Nat.le_refl _); clear h5)
  go_ret
  exact ⟨rfl, B5.out⟩
end Go.Proofs.Ytfihhliiecdnaab
