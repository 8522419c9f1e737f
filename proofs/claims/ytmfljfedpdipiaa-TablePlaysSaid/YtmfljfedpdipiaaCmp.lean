/-
  Which of two keys is ahead: the document's Compare, and same.
-/
import Derived.Test.YtmfljfedpdipiaaLawFull
namespace Go.Proofs.Ytmfljfedpdipiaa
open Go Go.RowKit
attribute [local go_sem] ext_cell

/-- Below 0: the first is ahead. -/
def lexC : List Int → List Int → Int
  | x :: a, y :: c => if x < y then -1 else if y < x then 1 else lexC a c
  | _, _ => 0
theorem lexC_range : ∀ a c : List Int, lexC a c = -1 ∨ lexC a c = 0 ∨ lexC a c = 1
  | [], _ => .inr (.inl rfl)
  | _ :: _, [] => .inr (.inl rfl)
  | x :: a, y :: c => by
    unfold lexC
    split
    · exact .inl rfl
    · split
      · exact .inr (.inr rfl)
      · exact lexC_range a c
theorem lexC_drop : ∀ (k : Nat) (a c : List Int), k ≤ a.length → k ≤ c.length → a.take k = c.take k → lexC a c = lexC (a.drop k) (c.drop k)
  | 0, a, c, _, _, _ => by simp
  | k + 1, [], c, h, _, _ => by simp at h
  | k + 1, x :: a, [], _, h, _ => by simp at h
  | k + 1, x :: a, y :: c, h1, h2, h => by
    simp at h h1 h2
    obtain ⟨rfl, h⟩ := h
    have : lexC (x :: a) (x :: c) = lexC a c := by simp [lexC]
    rw [this]
    simpa using lexC_drop k a c h1 h2 h
theorem lexC_at {a c : List Int} {k : Nat} (h : a.take k = c.take k) (ha : k < a.length) (hc : k < c.length) :
    (a[k] < c[k] → lexC a c = -1) ∧ (c[k] < a[k] → lexC a c = 1) := by
  have e := lexC_drop k a c (Nat.le_of_lt ha) (Nat.le_of_lt hc) h
  rw [List.drop_eq_getElem_cons ha, List.drop_eq_getElem_cons hc] at e
  refine ⟨fun q => ?_, fun q => ?_⟩
  · rw [e]; unfold lexC; rw [if_pos q]
  · rw [e]; unfold lexC; rw [if_neg (by omega), if_pos q]
theorem lexC_self : ∀ a : List Int, lexC a a = 0
  | [] => rfl
  | x :: a => by unfold lexC; simp [lexC_self a]
theorem lexC_zero : ∀ (a c : List Int), a.length = c.length → lexC a c = 0 → a = c
  | [], [], _, _ => rfl
  | x :: a, y :: c, h, e => by
    unfold lexC at e
    split at e
    · cases e
    · split at e
      · cases e
      · have := lexC_zero a c (by simpa using h) e
        rw [this, show x = y by omega]

set_option maxRecDepth 100000 in
set_option maxHeartbeats 2000000 in
theorem compare_c {w : World} {v1 v2 : Value} {a c : List Int} (h1 : ArgI w v1 a) (h2 : ArgI w v2 c) (hl : a.length = c.length) :
    Calls Try.prog 43 #[v1, v2] w fun e w' => e = .returned (.int .i64 (lexC a c)) ∧ Below w.heap.size w w' := by
  obtain ⟨q1, cap1, rfl, hlen1, hc1⟩ := h1.slice
  obtain ⟨q2, cap2, rfl, hlen2, hc2⟩ := h2.slice
  have HC1 : Hid (∀ (i : Nat) (x : Int), a[i]? = some x → ∃ g off, q1 = some ⟨g, off, none⟩ ∧ g < w.heap.size ∧ w.cell? ⟨g, off + i, none⟩ = some (.int .i64 x)) := hc1
  have HC2 : Hid (∀ (i : Nat) (x : Int), c[i]? = some x → ∃ g off, q2 = some ⟨g, off, none⟩ ∧ g < w.heap.size ∧ w.cell? ⟨g, off + i, none⟩ = some (.int .i64 x)) := hc2
  have hL : Hid (a.length = c.length) := hl
  clear hc1 hc2 h1 h2 hl
  unfold maxLen at hlen1 hlen2
  go_enter Try.func43, Try.ntmps43
  go_wp2
  go_loopw [5] (fun i wr => ∃ k : Nat, k ≤ a.length ∧ i = .int .i64 k ∧ a.take k = c.take k ∧ Below w.heap.size w wr) (fun i _ => a.length - (intOf i).toNat)
  case atStart => exact ⟨0, Nat.zero_le _, rfl, by simp, Below.refl _ _⟩
  case round =>
    obtain ⟨k, hk, rfl, ht, hb⟩ := hrel
    have HT : Hid (a.take k = c.take k) := ht
    have B : Hid (Below w.heap.size w wr) := hb
    clear ht hb
    by_cases hlt : k < a.length
    · have hltc : k < c.length := by have := hL.out; omega
      obtain ⟨g1, o1, rfl, hg1, hx1⟩ := HC1.out k _ (List.getElem?_eq_getElem hlt)
      obtain ⟨g2, o2, rfl, hg2, hx2⟩ := HC2.out k _ (List.getElem?_eq_getElem hltc)
      have HI : Hid (a.take (k + 1) = c.take (k + 1) ↔ a[k] = c[k]) := take_ext HT.out hlt hltc
      have HN : Hid ((a[k] < c[k] → lexC a c = -1) ∧ (c[k] < a[k] → lexC a c = 1)) := lexC_at HT.out hlt hltc
      generalize a[k] = x at hx1 HI HN
      generalize c[k] = y at hx2 HI HN
      have d1 := (B.out.cell (p := ⟨g1, o1 + k, none⟩) hg1).trans hx1
      have d2 := (B.out.cell (p := ⟨g2, o2 + k, none⟩) hg2).trans hx2
      have s1 : g1 < wr.heap.size := Nat.lt_of_lt_of_le hg1 B.out.size
      have s2 : g2 < wr.heap.size := Nat.lt_of_lt_of_le hg2 B.out.size
      clear hx1 hx2
      have i0 : (0 : Int) ≤ (k : Int) := by omega
      have i1 : (k : Int) < (a.length : Int) := by omega
      have i2 : (k : Int) < (c.length : Int) := by omega
      by_cases hxy : x < y
      · have HE : Hid (lexC a c = -1) := HN.out.1 hxy
        go_wp2
        refine wp_region_ext (by kernel_rfl) (by kernel_rfl) ?_
        repeat (go_big_quiet_step (first | exact rfl))
        refine wpQuiet_nil ?_
        intro w5 hw
        have hb5 := ext_of hw
        clear hw
        go_wp2
        go_ret
        exact ⟨by rw [HE.out]; rfl, B.out.trans (hb5.mono B.out.size)⟩
      · go_wp2
        refine wp_region_ext (by kernel_rfl) (by kernel_rfl) ?_
        repeat (go_big_quiet_step (first | exact rfl))
        refine wpQuiet_nil ?_
        intro w5 hw
        have B5 : Hid (Below wr.heap.size wr w5) := ext_of hw
        clear hw
        have d3 := (B5.out.cell (p := ⟨g1, o1 + k, none⟩) s1).trans d1
        have d4 := (B5.out.cell (p := ⟨g2, o2 + k, none⟩) s2).trans d2
        have s3 : g1 < w5.heap.size := Nat.lt_of_lt_of_le s1 B5.out.size
        have s4 : g2 < w5.heap.size := Nat.lt_of_lt_of_le s2 B5.out.size
        clear d1 d2 s1 s2
        by_cases hyx : y < x
        · have HE : Hid (lexC a c = 1) := HN.out.2 hyx
          go_wp2
          refine wp_region_ext (by kernel_rfl) (by kernel_rfl) ?_
          repeat (go_big_quiet_step (first | exact rfl))
          refine wpQuiet_nil ?_
          intro w6 hw
          have B6 : Hid (Below w5.heap.size w5 w6) := ext_of hw
          clear hw
          go_wp2
          go_ret
          exact ⟨by rw [HE.out]; rfl, chain (chain B.out B5.out (Nat.le_refl _)) B6.out (Nat.le_refl _)⟩
        · have HXY : Hid (x = y) := (by omega : x = y)
          go_wp2
          refine wp_region_ext (by kernel_rfl) (by kernel_rfl) ?_
          repeat (go_big_quiet_step (first | exact rfl))
          refine wpQuiet_nil ?_
          intro w6 hw
          have B6 : Hid (Below w5.heap.size w5 w6) := ext_of hw
          clear hw
          go_wp2
          go_roundw
          case rel => exact ⟨k + 1, by omega, by go_num, HI.out.2 HXY.out, chain (chain B.out B5.out (Nat.le_refl _)) B6.out (Nat.le_refl _)⟩
          case measure => simp [intOf]; omega
    · have i1 : ¬ ((k : Int) < (a.length : Int)) := by omega
      have HE : Hid (lexC a c = 0) := (by
        have e := HT.out
        rw [List.take_of_length_le (by omega), List.take_of_length_le (by have := hL.out; omega)] at e
        rw [e]
        exact lexC_self c)
      go_wp2
      go_ret
      exact ⟨by rw [HE.out]; rfl, B.out⟩

set_option maxRecDepth 100000 in
set_option maxHeartbeats 2000000 in
theorem same_c {w : World} {v1 v2 : Value} {a c : List Int} (h1 : ArgI w v1 a) (h2 : ArgI w v2 c) :
    Calls Try.prog 26 #[v1, v2] w fun e w' => e = .returned (.bool (decide (a = c))) ∧ Below w.heap.size w w' := by
  have H1 : Hid (ArgI w v1 a) := h1
  have H2 : Hid (ArgI w v2 c) := h2
  obtain ⟨q1, cap1, rfl, hlen1, -⟩ := h1.slice
  obtain ⟨q2, cap2, rfl, hlen2, -⟩ := h2.slice
  clear h1 h2
  unfold maxLen at hlen1 hlen2
  by_cases hl : a.length = c.length
  · have HL : Hid (a.length = c.length) := hl
    have hb1 : (((a.length : Nat) : Int) == ((c.length : Nat) : Int)) = true := by simp [hl]
    have HE : Hid (decide (a = c) = (lexC a c == 0)) := (by
      by_cases e : a = c
      · rw [decide_eq_true e, e, lexC_self]; rfl
      · rw [decide_eq_false e]
        exact (beq_eq_false_iff_ne.2 (fun q => e (lexC_zero a c hl q))).symm : decide (a = c) = (lexC a c == 0))
    clear hl
    go_enter Try.func26, Try.ntmps26
    go_wp2_with (go_at_call 43; refine (compare_c H1.out H2.out HL.out).mono ?_; rintro e w5 ⟨rfl, hb⟩; have B5 : Hid (Below w.heap.size w w5) := hb; clear hb)
    go_ret
    exact ⟨by rw [HE.out]; rfl, B5.out⟩
  · have hb1 : (((a.length : Nat) : Int) == ((c.length : Nat) : Int)) = false := by simp; omega
    have HE : Hid (decide (a = c) = false) := decide_eq_false (fun e => hl (by rw [e]))
    clear hl
    go_enter Try.func26, Try.ntmps26
    go_wp2
    go_ret
    exact ⟨by rw [HE.out]; rfl, Below.refl _ _⟩
end Go.Proofs.Ytmfljfedpdipiaa
