/-
  The comparison of two places by their keys, as the sort asks it.
-/
import Derived.Test.YtmfljfedpdipiaaCmp
import Derived.Test.YtmfljfedpdipiaaSort
import Derived.Shelf.SlSortCmp.NoneTotal
namespace Go.Proofs.Ytmfljfedpdipiaa
open Go Go.RowKit Go.Shelf

set_option maxHeartbeats 1000000 in
theorem nan_c (x : Int) (w : World) : Calls Try.prog 56 #[.int .i64 x] w fun e w' => e = .returned (.bool false) ∧ w' = w := by
  have h : (x != x) = false := by simp
  go_enter Try.func56, Try.ntmps56
  go_wp2
  go_ret
  exact ⟨rfl, rfl⟩
def cmpI (x y : Int) : Int := if x < y then -1 else if y < x then 1 else 0
set_option maxHeartbeats 1000000 in
theorem cmpi_c (x y : Int) (w : World) : Calls Try.prog 42 #[.int .i64 x, .int .i64 y] w fun e w' => e = .returned (.int .i64 (cmpI x y)) ∧ w' = w := by
  by_cases h1 : x < y
  · have HE : Hid (cmpI x y = -1) := if_pos h1
    go_enter Try.func42, Try.ntmps42
    go_wp2_with (go_at_call 56; refine (nan_c _ _).mono ?_; rintro e w5 ⟨rfl, h5⟩; subst w5)
    go_ret
    exact ⟨by rw [HE.out]; rfl, rfl⟩
  · by_cases h2 : y < x
    · have HE : Hid (cmpI x y = 1) := (by unfold cmpI; rw [if_neg h1, if_pos h2] : cmpI x y = 1)
      go_enter Try.func42, Try.ntmps42
      go_wp2_with (go_at_call 56; refine (nan_c _ _).mono ?_; rintro e w5 ⟨rfl, h5⟩; subst w5)
      go_ret
      exact ⟨by rw [HE.out]; rfl, rfl⟩
    · have HE : Hid (cmpI x y = 0) := (by unfold cmpI; rw [if_neg h1, if_neg h2] : cmpI x y = 0)
      go_enter Try.func42, Try.ntmps42
      go_wp2_with (go_at_call 56; refine (nan_c _ _).mono ?_; rintro e w5 ⟨rfl, h5⟩; subst w5)
      go_ret
      exact ⟨by rw [HE.out]; rfl, rfl⟩

set_option maxRecDepth 100000 in
set_option maxHeartbeats 2000000 in
theorem slcmp_c {w : World} {v1 v2 : Value} {a c : List Int} (h1 : ArgI w v1 a) (h2 : ArgI w v2 c) (hl : a.length = c.length) :
    Calls Try.prog 25 #[v1, v2] w fun e w' => e = .returned (.int .i64 (lexC a c)) ∧ w' = w := by
  obtain ⟨q1, cap1, rfl, hlen1, hc1⟩ := h1.slice
  obtain ⟨q2, cap2, rfl, hlen2, hc2⟩ := h2.slice
  have HC1 : Hid (∀ (i : Nat) (x : Int), a[i]? = some x → ∃ g off, q1 = some ⟨g, off, none⟩ ∧ g < w.heap.size ∧ w.cell? ⟨g, off + i, none⟩ = some (.int .i64 x)) := hc1
  have HC2 : Hid (∀ (i : Nat) (x : Int), c[i]? = some x → ∃ g off, q2 = some ⟨g, off, none⟩ ∧ g < w.heap.size ∧ w.cell? ⟨g, off + i, none⟩ = some (.int .i64 x)) := hc2
  have hL : Hid (a.length = c.length) := hl
  clear hc1 hc2 h1 h2 hl
  unfold maxLen at hlen1 hlen2
  go_enter Try.func25, Try.ntmps25
  go_wp2
  go_loopw [11] (fun i wr => ∃ k : Nat, k ≤ a.length ∧ i = .int .i64 k ∧ a.take k = c.take k ∧ wr = w) (fun i _ => a.length - (intOf i).toNat)
  case atStart => exact ⟨0, Nat.zero_le _, rfl, by simp, rfl⟩
  case round =>
    obtain ⟨k, hk, rfl, ht, hwr⟩ := hrel
    subst hwr
    have HT : Hid (a.take k = c.take k) := ht
    clear ht
    by_cases hlt : k < a.length
    · have hltc : k < c.length := by have := hL.out; omega
      obtain ⟨g1, o1, rfl, hg1, d1⟩ := HC1.out k _ (List.getElem?_eq_getElem hlt)
      obtain ⟨g2, o2, rfl, hg2, d2⟩ := HC2.out k _ (List.getElem?_eq_getElem hltc)
      have HI : Hid (a.take (k + 1) = c.take (k + 1) ↔ a[k] = c[k]) := take_ext HT.out hlt hltc
      have HN : Hid ((a[k] < c[k] → lexC a c = -1) ∧ (c[k] < a[k] → lexC a c = 1)) := lexC_at HT.out hlt hltc
      generalize a[k] = x at d1 HI HN
      generalize c[k] = y at d2 HI HN
      have i0 : (0 : Int) ≤ (k : Int) := by omega
      have i1 : (k : Int) < (a.length : Int) := by omega
      have i2 : (k : Int) < (c.length : Int) := by omega
      have hcm : (x < y ∧ cmpI x y = -1) ∨ (y < x ∧ cmpI x y = 1) ∨ (x = y ∧ cmpI x y = 0) := by
        unfold cmpI
        by_cases q1 : x < y
        · exact .inl ⟨q1, if_pos q1⟩
        · rw [if_neg q1]
          by_cases q2 : y < x
          · exact .inr (.inl ⟨q2, if_pos q2⟩)
          · exact .inr (.inr ⟨by omega, if_neg q2⟩)
      rcases hcm with ⟨q1, q2⟩ | ⟨q1, q2⟩ | ⟨q1, q2⟩
      · have HE : Hid (lexC a c = -1) := HN.out.1 q1
        have HQ : Hid (cmpI x y = -1) := q2
        clear q1 q2
        go_wp2_with (go_at_call 42; refine (cmpi_c _ _ _).mono ?_; rw [HQ.out]; rintro e w5 ⟨rfl, h5⟩; subst w5)
        go_ret
        exact ⟨by rw [HE.out]; rfl, rfl⟩
      · have HE : Hid (lexC a c = 1) := HN.out.2 q1
        have HQ : Hid (cmpI x y = 1) := q2
        clear q1 q2
        go_wp2_with (go_at_call 42; refine (cmpi_c _ _ _).mono ?_; rw [HQ.out]; rintro e w5 ⟨rfl, h5⟩; subst w5)
        go_ret
        exact ⟨by rw [HE.out]; rfl, rfl⟩
      · have HE : Hid (x = y) := q1
        have HQ : Hid (cmpI x y = 0) := q2
        clear q1 q2
        go_wp2_with (go_at_call 42; refine (cmpi_c _ _ _).mono ?_; rw [HQ.out]; rintro e w5 ⟨rfl, h5⟩; subst w5)
        go_roundw
        case rel => exact ⟨k + 1, by omega, by go_num, HI.out.2 HE.out, by first | rfl | trivial⟩
        case measure => simp [intOf]; omega
    · have i1 : ¬ ((k : Int) < (a.length : Int)) := by omega
      have hll : ¬ ((a.length : Int) < (c.length : Int)) := by have := hL.out; omega
      have HE : Hid (lexC a c = 0) := (by
        have e := HT.out
        rw [List.take_of_length_le (by omega), List.take_of_length_le (by have := hL.out; omega)] at e
        rw [e]
        exact lexC_self c : lexC a c = 0)
      go_wp2
      go_ret
      exact ⟨by rw [HE.out]; rfl, rfl⟩

/-! ### The order of keys -/
theorem lexC_anti : ∀ (a c : List Int), a.length = c.length → lexC c a = - lexC a c
  | [], [], _ => rfl
  | x :: a, y :: c, h => by
    unfold lexC
    by_cases h1 : x < y
    · have h2 : ¬ y < x := by omega
      simp [h1, h2]
    · by_cases h2 : y < x
      · simp [h1, h2]
      · simp only [h1, h2, if_false]
        exact lexC_anti a c (by simpa using h)
theorem lexC_trans : ∀ (a b c : List Int), a.length = b.length → b.length = c.length → lexC a b = -1 → lexC b c = -1 → lexC a c = -1
  | [], [], [], _, _, h, _ => by cases h
  | x :: a, y :: b, z :: c, l1, l2, h1, h2 => by
    unfold lexC at h1 h2 ⊢
    by_cases q1 : x < y
    · by_cases q2 : y < z
      · rw [if_pos (by omega)]
      · rw [if_neg q2] at h2
        by_cases q3 : z < y
        · rw [if_pos q3] at h2; cases h2
        · rw [if_pos (by omega)]
    · rw [if_neg q1] at h1
      by_cases q4 : y < x
      · rw [if_pos q4] at h1; cases h1
      · rw [if_neg q4] at h1
        obtain rfl : x = y := by omega
        by_cases q2 : x < z
        · rw [if_pos q2]
        · rw [if_neg q2] at h2 ⊢
          by_cases q3 : z < x
          · rw [if_pos q3] at h2; cases h2
          · rw [if_neg q3] at h2 ⊢
            exact lexC_trans a b c (by simpa using l1) (by simpa using l2) h1 h2
theorem lexC_lt (a c : List Int) : lexC a c < 0 ↔ lexC a c = -1 := by
  rcases lexC_range a c with h | h | h <;> rw [h] <;> decide
theorem lexC_le_trans (a b c : List Int) (l1 : a.length = b.length) (l2 : b.length = c.length) (h1 : ¬ lexC a b < 0) (h2 : ¬ lexC b c < 0) : ¬ lexC a c < 0 := by
  intro h
  have a1 := lexC_anti a b l1
  have a2 := lexC_anti b c l2
  rw [lexC_lt] at h
  rcases lexC_range a b with q | q | q
  · omega
  · have := lexC_zero a b l1 q
    subst this
    rw [lexC_lt] at h2
    exact h2 h
  · have hba : lexC b a = -1 := by omega
    have := lexC_trans b a c l1.symm (l1.trans l2) hba h
    rw [this] at h2
    exact h2 (by decide)

/-- Places whose keys lie in w. -/
abbrev PE (w : World) (W : Nat) : Type := { e : Ent // KeyAt w e.kv e.key ∧ e.key.length = W }
def encP {w : World} {W : Nat} (e : PE w W) : List Value := [e.1.kv, .int .i64 e.1.val, .bool true]
def cfP {w : World} {W : Nat} (a c : PE w W) : Int := lexC a.1.key c.1.key
theorem swoP {w : World} {W : Nat} : Go.Sort.SWO (ltOf (cfP (w := w) (W := W))) where
  irrefl x := by unfold ltOf cfP; rw [lexC_self]; rfl
  trans x y z h1 h2 := by
    unfold ltOf cfP at *
    rw [decide_eq_true_eq, lexC_lt] at *
    exact lexC_trans _ _ _ (x.2.2.trans y.2.2.symm) (y.2.2.trans z.2.2.symm) h1 h2
  ntrans x y z h1 h2 := by
    unfold ltOf cfP at *
    rw [decide_eq_false_iff_not] at *
    exact lexC_le_trans _ _ _ (x.2.2.trans y.2.2.symm) (y.2.2.trans z.2.2.symm) h1 h2

set_option maxHeartbeats 1000000 in
theorem cmp1_c {W : World} {k1 k2 : Value} {a c : List Int} {x y : Int} (h1 : KeyAt W k1 a) (h2 : KeyAt W k2 c) (hl : a.length = c.length) (hb : a.length ≤ 128) :
    Calls Try.prog 24 #[.agg #[k1, .int .i64 x, .bool true], .agg #[k2, .int .i64 y, .bool true]] W fun e w' => e = .returned (.int .i64 (lexC a c)) ∧ ∃ q os', w' = Go.Sort.grow (W.drewN q) os' := by
  obtain ⟨g1, rfl, q1⟩ := h1
  obtain ⟨g2, rfl, q2⟩ := h2
  have HL : Hid (a.length = c.length) := hl
  have K1 : Hid (KeyAt W (.slice (some ⟨g1, 0, none⟩) a.length a.length) a) := ⟨g1, rfl, q1⟩
  have K2 : Hid (KeyAt W (.slice (some ⟨g2, 0, none⟩) c.length c.length) c) := ⟨g2, rfl, q2⟩
  clear q1 q2 hl
  have hB : Below W.heap.size W ((W.alloc (.cells #[.slice (some ⟨g1, 0, none⟩) a.length a.length, .int .i64 x, .bool true] 62)).alloc (.cells #[.slice (some ⟨g2, 0, none⟩) c.length c.length, .int .i64 y, .bool true] 62)) := ((Below.refl _ _).alloc (Nat.le_refl _) _).alloc (by simp) _
  have A1 : Hid (ArgI ((W.alloc (.cells #[.slice (some ⟨g1, 0, none⟩) a.length a.length, .int .i64 x, .bool true] 62)).alloc (.cells #[.slice (some ⟨g2, 0, none⟩) c.length c.length, .int .i64 y, .bool true] 62)) (.slice (some ⟨g1, 0, none⟩) a.length a.length) a) := (K1.out.kept hB).argI (by unfold maxLen; omega)
  have A2 : Hid (ArgI ((W.alloc (.cells #[.slice (some ⟨g1, 0, none⟩) a.length a.length, .int .i64 x, .bool true] 62)).alloc (.cells #[.slice (some ⟨g2, 0, none⟩) c.length c.length, .int .i64 y, .bool true] 62)) (.slice (some ⟨g2, 0, none⟩) c.length c.length) c) := (K2.out.kept hB).argI (by have := HL.out; unfold maxLen; omega)
  clear hB
  go_enter Try.func24, Try.ntmps24
  go_wp2_with (go_at_call 25; refine (slcmp_c A1.out A2.out HL.out).mono ?_; rintro e w5 ⟨rfl, h5⟩; subst w5)
  go_ret
  exact ⟨rfl, 0, _, by rw [Go.Sort.alloc_eq_grow, Go.Sort.alloc_eq_grow, Go.Sort.grow_grow]; rfl⟩
end Go.Proofs.Ytmfljfedpdipiaa
