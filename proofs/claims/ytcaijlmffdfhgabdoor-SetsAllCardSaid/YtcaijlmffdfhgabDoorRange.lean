/-
  What sets.Range answers, of any numbers.
-/
import Derived.Test.YtcaijlmffdfhgabDoorOr
import Derived.Test.YtcaijlmffdfhgabDoorOnly
import Derived.Test.YtcaijlmffdfhgabDoorExt
namespace Go.Proofs.YtcaijlmffdfhgabDoor
open Go Go.RowKit
attribute [local go_sem] idx0 idx1 idx2 idx3 u64_signed

def srange (lo hi : Int) : S := sless (sbelow (hi + 1)) (sbelow lo)
def rangeOk (lo hi : Int) : Prop := 0 ≤ lo ∧ lo ≤ hi ∧ hi ≤ 255

theorem wd_nil0 (i : Nat) : wd (0#256) i = 0 := by simp [wd]
theorem chain {w W W' : World} (h : Below w.heap.size w W) (hb : Below W.heap.size W W') : Below w.heap.size w W' := h.trans (hb.mono h.size)

/-- A new set's four cells lie there still. -/
theorem set_cells {w W : World} {x0 x1 x2 x3 : Value} {t : TypeId} (h : Below (w.alloc (.cells #[x0, x1, x2, x3] t)).heap.size (w.alloc (.cells #[x0, x1, x2, x3] t)) W) :
    W.cell? ⟨w.heap.size, 0, none⟩ = some x0 ∧ W.cell? ⟨w.heap.size, 1, none⟩ = some x1 ∧ W.cell? ⟨w.heap.size, 2, none⟩ = some x2 ∧ W.cell? ⟨w.heap.size, 3, none⟩ = some x3 ∧ ∀ o, W.frozen? ⟨w.heap.size, o, none⟩ = false := by
  refine ⟨?_, ?_, ?_, ?_, fun o => ?_⟩
  · rw [h.cell (by simp)]; simp [go_sem]
  · rw [h.cell (by simp)]; simp [go_sem]
  · rw [h.cell (by simp)]; simp [go_sem]
  · rw [h.cell (by simp)]; simp [go_sem]
  · rw [h.frozen (by simp)]; simp [go_sem]

set_option maxHeartbeats 1000000 in
theorem range_bad (lo hi : Int) (w : World) (h : ¬ rangeOk lo hi) :
    Calls Tryd.prog 11 #[.int .i64 lo, .int .i64 hi] w fun e w' => e = .returned (.tuple #[.agg #[.int .u64 (wd (0#256) 0), .int .u64 (wd (0#256) 1), .int .u64 (wd (0#256) 2), .int .u64 (wd (0#256) 3)], .int .i64 1]) ∧ Below w.heap.size w w' := by
  unfold rangeOk at h
  rw [wd_nil0, wd_nil0, wd_nil0, wd_nil0]
  have hc : lo < 0 ∨ (0 ≤ lo ∧ hi < lo) ∨ (0 ≤ lo ∧ lo ≤ hi ∧ 255 < hi) := by omega
  clear h
  rcases hc with h | ⟨h, h'⟩ | ⟨h, h', h''⟩
  all_goals
    go_enter Tryd.func11, Tryd.ntmps11
    go_wp2
    exact bodyPost_ret (v := .tuple #[.agg #[.int .u64 0, .int .u64 0, .int .u64 0, .int .u64 0], .int .i64 1]) (by simp [results, Tryd.results11, go_sem]) rfl ⟨rfl, (Below.refl _ _).alloc (Nat.le_refl _) _⟩

set_option maxHeartbeats 1000000 in
theorem range_ok (lo hi : Int) (w : World) (h : rangeOk lo hi) :
    Calls Tryd.prog 11 #[.int .i64 lo, .int .i64 hi] w fun e w' => e = .returned (.tuple #[.agg #[.int .u64 (wd (srange lo hi) 0), .int .u64 (wd (srange lo hi) 1), .int .u64 (wd (srange lo hi) 2), .int .u64 (wd (srange lo hi) 3)], .int .i64 0]) ∧ Below w.heap.size w w' := by
  obtain ⟨h0, h1, h2⟩ := h
  go_enter Tryd.func11, Tryd.ntmps11
  go_wp2_with (first
    | (go_at_call 19; refine (below_any _ _).mono ?_; rintro e w2 ⟨rfl, hb2⟩; have HB := chain HA hb2)
    | (go_at_call 19; refine (below_any _ _).mono ?_; rintro e w1 ⟨rfl, HA⟩)
    | (go_at_call 18; refine (less_any _ _ _).mono ?_; rintro e w3 ⟨rfl, hb3⟩; have HC := chain HB hb3; obtain ⟨c0, c1, c2, c3, f0⟩ := set_cells HC))
  exact bodyPost_ret (v := .tuple #[.agg #[.int .u64 (wd (srange lo hi) 0), .int .u64 (wd (srange lo hi) 1), .int .u64 (wd (srange lo hi) 2), .int .u64 (wd (srange lo hi) 3)], .int .i64 0]) (by simp [results, Tryd.results11, go_sem, srange, c0, c1, c2, c3]) rfl ⟨rfl, ((((((Below.refl _ _).alloc (Nat.le_refl _) _).trans (HC.mono (by simp))).setCell (by simp) _).setCell (by simp) _).setCell (by simp) _).setCell (by simp) _⟩

open Classical in
/-- What Range answers: the set, and the error. -/
noncomputable def rangeS (lo hi : Int) : S := if rangeOk lo hi then srange lo hi else 0#256
open Classical in
noncomputable def rangeE (lo hi : Int) : Int := if rangeOk lo hi then 0 else 1
theorem range_any (lo hi : Int) (w : World) :
    Calls Tryd.prog 11 #[.int .i64 lo, .int .i64 hi] w fun e w' => e = .returned (.tuple #[.agg #[.int .u64 (wd (rangeS lo hi) 0), .int .u64 (wd (rangeS lo hi) 1), .int .u64 (wd (rangeS lo hi) 2), .int .u64 (wd (rangeS lo hi) 3)], .int .i64 (rangeE lo hi)]) ∧ Below w.heap.size w w' := by
  unfold rangeS rangeE
  by_cases h : rangeOk lo hi
  · rw [if_pos h, if_pos h]; exact range_ok lo hi w h
  · rw [if_neg h, if_neg h]; exact range_bad lo hi w h
theorem rangeS_ok {lo hi : Int} (h : rangeOk lo hi) : rangeS lo hi = srange lo hi := if_pos h
theorem rangeE_ok {lo hi : Int} (h : rangeOk lo hi) : rangeE lo hi = 0 := if_pos h
theorem rangeE_bad {lo hi : Int} (h : ¬ rangeOk lo hi) : rangeE lo hi = 1 := if_neg h
theorem rangeS_bad {lo hi : Int} (h : ¬ rangeOk lo hi) : rangeS lo hi = 0#256 := if_neg h
end Go.Proofs.YtcaijlmffdfhgabDoor
