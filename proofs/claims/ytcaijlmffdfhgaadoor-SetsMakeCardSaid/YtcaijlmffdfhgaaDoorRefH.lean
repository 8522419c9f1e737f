/-
  The document's own answer: Range.
-/
import Derived.Test.YtcaijlmffdfhgaaDoorRefF
import Derived.Test.YtcaijlmffdfhgaaDoorBackMath
namespace Go.Proofs.YtcaijlmffdfhgaaDoor
open Go Go.RowKit
attribute [local go_sem] u64_signed ext_cell zero_arr

open Classical in
noncomputable def rangeB (lo hi : Int) : Bool := if rangeOk lo hi then true else false
theorem rangeB_ok {lo hi : Int} (h : rangeOk lo hi) : rangeB lo hi = true := if_pos h
theorem rangeB_bad {lo hi : Int} (h : ¬ rangeOk lo hi) : rangeB lo hi = false := if_neg h

set_option maxHeartbeats 1000000 in
theorem rRange_bad (lo hi : Int) (w : World) (h : ¬ rangeOk lo hi) :
    Calls Tryd.prog 24 #[.int .i64 lo, .int .i64 hi] w fun e w' => e = .returned (.tuple #[.agg #[.int .u64 (wd (0#256) 0), .int .u64 (wd (0#256) 1), .int .u64 (wd (0#256) 2), .int .u64 (wd (0#256) 3)], .bool false]) ∧ Below w.heap.size w w' := by
  unfold rangeOk at h
  rw [wd_nil0, wd_nil0, wd_nil0, wd_nil0]
  have hc : lo < 0 ∨ (0 ≤ lo ∧ 255 < hi) ∨ (0 ≤ lo ∧ hi ≤ 255 ∧ hi < lo) := by omega
  clear h
  rcases hc with h | ⟨h, h'⟩ | ⟨h, h', h''⟩
  all_goals
    go_enter Tryd.func24, Tryd.ntmps24
    go_wp2
    exact bodyPost_ret (v := .tuple #[.agg #[.int .u64 0, .int .u64 0, .int .u64 0, .int .u64 0], .bool false]) (by simp [results, Tryd.results24, go_sem]) rfl ⟨rfl, (Below.refl _ _).alloc (Nat.le_refl _) _⟩

def fromTo (lo k : Int) : Nat → Bool := fun j => decide (lo ≤ (j : Int)) && decide ((j : Int) < k)
theorem fromTo_none (lo : Int) : fromTo lo lo = fun _ => false := by
  funext j; unfold fromTo; by_cases h : lo ≤ (j : Int)
  · simp [h]
  · simp [h]
theorem fromTo_succ (lo : Int) (k : Int) (h : lo ≤ k) (h0 : 0 ≤ k) : upd (fromTo lo k) k.toNat true = fromTo lo (k + 1) := by
  funext j
  unfold upd fromTo
  by_cases e : j = k.toNat
  · rw [if_pos e, decide_eq_true (by omega), decide_eq_true (by omega)]; rfl
  · rw [if_neg e]
    congr 1
    rw [Bool.eq_iff_iff]; simp; omega
theorem fromTo_lai (lo hi : Int) : lai (fromTo lo (hi + 1)) 256 = srange lo hi := by
  refine lai_eq _ _ fun n hn => ?_
  rw [bit_range lo hi n hn]
  unfold fromTo
  congr 1
  rw [Bool.eq_iff_iff]; simp; omega

set_option maxRecDepth 100000 in
set_option maxHeartbeats 1000000 in
theorem rRange_ok (lo hi : Int) (w : World) (h : rangeOk lo hi) :
    Calls Tryd.prog 24 #[.int .i64 lo, .int .i64 hi] w fun e w' => e = .returned (.tuple #[.agg #[.int .u64 (wd (srange lo hi) 0), .int .u64 (wd (srange lo hi) 1), .int .u64 (wd (srange lo hi) 2), .int .u64 (wd (srange lo hi) 3)], .bool true]) ∧ Below w.heap.size w w' := by
  have HL : Hid (lai (fromTo lo (hi + 1)) 256 = srange lo hi) := fromTo_lai lo hi
  obtain ⟨h0, h1, h2⟩ := h
  have HB0 : Hid (Below w.heap.size w (w.alloc (.cells #[.int .u64 0, .int .u64 0, .int .u64 0, .int .u64 0] 24))) := (Below.refl _ _).alloc (Nat.le_refl _) _
  go_enter Tryd.func24, Tryd.ntmps24
  go_wp2
  go_loopw [7] (fun i wr => ∃ k : Int, lo ≤ k ∧ k ≤ hi + 1 ∧ i = .int .i64 k ∧ ArrAt wr (w.heap.size + 1) (fromTo lo k) ∧ Below (w.heap.size + 1) (w.alloc (.cells #[.int .u64 0, .int .u64 0, .int .u64 0, .int .u64 0] 24)) wr) (fun i _ => (hi + 1 - intOf i).toNat)
  case atStart =>
    refine ⟨lo, by omega, by omega, rfl, ?_, (Below.refl _ _).alloc (by simp) _⟩
    rw [fromTo_none]
    have := ArrAt.new (w.alloc (.cells #[.int .u64 0, .int .u64 0, .int .u64 0, .int .u64 0] 24)) (fun _ => false)
    rw [World.size_alloc] at this
    exact this
  case round =>
    obtain ⟨k, hk, hk', rfl, harr, hb⟩ := hrel
    have HA : Hid (ArrAt wr (w.heap.size + 1) (fromTo lo k)) := harr
    have HB : Hid (Below (w.heap.size + 1) (w.alloc (.cells #[.int .u64 0, .int .u64 0, .int .u64 0, .int .u64 0] 24)) wr) := hb
    have XR : Hid (SetAt wr w.heap.size (0#256)) := (SetAt.new0 w).below hb (by omega)
    have HW : Hid (Below w.heap.size w wr) := HB0.out.trans (hb.mono (by omega))
    clear harr hb
    by_cases hlt : k ≤ hi
    · have i0 : (0 : Int) ≤ k := by omega
      have i1 : k < 256 := by omega
      have cz := HA.out.cell k.toNat (by omega)
      have fz := HA.out.frozen k.toNat
      go_wp2
      go_roundw
      case rel =>
        refine ⟨k + 1, by omega, by omega, by go_num, ?_, HB.out.setCell (by simp) _⟩
        rw [← fromTo_succ lo k hk i0]
        exact HA.out.store k.toNat _
      case measure => simp [intOf]; omega
    · obtain rfl : k = hi + 1 := by omega
      go_wp2_with first | (refine wpList_load_arr rfl _ rfl (w.heap.size + 1) _ rfl HA.out ?_) | (go_at_call 45; refine (laid_any _ _).mono ?_; rw [HL.out]; rintro e w6 ⟨rfl, hb6⟩; have H6 : Hid (Below w.heap.size w w6) := chain HW.out hb6; have R6 : Hid (SetAt w6 w.heap.size (0#256)) := XR.out.below hb6 XR.out.lt; clear hb6; obtain ⟨e0, e1, e2, e3⟩ := R6.out.cells; have fz := R6.out.frozen)
      exact bodyPost_ret (v := .tuple #[.agg #[.int .u64 (wd (srange lo hi) 0), .int .u64 (wd (srange lo hi) 1), .int .u64 (wd (srange lo hi) 2), .int .u64 (wd (srange lo hi) 3)], .bool true]) (by simp [results, Tryd.results24, go_sem, e0, e1, e2, e3]) rfl ⟨rfl, (((H6.out.setCell (by simp) _).setCell (by simp) _).setCell (by simp) _).setCell (by simp) _⟩

theorem rRange_any (lo hi : Int) (w : World) :
    Calls Tryd.prog 24 #[.int .i64 lo, .int .i64 hi] w fun e w' => e = .returned (.tuple #[.agg #[.int .u64 (wd (rangeS lo hi) 0), .int .u64 (wd (rangeS lo hi) 1), .int .u64 (wd (rangeS lo hi) 2), .int .u64 (wd (rangeS lo hi) 3)], .bool (rangeB lo hi)]) ∧ Below w.heap.size w w' := by
  by_cases h : rangeOk lo hi
  · rw [rangeS_ok h, rangeB_ok h]; exact rRange_ok lo hi w h
  · rw [rangeS_bad h, rangeB_bad h]; exact rRange_bad lo hi w h
end Go.Proofs.YtcaijlmffdfhgaaDoor
