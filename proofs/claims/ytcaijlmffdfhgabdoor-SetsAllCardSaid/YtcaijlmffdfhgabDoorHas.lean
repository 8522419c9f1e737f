/-
  What sets.Has, With and Without answer, of any set and number: the world behind has new blocks alone.
-/
import Derived.Test.YtcaijlmffdfhgabDoorOr
import Derived.Test.YtcaijlmffdfhgabDoorOnly
import Derived.Test.YtcaijlmffdfhgabDoorExt
import Derived.Test.YtcaijlmffdfhgabDoorEq
import Derived.Deep.RegionHeld3
import Derived.Deep.DrawnRows
namespace Go.Proofs.YtcaijlmffdfhgabDoor
open Go Go.RowKit
attribute [local go_sem] idx0 idx1 idx2 idx3 u64_signed ext_cell eqg_set eqIn_set eqIn_nil
attribute [local go_sem ↓] Go.wp_at_zero Go.wp_at_succ

/-- Is the number in the set? -/
def shas (s : S) (b : Int) : Bool := !decide (sand s (sonly b) = 0#256)

set_option maxHeartbeats 1000000 in
theorem has_any (s : S) (b : Int) (w : World) :
    Calls Tryd.prog 14 #[.agg #[.int .u64 (wd (s) 0), .int .u64 (wd (s) 1), .int .u64 (wd (s) 2), .int .u64 (wd (s) 3)], .int .i64 b] w fun e w' => e = .returned (.bool (shas s b)) ∧ Below w.heap.size w w' := by
  go_enter Tryd.func14, Tryd.ntmps14
  go_wp2
  refine wp_region_ext (by kernel_rfl) (by kernel_rfl) ?_
  repeat (go_big_quiet_step (first | exact rfl | (go_at_call 23; exact ext_call (only_any _ _)) | (go_at_call 22; exact ext_call (and_any _ _ _))))
  refine wpQuiet_nil ?_
  rintro _ ⟨x, rfl⟩
  go_wp2
  go_ret
  exact ⟨rfl, ((Below.refl _ _).alloc (Nat.le_refl _) _).trans (x.2.mono (by simp))⟩

set_option maxHeartbeats 1000000 in
theorem with_any (s : S) (b : Int) (w : World) :
    Calls Tryd.prog 17 #[.agg #[.int .u64 (wd (s) 0), .int .u64 (wd (s) 1), .int .u64 (wd (s) 2), .int .u64 (wd (s) 3)], .int .i64 b] w fun e w' => e = .returned (.agg #[.int .u64 (wd (sor s (sonly b)) 0), .int .u64 (wd (sor s (sonly b)) 1), .int .u64 (wd (sor s (sonly b)) 2), .int .u64 (wd (sor s (sonly b)) 3)]) ∧ Below w.heap.size w w' := by
  go_enter Tryd.func17, Tryd.ntmps17
  go_wp2
  go_region_held3 (fun w' => w'.cell? ⟨w.heap.size, 0, none⟩ = some (.int .u64 (wd s 0)) ∧ w'.cell? ⟨w.heap.size, 1, none⟩ = some (.int .u64 (wd s 1)) ∧ w'.cell? ⟨w.heap.size, 2, none⟩ = some (.int .u64 (wd s 2)) ∧ w'.cell? ⟨w.heap.size, 3, none⟩ = some (.int .u64 (wd s 3)))
    (refine ⟨?_, ?_, ?_, ?_⟩ <;> first | (simp [go_sem]; done) | (rw [hc2 _ _ (by omega)]; first | assumption | (rw [hc1 _ _ (by simp; omega)]; simp [go_sem])) | (rw [hc1 _ _ (by simp; omega)]; simp [go_sem]) | go_keep)
    (first
      | (go_at_call 23; refine (only_any b _).mono ?_; rintro e w1 ⟨rfl, hb1⟩; obtain ⟨hc1, hf1⟩ := bcell hb1; have hz1 : w.heap.size + 1 < w1.heap.size := by have := hb1.size; simp at this; omega)
      | (go_at_call 24; refine (or_any s (sonly b) _).mono ?_; rintro e w2 ⟨rfl, hb2⟩; obtain ⟨hc2, hf2⟩ := bcell hb2; have hz2 : w.heap.size + 1 < w2.heap.size := by have := hb2.size; omega))
  have e0 : ∀ o, o < 4 → w2.cell? ⟨w.heap.size + 1, o, none⟩ = some (.int .u64 0) := fun o ho => by
    rw [hc2 _ _ (by omega), hc1 _ _ (by simp)]
    match o, ho with
    | 0, _ => simp [go_sem]
    | 1, _ => simp [go_sem]
    | 2, _ => simp [go_sem]
    | 3, _ => simp [go_sem]
  have c0 := e0 0 (by decide)
  have c1 := e0 1 (by decide)
  have c2 := e0 2 (by decide)
  have c3 := e0 3 (by decide)
  have HB : Below w.heap.size w w2 := ((((Below.refl _ _).alloc (Nat.le_refl _) _).alloc (by simp) _).drew.trans (hb1.mono (by simp; omega))).trans (hb2.mono (by omega))
  clear hc1 hc2 hf1 hf2 e0
  go_wp2
  exact bodyPost_ret (v := .agg #[.int .u64 (wd (sor s (sonly b)) 0), .int .u64 (wd (sor s (sonly b)) 1), .int .u64 (wd (sor s (sonly b)) 2), .int .u64 (wd (sor s (sonly b)) 3)]) (by simp [results, Tryd.results17, go_sem, c0, c1, c2, c3]) rfl ⟨rfl, (((HB.setCell (by simp) _).setCell (by simp) _).setCell (by simp) _).setCell (by simp) _⟩

end Go.Proofs.YtcaijlmffdfhgabDoor
