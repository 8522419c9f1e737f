/-
  The document's own answer: Fold.
-/
import Derived.Test.YtcaijlmffdfhgaaDoorRefF
namespace Go.Proofs.YtcaijlmffdfhgaaDoor
open Go Go.RowKit
attribute [local go_sem] u64_signed ext_cell zero_arr

def foldB (s : S) : Nat → Bool := fun j => sbit s j || sbit s (oc (j : Int)).toNat
theorem fold_lai (s : S) : lai (foldB s) 256 = sfold s := by
  refine lai_eq _ _ fun n hn => ?_
  rw [Bool.eq_iff_iff, bit_fold s n hn]
  unfold foldB sbit
  simp
theorem oc_lt (b : Int) (h0 : 0 ≤ b) (h1 : b < 256) : 0 ≤ oc b ∧ oc b < 256 := by
  unfold oc
  split
  · omega
  · split <;> omega

set_option maxRecDepth 100000 in
set_option maxHeartbeats 1000000 in
theorem rFold (s : S) (w : World) :
    Calls Tryd.prog 38 #[.agg #[.int .u64 (wd (s) 0), .int .u64 (wd (s) 1), .int .u64 (wd (s) 2), .int .u64 (wd (s) 3)]] w fun e w' => e = .returned (.agg #[.int .u64 (wd (sfold s) 0), .int .u64 (wd (sfold s) 1), .int .u64 (wd (sfold s) 2), .int .u64 (wd (sfold s) 3)]) ∧ Below w.heap.size w w' := by
  go_enter Tryd.func38, Tryd.ntmps38
  have HB0 : Hid (Below w.heap.size w ((w.alloc (.cells #[.int .u64 (wd (s) 0), .int .u64 (wd (s) 1), .int .u64 (wd (s) 2), .int .u64 (wd (s) 3)] 24)).alloc (.cells #[.int .u64 0, .int .u64 0, .int .u64 0, .int .u64 0] 24))) := ((Below.refl _ _).alloc (Nat.le_refl _) _).alloc (by simp) _
  have RR0 : Hid (SetAt ((w.alloc (.cells #[.int .u64 (wd (s) 0), .int .u64 (wd (s) 1), .int .u64 (wd (s) 2), .int .u64 (wd (s) 3)] 24)).alloc (.cells #[.int .u64 0, .int .u64 0, .int .u64 0, .int .u64 0] 24)) (w.heap.size + 1) (0#256)) := (by have h := SetAt.new0 (w.alloc (.cells #[.int .u64 (wd (s) 0), .int .u64 (wd (s) 1), .int .u64 (wd (s) 2), .int .u64 (wd (s) 3)] 24)); rw [World.size_alloc] at h; exact h)
  go_wp2_with first | (go_at_call 50; refine (bytes_any _ _).mono ?_; rintro e w1 ⟨rfl, hb1⟩; have H1 : Hid (Below w.heap.size w w1) := chain HB0.out hb1; have R1 : Hid (SetAt w1 (w.heap.size + 1) (0#256)) := RR0.out.below hb1 RR0.out.lt; clear hb1) | (refine wpList_store_arr rfl _ _ rfl w1.heap.size (fun j => sbit s j) (fun _ => false) rfl rfl (ArrAt.new w1 _) ?_; have A2 : Hid (ArrAt (putA (w1.alloc (.cells (bA fun _ => false) 57)) w1.heap.size (fun j => sbit s j)) w1.heap.size (fun j => sbit s j)) := (ArrAt.new w1 _).put _; have H2 : Hid (Below w.heap.size w (putA (w1.alloc (.cells (bA fun _ => false) 57)) w1.heap.size (fun j => sbit s j))) := putA_below (H1.out.alloc H1.out.size _) H1.out.size; have R2 : Hid (SetAt (putA (w1.alloc (.cells (bA fun _ => false) 57)) w1.heap.size (fun j => sbit s j)) (w.heap.size + 1) (0#256)) := (R1.out.alloc _).below (putA_below (n := w1.heap.size) (Below.refl _ _) (Nat.le_refl _)) R1.out.lt; have z1 := R1.out.lt; generalize putA (w1.alloc (.cells (bA fun _ => false) 57)) w1.heap.size (fun j => sbit s j) = w4 at A2 H2 R2 ⊢)
  go_loopw [5] (fun i wr => ∃ k : Nat, k ≤ 256 ∧ i = .int .i64 k ∧ ArrAt wr w4.heap.size (cutF (foldB s) k) ∧ Below w4.heap.size w4 wr) (fun i _ => 256 - (intOf i).toNat)
  case atStart => exact ⟨0, by omega, rfl, by rw [cut_zero]; exact ArrAt.new w4 _, (Below.refl _ _).alloc (Nat.le_refl _) _⟩
  case round =>
    obtain ⟨k, hk, rfl, harr, hb⟩ := hrel
    have HA : Hid (ArrAt wr w4.heap.size (cutF (foldB s) k)) := harr
    have HB : Hid (Below w4.heap.size w4 wr) := hb
    have XA : Hid (ArrAt wr w1.heap.size (fun j => sbit s j)) := A2.out.below hb A2.out.lt
    have XR : Hid (SetAt wr (w.heap.size + 1) (0#256)) := R2.out.below hb R2.out.lt
    have HW : Hid (Below w.heap.size w wr) := chain H2.out hb
    clear harr hb
    by_cases hlt : k < 256
    · have i0 : (0 : Int) ≤ (k : Int) := by omega
      have i1 : (k : Int) < 256 := by omega
      have hoc := oc_lt k i0 i1
      obtain ⟨m, hm⟩ : ∃ m, oc (k : Int) = m := ⟨_, rfl⟩
      have HF : Hid (foldB s k = (sbit s k || sbit s m.toNat)) := by show _ = _; rw [← hm]; rfl
      have HO : Hid (∀ w, Calls Tryd.prog 51 #[.int .i64 k] w fun e w' => e = .returned (.int .i64 m) ∧ w' = w) := fun w => by rw [← hm]; exact rOther k w i0 i1
      rw [hm] at hoc
      obtain ⟨o0, o1⟩ := hoc
      clear hm
      have cx := XA.out.cell k hlt
      have cy := XA.out.cell m.toNat (by omega)
      have cz := HA.out.cell k hlt
      have fz := HA.out.frozen k
      obtain ⟨p, hp⟩ : ∃ p, sbit s k = p := ⟨_, rfl⟩
      rw [hp] at HF cx
      clear hp
      obtain ⟨q, hq⟩ : ∃ q, sbit s m.toNat = q := ⟨_, rfl⟩
      rw [hq] at HF cy
      clear hq
      cases p
      all_goals
        go_wp2_with (go_at_call 51; refine (HO.out _).mono ?_; rintro e w' ⟨rfl, rfl⟩)
        go_roundw
        case rel =>
          refine ⟨k + 1, by omega, by go_num, ?_, HB.out.setCell (by simp) _⟩
          rw [← cut_succ, HF.out]
          exact HA.out.store k _
        case measure => simp [intOf]; omega
    · obtain rfl : k = 256 := by omega
      go_wp2_with first | (refine wpList_load_arr rfl _ rfl w4.heap.size _ rfl HA.out ?_) | (go_at_call 45; refine (laid_any _ _).mono ?_; rw [lai_cut, fold_lai]; rintro e w6 ⟨rfl, hb6⟩; have H6 : Hid (Below w.heap.size w w6) := chain HW.out hb6; have R6 : Hid (SetAt w6 (w.heap.size + 1) (0#256)) := XR.out.below hb6 XR.out.lt; clear hb6; obtain ⟨e0, e1, e2, e3⟩ := R6.out.cells; have fz := R6.out.frozen)
      exact bodyPost_ret (v := .agg #[.int .u64 (wd (sfold s) 0), .int .u64 (wd (sfold s) 1), .int .u64 (wd (sfold s) 2), .int .u64 (wd (sfold s) 3)]) (by simp [results, Tryd.results38, go_sem, e0, e1, e2, e3]) rfl ⟨rfl, (((H6.out.setCell (by simp) _).setCell (by simp) _).setCell (by simp) _).setCell (by simp) _⟩
end Go.Proofs.YtcaijlmffdfhgaaDoor
