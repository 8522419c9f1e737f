/-
  The document's own answer: both, Or, And, Less, Not, Fold.
-/
import Derived.Test.YtcaijlmffdfhgaaDoorRefD
namespace Go.Proofs.YtcaijlmffdfhgaaDoor
open Go Go.RowKit
attribute [local go_sem] u64_signed ext_cell zero_arr

/-- How byte j stands: a alone, b alone, both, none. -/
def bothF (a b : S) (one other two none : Bool) : Nat → Bool := fun j => if sbit a j then (if sbit b j then two else one) else (if sbit b j then other else none)
def cutF (f : Nat → Bool) (k : Nat) : Nat → Bool := fun j => decide (j < k) && f j
theorem cut_zero (f : Nat → Bool) : cutF f 0 = fun _ => false := by funext j; simp [cutF]
theorem cut_succ (f : Nat → Bool) (k : Nat) : upd (cutF f k) k (f k) = cutF f (k + 1) := by
  funext j
  unfold upd cutF
  by_cases h : j = k
  · subst h; simp
  · rw [if_neg h]
    by_cases h2 : j < k
    · simp [h2, Nat.lt_succ_of_lt h2]
    · have : ¬ j < k + 1 := by omega
      simp [h2, this]
theorem lai_cut (f : Nat → Bool) : lai (cutF f 256) 256 = lai f 256 := by
  refine BitVec.eq_of_getLsbD_eq fun n hn => ?_
  rw [bit_lai _ n 256 (Nat.le_refl _), bit_lai _ n 256 (Nat.le_refl _)]
  simp [cutF, hn]

set_option maxRecDepth 100000 in
set_option maxHeartbeats 1000000 in
theorem both_any (a b : S) (one other two none : Bool) (w : World) :
    Calls Tryd.prog 49 #[.agg #[.int .u64 (wd (a) 0), .int .u64 (wd (a) 1), .int .u64 (wd (a) 2), .int .u64 (wd (a) 3)], .agg #[.int .u64 (wd (b) 0), .int .u64 (wd (b) 1), .int .u64 (wd (b) 2), .int .u64 (wd (b) 3)], .bool one, .bool other, .bool two, .bool none] w fun e w' => e = .returned (.agg #[.int .u64 (wd (lai (bothF a b one other two none) 256) 0), .int .u64 (wd (lai (bothF a b one other two none) 256) 1), .int .u64 (wd (lai (bothF a b one other two none) 256) 2), .int .u64 (wd (lai (bothF a b one other two none) 256) 3)]) ∧ Below w.heap.size w w' := by
  go_enter Tryd.func49, Tryd.ntmps49
  have HB0 : Hid (Below w.heap.size w (((w.alloc (.cells #[.int .u64 (wd (a) 0), .int .u64 (wd (a) 1), .int .u64 (wd (a) 2), .int .u64 (wd (a) 3)] 24)).alloc (.cells #[.int .u64 (wd (b) 0), .int .u64 (wd (b) 1), .int .u64 (wd (b) 2), .int .u64 (wd (b) 3)] 24)).alloc (.cells #[.int .u64 0, .int .u64 0, .int .u64 0, .int .u64 0] 24))) := (((Below.refl _ _).alloc (Nat.le_refl _) _).alloc (by simp) _).alloc (by simp; omega) _
  have BB0 : Hid (SetAt (((w.alloc (.cells #[.int .u64 (wd (a) 0), .int .u64 (wd (a) 1), .int .u64 (wd (a) 2), .int .u64 (wd (a) 3)] 24)).alloc (.cells #[.int .u64 (wd (b) 0), .int .u64 (wd (b) 1), .int .u64 (wd (b) 2), .int .u64 (wd (b) 3)] 24)).alloc (.cells #[.int .u64 0, .int .u64 0, .int .u64 0, .int .u64 0] 24)) (w.heap.size + 1) b) := (by have h := (SetAt.new (w.alloc (.cells #[.int .u64 (wd (a) 0), .int .u64 (wd (a) 1), .int .u64 (wd (a) 2), .int .u64 (wd (a) 3)] 24)) b).alloc (.cells #[.int .u64 0, .int .u64 0, .int .u64 0, .int .u64 0] 24); rw [World.size_alloc] at h; exact h)
  have RR0 : Hid (SetAt (((w.alloc (.cells #[.int .u64 (wd (a) 0), .int .u64 (wd (a) 1), .int .u64 (wd (a) 2), .int .u64 (wd (a) 3)] 24)).alloc (.cells #[.int .u64 (wd (b) 0), .int .u64 (wd (b) 1), .int .u64 (wd (b) 2), .int .u64 (wd (b) 3)] 24)).alloc (.cells #[.int .u64 0, .int .u64 0, .int .u64 0, .int .u64 0] 24)) (w.heap.size + 1 + 1) (0#256)) := (by have h := SetAt.new0 ((w.alloc (.cells #[.int .u64 (wd (a) 0), .int .u64 (wd (a) 1), .int .u64 (wd (a) 2), .int .u64 (wd (a) 3)] 24)).alloc (.cells #[.int .u64 (wd (b) 0), .int .u64 (wd (b) 1), .int .u64 (wd (b) 2), .int .u64 (wd (b) 3)] 24)); rw [World.size_alloc, World.size_alloc] at h; exact h)
  go_wp2_with first | (go_at_call 50; refine (bytes_any _ _).mono ?_; rintro e w3 ⟨rfl, hb3⟩; have H3 : Hid (Below w.heap.size w w3) := chain H2.out hb3; have A3 : Hid (ArrAt w3 w1.heap.size (fun j => sbit a j)) := A2.out.below hb3 A2.out.lt; have R3 : Hid (SetAt w3 (w.heap.size + 1 + 1) (0#256)) := R2.out.below hb3 R2.out.lt; have z3 := A3.out.lt; have z4 := R3.out.lt; clear hb3 b0 b1 b2 b3) | (go_at_call 50; refine (bytes_any _ _).mono ?_; rintro e w1 ⟨rfl, hb1⟩; have H1 : Hid (Below w.heap.size w w1) := chain HB0.out hb1; have B1 : Hid (SetAt w1 (w.heap.size + 1) b) := BB0.out.below hb1 BB0.out.lt; have R1 : Hid (SetAt w1 (w.heap.size + 1 + 1) (0#256)) := RR0.out.below hb1 RR0.out.lt; clear hb1) | (refine wpList_store_arr rfl _ _ rfl w3.heap.size (fun j => sbit b j) (fun _ => false) rfl rfl (ArrAt.new w3 _) ?_; have Y4 : Hid (ArrAt (putA (w3.alloc (.cells (bA fun _ => false) 57)) w3.heap.size (fun j => sbit b j)) w3.heap.size (fun j => sbit b j)) := (ArrAt.new w3 _).put _; have H4 : Hid (Below w.heap.size w (putA (w3.alloc (.cells (bA fun _ => false) 57)) w3.heap.size (fun j => sbit b j))) := putA_below (H3.out.alloc H3.out.size _) H3.out.size; have A4 : Hid (ArrAt (putA (w3.alloc (.cells (bA fun _ => false) 57)) w3.heap.size (fun j => sbit b j)) w1.heap.size (fun j => sbit a j)) := (A3.out.alloc _).below (putA_below (n := w3.heap.size) (Below.refl _ _) (Nat.le_refl _)) A3.out.lt; have R4 : Hid (SetAt (putA (w3.alloc (.cells (bA fun _ => false) 57)) w3.heap.size (fun j => sbit b j)) (w.heap.size + 1 + 1) (0#256)) := (R3.out.alloc _).below (putA_below (n := w3.heap.size) (Below.refl _ _) (Nat.le_refl _)) R3.out.lt; generalize putA (w3.alloc (.cells (bA fun _ => false) 57)) w3.heap.size (fun j => sbit b j) = w4 at Y4 H4 A4 R4 ⊢) | (refine wpList_store_arr rfl _ _ rfl w1.heap.size (fun j => sbit a j) (fun _ => false) rfl rfl (ArrAt.new w1 _) ?_; have A2 : Hid (ArrAt (putA (w1.alloc (.cells (bA fun _ => false) 57)) w1.heap.size (fun j => sbit a j)) w1.heap.size (fun j => sbit a j)) := (ArrAt.new w1 _).put _; have H2 : Hid (Below w.heap.size w (putA (w1.alloc (.cells (bA fun _ => false) 57)) w1.heap.size (fun j => sbit a j))) := putA_below (H1.out.alloc H1.out.size _) H1.out.size; have B2 : Hid (SetAt (putA (w1.alloc (.cells (bA fun _ => false) 57)) w1.heap.size (fun j => sbit a j)) (w.heap.size + 1) b) := (B1.out.alloc _).below (putA_below (n := w1.heap.size) (Below.refl _ _) (Nat.le_refl _)) B1.out.lt; have R2 : Hid (SetAt (putA (w1.alloc (.cells (bA fun _ => false) 57)) w1.heap.size (fun j => sbit a j)) (w.heap.size + 1 + 1) (0#256)) := (R1.out.alloc _).below (putA_below (n := w1.heap.size) (Below.refl _ _) (Nat.le_refl _)) R1.out.lt; have z1 := R1.out.lt; generalize putA (w1.alloc (.cells (bA fun _ => false) 57)) w1.heap.size (fun j => sbit a j) = w2 at A2 H2 B2 R2 ⊢; obtain ⟨b0, b1, b2, b3⟩ := B2.out.cells)
  go_loopw [16] (fun i wr => ∃ k : Nat, k ≤ 256 ∧ i = .int .i64 k ∧ ArrAt wr w4.heap.size (cutF (bothF a b one other two none) k) ∧ Below w4.heap.size w4 wr) (fun i _ => 256 - (intOf i).toNat)
  case atStart => exact ⟨0, by omega, rfl, by rw [cut_zero]; exact ArrAt.new w4 _, (Below.refl _ _).alloc (Nat.le_refl _) _⟩
  case round =>
    obtain ⟨k, hk, rfl, harr, hb⟩ := hrel
    have HA : Hid (ArrAt wr w4.heap.size (cutF (bothF a b one other two none) k)) := harr
    have HB : Hid (Below w4.heap.size w4 wr) := hb
    have XA : Hid (ArrAt wr w1.heap.size (fun j => sbit a j)) := A4.out.below hb A4.out.lt
    have XB : Hid (ArrAt wr w3.heap.size (fun j => sbit b j)) := Y4.out.below hb Y4.out.lt
    have XR : Hid (SetAt wr (w.heap.size + 1 + 1) (0#256)) := R4.out.below hb R4.out.lt
    have HW : Hid (Below w.heap.size w wr) := chain H4.out hb
    clear harr hb
    by_cases hlt : k < 256
    · have i0 : (0 : Int) ≤ (k : Int) := by omega
      have i1 : (k : Int) < 256 := by omega
      have cx := XA.out.cell k hlt
      have cy := XB.out.cell k hlt
      have cz := HA.out.cell k hlt
      have fz := HA.out.frozen k
      have HF : Hid (bothF a b one other two none k = if sbit a k then (if sbit b k then two else one) else (if sbit b k then other else none)) := rfl
      obtain ⟨p, hp⟩ : ∃ p, sbit a k = p := ⟨_, rfl⟩
      obtain ⟨q, hq⟩ : ∃ q, sbit b k = q := ⟨_, rfl⟩
      rw [hp, hq] at HF
      rw [hp] at cx
      rw [hq] at cy
      clear hp hq
      cases p <;> cases q
      all_goals
        go_wp2
        go_roundw
        case rel =>
          refine ⟨k + 1, by omega, by go_num, ?_, HB.out.setCell (by simp) _⟩
          rw [← cut_succ, HF.out]
          exact HA.out.store k _
        case measure => simp [intOf]; omega
    · obtain rfl : k = 256 := by omega
      go_wp2_with first | (refine wpList_load_arr rfl _ rfl w4.heap.size _ rfl HA.out ?_) | (go_at_call 45; refine (laid_any _ _).mono ?_; rw [lai_cut]; rintro e w6 ⟨rfl, hb6⟩; have H6 : Hid (Below w.heap.size w w6) := chain HW.out hb6; have R6 : Hid (SetAt w6 (w.heap.size + 1 + 1) (0#256)) := XR.out.below hb6 XR.out.lt; clear hb6; obtain ⟨e0, e1, e2, e3⟩ := R6.out.cells; have fz := R6.out.frozen)
      exact bodyPost_ret (v := .agg #[.int .u64 (wd (lai (bothF a b one other two none) 256) 0), .int .u64 (wd (lai (bothF a b one other two none) 256) 1), .int .u64 (wd (lai (bothF a b one other two none) 256) 2), .int .u64 (wd (lai (bothF a b one other two none) 256) 3)]) (by simp [results, Tryd.results49, go_sem, e0, e1, e2, e3]) rfl ⟨rfl, (((H6.out.setCell (by simp; omega) _).setCell (by simp; omega) _).setCell (by simp; omega) _).setCell (by simp; omega) _⟩
end Go.Proofs.YtcaijlmffdfhgaaDoor
