/-
  The document's own answer: with, With, Without, Has, Next.
-/
import Derived.Test.YtcaijlmffdfhgaaDoorRefB
import Derived.Test.YtcaijlmffdfhgaaDoorEach
namespace Go.Proofs.YtcaijlmffdfhgaaDoor
open Go Go.RowKit
attribute [local go_sem] u64_signed ext_cell zero_arr

theorem lai_eq (f : Nat → Bool) (s : S) (h : ∀ n, n < 256 → f n = s.getLsbD n) : lai f 256 = s := by
  refine BitVec.eq_of_getLsbD_eq fun n hn => ?_
  rw [bit_lai f n 256 (Nat.le_refl _), h n hn]; simp [hn]
theorem with_true (s : S) (b : Int) (h0 : 0 ≤ b) (h1 : b ≤ 255) : lai (upd (fun j => sbit s j) b.toNat true) 256 = sor s (sonly b) := by
  refine lai_eq _ _ fun n hn => ?_
  rw [bit_or, bit_only]
  unfold upd sbit
  by_cases h : n = b.toNat
  · have : b = (n : Int) := by omega
    rw [if_pos h, decide_eq_true (by omega)]; simp
  · rw [if_neg h, decide_eq_false (by omega)]; simp
theorem with_false (s : S) (b : Int) (h0 : 0 ≤ b) (h1 : b ≤ 255) : lai (upd (fun j => sbit s j) b.toNat false) 256 = sless s (sonly b) := by
  refine lai_eq _ _ fun n hn => ?_
  rw [bit_less, bit_only]
  unfold upd sbit
  by_cases h : n = b.toNat
  · rw [if_pos h, decide_eq_true (by omega)]; simp
  · rw [if_neg h, decide_eq_false (by omega)]; simp
theorem with_out (s : S) (b : Int) (h : b < 0 ∨ 255 < b) : sor s (sonly b) = s ∧ sless s (sonly b) = s := by
  have e : sonly b = 0#256 := by unfold sonly; rw [if_neg (by omega)]; rfl
  rw [e]
  refine ⟨by unfold sor; simp, ?_⟩
  refine BitVec.eq_of_getLsbD_eq fun n hn => ?_
  rw [bit_less]; simp

set_option maxHeartbeats 1000000 in
theorem rwith_out (s : S) (b : Int) (is : Bool) (w : World) (h : b < 0 ∨ 255 < b) :
    Calls Tryd.prog 47 #[.agg #[.int .u64 (wd (s) 0), .int .u64 (wd (s) 1), .int .u64 (wd (s) 2), .int .u64 (wd (s) 3)], .int .i64 b, .bool is] w fun e w' => e = .returned (.agg #[.int .u64 (wd (s) 0), .int .u64 (wd (s) 1), .int .u64 (wd (s) 2), .int .u64 (wd (s) 3)]) ∧ Below w.heap.size w w' := by
  rcases h with h | h
  · go_enter Tryd.func47, Tryd.ntmps47
    go_wp2
    exact bodyPost_ret (v := .agg #[.int .u64 (wd (s) 0), .int .u64 (wd (s) 1), .int .u64 (wd (s) 2), .int .u64 (wd (s) 3)]) (by simp [results, Tryd.results47, go_sem]) rfl ⟨rfl, ((Below.refl _ _).alloc (Nat.le_refl _) _).alloc (by simp) _⟩
  · have h' : ¬ b < 0 := by omega
    go_enter Tryd.func47, Tryd.ntmps47
    go_wp2
    exact bodyPost_ret (v := .agg #[.int .u64 (wd (s) 0), .int .u64 (wd (s) 1), .int .u64 (wd (s) 2), .int .u64 (wd (s) 3)]) (by simp [results, Tryd.results47, go_sem]) rfl ⟨rfl, ((Below.refl _ _).alloc (Nat.le_refl _) _).alloc (by simp) _⟩

set_option maxRecDepth 100000 in
set_option maxHeartbeats 1000000 in
theorem rwith_in (s : S) (b : Int) (is : Bool) (w : World) (h0 : 0 ≤ b) (h1 : b ≤ 255) :
    Calls Tryd.prog 47 #[.agg #[.int .u64 (wd (s) 0), .int .u64 (wd (s) 1), .int .u64 (wd (s) 2), .int .u64 (wd (s) 3)], .int .i64 b, .bool is] w fun e w' => e = .returned (.agg #[.int .u64 (wd (lai (upd (fun j => sbit s j) b.toNat is) 256) 0), .int .u64 (wd (lai (upd (fun j => sbit s j) b.toNat is) 256) 1), .int .u64 (wd (lai (upd (fun j => sbit s j) b.toNat is) 256) 2), .int .u64 (wd (lai (upd (fun j => sbit s j) b.toNat is) 256) 3)]) ∧ Below w.heap.size w w' := by
  have HB0 : Hid (Below w.heap.size w ((w.alloc (.cells #[.int .u64 (wd (s) 0), .int .u64 (wd (s) 1), .int .u64 (wd (s) 2), .int .u64 (wd (s) 3)] 24)).alloc (.cells #[.int .u64 0, .int .u64 0, .int .u64 0, .int .u64 0] 24))) := ((Below.refl _ _).alloc (Nat.le_refl _) _).alloc (by simp) _
  go_enter Tryd.func47, Tryd.ntmps47
  go_wp2_with (first
    | (go_at_call 50; refine (bytes_any _ _).mono ?_; rintro e w1 ⟨rfl, hb1⟩; have H1 : Hid (Below w.heap.size w w1) := chain HB0.out hb1; have R1 : Hid (SetAt w1 (w.heap.size + 1) (0#256)) := (by have h := SetAt.new0 (w.alloc (.cells #[.int .u64 (wd (s) 0), .int .u64 (wd (s) 1), .int .u64 (wd (s) 2), .int .u64 (wd (s) 3)] 24)); rw [World.size_alloc] at h; exact h.below hb1 (by simp)); clear hb1)
    | (refine wpList_store_arr rfl _ _ rfl w1.heap.size (fun j => sbit s j) (fun _ => false) rfl rfl (ArrAt.new w1 _) ?_; have A2 : Hid (ArrAt (putA (w1.alloc (.cells (bA fun _ => false) 57)) w1.heap.size (fun j => sbit s j)) w1.heap.size (fun j => sbit s j)) := (ArrAt.new w1 _).put _; have H2 : Hid (Below w.heap.size w (putA (w1.alloc (.cells (bA fun _ => false) 57)) w1.heap.size (fun j => sbit s j))) := putA_below (H1.out.alloc H1.out.size _) H1.out.size; have R2 : Hid (SetAt (putA (w1.alloc (.cells (bA fun _ => false) 57)) w1.heap.size (fun j => sbit s j)) (w.heap.size + 1) (0#256)) := (R1.out.alloc _).below (putA_below (n := w1.heap.size) (Below.refl _ _) (Nat.le_refl _)) R1.out.lt; generalize putA (w1.alloc (.cells (bA fun _ => false) 57)) w1.heap.size (fun j => sbit s j) = w2 at A2 H2 R2 ⊢; have c2 := A2.out.cell b.toNat (by omega); have f2 := A2.out.frozen b.toNat; have z1 := R1.out.lt)
    | (refine wpList_load_arr rfl _ rfl w1.heap.size _ rfl (A2.out.store b.toNat is) ?_)
    | (go_at_call 45; refine (laid_any _ _).mono ?_; rintro e w4 ⟨rfl, hb4⟩; have H4 : Hid (Below w.heap.size w w4) := chain (H2.out.setCell H1.out.size _) hb4; have R4 : Hid (SetAt w4 (w.heap.size + 1) (0#256)) := (R2.out.setCell (by simp; omega) _).below hb4 (R2.out.setCell (a := ⟨w1.heap.size, b.toNat, none⟩) (by simp; omega) _).lt; clear hb4; obtain ⟨e0, e1, e2, e3⟩ := R4.out.cells; have fz := R4.out.frozen))
  exact bodyPost_ret (v := .agg #[.int .u64 (wd (lai (upd (fun j => sbit s j) b.toNat is) 256) 0), .int .u64 (wd (lai (upd (fun j => sbit s j) b.toNat is) 256) 1), .int .u64 (wd (lai (upd (fun j => sbit s j) b.toNat is) 256) 2), .int .u64 (wd (lai (upd (fun j => sbit s j) b.toNat is) 256) 3)]) (by simp [results, Tryd.results47, go_sem, e0, e1, e2, e3]) rfl ⟨rfl, (((H4.out.setCell (by simp) _).setCell (by simp) _).setCell (by simp) _).setCell (by simp) _⟩

theorem rWith_any (s : S) (b : Int) (is : Bool) (w : World) :
    Calls Tryd.prog 47 #[.agg #[.int .u64 (wd (s) 0), .int .u64 (wd (s) 1), .int .u64 (wd (s) 2), .int .u64 (wd (s) 3)], .int .i64 b, .bool is] w fun e w' => e = .returned (.agg #[.int .u64 (wd (if is then sor s (sonly b) else sless s (sonly b)) 0), .int .u64 (wd (if is then sor s (sonly b) else sless s (sonly b)) 1), .int .u64 (wd (if is then sor s (sonly b) else sless s (sonly b)) 2), .int .u64 (wd (if is then sor s (sonly b) else sless s (sonly b)) 3)]) ∧ Below w.heap.size w w' := by
  by_cases h : 0 ≤ b ∧ b ≤ 255
  · have := rwith_in s b is w h.1 h.2
    cases is
    · rw [with_false s b h.1 h.2] at this; exact this
    · rw [with_true s b h.1 h.2] at this; exact this
  · have hb : b < 0 ∨ 255 < b := by omega
    have e := with_out s b hb
    have := rwith_out s b is w hb
    cases is
    · rw [if_neg (by simp), e.2]; exact this
    · rw [if_pos rfl, e.1]; exact this
end Go.Proofs.YtcaijlmffdfhgaaDoor
