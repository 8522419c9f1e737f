/-
  The law SetsBack, walked: From of Ranges is the set; Not twice too; Less and And by Not; Count of both; Fold.
-/
import Derived.Test.YtcaijlmffdfhgaaDoorBackMath
namespace Go.Proofs.YtcaijlmffdfhgaaDoor
open Go Go.RowKit
attribute [local go_sem] idx0 idx1 idx2 idx3 u64_signed ext_cell eqg_set eqIn_set

set_option maxRecDepth 100000 in
set_option maxHeartbeats 2000000 in
theorem law_back (a b : S) (w : World) (hT : Tab w) :
    Calls Tryd.prog 3 #[.agg #[.int .u64 (wd (a) 0), .int .u64 (wd (a) 1), .int .u64 (wd (a) 2), .int .u64 (wd (a) 3)], .agg #[.int .u64 (wd (b) 0), .int .u64 (wd (b) 1), .int .u64 (wd (b) 2), .int .u64 (wd (b) 3)]] w fun e w' => e = .returned (.bool true) ∧ Below w.heap.size w w' := by
  have HT : Hid (Tab w) := hT
  clear hT
  have L1 := back_from a
  have L2 := back_not a
  have L3 := back_or a b
  have L4 := back_less a b
  have L5 := back_count a
  have L6 := back_fold a
  have L7 := back_fold_or a
  have c1 := scount_range a
  have c2 := scount_range (snot a)
  have HB0 : Hid (Below w.heap.size w ((w.alloc (.cells #[.int .u64 (wd (a) 0), .int .u64 (wd (a) 1), .int .u64 (wd (a) 2), .int .u64 (wd (a) 3)] 24)).alloc (.cells #[.int .u64 (wd (b) 0), .int .u64 (wd (b) 1), .int .u64 (wd (b) 2), .int .u64 (wd (b) 3)] 24))) := ((Below.refl _ _).alloc (Nat.le_refl _) _).alloc (by simp) _
  go_enter Tryd.func3, Tryd.ntmps3
  go_wp2_with (first
    | (go_at_call 9; refine (examples_any _ (HT.out.below HB0.out)).mono ?_; rintro e w1 ⟨rfl, hb1⟩; have H1 : Hid (Below w.heap.size w w1) := chain HB0.out hb1; have A1 : Hid (SetAt w1 w.heap.size a) := ((SetAt.new w a).alloc _).below hb1 (by simp; omega); have B1 : Hid (SetAt w1 (w.heap.size + 1) b) := (by have h := (SetAt.new (w.alloc (.cells #[.int .u64 (wd (a) 0), .int .u64 (wd (a) 1), .int .u64 (wd (a) 2), .int .u64 (wd (a) 3)] 24)) b); rw [World.size_alloc] at h; exact h.below hb1 (by simp)); clear hb1; obtain ⟨a0, a1, a2, a3⟩ := A1.out.cells)
    | (go_at_call 11; refine (ranges_any _ _ (HT.out.below H1.out)).mono ?_; rintro e w2 ⟨v, rfl, hown, hnil, hb2⟩; have H2 : Hid (Below w.heap.size w w2) := chain H1.out hb2; have A2 : Hid (SetAt w2 w.heap.size a) := A1.out.below hb2 A1.out.lt; have B2 : Hid (SetAt w2 (w.heap.size + 1) b) := B1.out.below hb2 B1.out.lt; have R2 : Hid (RowAt w2 v (rngs (elems a))) := RowAt.of_own hown; clear hb2 hown hnil a0 a1 a2 a3)
    | (go_at_call 10; refine (from_ok _ _ _ R2.out (back_ok a)).mono ?_; rw [L1]; rintro e w3 ⟨rfl, hb3⟩; have H3 : Hid (Below w.heap.size w w3) := chain H2.out hb3; have A3 : Hid (SetAt w3 w.heap.size a) := A2.out.below hb3 A2.out.lt; have B3 : Hid (SetAt w3 (w.heap.size + 1) b) := B2.out.below hb3 B2.out.lt; clear hb3; obtain ⟨a0, a1, a2, a3⟩ := A3.out.cells; have z3 := A3.out.lt)
    | (go_at_call 12; refine (fold_any _ _ (HT.out.below (H3.out.alloc H3.out.size _))).mono ?_; rintro e w4 ⟨rfl, hb4⟩; have H4 : Hid (Below w.heap.size w w4) := chain (H3.out.alloc H3.out.size _) hb4; have A4 : Hid (SetAt w4 w.heap.size a) := (A3.out.alloc _).below hb4 (A3.out.alloc _).lt; have B4 : Hid (SetAt w4 (w.heap.size + 1) b) := (B3.out.alloc _).below hb4 (B3.out.alloc _).lt; have S4 : Hid (SetAt w4 w3.heap.size a) := (SetAt.new w3 a).below hb4 (by simp); clear hb4 a0 a1 a2 a3))
  obtain ⟨W5, hW5⟩ : ∃ W5, w4.alloc (.cells #[.int .u64 (wd (sfold a) 0), .int .u64 (wd (sfold a) 1), .int .u64 (wd (sfold a) 2), .int .u64 (wd (sfold a) 3)] 24) = W5 := ⟨_, rfl⟩
  have A5 := (A4.out.alloc (.cells #[.int .u64 (wd (sfold a) 0), .int .u64 (wd (sfold a) 1), .int .u64 (wd (sfold a) 2), .int .u64 (wd (sfold a) 3)] 24))
  have B5 := (B4.out.alloc (.cells #[.int .u64 (wd (sfold a) 0), .int .u64 (wd (sfold a) 1), .int .u64 (wd (sfold a) 2), .int .u64 (wd (sfold a) 3)] 24))
  have S5 := (S4.out.alloc (.cells #[.int .u64 (wd (sfold a) 0), .int .u64 (wd (sfold a) 1), .int .u64 (wd (sfold a) 2), .int .u64 (wd (sfold a) 3)] 24))
  have F5 := SetAt.new w4 (sfold a)
  have H5 : Hid (Below w.heap.size w (w4.alloc (.cells #[.int .u64 (wd (sfold a) 0), .int .u64 (wd (sfold a) 1), .int .u64 (wd (sfold a) 2), .int .u64 (wd (sfold a) 3)] 24))) := H4.out.alloc H4.out.size _
  rw [hW5] at A5 B5 S5 F5 H5 ⊢
  have T5 : Hid (Tab W5) := HT.out.below H5.out
  obtain ⟨a0, a1, a2, a3⟩ := A5.cells
  obtain ⟨b0, b1, b2, b3⟩ := B5.cells
  obtain ⟨s0, s1, s2, s3⟩ := S5.cells
  obtain ⟨f0, f1, f2, f3⟩ := F5.cells
  have zA := A5.lt
  have zB := B5.lt
  have zS := S5.lt
  have zF := F5.lt
  clear A5 B5 S5 F5 hW5 A4 B4 S4 H4 A3 B3 H3 A2 B2 H2 R2 A1 B1 H1
  refine wp_region_ext (by kernel_rfl) (by kernel_rfl) ?_
  repeat (go_big_quiet_step (first | exact rfl | (go_at_call 13; exact ext_call (not_any _ _)) | (go_at_call 14; exact ext_call (or_any _ _ _)) | (go_at_call 15; exact ext_call (and_any _ _ _)) | (go_at_call 16; exact ext_call (less_any _ _ _)) | (go_at_call 17; exact ext_call (count_any _ _)) | (go_at_call 12; exact ext_call (fold_any _ _ (T5.out.ext _)))))
  refine wpQuiet_nil ?_
  intro w6 hw
  have hb6 := ext_of hw
  clear hw
  go_wp2
  go_ret
  exact ⟨by simp, chain H5.out hb6⟩
end Go.Proofs.YtcaijlmffdfhgaaDoor
