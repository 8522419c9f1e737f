/-
  The law SetsMake, walked: Of any text, Range of any numbers, From of any ranges, which stay as they were, held against the document's own answer.
-/
import Derived.Test.YtcaijlmffdfhgaaDoorMakeMem
import Derived.Test.YtcaijlmffdfhgaaDoorRefI
import Derived.Test.YtcaijlmffdfhgaaDoorRefJ
import Derived.Test.YtcaijlmffdfhgaaDoorBack
import Derived.Test.YtcaijlmffdfhgaaDoorEach
import Derived.Deep.DeepCutAuto
namespace Go.Proofs.YtcaijlmffdfhgaaDoor
open Go Go.RowKit
attribute [local go_sem] idx0 idx1 idx2 idx3 u64_signed ext_cell eqg_set eqIn_set eqg_range eqIn_range

set_option maxRecDepth 100000 in
set_option maxHeartbeats 2000000 in
theorem law_make (s : ByteArray) (lo hi : Int) (rs : List (Int × Int)) (v : Value) (w : World) (hT : Tab w) (hs : s.size ≤ maxLen) (hR : RowAt w v rs) (hz : (rs.length + 1) * 16 ≤ 281474976710656) :
    Calls Tryd.prog 6 #[.string s, .int .i64 lo, .int .i64 hi, v] w fun e w' => e = .returned (.bool true) ∧ Below w.heap.size w w' := by
  have HT : Hid (Tab w) := hT
  have HR : Hid (RowAt w v rs) := hR
  have HS : Hid (s.size ≤ maxLen) := hs
  clear hT hR hs
  obtain ⟨p, cap, rfl, hlen⟩ := HR.out.slice
  unfold maxLen at hlen
  have hmk := make_ranges (rs.length + 1) hz
  have hc : ((rs.length + 1 : Nat) : Int) = (rs.length : Int) + 1 := by omega
  rw [hc] at hmk
  have hEB : (rangeE lo hi = 0 ∧ rangeB lo hi = true) ∨ (rangeE lo hi = 1 ∧ rangeB lo hi = false) := by
    by_cases h : rangeOk lo hi
    · exact .inl ⟨rangeE_ok h, rangeB_ok h⟩
    · exact .inr ⟨rangeE_bad h, rangeB_bad h⟩
  have hFB : (fromE rs = 0 ∧ fromB rs = true) ∨ (fromE rs = 1 ∧ fromB rs = false) := by
    by_cases h : fromOk rs
    · exact .inl ⟨if_pos h, if_pos h⟩
    · exact .inr ⟨if_neg h, if_neg h⟩
  have HEB : Hid ((rangeE lo hi = 0 ∧ rangeB lo hi = true) ∨ (rangeE lo hi = 1 ∧ rangeB lo hi = false)) := hEB
  have HFB : Hid ((fromE rs = 0 ∧ fromB rs = true) ∨ (fromE rs = 1 ∧ fromB rs = false)) := hFB
  have hm : rs.length + 1 ≤ maxLen := by unfold maxLen; omega
  have HM : Hid (rs.length + 1 ≤ maxLen) := hm
  clear hEB hFB hm
  obtain ⟨Z, hZ⟩ : ∃ Z, Z = (madeCells #[.int .i64 0, .int .i64 0] ((rs.length + 1) * 2)).toList.drop (flat rs).length := ⟨_, rfl⟩
  have HZ : Hid (Z.length = 2 ∧ (madeCells #[.int .i64 0, .int .i64 0] ((rs.length + 1) * 2)).toList.drop (flat rs).length = Z) := ⟨by rw [hZ, List.length_drop, Array.length_toList, size_madeCells, flat_length]; omega, hZ.symm⟩
  clear hZ
  go_enter Tryd.func6, Tryd.ntmps6
  go_upto_region 5 with first | (go_at_call 9; refine (examples_any _ HT.out).mono ?_; rintro e w1 ⟨rfl, hb1⟩; have H1 : Hid (Below w.heap.size w w1) := hb1; clear hb1) | (go_at_call 23; refine (range_any _ _ _).mono ?_; rintro e w2 ⟨rfl, hb2⟩; have H2 : Hid (Below w.heap.size w w2) := chain H1.out hb2; clear hb2) | (go_at_call 24; refine (rRange_any _ _ _).mono ?_; rintro e w3 ⟨rfl, hb3⟩; have H3 : Hid (Below w.heap.size w w3) := chain (H2.out.alloc H2.out.size _) hb3; have A3 : Hid (SetAt w3 w2.heap.size (rangeS lo hi)) := (SetAt.new w2 _).below hb3 (by simp); clear hb3; have z3 := A3.out.lt; have V3 : Hid (Below w3.heap.size w3 ((w3.alloc (.cells #[.int .u64 (wd (rangeS lo hi) 0), .int .u64 (wd (rangeS lo hi) 1), .int .u64 (wd (rangeS lo hi) 2), .int .u64 (wd (rangeS lo hi) 3)] 24)).alloc (.cells (madeCells #[.int .i64 0, .int .i64 0] ((rs.length + 1) * 2)) 48))) := ((Below.refl _ _).alloc (Nat.le_refl _) _).alloc (by simp) _; have G3 : Hid (((w3.alloc (.cells #[.int .u64 (wd (rangeS lo hi) 0), .int .u64 (wd (rangeS lo hi) 1), .int .u64 (wd (rangeS lo hi) 2), .int .u64 (wd (rangeS lo hi) 3)] 24)).alloc (.cells (madeCells #[.int .i64 0, .int .i64 0] ((rs.length + 1) * 2)) 48)).heap[w3.heap.size + 1]? = some (.cells (madeCells #[.int .i64 0, .int .i64 0] ((rs.length + 1) * 2)) 48 (0, 0))) := (by have h := World.alloc_heap_new (w3.alloc (.cells #[.int .u64 (wd (rangeS lo hi) 0), .int .u64 (wd (rangeS lo hi) 1), .int .u64 (wd (rangeS lo hi) 2), .int .u64 (wd (rangeS lo hi) 3)] 24)) (.cells (madeCells #[.int .i64 0, .int .i64 0] ((rs.length + 1) * 2)) 48); rw [World.size_alloc] at h; exact h); have L3 : Hid (RowAt w3 (.slice p rs.length cap) rs) := HR.out.below H3.out; have B3 : Hid (SetAt ((w3.alloc (.cells #[.int .u64 (wd (rangeS lo hi) 0), .int .u64 (wd (rangeS lo hi) 1), .int .u64 (wd (rangeS lo hi) 2), .int .u64 (wd (rangeS lo hi) 3)] 24)).alloc (.cells (madeCells #[.int .i64 0, .int .i64 0] ((rs.length + 1) * 2)) 48)) w3.heap.size (rangeS lo hi)) := (SetAt.new w3 _).alloc _)
  go_upto_region 6 with (refine wpList_copy_two rfl _ _ 29 29 rfl 48 und_ranges size_range (w3.heap.size + 1) (rs.length + 1) (rs.length + 1) p rs.length cap rfl rfl _ _ G3.out (flat rs) (flat_length rs) (by omega) (L3.out.below V3.out).src (by rw [flat_length, size_madeCells]; omega) (flat_one_cell rs) ?_; rw [HZ.out.2]; intro w4 hg4 hb4; have V4 : Hid (Below w3.heap.size w3 w4) := V3.out.trans (hb4.mono (by omega)); have B4 : Hid (SetAt w4 w3.heap.size (rangeS lo hi)) := B3.out.below hb4 (by omega); clear hb4; obtain ⟨⟨y1, c1⟩, ⟨y2, c2⟩, f4⟩ := made_cell hg4.out HZ.out.1; have X5 : Hid (XAt ((w4.setCell ⟨w3.heap.size + 1, rs.length * 2, none⟩ (.int .i64 (-7))).setCell ⟨w3.heap.size + 1, rs.length * 2 + 1, none⟩ (.int .i64 7)) (w3.heap.size + 1) rs) := XAt.made hg4.out HZ.out.1; have V5 : Hid (Below w3.heap.size w3 ((w4.setCell ⟨w3.heap.size + 1, rs.length * 2, none⟩ (.int .i64 (-7))).setCell ⟨w3.heap.size + 1, rs.length * 2 + 1, none⟩ (.int .i64 7))) := (V4.out.setCell (by simp) _).setCell (by simp) _; have B5 : Hid (SetAt ((w4.setCell ⟨w3.heap.size + 1, rs.length * 2, none⟩ (.int .i64 (-7))).setCell ⟨w3.heap.size + 1, rs.length * 2 + 1, none⟩ (.int .i64 7)) w3.heap.size (rangeS lo hi)) := (B4.out.setCell (by simp) _).setCell (by simp) _; clear hg4)
  go_upto_region 10 with first | (go_at_call 10; refine (from_any rs _ _ (X5.out.row HM.out)).mono ?_; rintro e w6 ⟨rfl, hb6⟩; have X6 : Hid (XAt w6 (w3.heap.size + 1) rs) := X5.out.below hb6 X5.out.lt; have B6 : Hid (SetAt w6 w3.heap.size (rangeS lo hi)) := B5.out.below hb6 B5.out.lt; have V6 : Hid (Below w3.heap.size w3 w6) := chain V5.out hb6; clear hb6) | (go_at_call 25; refine (rFrom_any rs _ _ (L3.out.below (V6.out.alloc V6.out.size _))).mono ?_; rintro e w7 ⟨rfl, hb7⟩; have X7 : Hid (XAt w7 (w3.heap.size + 1) rs) := (X6.out.alloc _).below hb7 (X6.out.alloc _).lt; have B7 : Hid (SetAt w7 w3.heap.size (rangeS lo hi)) := (B6.out.alloc _).below hb7 (B6.out.alloc _).lt; have C7 : Hid (SetAt w7 w6.heap.size (fromS rs)) := (SetAt.new w6 _).below hb7 (by simp); have V7 : Hid (Below w3.heap.size w3 w7) := chain (V6.out.alloc V6.out.size _) hb7; clear hb7) | (go_at_call 26; refine (same_any rs _ _ _ ((X7.out.alloc _).row HM.out) (L3.out.below (V7.out.alloc V7.out.size _))).mono ?_; rintro e w8 ⟨rfl, hb8⟩; have X8 : Hid (XAt w8 (w3.heap.size + 1) rs) := (X7.out.alloc _).below hb8 (X7.out.alloc _).lt; have B8 : Hid (SetAt w8 w3.heap.size (rangeS lo hi)) := (B7.out.alloc _).below hb8 (B7.out.alloc _).lt; have C8 : Hid (SetAt w8 w6.heap.size (fromS rs)) := (C7.out.alloc _).below hb8 (C7.out.alloc _).lt; have D8 : Hid (SetAt w8 w7.heap.size (fromS rs)) := (SetAt.new w7 _).below hb8 (by simp); have V8 : Hid (Below w3.heap.size w3 w8) := chain (V7.out.alloc V7.out.size _) hb8; clear hb8)
  have A8 : Hid (SetAt w8 w2.heap.size (rangeS lo hi)) := A3.out.below V8.out A3.out.lt
  have H8 : Hid (Below w.heap.size w w8) := chain H3.out V8.out
  obtain ⟨a0, a1, a2, a3⟩ := A8.out.cells
  obtain ⟨b0, b1, b2, b3⟩ := B8.out.cells
  obtain ⟨d0, d1, d2, d3⟩ := C8.out.cells
  obtain ⟨g0, g1, g2, g3⟩ := D8.out.cells
  obtain ⟨m0, m1⟩ := X8.out.mark
  have l1 := A8.out.lt
  have l2 := B8.out.lt
  have l3 := C8.out.lt
  have l4 := D8.out.lt
  have l5 := X8.out.lt
  clear hmk c1 c2 f4 y1 y2
  rcases HEB.out with ⟨x1, x2⟩ | ⟨x1, x2⟩ <;> rcases HFB.out with ⟨x3, x4⟩ | ⟨x3, x4⟩
  all_goals
    go_wp2_with first | (go_at_call 27; refine (of_any _ _ HS.out).mono ?_; rintro e w9 ⟨rfl, hb9⟩; have H9 : Hid (Below w.heap.size w w9) := chain H8.out hb9; clear hb9) | (go_at_call 28; refine (rOf_any _ _ HS.out).mono ?_; rintro e w10 ⟨rfl, hb10⟩; have H10 : Hid (Below w.heap.size w w10) := chain H9.out hb10; clear hb10)
    go_ret
    exact ⟨by first | rfl | (simp; done), H10.out⟩
end Go.Proofs.YtcaijlmffdfhgaaDoor
