/-
  The law SetsBytes, walked: Has, With, Without, Count, Next of any set and number, held against the document's own answer.
-/
import Derived.Test.YtcaijlmffdfhgaaDoorRefD
import Derived.Test.YtcaijlmffdfhgaaDoorBack
import Derived.Test.YtcaijlmffdfhgaaDoorEach
namespace Go.Proofs.YtcaijlmffdfhgaaDoor
open Go Go.RowKit
attribute [local go_sem] idx0 idx1 idx2 idx3 u64_signed ext_cell eqg_set eqIn_set

set_option maxRecDepth 100000 in
set_option maxHeartbeats 1000000 in
theorem law_bytes (s : S) (b : Int) (w : World) (hT : Tab w) :
    Calls Tryd.prog 7 #[.agg #[.int .u64 (wd (s) 0), .int .u64 (wd (s) 1), .int .u64 (wd (s) 2), .int .u64 (wd (s) 3)], .int .i64 b] w fun e w' => e = .returned (.bool true) ∧ Below w.heap.size w w' := by
  have HT : Hid (Tab w) := hT
  clear hT
  go_enter Tryd.func7, Tryd.ntmps7
  go_wp2_with first | (go_at_call 9; refine (examples_any _ (HT.out.below ((Below.refl _ _).alloc (Nat.le_refl _) _))).mono ?_; rintro e w1 ⟨rfl, hb1⟩; have H1 : Hid (Below w.heap.size w w1) := chain ((Below.refl _ _).alloc (Nat.le_refl _) _) hb1; have S1 : Hid (SetAt w1 w.heap.size s) := (SetAt.new w s).below hb1 (by simp); have T1 : Hid (Tab w1) := HT.out.below H1.out; clear hb1; obtain ⟨a0, a1, a2, a3⟩ := S1.out.cells) | (go_at_call 19; refine (next_any _ _ _ T1.out).mono ?_; rintro e w2 ⟨rfl, hb2⟩; have H2 : Hid (Below w.heap.size w w2) := chain H1.out hb2; have S2 : Hid (SetAt w2 w.heap.size s) := S1.out.below hb2 S1.out.lt; have T2 : Hid (Tab w2) := HT.out.below H2.out; clear hb2 a0 a1 a2 a3; obtain ⟨a0, a1, a2, a3⟩ := S2.out.cells) | (go_at_call 29; refine (rNext _ _ _).mono ?_; rintro e w3 ⟨rfl, hb3⟩; have H3 : Hid (Below w.heap.size w w3) := chain H2.out hb3; have S3 : Hid (SetAt w3 w.heap.size s) := S2.out.below hb3 S2.out.lt; have T3 : Hid (Tab w3) := HT.out.below H3.out; clear hb3 a0 a1 a2 a3; obtain ⟨a0, a1, a2, a3⟩ := S3.out.cells; have z3 := S3.out.lt)
  all_goals
    refine wp_region_ext (by kernel_rfl) (by kernel_rfl) ?_
    repeat (go_big_quiet_step (first | exact rfl | (go_at_call 20; exact ext_call (has_any _ _ _)) | (go_at_call 30; exact ext_call (rHas _ _ _)) | (go_at_call 21; exact ext_call (with_any _ _ _)) | (go_at_call 31; exact ext_call (rWith _ _ _)) | (go_at_call 22; exact ext_call (without_any _ _ _)) | (go_at_call 32; exact ext_call (rWithout _ _ _)) | (go_at_call 17; exact ext_call (count_any _ _)) | (go_at_call 33; exact ext_call (rCount _ _))))
    refine wpQuiet_nil ?_
    intro w5 hw
    have hb5 := ext_of hw
    clear hw
    go_wp2
    go_ret
    exact ⟨by first | rfl | (simp; done), chain H3.out hb5⟩
end Go.Proofs.YtcaijlmffdfhgaaDoor
