/-
  The law SetsMix, walked: Or, And, Less, Not, Fold of any sets, held against the document's own answer.
-/
import Derived.Test.YtcaijlmffdfhgaaDoorRefG
import Derived.Test.YtcaijlmffdfhgaaDoorBack
import Derived.Test.YtcaijlmffdfhgaaDoorEach
namespace Go.Proofs.YtcaijlmffdfhgaaDoor
open Go Go.RowKit
attribute [local go_sem] idx0 idx1 idx2 idx3 u64_signed ext_cell eqg_set eqIn_set

set_option maxRecDepth 100000 in
set_option maxHeartbeats 1000000 in
theorem law_mix (a b : S) (w : World) (hT : Tab w) :
    Calls Tryd.prog 8 #[.agg #[.int .u64 (wd (a) 0), .int .u64 (wd (a) 1), .int .u64 (wd (a) 2), .int .u64 (wd (a) 3)], .agg #[.int .u64 (wd (b) 0), .int .u64 (wd (b) 1), .int .u64 (wd (b) 2), .int .u64 (wd (b) 3)]] w fun e w' => e = .returned (.bool true) ∧ Below w.heap.size w w' := by
  have HT : Hid (Tab w) := hT
  clear hT
  have HB0 : Hid (Below w.heap.size w ((w.alloc (.cells #[.int .u64 (wd (a) 0), .int .u64 (wd (a) 1), .int .u64 (wd (a) 2), .int .u64 (wd (a) 3)] 24)).alloc (.cells #[.int .u64 (wd (b) 0), .int .u64 (wd (b) 1), .int .u64 (wd (b) 2), .int .u64 (wd (b) 3)] 24))) := ((Below.refl _ _).alloc (Nat.le_refl _) _).alloc (by simp) _
  have AA0 : Hid (SetAt ((w.alloc (.cells #[.int .u64 (wd (a) 0), .int .u64 (wd (a) 1), .int .u64 (wd (a) 2), .int .u64 (wd (a) 3)] 24)).alloc (.cells #[.int .u64 (wd (b) 0), .int .u64 (wd (b) 1), .int .u64 (wd (b) 2), .int .u64 (wd (b) 3)] 24)) w.heap.size a) := (SetAt.new w a).alloc _
  have BB0 : Hid (SetAt ((w.alloc (.cells #[.int .u64 (wd (a) 0), .int .u64 (wd (a) 1), .int .u64 (wd (a) 2), .int .u64 (wd (a) 3)] 24)).alloc (.cells #[.int .u64 (wd (b) 0), .int .u64 (wd (b) 1), .int .u64 (wd (b) 2), .int .u64 (wd (b) 3)] 24)) (w.heap.size + 1) b) := (by have h := SetAt.new (w.alloc (.cells #[.int .u64 (wd (a) 0), .int .u64 (wd (a) 1), .int .u64 (wd (a) 2), .int .u64 (wd (a) 3)] 24)) b; rw [World.size_alloc] at h; exact h)
  go_enter Tryd.func8, Tryd.ntmps8
  go_wp2_with (go_at_call 9; refine (examples_any _ (HT.out.below HB0.out)).mono ?_; rintro e w1 ⟨rfl, hb1⟩; have H1 : Hid (Below w.heap.size w w1) := chain HB0.out hb1; have A1 : Hid (SetAt w1 w.heap.size a) := AA0.out.below hb1 AA0.out.lt; have B1 : Hid (SetAt w1 (w.heap.size + 1) b) := BB0.out.below hb1 BB0.out.lt; have T1 : Hid (Tab w1) := HT.out.below H1.out; clear hb1; obtain ⟨a0, a1, a2, a3⟩ := A1.out.cells; obtain ⟨b0, b1, b2, b3⟩ := B1.out.cells; have z1 := A1.out.lt; have z2 := B1.out.lt)
  all_goals
    refine wp_region_ext (by kernel_rfl) (by kernel_rfl) ?_
    repeat (go_big_quiet_step (first | exact rfl | (go_at_call 14; exact ext_call (or_any _ _ _)) | (go_at_call 34; exact ext_call (rOr _ _ _)) | (go_at_call 15; exact ext_call (and_any _ _ _)) | (go_at_call 35; exact ext_call (rAnd _ _ _)) | (go_at_call 16; exact ext_call (less_any _ _ _)) | (go_at_call 36; exact ext_call (rLess _ _ _)) | (go_at_call 13; exact ext_call (not_any _ _)) | (go_at_call 37; exact ext_call (rNot _ _)) | (go_at_call 12; exact ext_call (fold_any _ _ (T1.out.below (ext_below _)))) | (go_at_call 38; exact ext_call (rFold _ _))))
    refine wpQuiet_nil ?_
    intro w5 hw
    have hb5 := ext_of hw
    clear hw
    go_wp2
    go_ret
    exact ⟨by first | rfl | (simp; done), chain H1.out hb5⟩
end Go.Proofs.YtcaijlmffdfhgaaDoor
