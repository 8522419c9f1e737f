/-
  A step of the script: are they the same?
-/
import Derived.Test.YtofiidfnjgoenaaStep2
namespace Go.Proofs.Ytofiidfnjgoenaa
open Go Go.RowKit Go.Shelf
attribute [local go_sem] ext_cell
theorem kN0 : kN false = 0 := rfl
theorem kN1 : kN true = 1 := rfl

set_option linter.unusedSimpArgs false in
set_option maxRecDepth 100000 in
set_option maxHeartbeats 2000000 in
theorem step_same {w : World} {wb : Nat} {s : St} (h : WS w wb s) (heq : s.R = s.L) (on n lv tn ii o6 : Int) (wo : (Lit.int .i64 on).wf = true) :
    Calls Try.prog 16 #[.pointer (some ⟨wb, 0, none⟩), .agg #[.int .i64 8, .int .i64 on, .int .i64 n, .int .i64 lv, .int .i64 tn, .int .i64 ii, .int .i64 o6]] w (Left w wb s) := by
  obtain ⟨k, hk⟩ := pick_two on
  have HEQ : Hid (s.R = s.L) := heq
  have HP : Hid (pk on 2 = (kN k : Int)) := hk
  have hA : Below w.heap.size w (w.alloc (.cells #[.int .i64 8, .int .i64 on, .int .i64 n, .int .i64 lv, .int .i64 tn, .int .i64 ii, .int .i64 o6] 47)) := (Below.refl _ _).alloc (Nat.le_refl _) _
  have HA : Hid (Below w.heap.size w (w.alloc (.cells #[.int .i64 8, .int .i64 on, .int .i64 n, .int .i64 lv, .int .i64 tn, .int .i64 ii, .int .i64 o6] 47))) := hA
  have H : Hid (WS (w.alloc (.cells #[.int .i64 8, .int .i64 on, .int .i64 n, .int .i64 lv, .int .i64 tn, .int .i64 ii, .int .i64 o6] 47)) wb s) := h.kept hA
  have m0 := H.out.cm false
  have m1 := H.out.cm true
  have r0 := H.out.cr false
  have r1 := H.out.cr true
  simp only [kN0, kN1, Nat.reduceAdd] at m0 m1 r0 r1
  have lb := lt_of_heap H.out.hb
  have hs1 : (sameB (s.L false) (s.L true) == sameB (s.R false) (s.R true)) = true := by rw [heq]; simp
  have hs2 : (sameB (s.L true) (s.L false) == sameB (s.R true) (s.R false)) = true := by rw [heq]; simp
  have hs3 : ∀ k, sameB (s.L k) (s.L k) = true := fun k => by simp [sameB]
  have hs4 := hs3 false
  have hs5 := hs3 true
  clear h heq hk hA hs3
  go_enter Try.func16, Try.ntmps16
  go_wp2_with (go_at_call 14; (with_reducible refine (pick_i on 2 (by decide) (by decide) wo _).mono ?_); rw [HP.out]; rintro e w5 ⟨rfl, h5⟩; subst w5)
  generalize (w.alloc (.cells #[.int .i64 8, .int .i64 on, .int .i64 n, .int .i64 lv, .int .i64 tn, .int .i64 ii, .int .i64 o6] 47)) = V at HA H m0 m1 r0 r1 lb ⊢
  cases k
  all_goals simp only [kN0, kN1, Int.cast_ofNat_Int, Int.ofNat_zero, Int.ofNat_one]
  all_goals refine wp_region_ext (by kernel_rfl) (by kernel_rfl) ?_
  all_goals repeat (go_big_quiet_step (first | exact rfl | (go_at_call 29; with_reducible exact ext_call (rsame_c ((H.out.kept (ext_below _)).r false) ((H.out.kept (ext_below _)).r true))) | (go_at_call 29; with_reducible exact ext_call (rsame_c ((H.out.kept (ext_below _)).r true) ((H.out.kept (ext_below _)).r false)))))
  all_goals refine wpQuiet_nil ?_
  all_goals intro w5 hw
  all_goals have hb5 := ext_of hw
  all_goals clear hw
  all_goals have H5 : Hid (WS w5 wb s) := H.out.kept hb5
  all_goals have HA5 : Hid (Below w.heap.size w w5) := HA.out.trans (hb5.mono HA.out.size)
  all_goals clear m0 m1 r0 r1 lb hb5 H HA
  all_goals have m0 := H5.out.cm false
  all_goals have m1 := H5.out.cm true
  all_goals simp only [kN0, kN1] at m0 m1
  all_goals have lb := lt_of_heap H5.out.hb
  all_goals go_wp2
  all_goals refine wp_region_ext (by kernel_rfl) (by kernel_rfl) ?_
  all_goals repeat (go_big_quiet_step (first | exact rfl | (go_at_call 25; with_reducible exact ext_call (callsIn_wide.1 (sameM_in 3 (Nat.le_refl _) ((H5.out.kept (ext_below _)).m false) ((H5.out.kept (ext_below _)).m true)))) | (go_at_call 25; with_reducible exact ext_call (callsIn_wide.1 (sameM_in 3 (Nat.le_refl _) ((H5.out.kept (ext_below _)).m true) ((H5.out.kept (ext_below _)).m false)))) | (go_at_call 25; with_reducible exact ext_call (callsIn_wide.1 (sameM_in 3 (Nat.le_refl _) ((H5.out.kept (ext_below _)).m false) ((H5.out.kept (ext_below _)).m false)))) | (go_at_call 25; with_reducible exact ext_call (callsIn_wide.1 (sameM_in 3 (Nat.le_refl _) ((H5.out.kept (ext_below _)).m true) ((H5.out.kept (ext_below _)).m true))))))
  all_goals refine wpQuiet_nil ?_
  all_goals intro w7 hw
  all_goals have hb7 := ext_of hw
  all_goals clear hw
  all_goals have HB7 : Hid (Below w5.heap.size w5 w7) := hb7
  all_goals go_wp2
  all_goals go_ret
  all_goals exact ⟨by first | rfl | simp [*], s, H5.out.kept HB7.out, HEQ.out, Nx.refl _ _, (Fr.of_below HA5.out).trans (Fr.of_below HB7.out)⟩
end Go.Proofs.Ytofiidfnjgoenaa
