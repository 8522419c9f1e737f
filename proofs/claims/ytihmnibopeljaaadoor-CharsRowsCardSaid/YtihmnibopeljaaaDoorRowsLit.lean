/-
  The rows of the chapter's examples.
-/
import Derived.Test.YtihmnibopeljaaaDoorRowOf
namespace Go.Proofs.YtihmnibopeljaaaDoor
open Go Go.RowKit
attribute [local go_sem] ext_cell

set_option maxHeartbeats 4000000 in
set_option maxRecDepth 1000000 in
theorem cutAt_lit (w : World) : Calls Tryd.prog 42 #[.int .i64 128, .int .i64 2047] w fun e w' => e = .returned (.int .i64 2047) ∧ w' = w := by
  have hr : Hid (Lib.runeLen 128 = 2) := by show Lib.runeLen 128 = 2; decide +kernel
  have e1 : bits .or .i64 128 63 = 191 := by decide +kernel
  have e2 : bits .or .i64 2047 63 = 2047 := by decide +kernel
  have e3 : bits .and .i64 128 63 = 0 := by decide +kernel
  have e4 : bits .and .i64 2047 63 = 63 := by decide +kernel
  go_enter Tryd.func42, Tryd.ntmps42
  go_wp2
  refine wp_loop_unr 3 ?_
  refine unr_succ ?_
  go_wp2_with (go_at_call 49; refine (Tryd.utf8_RuneLen _ _).mono ?_; rw [hr.out]; rintro e w' ⟨rfl, h5⟩; subst w')
  refine unr_succ ?_
  go_wp2_with (go_at_call 49; refine (Tryd.utf8_RuneLen _ _).mono ?_; rw [hr.out]; rintro e w' ⟨rfl, h5⟩; subst w')
  go_ret
  exact ⟨rfl, rfl⟩

/-- No row comes of nothing. -/
theorem addRows_none (v : Value) (lo hi : Int) (h : hi < lo) (w : World) : Calls Tryd.prog 31 #[v, .int .i64 lo, .int .i64 hi] w fun e w' => e = .returned v ∧ w' = w := by
  go_enter Tryd.func31, Tryd.ntmps31
  go_wp2
  go_ret
  exact ⟨rfl, rfl⟩

theorem size_rowT : (Tryd.prog.info? 35).map (fun i => (i.zero, i.size, i.bytes)) = some (some (.slice none 0 0), 1, 24) := by kernel_rfl
theorem und_rows : Tryd.prog.underlying 24 = some (.slice 35) := by kernel_rfl

set_option maxHeartbeats 4000000 in
set_option maxRecDepth 1000000 in
theorem addRows_lit (w : World) : Calls Tryd.prog 31 #[.slice none 0 0, .int .i64 128, .int .i64 2047] w fun e w' => ∃ g c, e = .returned (.slice (some ⟨g, 0, none⟩) 1 c) ∧ Below w.heap.size w w' := by
  obtain ⟨t0, hi, hz0, hz1, hz2⟩ := info_parts size_rowT
  have hrow := rowOf_c 128 2047 w (by decide) (by decide) (by decide) (by decide) 2 (by decide +kernel) (by decide +kernel) (by decide)
  go_enter Tryd.func31, Tryd.ntmps31
  go_wp2_with first
    | (go_at_call 42; refine (cutAt_lit _).mono ?_; rintro e w' ⟨rfl, h5⟩; subst w')
    | (go_at_call 43; refine Calls.mono hrow ?_; rintro e w5 ⟨rfl, _, h5, _⟩; have B5 : Hid (Below w.heap.size w w5) := h5; have hsz := h5.size; clear h5)
    | (at_builtin; refine wpList_append_own_at _ rfl _ _ 24 rfl w.heap.size 35 t0 (.slice none 0 0) 1 24 und_rows hi hz0 hz1 hz2 rfl (by decide) (.slice none 0 0) 0 [] rfl (World.ownsRow_nil _ _ _ _) ⟨w5.heap.size, 0, none⟩ 1 1 [.slice (some ⟨w.heap.size, 0, none⟩) 2 2] rfl rfl (news1 _ _ _) (by simp [Value.oneCell']) (by decide) (by decide) (by simp; omega) ?_; intro v' w6 hown' hgrow _ hblk; obtain ⟨g6, cap6, rfl⟩ := ownsRow_some hown' (Nat.succ_pos _); have B6 : Hid (Below w.heap.size w w6) := chainF B5.out (((Fr.refl (fun _ => False) w5).alloc _).grown hgrow (fun z hz => by cases hz)) (Nat.le_refl _) (fun _ q => q.elim); clear hown' hgrow hblk)
  go_ret
  exact ⟨⟨_, _, rfl⟩, B6.out⟩

/-- The characters by how many bytes they have, as they lie. -/
def spanC : Array Value := #[.int .i64 0, .int .i64 127, .int .i64 128, .int .i64 2047, .int .i64 2048, .int .i64 55295, .int .i64 57344, .int .i64 65535, .int .i64 65536, .int .i64 1114111]
def Spans (w : World) : Prop := ∀ i v, spanC[i]? = some v → w.cell? ⟨0, i, none⟩ = some v
theorem Spans.below {n : Nat} {w w' : World} (h : Spans w) (hb : Below n w w') (hn : 0 < n) : Spans w' := fun i v hv => (hb.cell (p := ⟨0, i, none⟩) hn).trans (h i v hv)

set_option maxHeartbeats 4000000 in
set_option maxRecDepth 1000000 in
theorem rows_bad (lo hi : Int) (w : World) (h : lo < 0 ∨ 1114111 < hi ∨ hi < lo) : Calls Tryd.prog 10 #[.int .i64 lo, .int .i64 hi] w fun e w' => e = .returned (.tuple #[.slice none 0 0, .int .i64 1]) ∧ w' = w := by
  by_cases h0 : lo < 0
  · go_enter Tryd.func10, Tryd.ntmps10
    go_wp2
    go_ret2
    exact ⟨rfl, rfl⟩
  by_cases h1 : 1114111 < hi
  · clear h
    go_enter Tryd.func10, Tryd.ntmps10
    go_wp2
    go_ret2
    exact ⟨rfl, rfl⟩
  have h2 : hi < lo := by omega
  clear h
  go_enter Tryd.func10, Tryd.ntmps10
  go_wp2
  go_ret2
  exact ⟨rfl, rfl⟩
theorem span0 (W : World) : (Instr.index 58 (.agg #[.int .i64 0, .int .i64 127, .int .i64 128, .int .i64 2047, .int .i64 2048, .int .i64 55295, .int .i64 57344, .int .i64 65535, .int .i64 65536, .int .i64 1114111]) (.int .i64 0)).run Tryd.prog W = .ok (.agg #[.int .i64 0, .int .i64 127]) W := by
  simp [Instr.index, run_underlying Tryd.underlying58, Tryd.sizeOf37, part, Tryd.isAgg37, asIntOf]
theorem span1 (W : World) : (Instr.index 58 (.agg #[.int .i64 0, .int .i64 127, .int .i64 128, .int .i64 2047, .int .i64 2048, .int .i64 55295, .int .i64 57344, .int .i64 65535, .int .i64 65536, .int .i64 1114111]) (.int .i64 1)).run Tryd.prog W = .ok (.agg #[.int .i64 128, .int .i64 2047]) W := by
  simp [Instr.index, run_underlying Tryd.underlying58, Tryd.sizeOf37, part, Tryd.isAgg37, asIntOf]
theorem span2 (W : World) : (Instr.index 58 (.agg #[.int .i64 0, .int .i64 127, .int .i64 128, .int .i64 2047, .int .i64 2048, .int .i64 55295, .int .i64 57344, .int .i64 65535, .int .i64 65536, .int .i64 1114111]) (.int .i64 2)).run Tryd.prog W = .ok (.agg #[.int .i64 2048, .int .i64 55295]) W := by
  simp [Instr.index, run_underlying Tryd.underlying58, Tryd.sizeOf37, part, Tryd.isAgg37, asIntOf]
theorem span3 (W : World) : (Instr.index 58 (.agg #[.int .i64 0, .int .i64 127, .int .i64 128, .int .i64 2047, .int .i64 2048, .int .i64 55295, .int .i64 57344, .int .i64 65535, .int .i64 65536, .int .i64 1114111]) (.int .i64 3)).run Tryd.prog W = .ok (.agg #[.int .i64 57344, .int .i64 65535]) W := by
  simp [Instr.index, run_underlying Tryd.underlying58, Tryd.sizeOf37, part, Tryd.isAgg37, asIntOf]
theorem span4 (W : World) : (Instr.index 58 (.agg #[.int .i64 0, .int .i64 127, .int .i64 128, .int .i64 2047, .int .i64 2048, .int .i64 55295, .int .i64 57344, .int .i64 65535, .int .i64 65536, .int .i64 1114111]) (.int .i64 4)).run Tryd.prog W = .ok (.agg #[.int .i64 65536, .int .i64 1114111]) W := by
  simp [Instr.index, run_underlying Tryd.underlying58, Tryd.sizeOf37, part, Tryd.isAgg37, asIntOf]
set_option maxHeartbeats 8000000 in
set_option maxRecDepth 1000000 in
theorem rows_lit (w : World) (hS : Spans w) : Calls Tryd.prog 10 #[.int .i64 128, .int .i64 2047] w fun e w' => ∃ g c, e = .returned (.tuple #[.slice (some ⟨g, 0, none⟩) 1 c, .int .i64 0]) ∧ Below w.heap.size w w' := by
  have c0 : w.cell? ⟨0, 0, none⟩ = some (.int .i64 0) := hS 0 _ rfl
  have c1 : w.cell? ⟨0, 1, none⟩ = some (.int .i64 127) := hS 1 _ rfl
  have c2 : w.cell? ⟨0, 2, none⟩ = some (.int .i64 128) := hS 2 _ rfl
  have c3 : w.cell? ⟨0, 3, none⟩ = some (.int .i64 2047) := hS 3 _ rfl
  have c4 : w.cell? ⟨0, 4, none⟩ = some (.int .i64 2048) := hS 4 _ rfl
  have c5 : w.cell? ⟨0, 5, none⟩ = some (.int .i64 55295) := hS 5 _ rfl
  have c6 : w.cell? ⟨0, 6, none⟩ = some (.int .i64 57344) := hS 6 _ rfl
  have c7 : w.cell? ⟨0, 7, none⟩ = some (.int .i64 65535) := hS 7 _ rfl
  have c8 : w.cell? ⟨0, 8, none⟩ = some (.int .i64 65536) := hS 8 _ rfl
  have c9 : w.cell? ⟨0, 9, none⟩ = some (.int .i64 1114111) := hS 9 _ rfl
  have HS : Hid (Spans w) := hS
  clear hS
  have m0 : max (128 : Int) 0 = 128 := by decide
  have m1 : min (2047 : Int) 127 = 127 := by decide
  have m2 : max (128 : Int) 2048 = 2048 := by decide
  have m3 : min (2047 : Int) 55295 = 2047 := by decide
  have m4 : max (128 : Int) 57344 = 57344 := by decide
  have m5 : min (2047 : Int) 65535 = 2047 := by decide
  have m6 : max (128 : Int) 65536 = 65536 := by decide
  have m7 : min (2047 : Int) 1114111 = 2047 := by decide
  have x0 := span0
  have x1 := span1
  have x2 := span2
  have x3 := span3
  have x4 := span4
  go_enter Tryd.func10, Tryd.ntmps10
  go_wp2
  refine wp_loop_unr 6 ?_
  refine unr_succ ?_
  go_wp2_with (go_at_call 31; refine (addRows_none _ _ _ (by decide) _).mono ?_; rintro e w1 ⟨rfl, h1⟩; have B1 : Hid (Below w.heap.size w w1) := (by rw [h1]; exact Below.alloc (Below.refl _ w) (Nat.le_refl _) _); clear h1)
  refine unr_succ ?_
  go_wp2_with (go_at_call 31; refine (addRows_lit _).mono ?_; rintro e w2 ⟨g, c, rfl, h2⟩; have B2 : Hid (Below w.heap.size w w2) := (chain (Below.alloc B1.out (Below.size B1.out) _) h2 (Nat.le_refl _)); clear h2)
  refine unr_succ ?_
  go_wp2_with (go_at_call 31; refine (addRows_none _ _ _ (by decide) _).mono ?_; rintro e w3 ⟨rfl, h1⟩; have B3 : Hid (Below w.heap.size w w3) := (by rw [h1]; exact Below.alloc B2.out (Below.size B2.out) _); clear h1)
  refine unr_succ ?_
  go_wp2_with (go_at_call 31; refine (addRows_none _ _ _ (by decide) _).mono ?_; rintro e w4 ⟨rfl, h1⟩; have B4 : Hid (Below w.heap.size w w4) := (by rw [h1]; exact Below.alloc B3.out (Below.size B3.out) _); clear h1)
  refine unr_succ ?_
  go_wp2_with (go_at_call 31; refine (addRows_none _ _ _ (by decide) _).mono ?_; rintro e w5 ⟨rfl, h1⟩; have B5 : Hid (Below w.heap.size w w5) := (by rw [h1]; exact Below.alloc B4.out (Below.size B4.out) _); clear h1)
  refine unr_succ ?_
  go_wp2
  go_ret2
  first | exact ⟨_, _, rfl, B5.out⟩ | exact ⟨⟨_, _, rfl⟩, B5.out⟩
end Go.Proofs.YtihmnibopeljaaaDoor
