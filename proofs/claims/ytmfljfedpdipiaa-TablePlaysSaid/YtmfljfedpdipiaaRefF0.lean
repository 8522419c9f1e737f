/-
  The document's own table: Put of the first key, where keys have no numbers.
-/
import Derived.Test.YtmfljfedpdipiaaRefF
import Derived.Laws.AppendOwnNone
namespace Go.Proofs.Ytmfljfedpdipiaa
open Go Go.RowKit
attribute [local go_sem] Oper.semAt_some ext_cell

set_option maxRecDepth 100000 in
set_option maxHeartbeats 4000000 in
theorem rput_first0 {base : Nat} {w : World} {b M : Nat} {top : Nat} (h : RT base w b 0 M none 0 [] top) (hbase : base ≤ w.heap.size) (hM : 0 < M) (x : Int) :
    Calls Try.prog 29 #[.pointer (some ⟨b, 0, none⟩), .slice none 0 0, .int .i64 x] w fun e w' => e = .returned (.int .i64 0) ∧ ∃ q' cap' kv, RT base w' b 0 M q' cap' [⟨kv, [], x⟩] (max top 1) ∧ qNew w.heap.size q' ∧ kNew w.heap.size kv ∧ Fr (fun j => j = b) w w' := by
  have H : Hid (RT base w b 0 M none 0 [] top) := h
  have HBS : Hid (base ≤ w.heap.size) := hbase
  have c0 : w.cell? ⟨b, 0, none⟩ = some (.int .i64 0) := cell_row h.hb (i := 0) rfl
  have HZ : Hid (ArgI w (.slice none 0 0) []) := .inl ⟨none, 0, rfl, rfl⟩
  clear h hbase
  have e1 : decide ((M : Int) ≤ 0) = false := by simp; omega
  obtain ⟨j0, hj0, hj1, hj2, hj3⟩ := info_parts size_int
  obtain ⟨i0, hi0, hi1, hi2, hi3⟩ := info_parts size_entry
  have INF : Hid (Try.prog.info? 3 = some j0 ∧ j0.zero = some (.int .i64 0) ∧ j0.size = 1 ∧ j0.bytes = 8) := ⟨hj0, hj1, hj2, hj3⟩
  have IN2 : Hid (Try.prog.info? 71 = some i0 ∧ i0.zero = some (.agg #[.slice none 0 0, .int .i64 0]) ∧ i0.size = 2 ∧ i0.bytes = 32) := ⟨hi0, hi1, hi2, hi3⟩
  clear hj0 hj1 hj2 hj3 hi0 hi1 hi2 hi3
  have AT : Hid (Calls Try.prog 44 #[.pointer (some ⟨b, 0, none⟩), .slice none 0 0] w fun e w' => e = .returned (.tuple #[.int .i64 0, .bool false]) ∧ Below w.heap.size w w') := rat_c H.out HZ.out rfl
  go_enter Try.func29, Try.ntmps29
  go_wp2_with (go_at_call 44; (with_reducible refine AT.out.mono ?_); rintro e2 w2 ⟨rfl, hb⟩; have B2 : Hid (Below w.heap.size w w2) := hb; have H2 : Hid (RT base w2 b 0 M none 0 [] top) := H.out.kept hb; clear hb; have c1 : w2.cell? ⟨b, 1, none⟩ = some (.int .i64 M) := cell_row H2.out.hb (i := 1) rfl; have c2 : w2.cell? ⟨b, 2, none⟩ = some (.slice none 0 0) := cell_row H2.out.hb (i := 2) rfl; have hbl := lt_of_heap H2.out.hb)
  refine wp_region_ext (by kernel_rfl) (by kernel_rfl) ?_
  repeat (go_big_quiet_step (first | exact rfl))
  refine wpQuiet_nil ?_
  intro w5 hw
  have B5 : Hid (Below w.heap.size w w5) := chain B2.out (ext_of hw) (Nat.le_refl _)
  clear hw c0 c1 c2
  have H5 : Hid (RT base w5 b 0 M none 0 [] top) := H.out.kept B5.out
  have c2 : w5.cell? ⟨b, 2, none⟩ = some (.slice none 0 0) := cell_row H5.out.hb (i := 2) rfl
  have e2 : decide (M = 0) = false := by simp; omega
  go_upto_region 11 with fail
  clear c2
  go_upto_region 12 with (at_builtin; refine wpList_append_own _ rfl _ _ 39 rfl w5.heap.size 71 i0 (.agg #[.slice none 0 0, .int .i64 0]) 2 32 und_entries IN2.out.1 IN2.out.2.1 IN2.out.2.2.1 IN2.out.2.2.2 rfl (by decide) (.slice none 0 0) 0 [] rfl (World.ownsRow_nil _ _ _ _) ⟨w5.heap.size, 0, none⟩ 1 1 [.slice none 0 0, .int .i64 x] rfl rfl (cell_two_new _ _ _ _) (by simp [Value.oneCell']) (by unfold maxLen; omega) (by omega) (by simp) ?_; intro v'' w7 hown' hgrow hnil; obtain ⟨g7, c7, rfl⟩ : ∃ g7 c7, v'' = .slice (some ⟨g7, 0, none⟩) 1 c7 := ownsRow_some hown' (fun q => absurd (hnil.1 q).2 (by decide)); have hc7 : 1 ≤ c7 := ownsRow_cap hown'; have G7 : Hid (Below w5.heap.size w5 w7) := chain ((Below.refl _ _).alloc (Nat.le_refl _) _) (grown_below hgrow) (Nat.le_refl _); have N7 : Hid (w7.ownsRow w5.heap.size 71 2 (.slice (some ⟨g7, 0, none⟩) 1 c7) 1 (cellsR [⟨.slice none 0 0, [], x⟩])) := hown'; clear hown' hgrow hnil)
  have H7 : Hid (RT base w7 b 0 M none 0 [] top) := H5.out.kept G7.out
  have c2 : w7.cell? ⟨b, 2, none⟩ = some (.slice none 0 0) := cell_row H7.out.hb (i := 2) rfl
  have f2 := frz_row H7.out.hb 2
  go_upto_region 13 with fail
  have R8 : Hid ((w7.setCell ⟨b, 2, none⟩ (.slice (some ⟨g7, 0, none⟩) 1 c7)).heap[b]? = some (.cells #[.int .i64 (0 : Nat), .int .i64 M, .slice (some ⟨g7, 0, none⟩) 1 c7, .int .i64 top] 41 (0, 0))) := heap_set_in H7.out.hb 2 _
  have F8 : Hid (Fr (fun j => j = b) w7 (w7.setCell ⟨b, 2, none⟩ (.slice (some ⟨g7, 0, none⟩) 1 c7))) := (Fr.refl (fun j => j = b) w7).setCell (S := fun j => j = b) (p := ⟨b, 2, none⟩) rfl _
  generalize (w7.setCell ⟨b, 2, none⟩ (.slice (some ⟨g7, 0, none⟩) 1 c7)) = w8 at R8 F8 ⊢
  clear c2 f2
  have d2 : w8.cell? ⟨b, 2, none⟩ = some (.slice (some ⟨g7, 0, none⟩) 1 c7) := cell_row R8.out (i := 2) rfl
  have d3 : w8.cell? ⟨b, 3, none⟩ = some (.int .i64 top) := cell_row R8.out (i := 3) rfl
  have f3 := frz_row R8.out 3
  have KX : Hid (∀ e ∈ [(⟨.slice none 0 0, [], x⟩ : Ent)], w7.ownsRow base 3 1 e.kv e.key.length (ints e.key) ∧ e.key.length = 0) := fun e he => by
    obtain rfl := List.mem_singleton.1 he
    exact ⟨World.ownsRow_nil _ _ _ _, rfl⟩
  go_region_with fail
  all_goals go_wp2
  all_goals go_ret
  all_goals
    have hmx : (max (top : Int) 1) = ((max top 1 : Nat) : Int) := by omega
    have hF : Fr (fun r => r = b) w7 (w8.setCell ⟨b, 3, none⟩ (.int .i64 (max (top : Int) 1))).drew := (F8.out.setCell (S := fun r => r = b) (p := ⟨b, 3, none⟩) rfl _).then (Below.refl _ _).drew
    refine ⟨rfl, _, _, _, RT.ins H7.out.hb (l := 1) rfl ?_ (ownsRow_mono N7.out (Nat.le_trans HBS.out B5.out.size)) KX.out (by omega) hF, (fun a ha => by cases ha; exact Nat.le_trans B5.out.size (World.ownsRow.lt N7.out g7 rfl).1), (fun a l c e => by cases e), (Fr.of_below (chain B5.out G7.out (Nat.le_refl _))).trans hF⟩
    rw [← hmx]
    exact heap_set_in R8.out 3 _
end Go.Proofs.Ytmfljfedpdipiaa
