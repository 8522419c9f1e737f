/-
  add: a class with one range more.
-/
import Derived.Test.YtfihhliiecdnaabMem6
import Derived.Test.YtfihhliiecdnaabExt
namespace Go.Proofs.Ytfihhliiecdnaab
open Go Go.RowKit
attribute [local go_sem] ext_cell

/-- What may have changed in the list that came. -/
def blk (v : Value) (k : Nat) : Prop := v.ownBlock = some k
theorem appended {base : Nat} {w w1 w6 : World} {q : Option Addr} {c g6 cap6 : Nat} {C : List (Int × Int)} {r : Int × Int} (B1 : Below w.heap.size w w1) (hg : w1.grownBy w6 (Value.slice q C.length c).ownBlock)
    (ho : w6.ownsRow base 33 2 (.slice (some ⟨g6, 0, none⟩) (C.length + 1) cap6) (C.length + 1) (cellsR C ++ [.int .i64 r.1, .int .i64 r.2]))
    (hb : (Value.slice (some ⟨g6, 0, none⟩) (C.length + 1) cap6).ownBlock = (Value.slice q C.length c).ownBlock ∨ (Value.slice (some ⟨g6, 0, none⟩) (C.length + 1) cap6).ownBlock = some w1.heap.size) :
    RR base w6 (.slice (some ⟨g6, 0, none⟩) (C.length + 1) cap6) (C ++ [r]) ∧ moved (.slice q C.length c) (.slice (some ⟨g6, 0, none⟩) (C.length + 1) cap6) w.heap.size ∧ Fr (blk (.slice q C.length c)) w w6 := by
  refine ⟨?_, ?_, (Fr.of_below B1).grown hg fun k hk => hk⟩
  · unfold RR
    rw [List.length_append, List.length_singleton, cellsR_append]
    exact ho
  · rcases hb with hb | hb
    · exact .inl hb
    · exact .inr (.inr ⟨_, B1.size, hb⟩)

theorem appendedN {base : Nat} {w w1 w6 : World} {q : Option Addr} {n c g6 cap6 : Nat} {C : List (Int × Int)} {r : Int × Int} (hn : C.length = n) (B1 : Below w.heap.size w w1) (hg : w1.grownBy w6 (Value.slice q n c).ownBlock)
    (ho : w6.ownsRow base 33 2 (.slice (some ⟨g6, 0, none⟩) (n + 1) cap6) (n + 1) (cellsR C ++ [.int .i64 r.1, .int .i64 r.2]))
    (hb : (Value.slice (some ⟨g6, 0, none⟩) (n + 1) cap6).ownBlock = (Value.slice q n c).ownBlock ∨ (Value.slice (some ⟨g6, 0, none⟩) (n + 1) cap6).ownBlock = some w1.heap.size) :
    RR base w6 (.slice (some ⟨g6, 0, none⟩) (n + 1) cap6) (C ++ [r]) ∧ moved (.slice q n c) (.slice (some ⟨g6, 0, none⟩) (n + 1) cap6) w.heap.size ∧ Fr (blk (.slice q n c)) w w6 := by
  subst hn
  exact appended B1 hg ho hb

set_option maxHeartbeats 1000000 in
theorem add_empty {w : World} {v : Value} {r : Int × Int} (hr : r.2 < r.1) :
    Calls Try.prog 26 #[v, .agg #[.int .i64 r.1, .int .i64 r.2]] w fun e w' => e = .returned v ∧ Below w.heap.size w w' := by
  go_enter Try.func26, Try.ntmps26
  go_wp2
  go_ret
  exact ⟨rfl, (Below.refl _ _).alloc (Nat.le_refl _) _⟩

set_option maxRecDepth 100000 in
set_option maxHeartbeats 1000000 in
theorem add_nil {base : Nat} {w : World} {q : Option Addr} {c : Nat} {r : Int × Int} (h : RR base w (.slice q 0 c) []) (hr : ¬ r.2 < r.1) (hbase : base ≤ w.heap.size) :
    Calls Try.prog 26 #[.slice q 0 c, .agg #[.int .i64 r.1, .int .i64 r.2]] w fun e w' => ∃ v', e = .returned v' ∧ RR base w' v' [r] ∧ moved (.slice q 0 c) v' w.heap.size ∧ Fr (blk (.slice q 0 c)) w w' := by
  obtain ⟨t0, hi, hz0, hz1, hz2⟩ := info_parts size_range
  have H : Hid (RR base w (.slice q 0 c) []) := h
  clear h
  go_enter Try.func26, Try.ntmps26
  go_wp2
  refine wp_region_ext (by kernel_rfl) (by kernel_rfl) ?_
  repeat (go_big_quiet_step (first | exact rfl))
  refine wpQuiet_nil ?_
  intro w1 hw
  have B1 : Hid (Below w.heap.size w w1) := chain ((Below.refl _ _).alloc (Nat.le_refl _) _) (ext_of hw) (by simp)
  have hb1 := ext_of hw
  have m0 : w1.cell? ⟨w.heap.size, 0, none⟩ = some (.int .i64 r.1) := (hb1.cell (p := ⟨w.heap.size, 0, none⟩) (by simp)).trans (cell_row (alloc_new w _) (i := 0) rfl)
  have m1 : w1.cell? ⟨w.heap.size, 1, none⟩ = some (.int .i64 r.2) := (hb1.cell (p := ⟨w.heap.size, 1, none⟩) (by simp)).trans (cell_row (alloc_new w _) (i := 1) rfl)
  have hsz : w.heap.size ≤ w1.heap.size := B1.out.size
  have O1 : Hid (RR base w1 (.slice q 0 c) []) := H.out.kept B1.out
  clear hb1 hw
  go_wp2_with (at_builtin; refine wpList_append_own_at _ rfl _ _ 25 rfl base 33 t0 (.agg #[.int .i64 0, .int .i64 0]) 2 16 und_ranges hi hz0 hz1 hz2 rfl (by decide) (.slice q 0 c) 0 [] rfl (World.ownsRow.alloc O1.out (.cells #[.int .i64 r.1, .int .i64 r.2] 33)) ⟨w1.heap.size, 0, none⟩ 1 1 [.int .i64 r.1, .int .i64 r.2] rfl rfl (news2 _ _ _ _) (by simp [Value.oneCell']) (by unfold maxLen; omega) (by omega) (by simp; omega) ?_; intro v' w6 hown' hgrow _ hblk; obtain ⟨g6, cap6, rfl⟩ := ownsRow_some hown' (Nat.succ_pos _); have A6 : Hid _ := appended (C := []) (r := r) (B1.out.alloc B1.out.size _) hgrow hown' hblk; clear hown' hgrow hblk)
  go_ret
  exact ⟨_, rfl, A6.out.1, A6.out.2.1, A6.out.2.2⟩

theorem last_cell {base : Nat} {w : World} {g n c : Nat} {D : List (Int × Int)} {x : Int × Int} (h : w.ownsRow base 33 2 (.slice (some ⟨g, 0, none⟩) (n + 1) c) (n + 1) (cellsR (D ++ [x]))) (hn : D.length = n) : w.cell? ⟨g, n * 2, none⟩ = some (.int .i64 x.1) ∧ w.cell? ⟨g, n * 2 + 1, none⟩ = some (.int .i64 x.2) := by
  have hx : (D ++ [x])[n]? = some x := by subst hn; simp
  obtain ⟨p1, p2⟩ := cellsR_get (D ++ [x]) n x hx
  rw [Nat.mul_comm] at p1 p2
  exact ⟨ownsRow_cell h p1, ownsRow_cell h p2⟩

set_option maxRecDepth 100000 in
set_option maxHeartbeats 1000000 in
theorem add_far {base : Nat} {w : World} {g n c : Nat} {D : List (Int × Int)} {x r : Int × Int} (h : w.ownsRow base 33 2 (.slice (some ⟨g, 0, none⟩) (n + 1) c) (n + 1) (cellsR (D ++ [x]))) (hn : D.length = n) (hr : ¬ r.2 < r.1) (hbase : base ≤ w.heap.size) (hf : x.2 + 1 < r.1)
    (hlo : -9223372036854775808 ≤ x.2) (hm : r.1 ≤ 9223372036854775807) (hl : n + 2 ≤ 8796093022208) :
    Calls Try.prog 26 #[.slice (some ⟨g, 0, none⟩) (n + 1) c, .agg #[.int .i64 r.1, .int .i64 r.2]] w fun e w' => ∃ v', e = .returned v' ∧ RR base w' v' (D ++ [x] ++ [r]) ∧ moved (.slice (some ⟨g, 0, none⟩) (n + 1) c) v' w.heap.size ∧ Fr (blk (.slice (some ⟨g, 0, none⟩) (n + 1) c)) w w' := by
  obtain ⟨t0, hi, hz0, hz1, hz2⟩ := info_parts size_range
  have H : Hid (w.ownsRow base 33 2 (.slice (some ⟨g, 0, none⟩) (n + 1) c) (n + 1) (cellsR (D ++ [x]))) := h
  have HN : Hid (D.length = n) := hn
  have glt : g < w.heap.size := (ownsRow_at h rfl).2.1
  have hcell := (last_cell h hn).2
  clear h hn
  have e1 : IntKind.wrap .i64 ((n : Int) + 1 - 1) = (n : Int) := by rw [IntKind.wrap_i64]; omega
  have e2 : IntKind.wrap .i64 (x.2 + 1) = x.2 + 1 := by rw [IntKind.wrap_i64]; omega
  have hx := hcell
  generalize x.2 = y at *
  have i0 : ¬ (n : Int) < 0 := by omega
  have i1 : (0 : Int) ≤ (n : Int) := by omega
  have i2 : (n : Int) < (n : Int) + 1 := by omega
  have d0 : decide ((n : Int) < 0) = false := decide_eq_false i0
  have d1 : decide (y < r.1) = true := decide_eq_true (by omega)
  have d2 : decide (y + 1 < r.1) = true := decide_eq_true hf
  go_enter Try.func26, Try.ntmps26
  go_wp2
  refine wp_region_ext (by kernel_rfl) (by kernel_rfl) ?_
  repeat (go_big_quiet_step (first | exact rfl))
  refine wpQuiet_nil ?_
  intro w1 hw
  have B1 : Hid (Below w.heap.size w w1) := chain ((Below.refl _ _).alloc (Nat.le_refl _) _) (ext_of hw) (by simp)
  have hb1 := ext_of hw
  have m0 : w1.cell? ⟨w.heap.size, 0, none⟩ = some (.int .i64 r.1) := (hb1.cell (p := ⟨w.heap.size, 0, none⟩) (by simp)).trans (cell_row (alloc_new w _) (i := 0) rfl)
  have m1 : w1.cell? ⟨w.heap.size, 1, none⟩ = some (.int .i64 r.2) := (hb1.cell (p := ⟨w.heap.size, 1, none⟩) (by simp)).trans (cell_row (alloc_new w _) (i := 1) rfl)
  have hsz : w.heap.size ≤ w1.heap.size := B1.out.size
  have O1 : Hid (w1.ownsRow base 33 2 (.slice (some ⟨g, 0, none⟩) (n + 1) c) (n + 1) (cellsR (D ++ [x]))) := ownsRow_fr (S := fun _ => False) H.out (Fr.of_below B1.out) (fun _ _ q => q)
  clear hb1 hw
  go_wp2_with (at_builtin; refine wpList_append_own_at _ rfl _ _ 25 rfl base 33 t0 (.agg #[.int .i64 0, .int .i64 0]) 2 16 und_ranges hi hz0 hz1 hz2 rfl (by decide) (.slice (some ⟨g, 0, none⟩) (n + 1) c) (n + 1) (cellsR (D ++ [x])) rfl (World.ownsRow.alloc O1.out (.cells #[.int .i64 r.1, .int .i64 r.2] 33)) ⟨w1.heap.size, 0, none⟩ 1 1 [.int .i64 r.1, .int .i64 r.2] rfl rfl (news2 _ _ _ _) (by simp [Value.oneCell']) (by unfold maxLen; omega) (by omega) (by simp; omega) ?_; intro v' w6 hown' hgrow _ hblk; obtain ⟨g6, cap6, rfl⟩ := ownsRow_some hown' (Nat.succ_pos _); have A6 : Hid _ := appendedN (n := n + 1) (C := D ++ [x]) (r := r) (by have := HN.out; simp; omega) (B1.out.alloc B1.out.size _) hgrow hown' hblk; clear hown' hgrow hblk)
  go_ret
  exact ⟨_, rfl, A6.out.1, A6.out.2.1, A6.out.2.2⟩
end Go.Proofs.Ytfihhliiecdnaab
