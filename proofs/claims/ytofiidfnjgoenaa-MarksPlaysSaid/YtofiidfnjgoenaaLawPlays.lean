/-
  Every script on two sets.
-/
import Derived.Test.YtofiidfnjgoenaaStepAny
import Derived.Test.YtofiidfnjgoenaaLoops
namespace Go.Proofs.Ytofiidfnjgoenaa
open Go Go.RowKit Go.Shelf
attribute [local go_sem] ext_cell run_store_func

/-- The state at first. -/
def st0 (b0 o0 p0 r0 rb0 ab0 b1 o1 p1 r1 rb1 ab1 : Nat) : St :=
  { b := fun j => cond j b1 b0, o := fun j => cond j o1 o0, p := fun j => cond j p1 p0, room := fun j => cond j r1 r0, L := fun _ => [], R := fun _ => [], rb := fun j => cond j rb1 rb0, v := fun _ => .slice none 0 0, ab := fun j => cond j ab1 ab0, ov := .slice none 0 0, vs := [] }

set_option linter.unusedSimpArgs false in
set_option maxRecDepth 100000 in
set_option maxHeartbeats 8000000 in
theorem law_plays (one two : Int) (wf1 : (Lit.int .i64 one).wf = true) (wf2 : (Lit.int .i64 two).wf = true) (rs : List Sp) (v : Value) (w : World) (hz : ArgS w v rs) :
    Calls Try.prog 4 #[.int .i64 one, .int .i64 two, v] w fun e w' => e = .returned (.bool true) ∧ Below w.heap.size w w' := by
  obtain ⟨q, cap, rfl, hlen, hcell⟩ := hz.slice
  have HC : Hid (∀ (i : Nat) (x : Sp), rs[i]? = some x → ∃ g off, q = some ⟨g, off, none⟩ ∧ g < w.heap.size ∧ x.Ok ∧
    w.cell? ⟨g, off + i * 7, none⟩ = some (.int .i64 x.kind) ∧ w.cell? ⟨g, off + i * 7 + 1, none⟩ = some (.int .i64 x.on) ∧ w.cell? ⟨g, off + i * 7 + 2, none⟩ = some (.int .i64 x.n) ∧ w.cell? ⟨g, off + i * 7 + 3, none⟩ = some (.int .i64 x.lv) ∧ w.cell? ⟨g, off + i * 7 + 4, none⟩ = some (.int .i64 x.tn) ∧ w.cell? ⟨g, off + i * 7 + 5, none⟩ = some (.int .i64 x.ii) ∧ w.cell? ⟨g, off + i * 7 + 6, none⟩ = some (.int .i64 x.o6)) := hcell
  clear hcell hz
  unfold maxLen at hlen
  obtain ⟨r0, hr0, hp0⟩ := pick_room one
  obtain ⟨r1, hr1, hp1⟩ := pick_room two
  have HP0 : Hid (pk one 100001 = r0) := hp0
  have HP1 : Hid (pk two 100001 = r1) := hp1
  clear hp0 hp1
  go_enter Try.func4, Try.ntmps4
  go_wp2_with first | (go_at_call 9; refine (known_c _).mono ?_; rintro e w1 ⟨rfl, hb1⟩; have B1 : Hid (Below w.heap.size w w1) := hb1; clear hb1) | (go_at_call 14; (with_reducible refine (pick_i one 100001 (by decide) (by decide) wf1 _).mono ?_); rw [HP0.out]; rintro e w5 ⟨rfl, h5⟩; subst w5) | (go_at_call 14; (with_reducible refine (pick_i two 100001 (by decide) (by decide) wf2 _).mono ?_); rw [HP1.out]; rintro e w5 ⟨rfl, h5⟩; subst w5)
  have hlt1 : w1.heap.size < (w1.alloc (.cells #[.pointer none, .pointer none, .pointer none, .pointer none, .nilFunc, .nilFunc, .slice none 0 0] 39)).heap.size := lt_of_heap (World.alloc_heap_new w1 _)
  have HW : Hid (((w1.alloc (.cells #[.pointer none, .pointer none, .pointer none, .pointer none, .nilFunc, .nilFunc, .slice none 0 0] 39)).alloc (.cells #[.int .i64 (r0 : Int), .int .i64 (r1 : Int)] 3)).heap[w1.heap.size]? = some (.cells #[.pointer none, .pointer none, .pointer none, .pointer none, .nilFunc, .nilFunc, .slice none 0 0] 39 (0, 0))) := (((Below.refl _ (w1.alloc (.cells #[.pointer none, .pointer none, .pointer none, .pointer none, .nilFunc, .nilFunc, .slice none 0 0] 39))).alloc (Nat.le_refl _) _).block _ hlt1).trans (World.alloc_heap_new w1 _)
  have hHR : ((w1.alloc (.cells #[.pointer none, .pointer none, .pointer none, .pointer none, .nilFunc, .nilFunc, .slice none 0 0] 39)).alloc (.cells #[.int .i64 (r0 : Int), .int .i64 (r1 : Int)] 3)).heap[w1.heap.size + 1]? = some (.cells #[.int .i64 (r0 : Int), .int .i64 (r1 : Int)] 3 (0, 0)) := by
    have q := World.alloc_heap_new (w1.alloc (.cells #[.pointer none, .pointer none, .pointer none, .pointer none, .nilFunc, .nilFunc, .slice none 0 0] 39)) (.cells #[.int .i64 (r0 : Int), .int .i64 (r1 : Int)] 3)
    simpa using q
  have HR : Hid (((w1.alloc (.cells #[.pointer none, .pointer none, .pointer none, .pointer none, .nilFunc, .nilFunc, .slice none 0 0] 39)).alloc (.cells #[.int .i64 (r0 : Int), .int .i64 (r1 : Int)] 3)).heap[w1.heap.size + 1]? = some (.cells #[.int .i64 (r0 : Int), .int .i64 (r1 : Int)] 3 (0, 0))) := hHR
  clear hHR hlt1
  have HA : Hid (Below w.heap.size w ((w1.alloc (.cells #[.pointer none, .pointer none, .pointer none, .pointer none, .nilFunc, .nilFunc, .slice none 0 0] 39)).alloc (.cells #[.int .i64 (r0 : Int), .int .i64 (r1 : Int)] 3))) := (B1.out.alloc B1.out.size _).alloc (Nat.le_trans B1.out.size (by simp)) _
  have hb0 := B1.out.size
  clear B1
  generalize ((w1.alloc (.cells #[.pointer none, .pointer none, .pointer none, .pointer none, .nilFunc, .nilFunc, .slice none 0 0] 39)).alloc (.cells #[.int .i64 (r0 : Int), .int .i64 (r1 : Int)] 3)) = V0 at HW HR HA ⊢
  generalize w1.heap.size = wb at HW HR hb0 ⊢
  have lb := lt_of_heap HR.out
  refine wp_loop_unr 3 ?_
  refine unr_succ ?_
  have cR : V0.cell? ⟨wb + 1, 0, none⟩ = some (.int .i64 (r0 : Int)) := cell_row HR.out rfl
  go_wp2_with (go_at_call 10; (with_reducible refine (new_c r0 hr0 _).mono ?_); rintro e w5 ⟨b0, o0, p0, rfl, hm, hn, hb⟩; have HM : Hid (MAt w5 b0 o0 p0 r0 []) := hm; have HN : Hid (New3 V0.heap.size b0 o0 p0) := hn; have HB : Hid (Below V0.heap.size V0 w5) := hb; have HW5 : Hid (w5.heap[wb]? = some (.cells #[.pointer none, .pointer none, .pointer none, .pointer none, .nilFunc, .nilFunc, .slice none 0 0] 39 (0, 0))) := (hb.block wb (by omega)).trans HW.out; clear hm hn hb; have c5 : w5.cell? ⟨wb, 0, none⟩ = some (.pointer none) := cell_row HW5.out rfl; have f5 := frz_row HW5.out 0)
  have HW6 : Hid ((w5.setCell ⟨wb, 0, none⟩ (.pointer (some ⟨b0, 0, none⟩))).heap[wb]? = some (.cells ((#[.pointer none, .pointer none, .pointer none, .pointer none, .nilFunc, .nilFunc, .slice none 0 0] : Array Value).setIfInBounds 0 (.pointer (some ⟨b0, 0, none⟩))) 39 (0, 0))) := heap_set_in HW5.out _ _
  have FR6 : Hid (Fr (fun z => z = wb) V0 (w5.setCell ⟨wb, 0, none⟩ (.pointer (some ⟨b0, 0, none⟩)))) := Fr.setCell (S := fun z => z = wb) (p := ⟨wb, 0, none⟩) (Fr.of_below HB.out) rfl _
  have HM6 : Hid (MAt (w5.setCell ⟨wb, 0, none⟩ (.pointer (some ⟨b0, 0, none⟩))) b0 o0 p0 r0 []) := HM.out.fr (Fr.setCell (S := fun z => z = wb) (p := ⟨wb, 0, none⟩) (Fr.refl _ _) rfl _) (by have := HN.out.b; omega) (by have := HN.out.o; omega) (by have := HN.out.p; omega)
  have HR6 : Hid ((w5.setCell ⟨wb, 0, none⟩ (.pointer (some ⟨b0, 0, none⟩))).heap[wb + 1]? = some (.cells #[.int .i64 (r0 : Int), .int .i64 (r1 : Int)] 3 (0, 0))) := (FR6.out.block (wb + 1) (by omega) (by omega)).trans HR.out
  clear HM HB HW5 c5 f5 cR
  generalize (w5.setCell ⟨wb, 0, none⟩ (.pointer (some ⟨b0, 0, none⟩))) = V60 at HW6 FR6 HM6 HR6 ⊢
  have lb6 := lt_of_heap HR6.out
  have cR6 : V60.cell? ⟨wb + 1, 0, none⟩ = some (.int .i64 (r0 : Int)) := cell_row HR6.out rfl
  refine wp_region_held_drew (S := fun w' : World => w'.cell? ⟨wb + 1, 0, none⟩ = some (.int .i64 (r0 : Int))) (by kernel_rfl) ((((Below.refl V60.heap.size V60).drew).cell (p := ⟨wb + 1, 0, none⟩) lb6).trans cR6) (fun hHeld => ?_)
  refine wpAnyH_take (i := 0) (oi := _) (v := ?_) rfl (by kernel_rfl) (by kernel_rfl) (by kernel_rfl) (fun _ _ _ h => h) (Or.inl ⟨by rfl, ?_⟩) (by assumption) ?_
  rotate_left
  · intro wz hSw; go_simp; try with_reducible rfl
  simp only [Act.put, List.setIfInBounds_toArray, List.set_cons_zero, List.set_cons_succ]
  refine wpAnyH_take (i := 1) (oi := _) (v := ?_) rfl (by kernel_rfl) (by kernel_rfl) (by kernel_rfl) (fun _ _ _ h => h) (Or.inl ⟨by rfl, ?_⟩) (by assumption) ?_
  rotate_left
  · intro wz hSw; go_simp; try with_reducible rfl
  simp only [Act.put, List.setIfInBounds_toArray, List.set_cons_zero, List.set_cons_succ]
  refine wpAnyH_take (i := 2) (oi := _) (v := ?_) rfl (by kernel_rfl) (by kernel_rfl) (by kernel_rfl) (fun _ _ _ h => h) (Or.inl ⟨by rfl, ?_⟩) (by assumption) ?_
  rotate_left
  · intro wz hSw; go_simp; try with_reducible rfl
  simp only [Act.put, List.setIfInBounds_toArray, List.set_cons_zero, List.set_cons_succ]
  refine wpAnyH_take (i := 3) (oi := _) (v := ?_) rfl (by kernel_rfl) (by kernel_rfl) (by kernel_rfl) (fun _ _ _ h => h) (Or.inl ⟨by rfl, ?_⟩) (by assumption) ?_
  rotate_left
  · intro wz hSw; go_simp; try with_reducible rfl
  simp only [Act.put, List.setIfInBounds_toArray, List.set_cons_zero, List.set_cons_succ]
  refine wpAnyH_take (i := 4) (oi := _) (v := ?_) rfl (by kernel_rfl) (by kernel_rfl) (by kernel_rfl) (fun _ _ _ h => h) (Or.inl ⟨by rfl, ?_⟩) (by assumption) ?_
  rotate_left
  · intro wz hSw; go_simp; try with_reducible rfl
  simp only [Act.put, List.setIfInBounds_toArray, List.set_cons_zero, List.set_cons_succ]
  refine wpAnyH_take (i := 5) (oi := _) (v := ?_) rfl (by kernel_rfl) (by kernel_rfl) (by kernel_rfl) (fun _ _ _ h => h) (Or.inl ⟨by rfl, ?_⟩) (by assumption) ?_
  rotate_left
  · intro wz hSw; go_simp; try with_reducible rfl
  simp only [Act.put, List.setIfInBounds_toArray, List.set_cons_zero, List.set_cons_succ]
  refine wpAnyH_take (i := 6) (oi := _) (v := ?_) rfl (by kernel_rfl) (by kernel_rfl) (by kernel_rfl) (fun _ _ _ h => h) (Or.inl ⟨by rfl, ?_⟩) (by assumption) ?_
  rotate_left
  · intro wz hSw; go_simp; try with_reducible rfl
  simp only [Act.put, List.setIfInBounds_toArray, List.set_cons_zero, List.set_cons_succ]
  refine wpAnyH_take (i := 8) (oi := _) (v := ?_) rfl (by kernel_rfl) (by kernel_rfl) (by kernel_rfl) (fun _ _ _ h => h) (Or.inl ⟨by rfl, ?_⟩) (by assumption) ?_
  rotate_left
  · intro wz hSw; go_simp; try with_reducible rfl
  simp only [Act.put, List.setIfInBounds_toArray, List.set_cons_zero, List.set_cons_succ]
  refine wpAnyH_take (i := 9) (oi := _) (v := ?_) rfl (by kernel_rfl) (by kernel_rfl) (by kernel_rfl) (fun _ _ _ h => h) (Or.inl ⟨by rfl, ?_⟩) (by assumption) ?_
  rotate_left
  · intro wz hSw; go_simp; try with_reducible rfl
  simp only [Act.put, List.setIfInBounds_toArray, List.set_cons_zero, List.set_cons_succ]
  refine wpAnyH_ready (rs := [7]) (by kernel_rfl) (by simp) ?_
  refine AllReadyH.cons rfl (fun K hK => ?_) AllReadyH.nil
  go_simp
  have HBB : Hid (Below V60.heap.size V60 (V60.alloc (.cells #[.int .i64 (r0 : Int), .slice none 0 0] 43)).drew) := (show Below V60.heap.size V60 _ from ((Below.refl V60.heap.size V60).alloc (Nat.le_refl _) _).drew)
  have HNB : Hid ((V60.alloc (.cells #[.int .i64 (r0 : Int), .slice none 0 0] 43)).drew.heap[V60.heap.size]? = some (.cells #[.int .i64 (r0 : Int), .slice none 0 0] 43 (0, 0))) := World.alloc_heap_new V60 _
  refine hK.out _ _ ((HBB.out.cell (p := ⟨wb + 1, 0, none⟩) lb6).trans cR6) (fun hHeld2 => ?_)
  clear hK K hHeld
  generalize (V60.alloc (.cells #[.int .i64 (r0 : Int), .slice none 0 0] 43)).drew = W7 at HBB HNB hHeld2 ⊢
  have HW7 : Hid (W7.heap[wb]? = some (.cells ((#[.pointer none, .pointer none, .pointer none, .pointer none, .nilFunc, .nilFunc, .slice none 0 0] : Array Value).setIfInBounds 0 (.pointer (some ⟨b0, 0, none⟩))) 39 (0, 0))) := (HBB.out.block wb (by omega)).trans HW6.out
  refine wpAnyH_take (i := 10) (oi := _) (v := ?_) rfl (by kernel_rfl) (by kernel_rfl) (by kernel_rfl) (fun _ _ _ h => h) (Or.inl ⟨by rfl, ?_⟩) (by assumption) ?_
  rotate_left
  · intro wz hSw; go_simp; try with_reducible rfl
  simp only [Act.put, List.setIfInBounds_toArray, List.set_cons_zero, List.set_cons_succ]
  have c7 : W7.cell? ⟨wb, 2, none⟩ = some (.pointer none) := cell_row HW7.out rfl
  have f7 := frz_row HW7.out 2
  refine wpAnyH_ready (rs := [11]) (by kernel_rfl) (by simp) ?_
  refine AllReadyH.cons rfl (fun K hK => ?_) AllReadyH.nil
  go_simp
  have HW8 : Hid ((W7.setCell ⟨wb, 2, none⟩ (.pointer (some ⟨V60.heap.size, 0, none⟩))).heap[wb]? = some (.cells (((#[.pointer none, .pointer none, .pointer none, .pointer none, .nilFunc, .nilFunc, .slice none 0 0] : Array Value).setIfInBounds 0 (.pointer (some ⟨b0, 0, none⟩))).setIfInBounds 2 (.pointer (some ⟨V60.heap.size, 0, none⟩))) 39 (0, 0))) := heap_set_in HW7.out _ _
  have FR8 : Hid (Fr (fun z => z = wb) V60 (W7.setCell ⟨wb, 2, none⟩ (.pointer (some ⟨V60.heap.size, 0, none⟩)))) := Fr.setCell (S := fun z => z = wb) (p := ⟨wb, 2, none⟩) (Fr.of_below HBB.out) rfl _
  have HQ8 : Hid (RAt (W7.setCell ⟨wb, 2, none⟩ (.pointer (some ⟨V60.heap.size, 0, none⟩))) V60.heap.size r0 (.slice none 0 0) []) := (show RAt _ _ _ _ _ from ⟨((Fr.setCell (S := fun z => z = wb) (p := ⟨wb, 2, none⟩) (Fr.refl _ W7) rfl _).block V60.heap.size (lt_of_heap HNB.out) (by omega)).trans HNB.out, OwnI.nil _ _, hr0, Nat.zero_le _⟩)
  have HR8 : Hid ((W7.setCell ⟨wb, 2, none⟩ (.pointer (some ⟨V60.heap.size, 0, none⟩))).heap[wb + 1]? = some (.cells #[.int .i64 (r0 : Int), .int .i64 (r1 : Int)] 3 (0, 0))) := (FR8.out.block (wb + 1) lb6 (by omega)).trans HR6.out
  refine hK.out _ _ (cell_row HR8.out rfl) (fun hHeld3 => ?_)
  clear hK K
  refine wpAnyH_done (by kernel_rfl) ?_ _
  clear hHeld2 hHeld3 c7 f7 HW7 HNB HBB cR6
  generalize (W7.setCell ⟨wb, 2, none⟩ (.pointer (some ⟨V60.heap.size, 0, none⟩))) = V80 at HW8 FR8 HQ8 HR8 ⊢
  have HM8 : Hid (MAt V80 b0 o0 p0 r0 []) := HM6.out.fr FR8.out (by have := HN.out.b; omega) (by have := HN.out.o; omega) (by have := HN.out.p; omega)
  have lb8 := lt_of_heap HR8.out
  have s6 := FR6.out.size
  have s8 := FR8.out.size
  have q8 := HQ8.out.ltb
  have hT : True := trivial
  go_wp2
  refine wp_region_held_drew (S := fun _ : World => True) (by kernel_rfl) hT (fun hHeld => ?_)
  refine wpAnyH_take (i := 0) (oi := _) (v := ?_) rfl (by kernel_rfl) (by kernel_rfl) (by kernel_rfl) (fun _ _ _ h => h) (Or.inl ⟨by rfl, ?_⟩) (by assumption) ?_
  rotate_left
  · intro wz hSw; go_simp; try with_reducible rfl
  simp only [Act.put, List.setIfInBounds_toArray, List.set_cons_zero, List.set_cons_succ]
  refine wpAnyH_take (i := 1) (oi := _) (v := ?_) rfl (by kernel_rfl) (by kernel_rfl) (by kernel_rfl) (fun _ _ _ h => h) (Or.inl ⟨by rfl, ?_⟩) (by assumption) ?_
  rotate_left
  · intro wz hSw; go_simp; try with_reducible rfl
  simp only [Act.put, List.setIfInBounds_toArray, List.set_cons_zero, List.set_cons_succ]
  refine wpAnyH_take (i := 2) (oi := _) (v := ?_) rfl (by kernel_rfl) (by kernel_rfl) (by kernel_rfl) (fun _ _ _ h => h) (Or.inl ⟨by rfl, ?_⟩) (by assumption) ?_
  rotate_left
  · intro wz hSw; go_simp; try with_reducible rfl
  simp only [Act.put, List.setIfInBounds_toArray, List.set_cons_zero, List.set_cons_succ]
  refine wpAnyH_take (i := 4) (oi := _) (v := ?_) rfl (by kernel_rfl) (by kernel_rfl) (by kernel_rfl) (fun _ _ _ h => h) (Or.inl ⟨by rfl, ?_⟩) (by assumption) ?_
  rotate_left
  · intro wz hSw; go_simp; try with_reducible rfl
  simp only [Act.put, List.setIfInBounds_toArray, List.set_cons_zero, List.set_cons_succ]
  refine wpAnyH_take (i := 5) (oi := _) (v := ?_) rfl (by kernel_rfl) (by kernel_rfl) (by kernel_rfl) (fun _ _ _ h => h) (Or.inl ⟨by rfl, ?_⟩) (by assumption) ?_
  rotate_left
  · intro wz hSw; go_simp; try with_reducible rfl
  simp only [Act.put, List.setIfInBounds_toArray, List.set_cons_zero, List.set_cons_succ]
  refine wpAnyH_ready (rs := [3]) (by kernel_rfl) (by simp) ?_
  refine AllReadyH.cons rfl (fun K hK => ?_) AllReadyH.nil
  go_simp
  go_wp2_with (go_at_call 15; refine (all_c b0 _).mono ?_; rintro e w9 ⟨rfl, h9⟩; subst w9)
  have HBB : Hid (Below V80.heap.size V80 (V80.alloc (.cells #[.pointer (some ⟨b0, 0, none⟩)] 23)).drew) := (show Below V80.heap.size V80 _ from ((Below.refl V80.heap.size V80).alloc (Nat.le_refl _) _).drew)
  have HBA : Hid (Boxed (V80.alloc (.cells #[.pointer (some ⟨b0, 0, none⟩)] 23)).drew V80.heap.size 23 (.pointer (some ⟨b0, 0, none⟩))) := Boxed.new V80 _ _
  refine hK.out _ _ hT (fun hHeld2 => ?_)
  clear hK K
  generalize (V80.alloc (.cells #[.pointer (some ⟨b0, 0, none⟩)] 23)).drew = W9 at HBB HBA ⊢
  have HW9 : Hid (W9.heap[wb]? = some (.cells (((#[.pointer none, .pointer none, .pointer none, .pointer none, .nilFunc, .nilFunc, .slice none 0 0] : Array Value).setIfInBounds 0 (.pointer (some ⟨b0, 0, none⟩))).setIfInBounds 2 (.pointer (some ⟨V60.heap.size, 0, none⟩))) 39 (0, 0))) := (HBB.out.block wb (by omega)).trans HW8.out
  refine wpAnyH_take (i := 6) (oi := _) (v := ?_) rfl (by kernel_rfl) (by kernel_rfl) (by kernel_rfl) (fun _ _ _ h => h) (Or.inl ⟨by rfl, ?_⟩) (by assumption) ?_
  rotate_left
  · intro wz hSw; go_simp; try with_reducible rfl
  simp only [Act.put, List.setIfInBounds_toArray, List.set_cons_zero, List.set_cons_succ]
  have c9 : W9.cell? ⟨wb, 4, none⟩ = some .nilFunc := cell_row HW9.out rfl
  have f9 := frz_row HW9.out 4
  refine wpAnyH_ready (rs := [7]) (by kernel_rfl) (by simp) ?_
  refine AllReadyH.cons rfl (fun K hK => ?_) AllReadyH.nil
  go_simp
  have HWn : Hid ((W9.setCell ⟨wb, 4, none⟩ (.func (.func 26) #[] #[.pointer (some ⟨V80.heap.size, 0, none⟩)])).heap[wb]? = some (.cells ((((#[.pointer none, .pointer none, .pointer none, .pointer none, .nilFunc, .nilFunc, .slice none 0 0] : Array Value).setIfInBounds 0 (.pointer (some ⟨b0, 0, none⟩))).setIfInBounds 2 (.pointer (some ⟨V60.heap.size, 0, none⟩))).setIfInBounds 4 (.func (.func 26) #[] #[.pointer (some ⟨V80.heap.size, 0, none⟩)])) 39 (0, 0))) := heap_set_in HW9.out _ _
  have FRn : Hid (Fr (fun z => z = wb) V80 (W9.setCell ⟨wb, 4, none⟩ (.func (.func 26) #[] #[.pointer (some ⟨V80.heap.size, 0, none⟩)]))) := Fr.setCell (S := fun z => z = wb) (p := ⟨wb, 4, none⟩) (Fr.of_below HBB.out) rfl _
  have HX0 : Hid (Boxed (W9.setCell ⟨wb, 4, none⟩ (.func (.func 26) #[] #[.pointer (some ⟨V80.heap.size, 0, none⟩)])) V80.heap.size 23 (.pointer (some ⟨b0, 0, none⟩))) := boxed_fr HBA.out (Fr.setCell (S := fun z => z = wb) (p := ⟨wb, 4, none⟩) (Fr.refl _ _) rfl _) (by omega)
  refine hK.out _ _ hT (fun hHeld3 => ?_)
  clear hK K
  refine wpAnyH_done (by kernel_rfl) ?_ _
  clear hHeld hHeld2 hHeld3 c9 f9 HW9 HBA HBB hT
  generalize (W9.setCell ⟨wb, 4, none⟩ (.func (.func 26) #[] #[.pointer (some ⟨V80.heap.size, 0, none⟩)])) = V1 at HWn FRn HX0 ⊢
  have HM0 : Hid (MAt V1 b0 o0 p0 r0 []) := HM8.out.fr FRn.out (by have := HN.out.b; omega) (by have := HN.out.o; omega) (by have := HN.out.p; omega)
  have HQ0 : Hid (RAt V1 V60.heap.size r0 (.slice none 0 0) []) := HQ8.out.fr FRn.out (by omega) (fun g hg => by simp [Value.ownBlock] at hg)
  have HR : Hid (V1.heap[wb + 1]? = some (.cells #[.int .i64 (r0 : Int), .int .i64 (r1 : Int)] 3 (0, 0))) := (FRn.out.block (wb + 1) lb8 (by omega)).trans HR8.out
  have sn := FRn.out.size
  have HA : Hid (Below w.heap.size w V1) := HA.out.trans (((FR6.out.trans FR8.out).trans FRn.out).below (by omega) (by omega))
  have HW : Hid (V1.heap[wb]? = some (.cells ((((#[.pointer none, .pointer none, .pointer none, .pointer none, .nilFunc, .nilFunc, .slice none 0 0] : Array Value).setIfInBounds 0 (.pointer (some ⟨b0, 0, none⟩))).setIfInBounds 2 (.pointer (some ⟨V60.heap.size, 0, none⟩))).setIfInBounds 4 (.func (.func 26) #[] #[.pointer (some ⟨V80.heap.size, 0, none⟩)])) 39 (0, 0))) := HWn.out
  have HN0 : Hid (V0.heap.size ≤ b0 ∧ V0.heap.size ≤ o0 ∧ V0.heap.size ≤ p0 ∧ V0.heap.size ≤ V60.heap.size ∧ V0.heap.size ≤ V80.heap.size ∧ wb + 1 < V0.heap.size) := ⟨HN.out.b, HN.out.o, HN.out.p, s6, Nat.le_trans s6 s8, lb⟩
  clear HN HW6 FR6 HM6 HR6 HW8 FR8 HQ8 HR8 HM8 lb6 lb8 q8 HWn FRn lb
  have lb := lt_of_heap HR.out
  have HL0 : Hid (b0 < V1.heap.size ∧ o0 < V1.heap.size ∧ p0 < V1.heap.size ∧ V60.heap.size < V1.heap.size) := ⟨HM0.out.ltb, HM0.out.lto, HM0.out.ltp, HQ0.out.ltb⟩
  clear s6 s8 sn
  go_wp2
  refine unr_succ ?_
  have cR : V1.cell? ⟨wb + 1, 1, none⟩ = some (.int .i64 (r1 : Int)) := cell_row HR.out rfl
  go_wp2_with (go_at_call 10; (with_reducible refine (new_c r1 hr1 _).mono ?_); rintro e w5 ⟨b1, o1, p1, rfl, hm, hn, hb⟩; have HM : Hid (MAt w5 b1 o1 p1 r1 []) := hm; have HN : Hid (New3 V1.heap.size b1 o1 p1) := hn; have HB : Hid (Below V1.heap.size V1 w5) := hb; have HW5 : Hid (w5.heap[wb]? = some (.cells ((((#[.pointer none, .pointer none, .pointer none, .pointer none, .nilFunc, .nilFunc, .slice none 0 0] : Array Value).setIfInBounds 0 (.pointer (some ⟨b0, 0, none⟩))).setIfInBounds 2 (.pointer (some ⟨V60.heap.size, 0, none⟩))).setIfInBounds 4 (.func (.func 26) #[] #[.pointer (some ⟨V80.heap.size, 0, none⟩)])) 39 (0, 0))) := (hb.block wb (by omega)).trans HW.out; clear hm hn hb; have c5 : w5.cell? ⟨wb, 1, none⟩ = some (.pointer none) := cell_row HW5.out rfl; have f5 := frz_row HW5.out 1)
  have HW6 : Hid ((w5.setCell ⟨wb, 1, none⟩ (.pointer (some ⟨b1, 0, none⟩))).heap[wb]? = some (.cells ((((((#[.pointer none, .pointer none, .pointer none, .pointer none, .nilFunc, .nilFunc, .slice none 0 0] : Array Value).setIfInBounds 0 (.pointer (some ⟨b0, 0, none⟩))).setIfInBounds 2 (.pointer (some ⟨V60.heap.size, 0, none⟩))).setIfInBounds 4 (.func (.func 26) #[] #[.pointer (some ⟨V80.heap.size, 0, none⟩)])) : Array Value).setIfInBounds 1 (.pointer (some ⟨b1, 0, none⟩))) 39 (0, 0))) := heap_set_in HW5.out _ _
  have FR6 : Hid (Fr (fun z => z = wb) V1 (w5.setCell ⟨wb, 1, none⟩ (.pointer (some ⟨b1, 0, none⟩)))) := Fr.setCell (S := fun z => z = wb) (p := ⟨wb, 1, none⟩) (Fr.of_below HB.out) rfl _
  have HM6 : Hid (MAt (w5.setCell ⟨wb, 1, none⟩ (.pointer (some ⟨b1, 0, none⟩))) b1 o1 p1 r1 []) := HM.out.fr (Fr.setCell (S := fun z => z = wb) (p := ⟨wb, 1, none⟩) (Fr.refl _ _) rfl _) (by have := HN.out.b; omega) (by have := HN.out.o; omega) (by have := HN.out.p; omega)
  have HR6 : Hid ((w5.setCell ⟨wb, 1, none⟩ (.pointer (some ⟨b1, 0, none⟩))).heap[wb + 1]? = some (.cells #[.int .i64 (r0 : Int), .int .i64 (r1 : Int)] 3 (0, 0))) := (FR6.out.block (wb + 1) (by omega) (by omega)).trans HR.out
  clear HM HB HW5 c5 f5 cR
  generalize (w5.setCell ⟨wb, 1, none⟩ (.pointer (some ⟨b1, 0, none⟩))) = V61 at HW6 FR6 HM6 HR6 ⊢
  have HM0 : Hid (MAt V61 b0 o0 p0 r0 []) := HM0.out.fr FR6.out (by have := HN0.out; omega) (by have := HN0.out; omega) (by have := HN0.out; omega)
  have HQ0 : Hid (RAt V61 V60.heap.size r0 (.slice none 0 0) []) := HQ0.out.fr FR6.out (by have := HN0.out; omega) (fun g hg => by simp [Value.ownBlock] at hg)
  have HX0 : Hid (Boxed V61 V80.heap.size 23 (.pointer (some ⟨b0, 0, none⟩))) := boxed_fr HX0.out FR6.out (by have := HN0.out; omega)
  have lb6 := lt_of_heap HR6.out
  have cR6 : V61.cell? ⟨wb + 1, 1, none⟩ = some (.int .i64 (r1 : Int)) := cell_row HR6.out rfl
  refine wp_region_held_drew (S := fun w' : World => w'.cell? ⟨wb + 1, 1, none⟩ = some (.int .i64 (r1 : Int))) (by kernel_rfl) ((((Below.refl V61.heap.size V61).drew).cell (p := ⟨wb + 1, 1, none⟩) lb6).trans cR6) (fun hHeld => ?_)
  refine wpAnyH_take (i := 0) (oi := _) (v := ?_) rfl (by kernel_rfl) (by kernel_rfl) (by kernel_rfl) (fun _ _ _ h => h) (Or.inl ⟨by rfl, ?_⟩) (by assumption) ?_
  rotate_left
  · intro wz hSw; go_simp; try with_reducible rfl
  simp only [Act.put, List.setIfInBounds_toArray, List.set_cons_zero, List.set_cons_succ]
  refine wpAnyH_take (i := 1) (oi := _) (v := ?_) rfl (by kernel_rfl) (by kernel_rfl) (by kernel_rfl) (fun _ _ _ h => h) (Or.inl ⟨by rfl, ?_⟩) (by assumption) ?_
  rotate_left
  · intro wz hSw; go_simp; try with_reducible rfl
  simp only [Act.put, List.setIfInBounds_toArray, List.set_cons_zero, List.set_cons_succ]
  refine wpAnyH_take (i := 2) (oi := _) (v := ?_) rfl (by kernel_rfl) (by kernel_rfl) (by kernel_rfl) (fun _ _ _ h => h) (Or.inl ⟨by rfl, ?_⟩) (by assumption) ?_
  rotate_left
  · intro wz hSw; go_simp; try with_reducible rfl
  simp only [Act.put, List.setIfInBounds_toArray, List.set_cons_zero, List.set_cons_succ]
  refine wpAnyH_take (i := 3) (oi := _) (v := ?_) rfl (by kernel_rfl) (by kernel_rfl) (by kernel_rfl) (fun _ _ _ h => h) (Or.inl ⟨by rfl, ?_⟩) (by assumption) ?_
  rotate_left
  · intro wz hSw; go_simp; try with_reducible rfl
  simp only [Act.put, List.setIfInBounds_toArray, List.set_cons_zero, List.set_cons_succ]
  refine wpAnyH_take (i := 4) (oi := _) (v := ?_) rfl (by kernel_rfl) (by kernel_rfl) (by kernel_rfl) (fun _ _ _ h => h) (Or.inl ⟨by rfl, ?_⟩) (by assumption) ?_
  rotate_left
  · intro wz hSw; go_simp; try with_reducible rfl
  simp only [Act.put, List.setIfInBounds_toArray, List.set_cons_zero, List.set_cons_succ]
  refine wpAnyH_take (i := 5) (oi := _) (v := ?_) rfl (by kernel_rfl) (by kernel_rfl) (by kernel_rfl) (fun _ _ _ h => h) (Or.inl ⟨by rfl, ?_⟩) (by assumption) ?_
  rotate_left
  · intro wz hSw; go_simp; try with_reducible rfl
  simp only [Act.put, List.setIfInBounds_toArray, List.set_cons_zero, List.set_cons_succ]
  refine wpAnyH_take (i := 6) (oi := _) (v := ?_) rfl (by kernel_rfl) (by kernel_rfl) (by kernel_rfl) (fun _ _ _ h => h) (Or.inl ⟨by rfl, ?_⟩) (by assumption) ?_
  rotate_left
  · intro wz hSw; go_simp; try with_reducible rfl
  simp only [Act.put, List.setIfInBounds_toArray, List.set_cons_zero, List.set_cons_succ]
  refine wpAnyH_take (i := 8) (oi := _) (v := ?_) rfl (by kernel_rfl) (by kernel_rfl) (by kernel_rfl) (fun _ _ _ h => h) (Or.inl ⟨by rfl, ?_⟩) (by assumption) ?_
  rotate_left
  · intro wz hSw; go_simp; try with_reducible rfl
  simp only [Act.put, List.setIfInBounds_toArray, List.set_cons_zero, List.set_cons_succ]
  refine wpAnyH_take (i := 9) (oi := _) (v := ?_) rfl (by kernel_rfl) (by kernel_rfl) (by kernel_rfl) (fun _ _ _ h => h) (Or.inl ⟨by rfl, ?_⟩) (by assumption) ?_
  rotate_left
  · intro wz hSw; go_simp; try with_reducible rfl
  simp only [Act.put, List.setIfInBounds_toArray, List.set_cons_zero, List.set_cons_succ]
  refine wpAnyH_ready (rs := [7]) (by kernel_rfl) (by simp) ?_
  refine AllReadyH.cons rfl (fun K hK => ?_) AllReadyH.nil
  go_simp
  have HBB : Hid (Below V61.heap.size V61 (V61.alloc (.cells #[.int .i64 (r1 : Int), .slice none 0 0] 43)).drew) := (show Below V61.heap.size V61 _ from ((Below.refl V61.heap.size V61).alloc (Nat.le_refl _) _).drew)
  have HNB : Hid ((V61.alloc (.cells #[.int .i64 (r1 : Int), .slice none 0 0] 43)).drew.heap[V61.heap.size]? = some (.cells #[.int .i64 (r1 : Int), .slice none 0 0] 43 (0, 0))) := World.alloc_heap_new V61 _
  refine hK.out _ _ ((HBB.out.cell (p := ⟨wb + 1, 1, none⟩) lb6).trans cR6) (fun hHeld2 => ?_)
  clear hK K hHeld
  generalize (V61.alloc (.cells #[.int .i64 (r1 : Int), .slice none 0 0] 43)).drew = W7 at HBB HNB hHeld2 ⊢
  have HW7 : Hid (W7.heap[wb]? = some (.cells ((((((#[.pointer none, .pointer none, .pointer none, .pointer none, .nilFunc, .nilFunc, .slice none 0 0] : Array Value).setIfInBounds 0 (.pointer (some ⟨b0, 0, none⟩))).setIfInBounds 2 (.pointer (some ⟨V60.heap.size, 0, none⟩))).setIfInBounds 4 (.func (.func 26) #[] #[.pointer (some ⟨V80.heap.size, 0, none⟩)])) : Array Value).setIfInBounds 1 (.pointer (some ⟨b1, 0, none⟩))) 39 (0, 0))) := (HBB.out.block wb (by omega)).trans HW6.out
  refine wpAnyH_take (i := 10) (oi := _) (v := ?_) rfl (by kernel_rfl) (by kernel_rfl) (by kernel_rfl) (fun _ _ _ h => h) (Or.inl ⟨by rfl, ?_⟩) (by assumption) ?_
  rotate_left
  · intro wz hSw; go_simp; try with_reducible rfl
  simp only [Act.put, List.setIfInBounds_toArray, List.set_cons_zero, List.set_cons_succ]
  have c7 : W7.cell? ⟨wb, 3, none⟩ = some (.pointer none) := cell_row HW7.out rfl
  have f7 := frz_row HW7.out 3
  refine wpAnyH_ready (rs := [11]) (by kernel_rfl) (by simp) ?_
  refine AllReadyH.cons rfl (fun K hK => ?_) AllReadyH.nil
  go_simp
  have HW8 : Hid ((W7.setCell ⟨wb, 3, none⟩ (.pointer (some ⟨V61.heap.size, 0, none⟩))).heap[wb]? = some (.cells (((((((#[.pointer none, .pointer none, .pointer none, .pointer none, .nilFunc, .nilFunc, .slice none 0 0] : Array Value).setIfInBounds 0 (.pointer (some ⟨b0, 0, none⟩))).setIfInBounds 2 (.pointer (some ⟨V60.heap.size, 0, none⟩))).setIfInBounds 4 (.func (.func 26) #[] #[.pointer (some ⟨V80.heap.size, 0, none⟩)])) : Array Value).setIfInBounds 1 (.pointer (some ⟨b1, 0, none⟩))).setIfInBounds 3 (.pointer (some ⟨V61.heap.size, 0, none⟩))) 39 (0, 0))) := heap_set_in HW7.out _ _
  have FR8 : Hid (Fr (fun z => z = wb) V61 (W7.setCell ⟨wb, 3, none⟩ (.pointer (some ⟨V61.heap.size, 0, none⟩)))) := Fr.setCell (S := fun z => z = wb) (p := ⟨wb, 3, none⟩) (Fr.of_below HBB.out) rfl _
  have HQ8 : Hid (RAt (W7.setCell ⟨wb, 3, none⟩ (.pointer (some ⟨V61.heap.size, 0, none⟩))) V61.heap.size r1 (.slice none 0 0) []) := (show RAt _ _ _ _ _ from ⟨((Fr.setCell (S := fun z => z = wb) (p := ⟨wb, 3, none⟩) (Fr.refl _ W7) rfl _).block V61.heap.size (lt_of_heap HNB.out) (by omega)).trans HNB.out, OwnI.nil _ _, hr1, Nat.zero_le _⟩)
  have HR8 : Hid ((W7.setCell ⟨wb, 3, none⟩ (.pointer (some ⟨V61.heap.size, 0, none⟩))).heap[wb + 1]? = some (.cells #[.int .i64 (r0 : Int), .int .i64 (r1 : Int)] 3 (0, 0))) := (FR8.out.block (wb + 1) lb6 (by omega)).trans HR6.out
  refine hK.out _ _ (cell_row HR8.out rfl) (fun hHeld3 => ?_)
  clear hK K
  refine wpAnyH_done (by kernel_rfl) ?_ _
  clear hHeld2 hHeld3 c7 f7 HW7 HNB HBB cR6
  generalize (W7.setCell ⟨wb, 3, none⟩ (.pointer (some ⟨V61.heap.size, 0, none⟩))) = V81 at HW8 FR8 HQ8 HR8 ⊢
  have HM8 : Hid (MAt V81 b1 o1 p1 r1 []) := HM6.out.fr FR8.out (by have := HN.out.b; omega) (by have := HN.out.o; omega) (by have := HN.out.p; omega)
  have HM0 : Hid (MAt V81 b0 o0 p0 r0 []) := HM0.out.fr FR8.out (by have := HN0.out; omega) (by have := HN0.out; omega) (by have := HN0.out; omega)
  have HQ0 : Hid (RAt V81 V60.heap.size r0 (.slice none 0 0) []) := HQ0.out.fr FR8.out (by have := HN0.out; omega) (fun g hg => by simp [Value.ownBlock] at hg)
  have HX0 : Hid (Boxed V81 V80.heap.size 23 (.pointer (some ⟨b0, 0, none⟩))) := boxed_fr HX0.out FR8.out (by have := HN0.out; omega)
  have lb8 := lt_of_heap HR8.out
  have s6 := FR6.out.size
  have s8 := FR8.out.size
  have q8 := HQ8.out.ltb
  have hT : True := trivial
  go_wp2
  refine wp_region_held_drew (S := fun _ : World => True) (by kernel_rfl) hT (fun hHeld => ?_)
  refine wpAnyH_take (i := 0) (oi := _) (v := ?_) rfl (by kernel_rfl) (by kernel_rfl) (by kernel_rfl) (fun _ _ _ h => h) (Or.inl ⟨by rfl, ?_⟩) (by assumption) ?_
  rotate_left
  · intro wz hSw; go_simp; try with_reducible rfl
  simp only [Act.put, List.setIfInBounds_toArray, List.set_cons_zero, List.set_cons_succ]
  refine wpAnyH_take (i := 1) (oi := _) (v := ?_) rfl (by kernel_rfl) (by kernel_rfl) (by kernel_rfl) (fun _ _ _ h => h) (Or.inl ⟨by rfl, ?_⟩) (by assumption) ?_
  rotate_left
  · intro wz hSw; go_simp; try with_reducible rfl
  simp only [Act.put, List.setIfInBounds_toArray, List.set_cons_zero, List.set_cons_succ]
  refine wpAnyH_take (i := 2) (oi := _) (v := ?_) rfl (by kernel_rfl) (by kernel_rfl) (by kernel_rfl) (fun _ _ _ h => h) (Or.inl ⟨by rfl, ?_⟩) (by assumption) ?_
  rotate_left
  · intro wz hSw; go_simp; try with_reducible rfl
  simp only [Act.put, List.setIfInBounds_toArray, List.set_cons_zero, List.set_cons_succ]
  refine wpAnyH_take (i := 4) (oi := _) (v := ?_) rfl (by kernel_rfl) (by kernel_rfl) (by kernel_rfl) (fun _ _ _ h => h) (Or.inl ⟨by rfl, ?_⟩) (by assumption) ?_
  rotate_left
  · intro wz hSw; go_simp; try with_reducible rfl
  simp only [Act.put, List.setIfInBounds_toArray, List.set_cons_zero, List.set_cons_succ]
  refine wpAnyH_take (i := 5) (oi := _) (v := ?_) rfl (by kernel_rfl) (by kernel_rfl) (by kernel_rfl) (fun _ _ _ h => h) (Or.inl ⟨by rfl, ?_⟩) (by assumption) ?_
  rotate_left
  · intro wz hSw; go_simp; try with_reducible rfl
  simp only [Act.put, List.setIfInBounds_toArray, List.set_cons_zero, List.set_cons_succ]
  refine wpAnyH_ready (rs := [3]) (by kernel_rfl) (by simp) ?_
  refine AllReadyH.cons rfl (fun K hK => ?_) AllReadyH.nil
  go_simp
  go_wp2_with (go_at_call 15; refine (all_c b1 _).mono ?_; rintro e w9 ⟨rfl, h9⟩; subst w9)
  have HBB : Hid (Below V81.heap.size V81 (V81.alloc (.cells #[.pointer (some ⟨b1, 0, none⟩)] 23)).drew) := (show Below V81.heap.size V81 _ from ((Below.refl V81.heap.size V81).alloc (Nat.le_refl _) _).drew)
  have HBA : Hid (Boxed (V81.alloc (.cells #[.pointer (some ⟨b1, 0, none⟩)] 23)).drew V81.heap.size 23 (.pointer (some ⟨b1, 0, none⟩))) := Boxed.new V81 _ _
  refine hK.out _ _ hT (fun hHeld2 => ?_)
  clear hK K
  generalize (V81.alloc (.cells #[.pointer (some ⟨b1, 0, none⟩)] 23)).drew = W9 at HBB HBA ⊢
  have HW9 : Hid (W9.heap[wb]? = some (.cells (((((((#[.pointer none, .pointer none, .pointer none, .pointer none, .nilFunc, .nilFunc, .slice none 0 0] : Array Value).setIfInBounds 0 (.pointer (some ⟨b0, 0, none⟩))).setIfInBounds 2 (.pointer (some ⟨V60.heap.size, 0, none⟩))).setIfInBounds 4 (.func (.func 26) #[] #[.pointer (some ⟨V80.heap.size, 0, none⟩)])) : Array Value).setIfInBounds 1 (.pointer (some ⟨b1, 0, none⟩))).setIfInBounds 3 (.pointer (some ⟨V61.heap.size, 0, none⟩))) 39 (0, 0))) := (HBB.out.block wb (by omega)).trans HW8.out
  refine wpAnyH_take (i := 6) (oi := _) (v := ?_) rfl (by kernel_rfl) (by kernel_rfl) (by kernel_rfl) (fun _ _ _ h => h) (Or.inl ⟨by rfl, ?_⟩) (by assumption) ?_
  rotate_left
  · intro wz hSw; go_simp; try with_reducible rfl
  simp only [Act.put, List.setIfInBounds_toArray, List.set_cons_zero, List.set_cons_succ]
  have c9 : W9.cell? ⟨wb, 5, none⟩ = some .nilFunc := cell_row HW9.out rfl
  have f9 := frz_row HW9.out 5
  refine wpAnyH_ready (rs := [7]) (by kernel_rfl) (by simp) ?_
  refine AllReadyH.cons rfl (fun K hK => ?_) AllReadyH.nil
  go_simp
  have HWn : Hid ((W9.setCell ⟨wb, 5, none⟩ (.func (.func 26) #[] #[.pointer (some ⟨V81.heap.size, 0, none⟩)])).heap[wb]? = some (.cells ((((((((#[.pointer none, .pointer none, .pointer none, .pointer none, .nilFunc, .nilFunc, .slice none 0 0] : Array Value).setIfInBounds 0 (.pointer (some ⟨b0, 0, none⟩))).setIfInBounds 2 (.pointer (some ⟨V60.heap.size, 0, none⟩))).setIfInBounds 4 (.func (.func 26) #[] #[.pointer (some ⟨V80.heap.size, 0, none⟩)])) : Array Value).setIfInBounds 1 (.pointer (some ⟨b1, 0, none⟩))).setIfInBounds 3 (.pointer (some ⟨V61.heap.size, 0, none⟩))).setIfInBounds 5 (.func (.func 26) #[] #[.pointer (some ⟨V81.heap.size, 0, none⟩)])) 39 (0, 0))) := heap_set_in HW9.out _ _
  have FRn : Hid (Fr (fun z => z = wb) V81 (W9.setCell ⟨wb, 5, none⟩ (.func (.func 26) #[] #[.pointer (some ⟨V81.heap.size, 0, none⟩)]))) := Fr.setCell (S := fun z => z = wb) (p := ⟨wb, 5, none⟩) (Fr.of_below HBB.out) rfl _
  have HX1 : Hid (Boxed (W9.setCell ⟨wb, 5, none⟩ (.func (.func 26) #[] #[.pointer (some ⟨V81.heap.size, 0, none⟩)])) V81.heap.size 23 (.pointer (some ⟨b1, 0, none⟩))) := boxed_fr HBA.out (Fr.setCell (S := fun z => z = wb) (p := ⟨wb, 5, none⟩) (Fr.refl _ _) rfl _) (by omega)
  refine hK.out _ _ hT (fun hHeld3 => ?_)
  clear hK K
  refine wpAnyH_done (by kernel_rfl) ?_ _
  clear hHeld hHeld2 hHeld3 c9 f9 HW9 HBA HBB hT
  generalize (W9.setCell ⟨wb, 5, none⟩ (.func (.func 26) #[] #[.pointer (some ⟨V81.heap.size, 0, none⟩)])) = V2 at HWn FRn HX1 ⊢
  have HM1 : Hid (MAt V2 b1 o1 p1 r1 []) := HM8.out.fr FRn.out (by have := HN.out.b; omega) (by have := HN.out.o; omega) (by have := HN.out.p; omega)
  have HQ1 : Hid (RAt V2 V61.heap.size r1 (.slice none 0 0) []) := HQ8.out.fr FRn.out (by omega) (fun g hg => by simp [Value.ownBlock] at hg)
  have HM0 : Hid (MAt V2 b0 o0 p0 r0 []) := HM0.out.fr FRn.out (by have := HN0.out; omega) (by have := HN0.out; omega) (by have := HN0.out; omega)
  have HQ0 : Hid (RAt V2 V60.heap.size r0 (.slice none 0 0) []) := HQ0.out.fr FRn.out (by have := HN0.out; omega) (fun g hg => by simp [Value.ownBlock] at hg)
  have HX0 : Hid (Boxed V2 V80.heap.size 23 (.pointer (some ⟨b0, 0, none⟩))) := boxed_fr HX0.out FRn.out (by have := HN0.out; omega)
  have HR : Hid (V2.heap[wb + 1]? = some (.cells #[.int .i64 (r0 : Int), .int .i64 (r1 : Int)] 3 (0, 0))) := (FRn.out.block (wb + 1) lb8 (by omega)).trans HR8.out
  have sn := FRn.out.size
  have HA : Hid (Below w.heap.size w V2) := HA.out.trans (((FR6.out.trans FR8.out).trans FRn.out).below (by omega) (by omega))
  have HW : Hid (V2.heap[wb]? = some (.cells ((((((((#[.pointer none, .pointer none, .pointer none, .pointer none, .nilFunc, .nilFunc, .slice none 0 0] : Array Value).setIfInBounds 0 (.pointer (some ⟨b0, 0, none⟩))).setIfInBounds 2 (.pointer (some ⟨V60.heap.size, 0, none⟩))).setIfInBounds 4 (.func (.func 26) #[] #[.pointer (some ⟨V80.heap.size, 0, none⟩)])) : Array Value).setIfInBounds 1 (.pointer (some ⟨b1, 0, none⟩))).setIfInBounds 3 (.pointer (some ⟨V61.heap.size, 0, none⟩))).setIfInBounds 5 (.func (.func 26) #[] #[.pointer (some ⟨V81.heap.size, 0, none⟩)])) 39 (0, 0))) := HWn.out
  have HN1 : Hid (V1.heap.size ≤ b1 ∧ V1.heap.size ≤ o1 ∧ V1.heap.size ≤ p1 ∧ V1.heap.size ≤ V61.heap.size ∧ V1.heap.size ≤ V81.heap.size ∧ wb + 1 < V1.heap.size) := ⟨HN.out.b, HN.out.o, HN.out.p, s6, Nat.le_trans s6 s8, lb⟩
  clear HN HW6 FR6 HM6 HR6 HW8 FR8 HQ8 HR8 HM8 lb6 lb8 q8 HWn FRn lb
  have lb := lt_of_heap HR.out
  clear s6 s8 sn
  go_wp2
  refine unr_succ ?_
  have HS0 : Hid (WS V2 wb (st0 b0 o0 p0 r0 V60.heap.size V80.heap.size b1 o1 p1 r1 V61.heap.size V81.heap.size)) := (show WS _ _ _ from by
    have n0 := HN0.out
    have n1 := HN1.out
    have l0 := HL0.out
    refine ⟨HW.out, fun j => ?_, fun j => ?_, fun j => ?_, ⟨World.ownsRow_nil _ _ _ _, fun i u hu => by simp [st0] at hu⟩, ⟨?_, ?_, ?_, ?_, fun k j => by simp [st0, Value.ownBlock], fun g hg => by simp [st0, Value.ownBlock] at hg, fun u hu => by simp [st0] at hu, fun u hu => by simp [st0] at hu, fun i j u u' hu => by simp [st0] at hu⟩, ?_, ?_⟩
    · cases j
      · exact HM0.out
      · exact HM1.out
    · cases j
      · exact HQ0.out
      · exact HQ1.out
    · cases j
      · exact HX0.out
      · exact HX1.out
    · show o0 ≠ o1; omega
    · show o0 ≠ p1; omega
    · show p0 ≠ o1; omega
    · show p0 ≠ p1; omega
    · show b0 ≠ b1; omega
    · show V60.heap.size ≠ V61.heap.size; omega)
  have HF0 : Hid (∀ z, (st0 b0 o0 p0 r0 V60.heap.size V80.heap.size b1 o1 p1 r1 V61.heap.size V81.heap.size).foot wb z → w.heap.size ≤ z) := (show ∀ z, _ → _ from fun z hz => by
    have n0 := HN0.out
    have n1 := HN1.out
    have l0 := HL0.out
    rcases hz with hz | ⟨k, hz⟩ | ⟨k, hz⟩ | ⟨k, hz⟩ | hz
    · omega
    · cases k <;> simp only [own3, st0, cond_true, cond_false] at hz <;> omega
    · cases k <;> simp only [st0, cond_true, cond_false] at hz <;> omega
    · simp [st0, Value.ownBlock] at hz
    · simp [st0, Value.ownBlock] at hz)
  have HE0 : Hid ((st0 b0 o0 p0 r0 V60.heap.size V80.heap.size b1 o1 p1 r1 V61.heap.size V81.heap.size).R = (st0 b0 o0 p0 r0 V60.heap.size V80.heap.size b1 o1 p1 r1 V61.heap.size V81.heap.size).L) := (show _ = _ from rfl)
  have HV0 : Hid ((st0 b0 o0 p0 r0 V60.heap.size V80.heap.size b1 o1 p1 r1 V61.heap.size V81.heap.size).vs.length ≤ 0) := (show _ ≤ _ from Nat.le_refl _)
  generalize st0 b0 o0 p0 r0 V60.heap.size V80.heap.size b1 o1 p1 r1 V61.heap.size V81.heap.size = s0 at HS0 HF0 HE0 HV0
  clear HM0 HM1 HQ0 HQ1 HX0 HX1 HN0 HN1 HL0 HW HR lb
  go_wp2
  go_loopw [13] (fun i wr => ∃ (k : Nat) (s : St), k ≤ rs.length ∧ k ≤ 200 ∧ i = .int .i64 k ∧ WS wr wb s ∧ s.R = s.L ∧ (∀ z, s.foot wb z → w.heap.size ≤ z) ∧ s.vs.length ≤ 2 * k ∧ Below w.heap.size w wr) (fun i _ => rs.length - (intOf i).toNat)
  case atStart => exact ⟨0, s0, Nat.zero_le _, Nat.zero_le _, rfl, HS0.out, HE0.out, HF0.out, HV0.out, HA.out⟩
  case round =>
    obtain ⟨k, s, hk, hk2, rfl, hws, heq, hfs, hvs, hb⟩ := hrel
    have HS : Hid (WS wr wb s) := hws
    have HE : Hid (s.R = s.L) := heq
    have HF : Hid (∀ z, s.foot wb z → w.heap.size ≤ z) := hfs
    have HV : Hid (s.vs.length ≤ 2 * k) := hvs
    have HB : Hid (Below w.heap.size w wr) := hb
    clear hws heq hfs hvs hb HS0 HE0 HF0 HV0 HA
    by_cases hlt : k < rs.length
    · by_cases h2 : k < 200
      · obtain ⟨g, off, rfl, hg, hok, x0, x1, x2, x3, x4, x5, x6⟩ := HC.out k _ (List.getElem?_eq_getElem hlt)
        have y0 := (HB.out.cell (p := ⟨g, off + k * 7, none⟩) hg).trans x0
        have y1 := (HB.out.cell (p := ⟨g, off + k * 7 + 1, none⟩) hg).trans x1
        have y2 := (HB.out.cell (p := ⟨g, off + k * 7 + 2, none⟩) hg).trans x2
        have y3 := (HB.out.cell (p := ⟨g, off + k * 7 + 3, none⟩) hg).trans x3
        have y4 := (HB.out.cell (p := ⟨g, off + k * 7 + 4, none⟩) hg).trans x4
        have y5 := (HB.out.cell (p := ⟨g, off + k * 7 + 5, none⟩) hg).trans x5
        have y6 := (HB.out.cell (p := ⟨g, off + k * 7 + 6, none⟩) hg).trans x6
        have HO : Hid (rs[k].Ok) := hok
        clear x0 x1 x2 x3 x4 x5 x6 hok
        generalize rs[k] = x at HO y0 y1 y2 y3 y4 y5 y6
        have i0 : (0 : Int) ≤ (k : Int) := by omega
        have i1 : (k : Int) < (rs.length : Int) := by omega
        have i2 : (k : Int) < 200 := by omega
        go_wp2_with first | (go_at_call 16; refine (step_c HS.out HE.out (by have := HV.out; omega) HB.out.size HF.out x HO.out).mono ?_; rintro e w5 ⟨rfl, s5, hws5, heq5, hfs5, hvs5, hb5⟩; have HS5 : Hid (WS w5 wb s5) := hws5; have HE5 : Hid (s5.R = s5.L) := heq5; have HF5 : Hid (∀ z, s5.foot wb z → w.heap.size ≤ z) := hfs5; have HV5 : Hid (s5.vs.length ≤ 2 * (k + 1)) := (show _ ≤ _ from by have := HV.out; omega); have HB5 : Hid (Below w.heap.size w w5) := HB.out.trans hb5; clear hws5 heq5 hfs5 hvs5 hb5) | (go_at_call 17; refine (kept_c HS5.out.hb HS5.out.out (by have := HV5.out; omega)).mono ?_; rintro e w6 ⟨rfl, h6⟩; subst w6)
        go_roundw
        case rel => exact ⟨k + 1, s5, by omega, by omega, by go_num, HS5.out, HE5.out, HF5.out, HV5.out, HB5.out⟩
        case measure => simp [intOf]; omega
      · obtain rfl : k = 200 := by omega
        have i1 : (200 : Int) < (rs.length : Int) := by omega
        go_wp2
        go_ret
        exact ⟨rfl, HB.out⟩
    · have i1 : ¬ ((k : Int) < (rs.length : Int)) := by omega
      go_wp2
      go_ret
      exact ⟨rfl, HB.out⟩
end Go.Proofs.Ytofiidfnjgoenaa
