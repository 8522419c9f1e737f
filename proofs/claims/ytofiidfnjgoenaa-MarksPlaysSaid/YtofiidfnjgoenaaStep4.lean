/-
  A step of the script: the other set becomes a copy.
-/
import Derived.Test.YtofiidfnjgoenaaCopied
namespace Go.Proofs.Ytofiidfnjgoenaa
open Go Go.RowKit Go.Shelf
attribute [local go_sem] ext_cell

theorem run_store_func (P : Program) (w : World) (a : Addr) (m : Mode) (f : Fn) (ts cs : Array Value) : (store a (.func f ts cs) m).run P w = stored P w a (.func f ts cs) m := run_store P w a _ m rfl
attribute [local go_sem] run_store_func
theorem one_sub (k : Bool) : IntKind.i64.wrap (1 - (kN k : Int)) = (kN (!k) : Int) := by cases k <;> rfl
/-- What lies in the script's world. -/
def St.row (s : St) : Array Value := #[s.mv false, s.mv true, s.rv false, s.rv true, s.av false, s.av true, s.ov]
theorem row_cp (s : St) (k : Bool) (b' o' p' rb' : Nat) (v' : Value) (ab' : Nat) : ((s.row.setIfInBounds (kN (!k)) (.pointer (some ⟨b', 0, none⟩))).setIfInBounds (2 + kN (!k)) (.pointer (some ⟨rb', 0, none⟩))).setIfInBounds (4 + kN (!k)) (.func (.func 26) #[] #[.pointer (some ⟨ab', 0, none⟩)])
    = #[(s.cp k b' o' p' rb' v' ab').mv false, (s.cp k b' o' p' rb' v' ab').mv true, (s.cp k b' o' p' rb' v' ab').rv false, (s.cp k b' o' p' rb' v' ab').rv true, (s.cp k b' o' p' rb' v' ab').av false, (s.cp k b' o' p' rb' v' ab').av true, s.ov] := by cases k <;> rfl
theorem cell_row {W : World} {wb : Nat} {c : Array Value} {t : TypeId} (h : W.heap[wb]? = some (.cells c t (0, 0))) {i : Nat} {v : Value} (hi : c[i]? = some v) : W.cell? ⟨wb, i, none⟩ = some v := by simp [World.cell?, h, hi]
theorem frz_row {W : World} {wb : Nat} {c : Array Value} {t : TypeId} (h : W.heap[wb]? = some (.cells c t (0, 0))) (i : Nat) : W.frozen? ⟨wb, i, none⟩ = false := by simp [World.frozen?, h]

set_option linter.unusedSimpArgs false in
set_option maxRecDepth 100000 in
set_option maxHeartbeats 4000000 in
theorem step_copy {w : World} {wb base : Nat} {s : St} (h : WS w wb s) (heq : s.R = s.L) (hbs : base ≤ w.heap.size) (hfs : ∀ z, s.foot wb z → base ≤ z) (on n lv tn ii o6 : Int) (wo : (Lit.int .i64 on).wf = true) :
    Calls Try.prog 16 #[.pointer (some ⟨wb, 0, none⟩), .agg #[.int .i64 9, .int .i64 on, .int .i64 n, .int .i64 lv, .int .i64 tn, .int .i64 ii, .int .i64 o6]] w (Goes base w wb s) := by
  obtain ⟨k, hk⟩ := pick_two on
  have HEQ : Hid (s.R = s.L) := heq
  have HBS : Hid (base ≤ w.heap.size) := hbs
  have HFS : Hid (∀ z, s.foot wb z → base ≤ z) := hfs
  have HP : Hid (pk on 2 = (kN k : Int)) := hk
  have hA : Below w.heap.size w (w.alloc (.cells #[.int .i64 9, .int .i64 on, .int .i64 n, .int .i64 lv, .int .i64 tn, .int .i64 ii, .int .i64 o6] 47)) := (Below.refl _ _).alloc (Nat.le_refl _) _
  have HA : Hid (Below w.heap.size w (w.alloc (.cells #[.int .i64 9, .int .i64 on, .int .i64 n, .int .i64 lv, .int .i64 tn, .int .i64 ii, .int .i64 o6] 47))) := hA
  have H : Hid (WS (w.alloc (.cells #[.int .i64 9, .int .i64 on, .int .i64 n, .int .i64 lv, .int .i64 tn, .int .i64 ii, .int .i64 o6] 47)) wb s) := h.kept hA
  have kl := kN_lt k
  have kl' := kN_lt (!k)
  have i0 : (0 : Int) ≤ (kN k : Int) := by omega
  have i1 : (kN k : Int) < 2 := by omega
  have j0 : (0 : Int) ≤ (kN (!k) : Int) := by omega
  have j1 : (kN (!k) : Int) < 2 := by omega
  have hsub := one_sub k
  have cm := H.out.cm k
  have lb := lt_of_heap H.out.hb
  clear h heq hk hA hbs hfs
  go_enter Try.func16, Try.ntmps16
  go_wp2_with (go_at_call 14; (with_reducible refine (pick_i on 2 (by decide) (by decide) wo _).mono ?_); rw [HP.out]; rintro e w5 ⟨rfl, h5⟩; subst w5)
  generalize (w.alloc (.cells #[.int .i64 9, .int .i64 on, .int .i64 n, .int .i64 lv, .int .i64 tn, .int .i64 ii, .int .i64 o6] 47)) = V at HA H cm lb ⊢
  go_wp2_with (go_at_call 23; refine (copy_c (H.out.m k)).mono ?_; rintro e w5 ⟨b', o', p', rfl, hm5, hn5, hb5⟩; have HM5 : Hid (MAt w5 b' o' p' (s.room k) (s.L k)) := hm5; have HN5 : Hid (New3 V.heap.size b' o' p') := hn5; have HB5 : Hid (Below V.heap.size V w5) := hb5; have HW5 : Hid (w5.heap[wb]? = some (.cells s.row 39 (0, 0))) := (hb5.block wb lb).trans H.out.hb; clear hm5 hn5 hb5; have c5 : w5.cell? ⟨wb, kN (!k), none⟩ = some (.pointer (some ⟨s.b (!k), 0, none⟩)) := cell_row HW5.out (by cases k <;> rfl); have f5 := frz_row HW5.out (kN (!k)))
  have HW6 : Hid ((w5.setCell ⟨wb, kN (!k), none⟩ (.pointer (some ⟨b', 0, none⟩))).heap[wb]? = some (.cells (s.row.setIfInBounds (kN (!k)) (.pointer (some ⟨b', 0, none⟩))) 39 (0, 0))) := heap_set_in HW5.out _ _
  have FR6 : Hid (Fr (fun z => z = wb) V (w5.setCell ⟨wb, kN (!k), none⟩ (.pointer (some ⟨b', 0, none⟩)))) := Fr.setCell (S := fun z => z = wb) (p := ⟨wb, kN (!k), none⟩) (Fr.of_below HB5.out) rfl _
  have HM6 : Hid (MAt (w5.setCell ⟨wb, kN (!k), none⟩ (.pointer (some ⟨b', 0, none⟩))) b' o' p' (s.room k) (s.L k)) := HM5.out.fr (Fr.setCell (S := fun z => z = wb) (p := ⟨wb, kN (!k), none⟩) (Fr.refl _ _) rfl _) (fun e => by have := HN5.out.b; omega) (fun e => by have := HN5.out.o; omega) (fun e => by have := HN5.out.p; omega)
  clear HM5 HB5 HW5 c5 f5
  generalize (w5.setCell ⟨wb, kN (!k), none⟩ (.pointer (some ⟨b', 0, none⟩))) = V6 at HW6 FR6 HM6 ⊢
  have HR6 : Hid (RAt V6 (s.rb k) (s.room k) (s.v k) (s.R k)) := (H.out.r k).fr FR6.out (ne_type (H.out.r k).hb H.out.hb (by decide)) (fun g hg => by obtain ⟨c, hc⟩ := (H.out.r k).ho.heap hg; exact ne_type hc H.out.hb (by decide))
  have cr6 : V6.cell? ⟨wb, 2 + kN k, none⟩ = some (.pointer (some ⟨s.rb k, 0, none⟩)) := cell_row HW6.out (by cases k <;> rfl)
  have lb6 := lt_of_heap HW6.out
  have HS : Hid (∀ w', Below V6.heap.size V6 w' → w'.cell? ⟨wb, 2 + kN k, none⟩ = some (.pointer (some ⟨s.rb k, 0, none⟩))) := fun w' hb => (hb.cell (p := ⟨wb, 2 + kN k, none⟩) lb6).trans cr6
  refine wp_region_held_drew (S := fun w' : World => w'.cell? ⟨wb, 2 + kN k, none⟩ = some (.pointer (some ⟨s.rb k, 0, none⟩))) (by kernel_rfl) (HS.out _ (Below.refl _ _).drew) (fun hHeld => ?_)
  refine wpAnyH_take (i := 0) (oi := _) (v := ?_) rfl (by kernel_rfl) (by kernel_rfl) (by kernel_rfl) (fun _ _ _ h => h) (Or.inl ⟨by rfl, ?_⟩) (by assumption) ?_
  rotate_left
  · intro wz hSw; go_simp; try with_reducible rfl
  simp only [Act.put, List.setIfInBounds_toArray, List.set_cons_zero, List.set_cons_succ]
  refine wpAnyH_take (i := 1) (oi := _) (v := ?_) rfl (by kernel_rfl) (by kernel_rfl) (by kernel_rfl) (fun _ _ _ h => h) (Or.inl ⟨by rfl, ?_⟩) (by assumption) ?_
  rotate_left
  · intro wz hSw; go_simp; try with_reducible rfl
  simp only [Act.put, List.setIfInBounds_toArray, List.set_cons_zero, List.set_cons_succ]
  refine wpAnyH_take (i := 2) (oi := _) (v := ?_) rfl (by kernel_rfl) (by kernel_rfl) (by kernel_rfl) (fun _ _ _ h => h) (Or.inl ⟨by rfl, ?_⟩) (by assumption) ?_
  rotate_left
  · intro wz hSw; go_simp; try with_reducible rfl
  simp only [Act.put, List.setIfInBounds_toArray, List.set_cons_zero, List.set_cons_succ]
  refine wpAnyH_take (i := 3) (oi := _) (v := ?_) rfl (by kernel_rfl) (by kernel_rfl) (by kernel_rfl) (fun _ _ _ h => h) (Or.inl ⟨by rfl, ?_⟩) (by assumption) ?_
  rotate_left
  · intro wz hSw; go_simp; try with_reducible rfl
  simp only [Act.put, List.setIfInBounds_toArray, List.set_cons_zero, List.set_cons_succ]
  refine wpAnyH_take (i := 4) (oi := _) (v := ?_) rfl (by kernel_rfl) (by kernel_rfl) (by kernel_rfl) (fun _ _ _ h => h) (Or.inl ⟨by rfl, ?_⟩) (by assumption) ?_
  rotate_left
  · intro wz hSw; go_simp; try with_reducible rfl
  simp only [Act.put, List.setIfInBounds_toArray, List.set_cons_zero, List.set_cons_succ]
  refine wpAnyH_take (i := 5) (oi := _) (v := ?_) rfl (by kernel_rfl) (by kernel_rfl) (by kernel_rfl) (fun _ _ _ h => h) (Or.inl ⟨by rfl, ?_⟩) (by assumption) ?_
  rotate_left
  · intro wz hSw; go_simp; try with_reducible rfl
  simp only [Act.put, List.setIfInBounds_toArray, List.set_cons_zero, List.set_cons_succ]
  refine wpAnyH_take (i := 6) (oi := _) (v := ?_) rfl (by kernel_rfl) (by kernel_rfl) (by kernel_rfl) (fun _ _ _ h => h) (Or.inl ⟨by rfl, ?_⟩) (by assumption) ?_
  rotate_left
  · intro wz hSw; go_simp; try with_reducible rfl
  simp only [Act.put, List.setIfInBounds_toArray, List.set_cons_zero, List.set_cons_succ]
  refine wpAnyH_take (i := 7) (oi := _) (v := ?_) rfl (by kernel_rfl) (by kernel_rfl) (by kernel_rfl) (fun _ _ _ h => h) (Or.inl ⟨by rfl, ?_⟩) (by assumption) ?_
  rotate_left
  · intro wz hSw; go_simp; try with_reducible rfl
  simp only [Act.put, List.setIfInBounds_toArray, List.set_cons_zero, List.set_cons_succ]
  refine wpAnyH_take (i := 8) (oi := _) (v := ?_) rfl (by kernel_rfl) (by kernel_rfl) (by kernel_rfl) (fun _ _ _ h => h) (Or.inl ⟨by rfl, ?_⟩) (by assumption) ?_
  rotate_left
  · intro wz hSw; go_simp; try with_reducible rfl
  simp only [Act.put, List.setIfInBounds_toArray, List.set_cons_zero, List.set_cons_succ]
  refine wpAnyH_take (i := 10) (oi := _) (v := ?_) rfl (by kernel_rfl) (by kernel_rfl) (by kernel_rfl) (fun _ _ _ h => h) (Or.inl ⟨by rfl, ?_⟩) (by assumption) ?_
  rotate_left
  · intro wz hSw; go_simp; try with_reducible rfl
  simp only [Act.put, List.setIfInBounds_toArray, List.set_cons_zero, List.set_cons_succ]
  refine wpAnyH_take (i := 11) (oi := _) (v := ?_) rfl (by kernel_rfl) (by kernel_rfl) (by kernel_rfl) (fun _ _ _ h => h) (Or.inl ⟨by rfl, ?_⟩) (by assumption) ?_
  rotate_left
  · intro wz hSw; go_simp; try with_reducible rfl
  simp only [Act.put, List.setIfInBounds_toArray, List.set_cons_zero, List.set_cons_succ]
  refine wpAnyH_ready (rs := [9]) (by kernel_rfl) (by simp) ?_
  refine AllReadyH.cons rfl (fun K hK => ?_) AllReadyH.nil
  go_simp
  go_wp2_with (go_at_call 30; refine (rcopy_c (HR6.out.kept (Below.refl _ _).drew)).mono ?_; rintro e w7 ⟨rb', v', rfl, hr7, hn7, hv7, hb7⟩)
  have HB7 : Hid (Below V6.heap.size V6 w7) := (show Below V6.heap.size V6 w7 from (Below.refl _ V6).drew.trans hb7)
  have HR7 : Hid (RAt w7 rb' (s.room k) v' (s.R k)) := hr7
  have HN7 : Hid (V6.heap.size ≤ rb' ∧ ∀ g, v'.ownBlock = some g → V6.heap.size ≤ g) := ⟨hn7, hv7⟩
  clear hr7 hn7 hv7 hb7
  have HW7 : Hid (w7.heap[wb]? = some (.cells (s.row.setIfInBounds (kN (!k)) (.pointer (some ⟨b', 0, none⟩))) 39 (0, 0))) := (HB7.out.block wb lb6).trans HW6.out
  have hS7 : w7.cell? ⟨wb, 2 + kN k, none⟩ = some (.pointer (some ⟨s.rb k, 0, none⟩)) := HS.out _ HB7.out
  refine hK.out _ _ hS7 (fun hHeld2 => ?_)
  clear hK K
  have c7 : w7.cell? ⟨wb, 2 + kN (!k), none⟩ = some (.pointer (some ⟨s.rb (!k), 0, none⟩)) := cell_row HW7.out (by cases k <;> rfl)
  have f7 := frz_row HW7.out (2 + kN (!k))
  refine wpAnyH_take (i := 12) (oi := _) (v := ?_) rfl (by kernel_rfl) (by kernel_rfl) (by kernel_rfl) (fun _ _ _ h => h) (Or.inl ⟨by rfl, ?_⟩) (by assumption) ?_
  rotate_left
  · intro wz hSw; go_simp; try with_reducible rfl
  simp only [Act.put, List.setIfInBounds_toArray, List.set_cons_zero, List.set_cons_succ]
  refine wpAnyH_ready (rs := [13]) (by kernel_rfl) (by simp) ?_
  refine AllReadyH.cons rfl (fun K hK => ?_) AllReadyH.nil
  go_simp
  have HW8 : Hid ((w7.setCell ⟨wb, 2 + kN (!k), none⟩ (.pointer (some ⟨rb', 0, none⟩))).heap[wb]? = some (.cells ((s.row.setIfInBounds (kN (!k)) (.pointer (some ⟨b', 0, none⟩))).setIfInBounds (2 + kN (!k)) (.pointer (some ⟨rb', 0, none⟩))) 39 (0, 0))) := heap_set_in HW7.out _ _
  have FR8 : Hid (Fr (fun z => z = wb) V6 (w7.setCell ⟨wb, 2 + kN (!k), none⟩ (.pointer (some ⟨rb', 0, none⟩)))) := Fr.setCell (S := fun z => z = wb) (p := ⟨wb, 2 + kN (!k), none⟩) (Fr.of_below HB7.out) rfl _
  have HR8 : Hid (RAt (w7.setCell ⟨wb, 2 + kN (!k), none⟩ (.pointer (some ⟨rb', 0, none⟩))) rb' (s.room k) v' (s.R k)) := HR7.out.fr (Fr.setCell (S := fun z => z = wb) (p := ⟨wb, 2 + kN (!k), none⟩) (Fr.refl _ _) rfl _) (fun e => by have := HN7.out.1; omega) (fun g hg e => by have := HN7.out.2 g hg; omega)
  have HM8 : Hid (MAt (w7.setCell ⟨wb, 2 + kN (!k), none⟩ (.pointer (some ⟨rb', 0, none⟩))) b' o' p' (s.room k) (s.L k)) := HM6.out.fr FR8.out (fun e => by have := HN5.out.b; omega) (fun e => by have := HN5.out.o; omega) (fun e => by have := HN5.out.p; omega)
  refine hK.out _ _ (cell_row HW8.out (by cases k <;> rfl)) (fun hHeld3 => ?_)
  clear hK K
  refine wpAnyH_done (by kernel_rfl) ?_ _
  clear hHeld hHeld2 hHeld3 hS7 c7 f7 HW7 HR7 HB7 cr6 HS
  generalize (w7.setCell ⟨wb, 2 + kN (!k), none⟩ (.pointer (some ⟨rb', 0, none⟩))) = V8 at HW8 FR8 HR8 HM8 ⊢
  have lb8 := lt_of_heap HW8.out
  go_wp2
  have hT : True := trivial
  refine wp_region_held_drew (S := fun _ : World => True) (by kernel_rfl) hT (fun hHeld => ?_)
  refine wpAnyH_take (i := 0) (oi := _) (v := ?_) rfl (by kernel_rfl) (by kernel_rfl) (by kernel_rfl) (fun _ _ _ h => h) (Or.inl ⟨by rfl, ?_⟩) (by assumption) ?_
  rotate_left
  · intro wz hSw; go_simp; try with_reducible rfl
  simp only [Act.put, List.setIfInBounds_toArray, List.set_cons_zero, List.set_cons_succ]
  refine wpAnyH_take (i := 1) (oi := _) (v := ?_) rfl (by kernel_rfl) (by kernel_rfl) (by kernel_rfl) (fun _ _ _ h => h) (Or.inl ⟨by rfl, ?_⟩) (by assumption) ?_
  rotate_left
  · intro wz hSw; go_simp; try with_reducible rfl
  simp only [Act.put, List.setIfInBounds_toArray, List.set_cons_zero, List.set_cons_succ]
  refine wpAnyH_take (i := 2) (oi := _) (v := ?_) rfl (by kernel_rfl) (by kernel_rfl) (by kernel_rfl) (fun _ _ _ h => h) (Or.inl ⟨by rfl, ?_⟩) (by assumption) ?_
  rotate_left
  · intro wz hSw; go_simp; try with_reducible rfl
  simp only [Act.put, List.setIfInBounds_toArray, List.set_cons_zero, List.set_cons_succ]
  refine wpAnyH_take (i := 3) (oi := _) (v := ?_) rfl (by kernel_rfl) (by kernel_rfl) (by kernel_rfl) (fun _ _ _ h => h) (Or.inl ⟨by rfl, ?_⟩) (by assumption) ?_
  rotate_left
  · intro wz hSw; go_simp; try with_reducible rfl
  simp only [Act.put, List.setIfInBounds_toArray, List.set_cons_zero, List.set_cons_succ]
  refine wpAnyH_take (i := 5) (oi := _) (v := ?_) rfl (by kernel_rfl) (by kernel_rfl) (by kernel_rfl) (fun _ _ _ h => h) (Or.inl ⟨by rfl, ?_⟩) (by assumption) ?_
  rotate_left
  · intro wz hSw; go_simp; try with_reducible rfl
  simp only [Act.put, List.setIfInBounds_toArray, List.set_cons_zero, List.set_cons_succ]
  refine wpAnyH_take (i := 6) (oi := _) (v := ?_) rfl (by kernel_rfl) (by kernel_rfl) (by kernel_rfl) (fun _ _ _ h => h) (Or.inl ⟨by rfl, ?_⟩) (by assumption) ?_
  rotate_left
  · intro wz hSw; go_simp; try with_reducible rfl
  simp only [Act.put, List.setIfInBounds_toArray, List.set_cons_zero, List.set_cons_succ]
  refine wpAnyH_ready (rs := [4]) (by kernel_rfl) (by simp) ?_
  refine AllReadyH.cons rfl (fun K hK => ?_) AllReadyH.nil
  go_simp
  go_wp2_with (go_at_call 15; refine (all_c b' _).mono ?_; rintro e w9 ⟨rfl, h9⟩; subst w9)
  refine hK.out _ _ hT (fun hHeld2 => ?_)
  clear hK K
  have HWB : Hid ((V8.alloc (.cells #[.pointer (some ⟨b', 0, none⟩)] 23)).drew.heap[wb]? = some (.cells ((s.row.setIfInBounds (kN (!k)) (.pointer (some ⟨b', 0, none⟩))).setIfInBounds (2 + kN (!k)) (.pointer (some ⟨rb', 0, none⟩))) 39 (0, 0))) := ((((Below.refl V8.heap.size V8).alloc (Nat.le_refl _) _).drew.block wb lb8).trans HW8.out)
  have HBB : Hid (Below V8.heap.size V8 (V8.alloc (.cells #[.pointer (some ⟨b', 0, none⟩)] 23)).drew) := (show Below V8.heap.size V8 _ from ((Below.refl V8.heap.size V8).alloc (Nat.le_refl _) _).drew)
  have HBA : Hid (Boxed (V8.alloc (.cells #[.pointer (some ⟨b', 0, none⟩)] 23)).drew V8.heap.size 23 (.pointer (some ⟨b', 0, none⟩))) := Boxed.new V8 _ _
  generalize (V8.alloc (.cells #[.pointer (some ⟨b', 0, none⟩)] 23)).drew = W9 at HWB HBB HBA ⊢
  have c8 : W9.cell? ⟨wb, 4 + kN (!k), none⟩ = some (.func (.func 26) #[] #[.pointer (some ⟨s.ab (!k), 0, none⟩)]) := cell_row HWB.out (by cases k <;> rfl)
  have f8 := frz_row HWB.out (4 + kN (!k))
  refine wpAnyH_take (i := 7) (oi := _) (v := ?_) rfl (by kernel_rfl) (by kernel_rfl) (by kernel_rfl) (fun _ _ _ h => h) (Or.inl ⟨by rfl, ?_⟩) (by assumption) ?_
  rotate_left
  · intro wz hSw; go_simp; try with_reducible rfl
  simp only [Act.put, List.setIfInBounds_toArray, List.set_cons_zero, List.set_cons_succ]
  refine wpAnyH_ready (rs := [8]) (by kernel_rfl) (by simp) ?_
  refine AllReadyH.cons rfl (fun K hK => ?_) AllReadyH.nil
  go_simp
  refine hK.out _ _ hT (fun hHeld3 => ?_)
  clear hK K
  refine wpAnyH_done (by kernel_rfl) ?_ _
  clear hHeld hHeld2 hHeld3 c8 f8
  have FR9 : Hid (Fr (fun z => z = wb) V8 (W9.setCell ⟨wb, 4 + kN (!k), none⟩ (.func (.func 26) #[] #[.pointer (some ⟨V8.heap.size, 0, none⟩)]))) := Fr.setCell (S := fun z => z = wb) (p := ⟨wb, 4 + kN (!k), none⟩) (Fr.of_below HBB.out) rfl _
  have HW9 : Hid ((W9.setCell ⟨wb, 4 + kN (!k), none⟩ (.func (.func 26) #[] #[.pointer (some ⟨V8.heap.size, 0, none⟩)])).heap[wb]? = some (.cells (((s.row.setIfInBounds (kN (!k)) (.pointer (some ⟨b', 0, none⟩))).setIfInBounds (2 + kN (!k)) (.pointer (some ⟨rb', 0, none⟩))).setIfInBounds (4 + kN (!k)) (.func (.func 26) #[] #[.pointer (some ⟨V8.heap.size, 0, none⟩)])) 39 (0, 0))) := heap_set_in HWB.out _ _
  have HA9 : Hid (Boxed (W9.setCell ⟨wb, 4 + kN (!k), none⟩ (.func (.func 26) #[] #[.pointer (some ⟨V8.heap.size, 0, none⟩)])) V8.heap.size 23 (.pointer (some ⟨b', 0, none⟩))) := boxed_fr HBA.out (Fr.setCell (S := fun z => z = wb) (p := ⟨wb, 4 + kN (!k), none⟩) (Fr.refl _ _) rfl _) (fun e => by have : V8.heap.size = wb := e; omega)
  clear HWB
  generalize (W9.setCell ⟨wb, 4 + kN (!k), none⟩ (.func (.func 26) #[] #[.pointer (some ⟨V8.heap.size, 0, none⟩)])) = V9 at FR9 HW9 HA9 ⊢
  have HM9 : Hid (MAt V9 b' o' p' (s.room k) (s.L k)) := HM8.out.fr FR9.out (fun e => by have := HN5.out.b; omega) (fun e => by have := HN5.out.o; omega) (fun e => by have := HN5.out.p; omega)
  have HR9 : Hid (RAt V9 rb' (s.room k) v' (s.R k)) := HR8.out.fr FR9.out (fun e => by have := HN7.out.1; omega) (fun g hg e => by have := HN7.out.2 g hg; omega)
  have FRA : Hid (Fr (fun z => z = wb) V V9) := (FR6.out.trans FR8.out).trans FR9.out
  have s6 := FR6.out.size
  have HS9 : Hid (WS V9 wb (s.cp k b' o' p' rb' v' V8.heap.size)) := H.out.setCopy k (HW9.out.trans (by rw [row_cp s k b' o' p' rb' v' V8.heap.size])) FRA.out HM9.out HN5.out HR9.out (Nat.le_trans s6 HN7.out.1) (fun g hg => ⟨Nat.le_trans s6 (HN7.out.2 g hg), fun e => by have := HN7.out.2 g hg; have := HM6.out.lto; omega, fun e => by have := HN7.out.2 g hg; have := HM6.out.ltp; omega⟩) HA9.out
  have HRK : Hid (RAt V9 (s.rb k) (s.room k) (s.v k) (s.R k)) := (H.out.r k).fr FRA.out (ne_type (H.out.r k).hb H.out.hb (by decide)) (fun g hg => by obtain ⟨c, hc⟩ := (H.out.r k).ho.heap hg; exact ne_type hc H.out.hb (by decide))
  have cr9 : V9.cell? ⟨wb, 2 + kN k, none⟩ = some (.pointer (some ⟨s.rb k, 0, none⟩)) := cell_row HW9.out (by cases k <;> rfl)
  have ck0 := HRK.out.cell0
  have ck1 := HRK.out.cell1
  have lk := HRK.out.ltb
  have lb9 := lt_of_heap HW9.out
  have hRL : (s.R k).length = (s.L k).length := by rw [HEQ.out]
  obtain ⟨q, cap, hv⟩ := HRK.out.ho.slice
  rw [hv, hRL] at ck1
  clear hRL hv
  go_wp2
  refine wp_region_ext (by kernel_rfl) (by kernel_rfl) ?_
  repeat (go_big_quiet_step (first | exact rfl | (go_at_call 11; with_reducible exact ext_call_same (room_c (HM9.out.kept (ext_below _)))) | (go_at_call 12; with_reducible exact ext_call_same (len_c (HM9.out.kept (ext_below _))))))
  refine wpQuiet_nil ?_
  intro w10 hw
  have hb10 := ext_of hw
  clear hw
  have HB10 : Hid (Below V9.heap.size V9 w10) := hb10
  clear hb10
  go_wp2
  go_ret
  have hsz := HA.out.size
  refine ⟨by first | rfl | simp, _, HS9.out.kept HB10.out, (by funext j; show s.R k = s.L k; rw [HEQ.out]), cp_foot HFS.out ?_ ?_ ?_ ?_ ?_, Nat.le_add_right _ _, ?_⟩
  · have := HN5.out.b; have := HBS.out; omega
  · have := HN5.out.o; have := HBS.out; omega
  · have := HN5.out.p; have := HBS.out; omega
  · have := HN7.out.1; have := HBS.out; omega
  · intro g hg; have := HN7.out.2 g hg; have := HBS.out; omega
  · have hwb : base ≤ wb := HFS.out wb (.inl rfl)
    exact (((HA.out.mono HBS.out).trans (FRA.out.below (Nat.le_trans HBS.out hsz) (fun z e => by omega))).trans (HB10.out.mono (by have := FRA.out.size; have := HBS.out; omega)))
end Go.Proofs.Ytofiidfnjgoenaa
