/-
  A step of the script: what does does, and the iterators.
-/
import Derived.Test.YtofiidfnjgoenaaOver2
import Derived.Deep.RegionHeld
namespace Go.Proofs.Ytofiidfnjgoenaa
open Go Go.RowKit Go.Shelf

theorem over_c {w : World} {wb : Nat} {s : St} (h : WS w wb s) (heq : s.R = s.L) (hvl : s.vs.length ≤ 9000) (k : Bool) (ab : Nat) (hB : Boxed w ab 23 (s.mv k)) (o0 o1 o2 lv tn ii o6 : Int) (wl : (Lit.int .i64 lv).wf = true) (wt : (Lit.int .i64 tn).wf = true) :
    Calls Try.prog 28 #[.pointer (some ⟨wb, 0, none⟩), .int .i64 (kN k : Int), .func (.func 26) #[] #[.pointer (some ⟨ab, 0, none⟩)], .agg #[.int .i64 o0, .int .i64 o1, .int .i64 o2, .int .i64 lv, .int .i64 tn, .int .i64 ii, .int .i64 o6]] w
      fun e W' => e = .returned (.bool true) ∧ ∃ s', WS W' wb s' ∧ s'.R = s'.L ∧ Nx w.heap.size s s' ∧ Fr (s.foot wb) w W' := callsIn_wide.1 (over_in 3 (Nat.le_refl _) h heq hvl k ab hB o0 o1 o2 lv tn ii o6 wl wt)

theorem pick_two (c : Int) : ∃ k : Bool, pk c 2 = (kN k : Int) := by
  have h : 0 ≤ pk c 2 ∧ pk c 2 < 2 := pk_range (c := c) (n := 2) (by decide)
  rcases (show pk c 2 = 0 ∨ pk c 2 = 1 by omega) with e | e
  · exact ⟨false, by rw [e]; rfl⟩
  · exact ⟨true, by rw [e]; rfl⟩

/-- What a step leaves. -/
def Left (w : World) (wb : Nat) (s : St) (e : Ending) (w' : World) : Prop := e = .returned (.bool true) ∧ ∃ s', WS w' wb s' ∧ s'.R = s'.L ∧ Nx w.heap.size s s' ∧ Fr (s.foot wb) w w'

set_option maxRecDepth 100000 in
set_option maxHeartbeats 1000000 in
theorem step_does {w : World} {wb : Nat} {s : St} (h : WS w wb s) (heq : s.R = s.L) (hvl : s.vs.length ≤ 9000) (kind on n lv tn ii o6 : Int) (wo : (Lit.int .i64 on).wf = true) (h5 : kind ≠ 5) (h6 : kind ≠ 6) (h8 : kind ≠ 8) (h9 : kind ≠ 9) :
    Calls Try.prog 16 #[.pointer (some ⟨wb, 0, none⟩), .agg #[.int .i64 kind, .int .i64 on, .int .i64 n, .int .i64 lv, .int .i64 tn, .int .i64 ii, .int .i64 o6]] w (Left w wb s) := by
  obtain ⟨k, hk⟩ := pick_two on
  have H : Hid (WS w wb s) := h
  have HEQ : Hid (s.R = s.L) := heq
  have HP : Hid (pk on 2 = (kN k : Int)) := hk
  have e5 : (kind == 5) = false := by simp [h5]
  have e6 : (kind == 6) = false := by simp [h6]
  have e8 : (kind == 8) = false := by simp [h8]
  have e9 : (kind == 9) = false := by simp [h9]
  clear h heq hk h5 h6 h8 h9
  go_enter Try.func16, Try.ntmps16
  go_wp2_with first | (go_at_call 14; (with_reducible refine (pick_i on 2 (by decide) (by decide) wo _).mono ?_); rw [HP.out]; rintro e w5 ⟨rfl, h5⟩; subst w5) | (go_at_call 31; have hA : Below w.heap.size w (w.alloc (.cells #[.int .i64 kind, .int .i64 on, .int .i64 n, .int .i64 lv, .int .i64 tn, .int .i64 ii, .int .i64 o6] 47)) := (Below.refl _ _).alloc (Nat.le_refl _) _; refine (does_c (H.out.kept hA) HEQ.out hvl k kind n).mono ?_; rintro e w5 ⟨rfl, s8, hws8, hrl8, hnx8, hfr8⟩; have HL : Hid (∃ s', WS w5 wb s' ∧ s'.R = s'.L ∧ Nx w.heap.size s s' ∧ Fr (s.foot wb) w w5) := (show _ from ⟨s8, hws8, hrl8, hnx8.down hA.size, (Fr.of_below hA).trans hfr8⟩); clear hws8 hrl8 hnx8 hfr8 hA)
  go_ret
  exact ⟨rfl, HL.out⟩

set_option linter.unusedSimpArgs false in
set_option maxRecDepth 100000 in
set_option maxHeartbeats 2000000 in
theorem step_all {w : World} {wb : Nat} {s : St} (h : WS w wb s) (heq : s.R = s.L) (hvl : s.vs.length ≤ 9000) (on n lv tn ii o6 : Int) (wo : (Lit.int .i64 on).wf = true) (wl : (Lit.int .i64 lv).wf = true) (wt : (Lit.int .i64 tn).wf = true) :
    Calls Try.prog 16 #[.pointer (some ⟨wb, 0, none⟩), .agg #[.int .i64 5, .int .i64 on, .int .i64 n, .int .i64 lv, .int .i64 tn, .int .i64 ii, .int .i64 o6]] w (Left w wb s) := by
  obtain ⟨k, hk⟩ := pick_two on
  have HEQ : Hid (s.R = s.L) := heq
  have HFL : Hid (∀ j, s.foot wb j → j < w.heap.size) := fun j hj => h.foot_lt hj
  have HP : Hid (pk on 2 = (kN k : Int)) := hk
  have hA : Below w.heap.size w (w.alloc (.cells #[.int .i64 5, .int .i64 on, .int .i64 n, .int .i64 lv, .int .i64 tn, .int .i64 ii, .int .i64 o6] 47)) := (Below.refl _ _).alloc (Nat.le_refl _) _
  have HA : Hid (Below w.heap.size w (w.alloc (.cells #[.int .i64 5, .int .i64 on, .int .i64 n, .int .i64 lv, .int .i64 tn, .int .i64 ii, .int .i64 o6] 47))) := hA
  have H : Hid (WS (w.alloc (.cells #[.int .i64 5, .int .i64 on, .int .i64 n, .int .i64 lv, .int .i64 tn, .int .i64 ii, .int .i64 o6] 47)) wb s) := h.kept hA
  have kl := kN_lt k
  have i0 : (0 : Int) ≤ (kN k : Int) := by omega
  have i1 : (kN k : Int) < 2 := by omega
  have cw := World.alloc_heap_new w (.cells #[.int .i64 5, .int .i64 on, .int .i64 n, .int .i64 lv, .int .i64 tn, .int .i64 ii, .int .i64 o6] 47)
  have lo := lt_of_heap cw
  have HO : Hid ((w.alloc (.cells #[.int .i64 5, .int .i64 on, .int .i64 n, .int .i64 lv, .int .i64 tn, .int .i64 ii, .int .i64 o6] 47)).heap[w.heap.size]? = some (.cells #[.int .i64 5, .int .i64 on, .int .i64 n, .int .i64 lv, .int .i64 tn, .int .i64 ii, .int .i64 o6] 47 (0, 0))) := cw
  have cm := H.out.cm k
  have lb := lt_of_heap H.out.hb
  clear h heq hk hA cw
  go_enter Try.func16, Try.ntmps16
  go_wp2_with (go_at_call 14; (with_reducible refine (pick_i on 2 (by decide) (by decide) wo _).mono ?_); rw [HP.out]; rintro e w5 ⟨rfl, h5⟩; subst w5)
  generalize (w.alloc (.cells #[.int .i64 5, .int .i64 on, .int .i64 n, .int .i64 lv, .int .i64 tn, .int .i64 ii, .int .i64 o6] 47)) = V at HA H lo HO cm lb ⊢
  have QC : Hid (∀ w' : World, (w'.cell? ⟨wb, kN k, none⟩ = some (.pointer (some ⟨s.b k, 0, none⟩)) ∧ w'.heap[w.heap.size]? = some (.cells #[.int .i64 5, .int .i64 on, .int .i64 n, .int .i64 lv, .int .i64 tn, .int .i64 ii, .int .i64 o6] 47 (0, 0))) → w'.cell? ⟨wb, kN k, none⟩ = some (.pointer (some ⟨s.b k, 0, none⟩)) ∧ w'.cell? ⟨w.heap.size, 0, none⟩ = some (.int .i64 5) ∧ w'.cell? ⟨w.heap.size, 1, none⟩ = some (.int .i64 on) ∧ w'.cell? ⟨w.heap.size, 2, none⟩ = some (.int .i64 n) ∧ w'.cell? ⟨w.heap.size, 3, none⟩ = some (.int .i64 lv) ∧ w'.cell? ⟨w.heap.size, 4, none⟩ = some (.int .i64 tn) ∧ w'.cell? ⟨w.heap.size, 5, none⟩ = some (.int .i64 ii) ∧ w'.cell? ⟨w.heap.size, 6, none⟩ = some (.int .i64 o6)) := fun w' hb => ⟨hb.1, by simp [World.cell?, hb.2], by simp [World.cell?, hb.2], by simp [World.cell?, hb.2], by simp [World.cell?, hb.2], by simp [World.cell?, hb.2], by simp [World.cell?, hb.2], by simp [World.cell?, hb.2]⟩
  have HS : Hid (∀ w', Below V.heap.size V w' → (w'.cell? ⟨wb, kN k, none⟩ = some (.pointer (some ⟨s.b k, 0, none⟩)) ∧ w'.heap[w.heap.size]? = some (.cells #[.int .i64 5, .int .i64 on, .int .i64 n, .int .i64 lv, .int .i64 tn, .int .i64 ii, .int .i64 o6] 47 (0, 0)))) := fun w' hb => ⟨(hb.cell (p := ⟨wb, kN k, none⟩) lb).trans cm, (hb.block _ lo).trans HO.out⟩
  refine wp_region_held_drew (S := fun w' : World => w'.cell? ⟨wb, kN k, none⟩ = some (.pointer (some ⟨s.b k, 0, none⟩)) ∧ w'.heap[w.heap.size]? = some (.cells #[.int .i64 5, .int .i64 on, .int .i64 n, .int .i64 lv, .int .i64 tn, .int .i64 ii, .int .i64 o6] 47 (0, 0))) (by kernel_rfl) (HS.out _ (Below.refl _ _).drew) (fun hHeld => ?_)
  refine wpAnyH_take (i := 0) (oi := _) (v := ?_) rfl (by kernel_rfl) (by kernel_rfl) (by kernel_rfl) (fun _ _ _ h => h) (Or.inl ⟨by rfl, ?_⟩) (by assumption) ?_
  rotate_left
  · intro wz hSw; obtain ⟨q0, q1, q2, q3, q4, q5, q6, q7⟩ := QC.out wz hSw; clear hSw; go_simp; try with_reducible rfl
  simp only [Act.put, List.setIfInBounds_toArray, List.set_cons_zero, List.set_cons_succ]
  refine wpAnyH_take (i := 1) (oi := _) (v := ?_) rfl (by kernel_rfl) (by kernel_rfl) (by kernel_rfl) (fun _ _ _ h => h) (Or.inl ⟨by rfl, ?_⟩) (by assumption) ?_
  rotate_left
  · intro wz hSw; obtain ⟨q0, q1, q2, q3, q4, q5, q6, q7⟩ := QC.out wz hSw; clear hSw; go_simp; try with_reducible rfl
  simp only [Act.put, List.setIfInBounds_toArray, List.set_cons_zero, List.set_cons_succ]
  refine wpAnyH_take (i := 2) (oi := _) (v := ?_) rfl (by kernel_rfl) (by kernel_rfl) (by kernel_rfl) (fun _ _ _ h => h) (Or.inl ⟨by rfl, ?_⟩) (by assumption) ?_
  rotate_left
  · intro wz hSw; obtain ⟨q0, q1, q2, q3, q4, q5, q6, q7⟩ := QC.out wz hSw; clear hSw; go_simp; try with_reducible rfl
  simp only [Act.put, List.setIfInBounds_toArray, List.set_cons_zero, List.set_cons_succ]
  refine wpAnyH_take (i := 3) (oi := _) (v := ?_) rfl (by kernel_rfl) (by kernel_rfl) (by kernel_rfl) (fun _ _ _ h => h) (Or.inl ⟨by rfl, ?_⟩) (by assumption) ?_
  rotate_left
  · intro wz hSw; obtain ⟨q0, q1, q2, q3, q4, q5, q6, q7⟩ := QC.out wz hSw; clear hSw; go_simp; try with_reducible rfl
  simp only [Act.put, List.setIfInBounds_toArray, List.set_cons_zero, List.set_cons_succ]
  refine wpAnyH_take (i := 4) (oi := _) (v := ?_) rfl (by kernel_rfl) (by kernel_rfl) (by kernel_rfl) (fun _ _ _ h => h) (Or.inl ⟨by rfl, ?_⟩) (by assumption) ?_
  rotate_left
  · intro wz hSw; obtain ⟨q0, q1, q2, q3, q4, q5, q6, q7⟩ := QC.out wz hSw; clear hSw; go_simp; try with_reducible rfl
  simp only [Act.put, List.setIfInBounds_toArray, List.set_cons_zero, List.set_cons_succ]
  refine wpAnyH_take (i := 5) (oi := _) (v := ?_) rfl (by kernel_rfl) (by kernel_rfl) (by kernel_rfl) (fun _ _ _ h => h) (Or.inl ⟨by rfl, ?_⟩) (by assumption) ?_
  rotate_left
  · intro wz hSw; obtain ⟨q0, q1, q2, q3, q4, q5, q6, q7⟩ := QC.out wz hSw; clear hSw; go_simp; try with_reducible rfl
  simp only [Act.put, List.setIfInBounds_toArray, List.set_cons_zero, List.set_cons_succ]
  refine wpAnyH_take (i := 6) (oi := _) (v := ?_) rfl (by kernel_rfl) (by kernel_rfl) (by kernel_rfl) (fun _ _ _ h => h) (Or.inl ⟨by rfl, ?_⟩) (by assumption) ?_
  rotate_left
  · intro wz hSw; obtain ⟨q0, q1, q2, q3, q4, q5, q6, q7⟩ := QC.out wz hSw; clear hSw; go_simp; try with_reducible rfl
  simp only [Act.put, List.setIfInBounds_toArray, List.set_cons_zero, List.set_cons_succ]
  refine wpAnyH_take (i := 7) (oi := _) (v := ?_) rfl (by kernel_rfl) (by kernel_rfl) (by kernel_rfl) (fun _ _ _ h => h) (Or.inl ⟨by rfl, ?_⟩) (by assumption) ?_
  rotate_left
  · intro wz hSw; obtain ⟨q0, q1, q2, q3, q4, q5, q6, q7⟩ := QC.out wz hSw; clear hSw; go_simp; try with_reducible rfl
  simp only [Act.put, List.setIfInBounds_toArray, List.set_cons_zero, List.set_cons_succ]
  refine wpAnyH_take (i := 9) (oi := _) (v := ?_) rfl (by kernel_rfl) (by kernel_rfl) (by kernel_rfl) (fun _ _ _ h => h) (Or.inl ⟨by rfl, ?_⟩) (by assumption) ?_
  rotate_left
  · intro wz hSw; obtain ⟨q0, q1, q2, q3, q4, q5, q6, q7⟩ := QC.out wz hSw; clear hSw; go_simp; try with_reducible rfl
  simp only [Act.put, List.setIfInBounds_toArray, List.set_cons_zero, List.set_cons_succ]
  refine wpAnyH_ready (rs := [8]) (by kernel_rfl) (by simp) ?_
  refine AllReadyH.cons rfl (fun K hK => ?_) AllReadyH.nil
  go_simp
  go_wp2_with (go_at_call 15; refine (all_c (s.b k) _).mono ?_; rintro e w9 ⟨rfl, h9⟩; subst w9)
  have hB2 : Below V.heap.size V (V.alloc (.cells #[.pointer (some ⟨s.b k, 0, none⟩)] 23)).drew := ((Below.refl _ _).alloc (Nat.le_refl _) _).drew
  refine hK.out _ _ (HS.out _ hB2) (fun hHeld2 => ?_)
  clear hK K
  have SA : Hid (WS (V.alloc (.cells #[.pointer (some ⟨s.b k, 0, none⟩)] 23)).drew wb s) := H.out.kept hB2
  have BA : Hid (Boxed (V.alloc (.cells #[.pointer (some ⟨s.b k, 0, none⟩)] 23)).drew V.heap.size 23 (s.mv k)) := Boxed.new V _ _
  have B2 : Hid (Below V.heap.size V (V.alloc (.cells #[.pointer (some ⟨s.b k, 0, none⟩)] 23)).drew) := hB2
  refine wpAnyH_ready (rs := [10]) (by kernel_rfl) (by simp) ?_
  refine AllReadyH.cons rfl (fun K hK => ?_) AllReadyH.nil
  go_simp
  go_wp2_with (go_at_call 28; refine (over_c SA.out HEQ.out hvl k V.heap.size BA.out 5 on n lv tn ii o6 wl wt).mono ?_; rintro e w5 ⟨rfl, s8, hws8, hrl8, hnx8, hfr8⟩)
  have HL : Hid (Left w wb s (.returned (.bool true)) w5) := (show _ from ⟨rfl, s8, hws8, hrl8, hnx8.down (Nat.le_trans HA.out.size B2.out.size), ((Fr.of_below HA.out).trans (Fr.of_below B2.out)).trans hfr8⟩)
  have hS5 : w5.cell? ⟨wb, kN k, none⟩ = some (.pointer (some ⟨s.b k, 0, none⟩)) ∧ w5.heap[w.heap.size]? = some (.cells #[.int .i64 5, .int .i64 on, .int .i64 n, .int .i64 lv, .int .i64 tn, .int .i64 ii, .int .i64 o6] 47 (0, 0)) := ⟨by have q := hws8.cm k; rw [hnx8.b] at q; exact q, (hfr8.block _ (Nat.lt_of_lt_of_le lo B2.out.size) (fun q => by have := HFL.out _ q; omega)).trans (HS.out _ B2.out).2⟩
  clear hws8 hrl8 hnx8 hfr8
  refine hK.out _ _ hS5 (fun hHeld3 => ?_)
  clear hK K
  refine wpAnyH_ready (rs := [11]) (by kernel_rfl) (by simp) ?_
  refine AllReadyH.cons rfl (fun K hK => ?_) AllReadyH.nil
  go_simp
  refine hK.out _ _ hS5 (fun hHeld4 => ?_)
  clear hK K
  refine wpAnyH_done (by kernel_rfl) ?_ _
  clear hS5 hHeld hHeld2 hHeld3 hHeld4 hB2
  go_wp2
  go_ret
  exact HL.out
end Go.Proofs.Ytofiidfnjgoenaa
