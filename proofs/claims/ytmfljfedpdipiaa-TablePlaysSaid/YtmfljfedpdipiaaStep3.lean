/-
  One step of a script.
-/
import Derived.Test.YtmfljfedpdipiaaOverC
namespace Go.Proofs.Ytmfljfedpdipiaa
open Go Go.RowKit Go.Shelf
attribute [local go_sem] Oper.semAt_some ext_cell

/-- What a step leaves. -/
def StepP (W0 : World) (wb : Nat) (vs : List Value) (W' : World) : Prop := ∃ s' ov' vs', WS W0 wb s' ov' vs' W' ∧ vs'.length ≤ vs.length + 1000000 + 1000000
theorem OverP.step {W0 W W' : World} {wb i : Nat} {s s' : Nat → Sd} {ov ov' : Value} {vs vs' : List Value} {ii : Int} (h : OverP W0 wb i s ov vs ii W s' ov' vs' W') : StepP W0 wb vs W' := by
  refine ⟨s', ov', vs', h.ws, ?_⟩
  have h1 := h.len
  by_cases q : ii = 0
  · rw [if_pos q] at h1; exact Nat.le_trans h1 (Nat.add_le_add_left (Nat.zero_le _) _)
  · rw [if_neg q] at h1; exact h1
theorem OverP.box {W0 W W' : World} {wb i : Nat} {s s' : Nat → Sd} {ov ov' : Value} {vs vs' : List Value} {ii : Int} (h : OverP W0 wb i s ov vs ii W s' ov' vs' W') (hw : WS W0 wb s ov vs W) (hi : i < 2) {b : Nat} {cs : Array Value} (hb : W.heap[b]? = some (.cells cs 46 (0, 0))) : W'.heap[b]? = some (.cells cs 46 (0, 0)) := by
  refine (h.fr.block _ (lt_of_heap hb) (fun q => ?_)).trans hb
  rcases q with rfl | q | ⟨_, q⟩
  · have := heap_type hb hw.hb; cases this
  · obtain ⟨_, c, hc⟩ := own_block hw.out.row q
    have := heap_type hb hc; cases this
  · obtain ⟨c, t, hc, ht⟩ := (hw.p i hi).ftype q
    have := heap_type hb hc
    subst this
    rcases ht with e | e | e | e <;> cases e

set_option maxRecDepth 100000 in
set_option maxHeartbeats 8000000 in
theorem step_c {W0 W : World} {wb : Nat} {s : Nat → Sd} {ov : Value} {vs : List Value} (h : WS W0 wb s ov vs W) {Bd : Nat} (hvs : vs.length ≤ Bd) (hBd : Bd ≤ 40000000000) (kd on vv le : Int) (k1 : Value) (tn ii : Int) (k2 : Value) (key1 key2 : List Int)
    (wfo : (Lit.int .i64 on).wf = true) (wfl : (Lit.int .i64 le).wf = true) (wft : (Lit.int .i64 tn).wf = true) (hk1 : ArgK W0 k1 key1) (hk2 : ArgK W0 k2 key2) :
    Calls Try.prog 9 #[.pointer (some ⟨wb, 0, none⟩), .agg #[.int .i64 kd, .int .i64 on, .int .i64 vv, .int .i64 le, k1, .int .i64 tn, .int .i64 ii, k2]] W fun e W' => e = .returned (.bool true) ∧ StepP W0 wb vs W' := by
  obtain ⟨i, hi, hpi⟩ := pick_nat on 2 (by decide)
  have hi2 : i < 2 := by omega
  have PI : Hid (∀ W : World, Calls Try.prog 6 #[.int .i64 on, .int .i64 2] W fun e w' => e = .returned (.int .i64 (i : Int)) ∧ w' = W) := fun W => by
    have := pick_i on 2 (by decide) (by decide) wfo W
    rw [hpi] at this
    exact this
  have hb0 : Below W.heap.size W (W.alloc (.cells #[.int .i64 kd, .int .i64 on, .int .i64 vv, .int .i64 le, k1, .int .i64 tn, .int .i64 ii, k2] 46)) := (Below.refl _ _).alloc (Nat.le_refl _) _
  have H0 : Hid (WS W0 wb s ov vs (W.alloc (.cells #[.int .i64 kd, .int .i64 on, .int .i64 vv, .int .i64 le, k1, .int .i64 tn, .int .i64 ii, k2] 46))) := h.kept hb0
  have N0 : Hid ((W.alloc (.cells #[.int .i64 kd, .int .i64 on, .int .i64 vv, .int .i64 le, k1, .int .i64 tn, .int .i64 ii, k2] 46)).heap[W.heap.size]? = some (.cells #[.int .i64 kd, .int .i64 on, .int .i64 vv, .int .i64 le, k1, .int .i64 tn, .int .i64 ii, k2] 46 (0, 0))) := alloc_new W _
  have i0 : (0 : Int) ≤ (i : Int) := by omega
  have i1 : (i : Int) < 2 := by omega
  clear hpi h hb0
  go_enter Try.func9, Try.ntmps9
  go_upto_region 1 with fail
  generalize (W.alloc (.cells #[.int .i64 kd, .int .i64 on, .int .i64 vv, .int .i64 le, k1, .int .i64 tn, .int .i64 ii, k2] 46)) = V0 at H0 N0 ⊢
  generalize W.heap.size = b3 at N0 ⊢
  have q0 : V0.cell? ⟨b3, 0, none⟩ = some (.int .i64 kd) := cell_row N0.out (i := 0) rfl
  have q1 : V0.cell? ⟨b3, 1, none⟩ = some (.int .i64 on) := cell_row N0.out (i := 1) rfl
  have q2 : V0.cell? ⟨b3, 2, none⟩ = some (.int .i64 vv) := cell_row N0.out (i := 2) rfl
  have q3 : V0.cell? ⟨b3, 3, none⟩ = some (.int .i64 le) := cell_row N0.out (i := 3) rfl
  have q4 : V0.cell? ⟨b3, 4, none⟩ = some k1 := cell_row N0.out (i := 4) rfl
  have q5 : V0.cell? ⟨b3, 5, none⟩ = some (.int .i64 tn) := cell_row N0.out (i := 5) rfl
  have q6 : V0.cell? ⟨b3, 6, none⟩ = some (.int .i64 ii) := cell_row N0.out (i := 6) rfl
  have q7 : V0.cell? ⟨b3, 7, none⟩ = some k2 := cell_row N0.out (i := 7) rfl
  have lb : b3 < V0.heap.size := lt_of_heap N0.out
  have cti := H0.out.ct hi2
  have cai := H0.out.ca hi2
  unfold fnV at cai
  by_cases h5 : kd = 5
  · as_aux_lemma =>
      subst h5
      have SC : Hid (∀ w' : World, w'.heap[b3]? = some (.cells #[.int .i64 5, .int .i64 on, .int .i64 vv, .int .i64 le, k1, .int .i64 tn, .int .i64 ii, k2] 46 (0, 0)) → (fun w' => w'.cell? ⟨b3, 0, none⟩ = some (.int .i64 5) ∧ w'.cell? ⟨b3, 1, none⟩ = some (.int .i64 on) ∧ w'.cell? ⟨b3, 2, none⟩ = some (.int .i64 vv) ∧ w'.cell? ⟨b3, 3, none⟩ = some (.int .i64 le) ∧ w'.cell? ⟨b3, 4, none⟩ = some k1 ∧ w'.cell? ⟨b3, 5, none⟩ = some (.int .i64 tn) ∧ w'.cell? ⟨b3, 6, none⟩ = some (.int .i64 ii) ∧ w'.cell? ⟨b3, 7, none⟩ = some k2) w') := fun w' hh => ⟨cell_row hh (i := 0) rfl, cell_row hh (i := 1) rfl, cell_row hh (i := 2) rfl, cell_row hh (i := 3) rfl, cell_row hh (i := 4) rfl, cell_row hh (i := 5) rfl, cell_row hh (i := 6) rfl, cell_row hh (i := 7) rfl⟩
      go_upto_region 4 with (go_at_call 6; (with_reducible refine (PI.out _).mono ?_); rintro e9 w9 ⟨rfl, h9⟩; subst w9)
      refine wp_region_held_drew (S := fun w' => w'.cell? ⟨b3, 0, none⟩ = some (.int .i64 5) ∧ w'.cell? ⟨b3, 1, none⟩ = some (.int .i64 on) ∧ w'.cell? ⟨b3, 2, none⟩ = some (.int .i64 vv) ∧ w'.cell? ⟨b3, 3, none⟩ = some (.int .i64 le) ∧ w'.cell? ⟨b3, 4, none⟩ = some k1 ∧ w'.cell? ⟨b3, 5, none⟩ = some (.int .i64 tn) ∧ w'.cell? ⟨b3, 6, none⟩ = some (.int .i64 ii) ∧ w'.cell? ⟨b3, 7, none⟩ = some k2) (by kernel_rfl) (SC.out V0.drew N0.out) (fun hHeld => ?_)
      refine wpAnyH_take (i := 0) (oi := _) (v := ?_) rfl (by kernel_rfl) (by kernel_rfl) (by kernel_rfl) (fun _ _ _ h => h) (Or.inl ⟨by rfl, ?_⟩) (by assumption) ?_
      rotate_left
      · intro wz hSw; obtain ⟨q0, q1, q2, q3, q4, q5, q6, q7⟩ := hSw; go_simp; try with_reducible rfl
      dsimp only [Act.put, List.getElem_toArray, List.getElem_cons_zero, List.getElem_cons_succ]
      simp only [List.setIfInBounds_toArray, List.set_cons_zero, List.set_cons_succ]
      refine wpAnyH_take (i := 1) (oi := _) (v := ?_) rfl (by kernel_rfl) (by kernel_rfl) (by kernel_rfl) (fun _ _ _ h => h) (Or.inl ⟨by rfl, ?_⟩) (by assumption) ?_
      rotate_left
      · intro wz hSw; obtain ⟨q0, q1, q2, q3, q4, q5, q6, q7⟩ := hSw; go_simp; try with_reducible rfl
      dsimp only [Act.put, List.getElem_toArray, List.getElem_cons_zero, List.getElem_cons_succ]
      simp only [List.setIfInBounds_toArray, List.set_cons_zero, List.set_cons_succ]
      refine wpAnyH_take (i := 2) (oi := _) (v := ?_) rfl (by kernel_rfl) (by kernel_rfl) (by kernel_rfl) (fun _ _ _ h => h) (Or.inl ⟨by rfl, ?_⟩) (by assumption) ?_
      rotate_left
      · intro wz hSw; obtain ⟨q0, q1, q2, q3, q4, q5, q6, q7⟩ := hSw; go_simp; try with_reducible rfl
      dsimp only [Act.put, List.getElem_toArray, List.getElem_cons_zero, List.getElem_cons_succ]
      simp only [List.setIfInBounds_toArray, List.set_cons_zero, List.set_cons_succ]
      refine wpAnyH_take (i := 3) (oi := _) (v := ?_) rfl (by kernel_rfl) (by kernel_rfl) (by kernel_rfl) (fun _ _ _ h => h) (Or.inl ⟨by rfl, ?_⟩) (by assumption) ?_
      rotate_left
      · intro wz hSw; obtain ⟨q0, q1, q2, q3, q4, q5, q6, q7⟩ := hSw; go_simp; try with_reducible rfl
      dsimp only [Act.put, List.getElem_toArray, List.getElem_cons_zero, List.getElem_cons_succ]
      simp only [List.setIfInBounds_toArray, List.set_cons_zero, List.set_cons_succ]
      refine wpAnyH_take (i := 4) (oi := _) (v := ?_) rfl (by kernel_rfl) (by kernel_rfl) (by kernel_rfl) (fun _ _ _ h => h) (Or.inl ⟨by rfl, ?_⟩) (by assumption) ?_
      rotate_left
      · intro wz hSw; obtain ⟨q0, q1, q2, q3, q4, q5, q6, q7⟩ := hSw; go_simp; try with_reducible rfl
      dsimp only [Act.put, List.getElem_toArray, List.getElem_cons_zero, List.getElem_cons_succ]
      simp only [List.setIfInBounds_toArray, List.set_cons_zero, List.set_cons_succ]
      refine wpAnyH_take (i := 5) (oi := _) (v := ?_) rfl (by kernel_rfl) (by kernel_rfl) (by kernel_rfl) (fun _ _ _ h => h) (Or.inl ⟨by rfl, ?_⟩) (by assumption) ?_
      rotate_left
      · intro wz hSw; obtain ⟨q0, q1, q2, q3, q4, q5, q6, q7⟩ := hSw; go_simp; try with_reducible rfl
      dsimp only [Act.put, List.getElem_toArray, List.getElem_cons_zero, List.getElem_cons_succ]
      simp only [List.setIfInBounds_toArray, List.set_cons_zero, List.set_cons_succ]
      refine wpAnyH_take (i := 6) (oi := _) (v := ?_) rfl (by kernel_rfl) (by kernel_rfl) (by kernel_rfl) (fun _ _ _ h => h) (Or.inl ⟨by rfl, ?_⟩) (by assumption) ?_
      rotate_left
      · intro wz hSw; obtain ⟨q0, q1, q2, q3, q4, q5, q6, q7⟩ := hSw; go_simp; try with_reducible rfl
      dsimp only [Act.put, List.getElem_toArray, List.getElem_cons_zero, List.getElem_cons_succ]
      simp only [List.setIfInBounds_toArray, List.set_cons_zero, List.set_cons_succ]
      refine wpAnyH_take (i := 9) (oi := _) (v := ?_) rfl (by kernel_rfl) (by kernel_rfl) (by kernel_rfl) (fun _ _ _ h => h) (Or.inl ⟨by rfl, ?_⟩) (by assumption) ?_
      rotate_left
      · intro wz hSw; obtain ⟨q0, q1, q2, q3, q4, q5, q6, q7⟩ := hSw; go_simp; try with_reducible rfl
      dsimp only [Act.put, List.getElem_toArray, List.getElem_cons_zero, List.getElem_cons_succ]
      simp only [List.setIfInBounds_toArray, List.set_cons_zero, List.set_cons_succ]
      refine wpAnyH_ready (rs := [7]) (by kernel_rfl) (by simp) ?_
      refine AllReadyH.cons rfl (fun K hK => ?_) AllReadyH.nil
      go_simp
      refine hK.out _ _ (SC.out V0.drew N0.out) (fun hHeld2 => ?_)
      clear hK K
      refine wpAnyH_ready (rs := [8]) (by kernel_rfl) (by simp) ?_
      refine AllReadyH.cons rfl (fun K hK => ?_) AllReadyH.nil
      go_simp
      go_wp2_with (go_at_call 8; refine (all_c (s i).b _).mono ?_; rintro e9 w9 ⟨rfl, h9⟩; subst w9)
      have N1 : Hid ((V0.alloc (.cells #[.pointer (some ⟨(s i).b, 0, none⟩)] 25)).drew.heap[b3]? = some (.cells #[.int .i64 5, .int .i64 on, .int .i64 vv, .int .i64 le, k1, .int .i64 tn, .int .i64 ii, k2] 46 (0, 0))) := (Below.heap_alloc _ _ _ lb).trans N0.out
      refine hK.out _ _ (SC.out _ N1.out) (fun hHeld3 => ?_)
      clear hK K
      have W1 : Hid (WS W0 wb s ov vs (V0.alloc (.cells #[.pointer (some ⟨(s i).b, 0, none⟩)] 25)).drew) := H0.out.kept ((Below.refl _ _).alloc (Nat.le_refl _) _).drew
      have BA : Hid (Boxed (V0.alloc (.cells #[.pointer (some ⟨(s i).b, 0, none⟩)] 25)).drew V0.heap.size 25 (.pointer (some ⟨(s i).b, 0, none⟩))) := alloc_new V0 _
      have OV := hide3 (over_c W1.out hi2 hvs hBd V0.heap.size BA.out 5 on vv le k1 tn ii k2 key2 wfl wft hk2)
      unfold fnV at OV
      refine wpAnyH_ready (rs := [10]) (by kernel_rfl) (by simp) ?_
      refine AllReadyH.cons rfl (fun K hK => ?_) AllReadyH.nil
      go_simp
      go_wp2_with (go_at_call 18; refine OV.out.mono ?_; rintro e9 V5 ⟨rfl, s5, ov5, vs5, hO5⟩)
      have O5 := hide3 hO5
      have N5 := hide3 (hO5.box W1.out hi2 N1.out)
      clear hO5
      refine hK.out _ _ (SC.out _ N5.out) (fun hHeld4 => ?_)
      clear hK K
      refine wpAnyH_ready (rs := [11]) (by kernel_rfl) (by simp) ?_
      refine AllReadyH.cons rfl (fun K hK => ?_) AllReadyH.nil
      go_simp
      refine hK.out _ _ (SC.out _ N5.out) (fun hHeld5 => ?_)
      clear hK K
      refine wpAnyH_done (by kernel_rfl) ?_ _
      go_wp2
      go_ret
      exact ⟨rfl, O5.out.step⟩
  by_cases h6 : kd = 6
  · as_aux_lemma =>
      subst h6
      have SC : Hid (∀ w' : World, w'.heap[b3]? = some (.cells #[.int .i64 6, .int .i64 on, .int .i64 vv, .int .i64 le, k1, .int .i64 tn, .int .i64 ii, k2] 46 (0, 0)) → (fun w' => w'.cell? ⟨b3, 0, none⟩ = some (.int .i64 6) ∧ w'.cell? ⟨b3, 1, none⟩ = some (.int .i64 on) ∧ w'.cell? ⟨b3, 2, none⟩ = some (.int .i64 vv) ∧ w'.cell? ⟨b3, 3, none⟩ = some (.int .i64 le) ∧ w'.cell? ⟨b3, 4, none⟩ = some k1 ∧ w'.cell? ⟨b3, 5, none⟩ = some (.int .i64 tn) ∧ w'.cell? ⟨b3, 6, none⟩ = some (.int .i64 ii) ∧ w'.cell? ⟨b3, 7, none⟩ = some k2) w') := fun w' hh => ⟨cell_row hh (i := 0) rfl, cell_row hh (i := 1) rfl, cell_row hh (i := 2) rfl, cell_row hh (i := 3) rfl, cell_row hh (i := 4) rfl, cell_row hh (i := 5) rfl, cell_row hh (i := 6) rfl, cell_row hh (i := 7) rfl⟩
      have OV := hide3 (over_c (H0.out.kept (Below.refl _ _).drew) hi2 hvs hBd (s i).ab (H0.out.p i hi2).a 6 on vv le k1 tn ii k2 key2 wfl wft hk2)
      unfold fnV at OV
      go_upto_region 6 with (go_at_call 6; (with_reducible refine (PI.out _).mono ?_); rintro e9 w9 ⟨rfl, h9⟩; subst w9)
      refine wp_region_held_drew (S := fun w' => w'.cell? ⟨b3, 0, none⟩ = some (.int .i64 6) ∧ w'.cell? ⟨b3, 1, none⟩ = some (.int .i64 on) ∧ w'.cell? ⟨b3, 2, none⟩ = some (.int .i64 vv) ∧ w'.cell? ⟨b3, 3, none⟩ = some (.int .i64 le) ∧ w'.cell? ⟨b3, 4, none⟩ = some k1 ∧ w'.cell? ⟨b3, 5, none⟩ = some (.int .i64 tn) ∧ w'.cell? ⟨b3, 6, none⟩ = some (.int .i64 ii) ∧ w'.cell? ⟨b3, 7, none⟩ = some k2) (by kernel_rfl) (SC.out V0.drew N0.out) (fun hHeld => ?_)
      refine wpAnyH_take (i := 0) (oi := _) (v := ?_) rfl (by kernel_rfl) (by kernel_rfl) (by kernel_rfl) (fun _ _ _ h => h) (Or.inl ⟨by rfl, ?_⟩) (by assumption) ?_
      rotate_left
      · intro wz hSw; obtain ⟨q0, q1, q2, q3, q4, q5, q6, q7⟩ := hSw; go_simp; try with_reducible rfl
      dsimp only [Act.put, List.getElem_toArray, List.getElem_cons_zero, List.getElem_cons_succ]
      simp only [List.setIfInBounds_toArray, List.set_cons_zero, List.set_cons_succ]
      refine wpAnyH_take (i := 1) (oi := _) (v := ?_) rfl (by kernel_rfl) (by kernel_rfl) (by kernel_rfl) (fun _ _ _ h => h) (Or.inl ⟨by rfl, ?_⟩) (by assumption) ?_
      rotate_left
      · intro wz hSw; obtain ⟨q0, q1, q2, q3, q4, q5, q6, q7⟩ := hSw; go_simp; try with_reducible rfl
      dsimp only [Act.put, List.getElem_toArray, List.getElem_cons_zero, List.getElem_cons_succ]
      simp only [List.setIfInBounds_toArray, List.set_cons_zero, List.set_cons_succ]
      refine wpAnyH_take (i := 2) (oi := _) (v := ?_) rfl (by kernel_rfl) (by kernel_rfl) (by kernel_rfl) (fun _ _ _ h => h) (Or.inl ⟨by rfl, ?_⟩) (by assumption) ?_
      rotate_left
      · intro wz hSw; obtain ⟨q0, q1, q2, q3, q4, q5, q6, q7⟩ := hSw; go_simp; try with_reducible rfl
      dsimp only [Act.put, List.getElem_toArray, List.getElem_cons_zero, List.getElem_cons_succ]
      simp only [List.setIfInBounds_toArray, List.set_cons_zero, List.set_cons_succ]
      refine wpAnyH_take (i := 3) (oi := _) (v := ?_) rfl (by kernel_rfl) (by kernel_rfl) (by kernel_rfl) (fun _ _ _ h => h) (Or.inl ⟨by rfl, ?_⟩) (by assumption) ?_
      rotate_left
      · intro wz hSw; obtain ⟨q0, q1, q2, q3, q4, q5, q6, q7⟩ := hSw; go_simp; try with_reducible rfl
      dsimp only [Act.put, List.getElem_toArray, List.getElem_cons_zero, List.getElem_cons_succ]
      simp only [List.setIfInBounds_toArray, List.set_cons_zero, List.set_cons_succ]
      refine wpAnyH_take (i := 4) (oi := _) (v := ?_) rfl (by kernel_rfl) (by kernel_rfl) (by kernel_rfl) (fun _ _ _ h => h) (Or.inl ⟨by rfl, ?_⟩) (by assumption) ?_
      rotate_left
      · intro wz hSw; obtain ⟨q0, q1, q2, q3, q4, q5, q6, q7⟩ := hSw; go_simp; try with_reducible rfl
      dsimp only [Act.put, List.getElem_toArray, List.getElem_cons_zero, List.getElem_cons_succ]
      simp only [List.setIfInBounds_toArray, List.set_cons_zero, List.set_cons_succ]
      refine wpAnyH_take (i := 5) (oi := _) (v := ?_) rfl (by kernel_rfl) (by kernel_rfl) (by kernel_rfl) (fun _ _ _ h => h) (Or.inl ⟨by rfl, ?_⟩) (by assumption) ?_
      rotate_left
      · intro wz hSw; obtain ⟨q0, q1, q2, q3, q4, q5, q6, q7⟩ := hSw; go_simp; try with_reducible rfl
      dsimp only [Act.put, List.getElem_toArray, List.getElem_cons_zero, List.getElem_cons_succ]
      simp only [List.setIfInBounds_toArray, List.set_cons_zero, List.set_cons_succ]
      refine wpAnyH_take (i := 6) (oi := _) (v := ?_) rfl (by kernel_rfl) (by kernel_rfl) (by kernel_rfl) (fun _ _ _ h => h) (Or.inl ⟨by rfl, ?_⟩) (by assumption) ?_
      rotate_left
      · intro wz hSw; obtain ⟨q0, q1, q2, q3, q4, q5, q6, q7⟩ := hSw; go_simp; try with_reducible rfl
      dsimp only [Act.put, List.getElem_toArray, List.getElem_cons_zero, List.getElem_cons_succ]
      simp only [List.setIfInBounds_toArray, List.set_cons_zero, List.set_cons_succ]
      refine wpAnyH_take (i := 8) (oi := _) (v := ?_) rfl (by kernel_rfl) (by kernel_rfl) (by kernel_rfl) (fun _ _ _ h => h) (Or.inl ⟨by rfl, ?_⟩) (by assumption) ?_
      rotate_left
      · intro wz hSw; obtain ⟨q0, q1, q2, q3, q4, q5, q6, q7⟩ := hSw; go_simp; try with_reducible rfl
      dsimp only [Act.put, List.getElem_toArray, List.getElem_cons_zero, List.getElem_cons_succ]
      simp only [List.setIfInBounds_toArray, List.set_cons_zero, List.set_cons_succ]
      refine wpAnyH_ready (rs := [7]) (by kernel_rfl) (by simp) ?_
      refine AllReadyH.cons rfl (fun K hK => ?_) AllReadyH.nil
      go_simp
      refine hK.out _ _ (SC.out V0.drew N0.out) (fun hHeld2 => ?_)
      clear hK K
      refine wpAnyH_ready (rs := [9]) (by kernel_rfl) (by simp) ?_
      refine AllReadyH.cons rfl (fun K hK => ?_) AllReadyH.nil
      go_simp
      go_wp2_with (go_at_call 18; refine OV.out.mono ?_; rintro e9 V5 ⟨rfl, s5, ov5, vs5, hO5⟩)
      have O5 := hide3 hO5
      have N5 := hide3 (hO5.box (H0.out.kept (Below.refl _ _).drew) hi2 N0.out)
      clear hO5
      refine hK.out _ _ (SC.out _ N5.out) (fun hHeld4 => ?_)
      clear hK K
      refine wpAnyH_ready (rs := [10]) (by kernel_rfl) (by simp) ?_
      refine AllReadyH.cons rfl (fun K hK => ?_) AllReadyH.nil
      go_simp
      refine hK.out _ _ (SC.out _ N5.out) (fun hHeld5 => ?_)
      clear hK K
      refine wpAnyH_done (by kernel_rfl) ?_ _
      go_wp2
      go_ret
      exact ⟨rfl, O5.out.step⟩
  · as_aux_lemma =>
      have DO := hide3 (does5 (H0.out.ct hi2) (H0.out.cr hi2) hi2 (H0.out.p i hi2) (hk1.below H0.out.bel) (H0.out.f i hi2) hk1.blt kd vv)
      go_wp2_with first | (go_at_call 6; (with_reducible refine (PI.out _).mono ?_); rintro e9 w9 ⟨rfl, h9⟩; subst w9) | (go_at_call 19; (refine DO.out.mono ?_); rintro e9 V5 ⟨rfl, x5, hp5, hn5, hf5⟩; have X5 := hide3 (H0.out.does hi2 hp5 hn5 hf5); clear hp5 hn5 hf5)
      go_ret
      exact ⟨rfl, _, _, _, X5.out, Nat.le_trans (Nat.le_add_right _ _) (Nat.le_add_right _ _)⟩
end Go.Proofs.Ytmfljfedpdipiaa
