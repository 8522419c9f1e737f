/-
  Every script on two tables.
-/
import Derived.Test.YtmfljfedpdipiaaStep3
import Derived.Test.YtmfljfedpdipiaaLoops
import Derived.Laws.EntriesVeiled
namespace Go.Proofs.Ytmfljfedpdipiaa
open Go Go.RowKit Go.Shelf
attribute [local go_sem] Oper.semAt_some ext_cell run_store_func

/-- A step as it comes in. -/
structure Sp where
  kind : Int
  on : Int
  v : Int
  lv : Int
  kv1 : Value
  k1 : List Int
  tn : Int
  ii : Int
  kv2 : Value
  k2 : List Int
structure Sp.Ok (W : World) (x : Sp) : Prop where
  wfo : (Lit.int .i64 x.on).wf = true
  wfl : (Lit.int .i64 x.lv).wf = true
  wft : (Lit.int .i64 x.tn).wf = true
  a1 : ArgK W x.kv1 x.k1
  a2 : ArgK W x.kv2 x.k2
def Sp.At (W : World) (g o : Nat) (x : Sp) : Prop := W.cell? ⟨g, o, none⟩ = some (.int .i64 x.kind) ∧ W.cell? ⟨g, o + 1, none⟩ = some (.int .i64 x.on) ∧ W.cell? ⟨g, o + 2, none⟩ = some (.int .i64 x.v) ∧ W.cell? ⟨g, o + 3, none⟩ = some (.int .i64 x.lv) ∧ W.cell? ⟨g, o + 4, none⟩ = some x.kv1 ∧ W.cell? ⟨g, o + 5, none⟩ = some (.int .i64 x.tn) ∧ W.cell? ⟨g, o + 6, none⟩ = some (.int .i64 x.ii) ∧ W.cell? ⟨g, o + 7, none⟩ = some x.kv2
def ArgS (W : World) (v : Value) (rs : List Sp) : Prop :=
  (∃ p cap, v = .slice p 0 cap ∧ rs = []) ∨ ∃ g off cap, v = .slice (some ⟨g, off, none⟩) rs.length cap ∧ g < W.heap.size ∧ rs.length ≤ cap ∧ cap ≤ maxLen ∧ ∀ (i : Nat) (x : Sp), rs[i]? = some x → x.Ok W ∧ x.At W g (off + i * 8)
theorem ArgS.slice {W : World} {v : Value} {rs : List Sp} (h : ArgS W v rs) : ∃ q cap, v = .slice q rs.length cap ∧ rs.length ≤ maxLen ∧ ∀ (i : Nat) (x : Sp), rs[i]? = some x → ∃ g off, q = some ⟨g, off, none⟩ ∧ g < W.heap.size ∧ x.Ok W ∧ x.At W g (off + i * 8) := by
  rcases h with ⟨p, cap, rfl, rfl⟩ | ⟨g, off, cap, rfl, h1, h2, h3, h4⟩
  · exact ⟨p, cap, rfl, Nat.zero_le _, fun i x hi => by simp at hi⟩
  · exact ⟨_, cap, rfl, Nat.le_trans h2 h3, fun i x hi => ⟨g, off, rfl, h1, (h4 i x hi).1, (h4 i x hi).2⟩⟩
/-- A table that was made just now. -/
def sd0 (b W M rb ab : Nat) : Sd := ⟨b, b, W, M, [], fun _ => none, rb, none, 0, [], 0, ab⟩
theorem sd0_foot {b W M rb ab k : Nat} (h : (sd0 b W M rb ab).foot k) : k = b ∨ k = rb := by
  rcases h with (h | h) | (h | ⟨a, h, _⟩)
  · exact .inl h
  · exact .inl h
  · exact .inr h
  · cases h
theorem sd0_keys {b W M rb ab k : Nat} (h : (sd0 b W M rb ab).keys k) : False := by
  rcases h with ⟨i, e, o, n, m, h, _⟩ | ⟨e, h, _⟩
  · simp [sd0] at h
  · simp [sd0] at h
/-- One side, made. -/
structure Made (V : World) (b W M rb ab : Nat) : Prop where
  tb : TB V b b W M 0 []
  r : V.heap[rb]? = some (.cells #[.int .i64 W, .int .i64 M, .slice none 0 0, .int .i64 0] 41 (0, 0))
  a : Boxed V ab 25 (.pointer (some ⟨b, 0, none⟩))
theorem Made.pw {V : World} {b W M rb ab : Nat} (h : Made V b W M rb ab) : PW V (sd0 b W M rb ab) :=
  ⟨⟨h.tb, fun q => absurd rfl q, maps_bare 0, Nat.zero_le _⟩, fun _ => rfl, ⟨h.r, World.ownsRow_nil _ _ _ _, fun e he => by simp [sd0] at he, Nat.zero_le _⟩, fun _ => ⟨rfl, rfl⟩, h.a, ⟨fun e he => by simp [sd0] at he, List.Pairwise.nil⟩, fun k v => ⟨(fun q => by cases q), (fun ⟨e, he, _⟩ => by simp [sd0] at he)⟩, rfl, Nat.zero_le _, Nat.zero_le _, Nat.zero_le _⟩
theorem Made.fr {V V' : World} {b W M rb ab : Nat} {S : Nat → Prop} (h : Made V b W M rb ab) (hf : Fr S V V') (h1 : ¬ S b) (h2 : ¬ S rb) (h3 : ¬ S ab) : Made V' b W M rb ab :=
  ⟨h.tb.fr hf h1 (fun q => absurd rfl q) (fun k _ i e hi => by simp at hi), (hf.block _ (lt_of_heap h.r) h2).trans h.r, (hf.block _ h.a.lt h3).trans h.a⟩
theorem Made.kept {V V' : World} {b W M rb ab : Nat} (h : Made V b W M rb ab) (hb : Below V.heap.size V V') : Made V' b W M rb ab := h.fr (S := fun _ => False) (Fr.of_below hb) (fun q => q) (fun q => q) (fun q => q)

set_option linter.unusedSimpArgs false in
set_option maxRecDepth 100000 in
set_option maxHeartbeats 16000000 in
theorem law_plays (x0 x1 x2 x3 : Int) (wf0 : (Lit.int .i64 x0).wf = true) (wf1 : (Lit.int .i64 x1).wf = true) (wf2 : (Lit.int .i64 x2).wf = true) (wf3 : (Lit.int .i64 x3).wf = true) (rs : List Sp) (v : Value) (w : World) (hz : ArgS w v rs) :
    Calls Try.prog 3 #[.int .i64 x0, .int .i64 x1, .int .i64 x2, .int .i64 x3, v] w fun e w' => e = .returned (.bool true) ∧ Below w.heap.size w w' := by
  obtain ⟨q, cap, rfl, hlen, hcell⟩ := hz.slice
  have HC : Hid (∀ (i : Nat) (x : Sp), rs[i]? = some x → ∃ g off, q = some ⟨g, off, none⟩ ∧ g < w.heap.size ∧ x.Ok w ∧ x.At w g (off + i * 8)) := hcell
  clear hcell hz
  unfold maxLen at hlen
  obtain ⟨W1, hW1, hp0⟩ := pick_nat x0 129 (by decide)
  obtain ⟨W2, hW2, hp1⟩ := pick_nat x1 129 (by decide)
  obtain ⟨M1, hM1, hp2⟩ := pick_nat x2 1000001 (by decide)
  obtain ⟨M2, hM2, hp3⟩ := pick_nat x3 1000001 (by decide)
  have P0 : Hid (∀ W : World, Calls Try.prog 6 #[.int .i64 x0, .int .i64 129] W fun e w' => e = .returned (.int .i64 (W1 : Int)) ∧ w' = W) := fun W => by
    have := pick_i x0 129 (by decide) (by decide) wf0 W
    rw [hp0] at this
    exact this
  have P1 : Hid (∀ W : World, Calls Try.prog 6 #[.int .i64 x1, .int .i64 129] W fun e w' => e = .returned (.int .i64 (W2 : Int)) ∧ w' = W) := fun W => by
    have := pick_i x1 129 (by decide) (by decide) wf1 W
    rw [hp1] at this
    exact this
  have P2 : Hid (∀ W : World, Calls Try.prog 6 #[.int .i64 x2, .int .i64 1000001] W fun e w' => e = .returned (.int .i64 (M1 : Int)) ∧ w' = W) := fun W => by
    have := pick_i x2 1000001 (by decide) (by decide) wf2 W
    rw [hp2] at this
    exact this
  have P3 : Hid (∀ W : World, Calls Try.prog 6 #[.int .i64 x3, .int .i64 1000001] W fun e w' => e = .returned (.int .i64 (M2 : Int)) ∧ w' = W) := fun W => by
    have := pick_i x3 1000001 (by decide) (by decide) wf3 W
    rw [hp3] at this
    exact this
  have hA1 : W1 ≤ 128 := by omega
  have hA2 : W2 ≤ 128 := by omega
  have hB1 : M1 ≤ 1000000 := by omega
  have hB2 : M2 ≤ 1000000 := by omega
  clear hp0 hp1 hp2 hp3
  go_enter Try.func3, Try.ntmps3
  go_upto_region 4 with (go_at_call 5; refine (known_c _).mono ?_; rintro e w1 ⟨rfl, hb1⟩; have B1 : Hid (Below w.heap.size w w1) := hb1; clear hb1)
  have HW0 : Hid ((w1.alloc (.cells #[.pointer none, .pointer none, .pointer none, .pointer none, .nilFunc, .nilFunc, .slice none 0 0] 34)).heap[w1.heap.size]? = some (.cells #[.pointer none, .pointer none, .pointer none, .pointer none, .nilFunc, .nilFunc, .slice none 0 0] 34 (0, 0))) := World.alloc_heap_new w1 _
  have HB0 : Hid (Below w.heap.size w (w1.alloc (.cells #[.pointer none, .pointer none, .pointer none, .pointer none, .nilFunc, .nilFunc, .slice none 0 0] 34)) ∧ w.heap.size ≤ w1.heap.size) := ⟨B1.out.alloc B1.out.size _, B1.out.size⟩
  generalize (w1.alloc (.cells #[.pointer none, .pointer none, .pointer none, .pointer none, .nilFunc, .nilFunc, .slice none 0 0] 34)) = V0 at HW0 HB0 ⊢
  generalize w1.heap.size = wb at HW0 HB0 ⊢
  clear B1
  refine wp_loop_unr 3 ?_
  refine unr_succ ?_
  go_upto_region 14 with first | (go_at_call 6; (with_reducible refine (P0.out _).mono ?_); rintro e9 w9 ⟨rfl, h9⟩; subst w9) | (go_at_call 6; (with_reducible refine (P2.out _).mono ?_); rintro e9 w9 ⟨rfl, h9⟩; subst w9) | (go_at_call 7; (with_reducible refine (new_c W1 M1 hA1 hB1 _).mono ?_); rintro e9 w50 ⟨rfl, hT, hb⟩; have T50 := hide3 hT; have B50 := hide3 hb; clear hT hb)
  obtain ⟨b0, hb0⟩ : ∃ x, V0.heap.size = x := ⟨_, rfl⟩
  have HW50 : Hid (w50.heap[wb]? = some (.cells #[.pointer none, .pointer none, .pointer none, .pointer none, .nilFunc, .nilFunc, .slice none 0 0] 34 (0, 0))) := (B50.out.block wb (lt_of_heap HW0.out)).trans HW0.out
  rw [hb0] at T50
  try rw [hb0]
  have LB0 : Hid (wb < b0) := (by have := lt_of_heap HW0.out; omega : wb < b0)
  have ct0 : w50.cell? ⟨wb, 0, none⟩ = some (.pointer none) := cell_row HW50.out (i := 0) rfl
  have ft0 := frz_row HW50.out 0
  go_upto_region 15 with fail
  have HW60 : Hid ((w50.setCell ⟨wb, 0, none⟩ (.pointer (some ⟨b0, 0, none⟩))).heap[wb]? = some (.cells #[.pointer (some ⟨b0, 0, none⟩), .pointer none, .pointer none, .pointer none, .nilFunc, .nilFunc, .slice none 0 0] 34 (0, 0))) := heap_set_in HW50.out 0 _
  have F60 : Hid (Fr (fun z => z = wb) V0 (w50.setCell ⟨wb, 0, none⟩ (.pointer (some ⟨b0, 0, none⟩)))) := Fr.setCell (S := fun z => z = wb) (p := ⟨wb, 0, none⟩) (Fr.of_below B50.out) rfl _
  have T60 : Hid (TB (w50.setCell ⟨wb, 0, none⟩ (.pointer (some ⟨b0, 0, none⟩))) b0 b0 W1 M1 0 []) := T50.out.fr ((Fr.refl (fun z => z = wb) w50).setCell (p := ⟨wb, 0, none⟩) rfl _) (by have := LB0.out; omega) (fun q => absurd rfl q) (fun k _ i e hi => by simp at hi)
  clear ct0 ft0 T50 HW50 B50
  generalize (w50.setCell ⟨wb, 0, none⟩ (.pointer (some ⟨b0, 0, none⟩))) = V60 at HW60 F60 T60 ⊢
  obtain ⟨r0, hr0⟩ : ∃ x, V60.heap.size = x := ⟨_, rfl⟩
  have HW70 : Hid ((V60.alloc (.cells #[.int .i64 (W1 : Int), .int .i64 (M1 : Int), .slice none 0 0, .int .i64 0] 41)).heap[wb]? = some (.cells #[.pointer (some ⟨b0, 0, none⟩), .pointer none, .pointer none, .pointer none, .nilFunc, .nilFunc, .slice none 0 0] 34 (0, 0))) := (Below.heap_alloc _ _ _ (lt_of_heap HW60.out)).trans HW60.out
  have cr0 : (V60.alloc (.cells #[.int .i64 (W1 : Int), .int .i64 (M1 : Int), .slice none 0 0, .int .i64 0] 41)).cell? ⟨wb, 2, none⟩ = some (.pointer none) := cell_row HW70.out (i := 2) rfl
  have fr0 := frz_row HW70.out 2
  go_upto_region 16 with fail
  try rw [hr0]
  have LR0 : Hid (wb < r0) := (by have := lt_of_heap HW60.out; omega : wb < r0)
  have HW80 : Hid (((V60.alloc (.cells #[.int .i64 (W1 : Int), .int .i64 (M1 : Int), .slice none 0 0, .int .i64 0] 41)).setCell ⟨wb, 2, none⟩ (.pointer (some ⟨r0, 0, none⟩))).heap[wb]? = some (.cells #[.pointer (some ⟨b0, 0, none⟩), .pointer none, .pointer (some ⟨r0, 0, none⟩), .pointer none, .nilFunc, .nilFunc, .slice none 0 0] 34 (0, 0))) := heap_set_in HW70.out 2 _
  have F80 : Hid (Fr (fun z => z = wb) V60 ((V60.alloc (.cells #[.int .i64 (W1 : Int), .int .i64 (M1 : Int), .slice none 0 0, .int .i64 0] 41)).setCell ⟨wb, 2, none⟩ (.pointer (some ⟨r0, 0, none⟩)))) := ((Fr.refl (fun z => z = wb) V60).alloc _).setCell (p := ⟨wb, 2, none⟩) rfl _
  have R80 : Hid (((V60.alloc (.cells #[.int .i64 (W1 : Int), .int .i64 (M1 : Int), .slice none 0 0, .int .i64 0] 41)).setCell ⟨wb, 2, none⟩ (.pointer (some ⟨r0, 0, none⟩))).heap[r0]? = some (.cells #[.int .i64 (W1 : Int), .int .i64 (M1 : Int), .slice none 0 0, .int .i64 0] 41 (0, 0))) := (Below.heap_setCell _ _ _ _ (by have := LR0.out; simp; omega)).trans (by rw [← hr0]; exact World.alloc_heap_new V60 _)
  clear cr0 fr0 HW70
  generalize ((V60.alloc (.cells #[.int .i64 (W1 : Int), .int .i64 (M1 : Int), .slice none 0 0, .int .i64 0] 41)).setCell ⟨wb, 2, none⟩ (.pointer (some ⟨r0, 0, none⟩))) = V80 at HW80 F80 R80 ⊢
  obtain ⟨a0, ha0⟩ : ∃ x, V80.heap.size = x := ⟨_, rfl⟩
  have hT0 : True := trivial
  refine wp_region_held_drew (S := fun _ : World => True) (by kernel_rfl) hT0 (fun hHeld => ?_)
  refine wpAnyH_take (i := 0) (oi := _) (v := ?_) rfl (by kernel_rfl) (by kernel_rfl) (by kernel_rfl) (fun _ _ _ h => h) (Or.inl ⟨by rfl, ?_⟩) (by assumption) ?_
  rotate_left
  · intro wz hSw; go_simp; try with_reducible rfl
  dsimp only [Act.put, List.getElem_toArray, List.getElem_cons_zero, List.getElem_cons_succ]
  simp only [List.setIfInBounds_toArray, List.set_cons_zero, List.set_cons_succ]
  refine wpAnyH_take (i := 1) (oi := _) (v := ?_) rfl (by kernel_rfl) (by kernel_rfl) (by kernel_rfl) (fun _ _ _ h => h) (Or.inl ⟨by rfl, ?_⟩) (by assumption) ?_
  rotate_left
  · intro wz hSw; go_simp; try with_reducible rfl
  dsimp only [Act.put, List.getElem_toArray, List.getElem_cons_zero, List.getElem_cons_succ]
  simp only [List.setIfInBounds_toArray, List.set_cons_zero, List.set_cons_succ]
  refine wpAnyH_take (i := 2) (oi := _) (v := ?_) rfl (by kernel_rfl) (by kernel_rfl) (by kernel_rfl) (fun _ _ _ h => h) (Or.inl ⟨by rfl, ?_⟩) (by assumption) ?_
  rotate_left
  · intro wz hSw; go_simp; try with_reducible rfl
  dsimp only [Act.put, List.getElem_toArray, List.getElem_cons_zero, List.getElem_cons_succ]
  simp only [List.setIfInBounds_toArray, List.set_cons_zero, List.set_cons_succ]
  refine wpAnyH_take (i := 4) (oi := _) (v := ?_) rfl (by kernel_rfl) (by kernel_rfl) (by kernel_rfl) (fun _ _ _ h => h) (Or.inl ⟨by rfl, ?_⟩) (by assumption) ?_
  rotate_left
  · intro wz hSw; go_simp; try with_reducible rfl
  dsimp only [Act.put, List.getElem_toArray, List.getElem_cons_zero, List.getElem_cons_succ]
  simp only [List.setIfInBounds_toArray, List.set_cons_zero, List.set_cons_succ]
  refine wpAnyH_take (i := 5) (oi := _) (v := ?_) rfl (by kernel_rfl) (by kernel_rfl) (by kernel_rfl) (fun _ _ _ h => h) (Or.inl ⟨by rfl, ?_⟩) (by assumption) ?_
  rotate_left
  · intro wz hSw; go_simp; try with_reducible rfl
  dsimp only [Act.put, List.getElem_toArray, List.getElem_cons_zero, List.getElem_cons_succ]
  simp only [List.setIfInBounds_toArray, List.set_cons_zero, List.set_cons_succ]
  refine wpAnyH_ready (rs := [3]) (by kernel_rfl) (by simp) ?_
  refine AllReadyH.cons rfl (fun K hK => ?_) AllReadyH.nil
  go_simp
  go_wp2_with (go_at_call 8; refine (all_c b0 _).mono ?_; rintro e9 w9 ⟨rfl, h9⟩; subst w9)
  refine hK.out _ _ trivial (fun hHeld2 => ?_)
  clear hK K
  have HW90 : Hid ((V80.alloc (.cells #[.pointer (some ⟨b0, 0, none⟩)] 25)).drew.heap[wb]? = some (.cells #[.pointer (some ⟨b0, 0, none⟩), .pointer none, .pointer (some ⟨r0, 0, none⟩), .pointer none, .nilFunc, .nilFunc, .slice none 0 0] 34 (0, 0))) := (Below.heap_alloc _ _ _ (lt_of_heap HW80.out)).trans HW80.out
  have BX0 : Hid (Below V80.heap.size V80 (V80.alloc (.cells #[.pointer (some ⟨b0, 0, none⟩)] 25)).drew) := ((Below.refl _ _).alloc (Nat.le_refl _) _).drew
  have A90 : Hid (Boxed (V80.alloc (.cells #[.pointer (some ⟨b0, 0, none⟩)] 25)).drew V80.heap.size 25 (.pointer (some ⟨b0, 0, none⟩))) := alloc_new V80 _
  generalize (V80.alloc (.cells #[.pointer (some ⟨b0, 0, none⟩)] 25)).drew = V90 at HW90 BX0 A90 ⊢
  rw [ha0] at A90
  refine wpAnyH_take (i := 6) (oi := _) (v := ?_) rfl (by kernel_rfl) (by kernel_rfl) (by kernel_rfl) (fun _ _ _ h => h) (Or.inl ⟨by rfl, ?_⟩) (by assumption) ?_
  rotate_left
  · intro wz hSw; go_simp; try with_reducible rfl
  dsimp only [Act.put, List.getElem_toArray, List.getElem_cons_zero, List.getElem_cons_succ]
  simp only [List.setIfInBounds_toArray, List.set_cons_zero, List.set_cons_succ]
  have ca0 : V90.cell? ⟨wb, 4, none⟩ = some (.nilFunc) := cell_row HW90.out (i := 4) rfl
  have fa0 := frz_row HW90.out 4
  refine wpAnyH_ready (rs := [7]) (by kernel_rfl) (by simp) ?_
  refine AllReadyH.cons rfl (fun K hK => ?_) AllReadyH.nil
  go_simp
  try rw [ha0]
  refine hK.out _ _ trivial (fun hHeld3 => ?_)
  clear hK K
  refine wpAnyH_done (by kernel_rfl) ?_ _
  have HW1 : Hid ((V90.setCell ⟨wb, 4, none⟩ (.func (.func 15) #[] #[.pointer (some ⟨a0, 0, none⟩)])).heap[wb]? = some (.cells #[.pointer (some ⟨b0, 0, none⟩), .pointer none, .pointer (some ⟨r0, 0, none⟩), .pointer none, .func (.func 15) #[] #[.pointer (some ⟨a0, 0, none⟩)], .nilFunc, .slice none 0 0] 34 (0, 0))) := heap_set_in HW90.out 4 _
  have FX0 : Hid (Fr (fun z => z = wb) V90 (V90.setCell ⟨wb, 4, none⟩ (.func (.func 15) #[] #[.pointer (some ⟨a0, 0, none⟩)]))) := (Fr.refl (fun z => z = wb) V90).setCell (p := ⟨wb, 4, none⟩) rfl _
  have LA0 : Hid (wb < a0) := (by have := lt_of_heap HW80.out; omega : wb < a0)
  have F90 : Hid (Fr (fun z => z = wb) V80 (V90.setCell ⟨wb, 4, none⟩ (.func (.func 15) #[] #[.pointer (some ⟨a0, 0, none⟩)]))) := (Fr.of_below BX0.out : Fr (fun z => z = wb) V80 V90).trans FX0.out
  have FV0 : Hid (Fr (fun z => z = wb) V0 (V90.setCell ⟨wb, 4, none⟩ (.func (.func 15) #[] #[.pointer (some ⟨a0, 0, none⟩)]))) := (F60.out.trans F80.out).trans F90.out
  have MD0 : Hid (Made (V90.setCell ⟨wb, 4, none⟩ (.func (.func 15) #[] #[.pointer (some ⟨a0, 0, none⟩)])) b0 W1 M1 r0 a0) := ⟨T60.out.fr (F80.out.trans F90.out) (by have := LB0.out; omega) (fun q => absurd rfl q) (fun k _ i e hi => by simp at hi), (F90.out.block _ (lt_of_heap R80.out) (by have := LR0.out; omega)).trans R80.out, (FX0.out.block _ A90.out.lt (by have := LA0.out; omega)).trans A90.out⟩
  have SZ0 : Hid (V0.heap.size ≤ b0 ∧ V0.heap.size ≤ r0 ∧ V0.heap.size ≤ a0 ∧ b0 < r0 ∧ r0 < a0) := hide3 (by
    have e1 := F60.out.size
    have e2 := F80.out.size
    have e3 := lt_of_heap T60.out.hb
    have e4 := lt_of_heap R80.out
    omega)
  clear HW90 BX0 A90 ca0 fa0 hHeld hHeld2 hHeld3 F60 F80 F90 FX0 T60 R80 HW60 HW80 HW0 hT0 hb0 hr0 ha0
  generalize (V90.setCell ⟨wb, 4, none⟩ (.func (.func 15) #[] #[.pointer (some ⟨a0, 0, none⟩)])) = VN0 at HW1 FV0 MD0 ⊢
  go_wp2
  refine unr_succ ?_
  go_upto_region 14 with first | (go_at_call 6; (with_reducible refine (P0.out _).mono ?_); rintro e9 w9 ⟨rfl, h9⟩; subst w9) | (go_at_call 6; (with_reducible refine (P1.out _).mono ?_); rintro e9 w9 ⟨rfl, h9⟩; subst w9) | (go_at_call 6; (with_reducible refine (P2.out _).mono ?_); rintro e9 w9 ⟨rfl, h9⟩; subst w9) | (go_at_call 6; (with_reducible refine (P3.out _).mono ?_); rintro e9 w9 ⟨rfl, h9⟩; subst w9) | (go_at_call 7; (with_reducible refine (new_c W2 M2 hA2 hB2 _).mono ?_); rintro e9 w51 ⟨rfl, hT, hb⟩; have T51 := hide3 hT; have B51 := hide3 hb; clear hT hb)
  obtain ⟨b1, hb1⟩ : ∃ x, VN0.heap.size = x := ⟨_, rfl⟩
  have HW51 : Hid (w51.heap[wb]? = some (.cells #[.pointer (some ⟨b0, 0, none⟩), .pointer none, .pointer (some ⟨r0, 0, none⟩), .pointer none, .func (.func 15) #[] #[.pointer (some ⟨a0, 0, none⟩)], .nilFunc, .slice none 0 0] 34 (0, 0))) := (B51.out.block wb (lt_of_heap HW1.out)).trans HW1.out
  rw [hb1] at T51
  try rw [hb1]
  have LB1 : Hid (wb < b1) := (by have := lt_of_heap HW1.out; omega : wb < b1)
  have ct1 : w51.cell? ⟨wb, 1, none⟩ = some (.pointer none) := cell_row HW51.out (i := 1) rfl
  have ft1 := frz_row HW51.out 1
  go_upto_region 15 with fail
  have HW61 : Hid ((w51.setCell ⟨wb, 1, none⟩ (.pointer (some ⟨b1, 0, none⟩))).heap[wb]? = some (.cells #[.pointer (some ⟨b0, 0, none⟩), .pointer (some ⟨b1, 0, none⟩), .pointer (some ⟨r0, 0, none⟩), .pointer none, .func (.func 15) #[] #[.pointer (some ⟨a0, 0, none⟩)], .nilFunc, .slice none 0 0] 34 (0, 0))) := heap_set_in HW51.out 1 _
  have F61 : Hid (Fr (fun z => z = wb) VN0 (w51.setCell ⟨wb, 1, none⟩ (.pointer (some ⟨b1, 0, none⟩)))) := Fr.setCell (S := fun z => z = wb) (p := ⟨wb, 1, none⟩) (Fr.of_below B51.out) rfl _
  have T61 : Hid (TB (w51.setCell ⟨wb, 1, none⟩ (.pointer (some ⟨b1, 0, none⟩))) b1 b1 W2 M2 0 []) := T51.out.fr ((Fr.refl (fun z => z = wb) w51).setCell (p := ⟨wb, 1, none⟩) rfl _) (by have := LB1.out; omega) (fun q => absurd rfl q) (fun k _ i e hi => by simp at hi)
  clear ct1 ft1 T51 HW51 B51
  generalize (w51.setCell ⟨wb, 1, none⟩ (.pointer (some ⟨b1, 0, none⟩))) = V61 at HW61 F61 T61 ⊢
  obtain ⟨r1, hr1⟩ : ∃ x, V61.heap.size = x := ⟨_, rfl⟩
  have HW71 : Hid ((V61.alloc (.cells #[.int .i64 (W2 : Int), .int .i64 (M2 : Int), .slice none 0 0, .int .i64 0] 41)).heap[wb]? = some (.cells #[.pointer (some ⟨b0, 0, none⟩), .pointer (some ⟨b1, 0, none⟩), .pointer (some ⟨r0, 0, none⟩), .pointer none, .func (.func 15) #[] #[.pointer (some ⟨a0, 0, none⟩)], .nilFunc, .slice none 0 0] 34 (0, 0))) := (Below.heap_alloc _ _ _ (lt_of_heap HW61.out)).trans HW61.out
  have cr1 : (V61.alloc (.cells #[.int .i64 (W2 : Int), .int .i64 (M2 : Int), .slice none 0 0, .int .i64 0] 41)).cell? ⟨wb, 3, none⟩ = some (.pointer none) := cell_row HW71.out (i := 3) rfl
  have fr1 := frz_row HW71.out 3
  go_upto_region 16 with fail
  try rw [hr1]
  have LR1 : Hid (wb < r1) := (by have := lt_of_heap HW61.out; omega : wb < r1)
  have HW81 : Hid (((V61.alloc (.cells #[.int .i64 (W2 : Int), .int .i64 (M2 : Int), .slice none 0 0, .int .i64 0] 41)).setCell ⟨wb, 3, none⟩ (.pointer (some ⟨r1, 0, none⟩))).heap[wb]? = some (.cells #[.pointer (some ⟨b0, 0, none⟩), .pointer (some ⟨b1, 0, none⟩), .pointer (some ⟨r0, 0, none⟩), .pointer (some ⟨r1, 0, none⟩), .func (.func 15) #[] #[.pointer (some ⟨a0, 0, none⟩)], .nilFunc, .slice none 0 0] 34 (0, 0))) := heap_set_in HW71.out 3 _
  have F81 : Hid (Fr (fun z => z = wb) V61 ((V61.alloc (.cells #[.int .i64 (W2 : Int), .int .i64 (M2 : Int), .slice none 0 0, .int .i64 0] 41)).setCell ⟨wb, 3, none⟩ (.pointer (some ⟨r1, 0, none⟩)))) := ((Fr.refl (fun z => z = wb) V61).alloc _).setCell (p := ⟨wb, 3, none⟩) rfl _
  have R81 : Hid (((V61.alloc (.cells #[.int .i64 (W2 : Int), .int .i64 (M2 : Int), .slice none 0 0, .int .i64 0] 41)).setCell ⟨wb, 3, none⟩ (.pointer (some ⟨r1, 0, none⟩))).heap[r1]? = some (.cells #[.int .i64 (W2 : Int), .int .i64 (M2 : Int), .slice none 0 0, .int .i64 0] 41 (0, 0))) := (Below.heap_setCell _ _ _ _ (by have := LR1.out; simp; omega)).trans (by rw [← hr1]; exact World.alloc_heap_new V61 _)
  clear cr1 fr1 HW71
  generalize ((V61.alloc (.cells #[.int .i64 (W2 : Int), .int .i64 (M2 : Int), .slice none 0 0, .int .i64 0] 41)).setCell ⟨wb, 3, none⟩ (.pointer (some ⟨r1, 0, none⟩))) = V81 at HW81 F81 R81 ⊢
  obtain ⟨a1, ha1⟩ : ∃ x, V81.heap.size = x := ⟨_, rfl⟩
  have hT1 : True := trivial
  refine wp_region_held_drew (S := fun _ : World => True) (by kernel_rfl) hT1 (fun hHeld => ?_)
  refine wpAnyH_take (i := 0) (oi := _) (v := ?_) rfl (by kernel_rfl) (by kernel_rfl) (by kernel_rfl) (fun _ _ _ h => h) (Or.inl ⟨by rfl, ?_⟩) (by assumption) ?_
  rotate_left
  · intro wz hSw; go_simp; try with_reducible rfl
  dsimp only [Act.put, List.getElem_toArray, List.getElem_cons_zero, List.getElem_cons_succ]
  simp only [List.setIfInBounds_toArray, List.set_cons_zero, List.set_cons_succ]
  refine wpAnyH_take (i := 1) (oi := _) (v := ?_) rfl (by kernel_rfl) (by kernel_rfl) (by kernel_rfl) (fun _ _ _ h => h) (Or.inl ⟨by rfl, ?_⟩) (by assumption) ?_
  rotate_left
  · intro wz hSw; go_simp; try with_reducible rfl
  dsimp only [Act.put, List.getElem_toArray, List.getElem_cons_zero, List.getElem_cons_succ]
  simp only [List.setIfInBounds_toArray, List.set_cons_zero, List.set_cons_succ]
  refine wpAnyH_take (i := 2) (oi := _) (v := ?_) rfl (by kernel_rfl) (by kernel_rfl) (by kernel_rfl) (fun _ _ _ h => h) (Or.inl ⟨by rfl, ?_⟩) (by assumption) ?_
  rotate_left
  · intro wz hSw; go_simp; try with_reducible rfl
  dsimp only [Act.put, List.getElem_toArray, List.getElem_cons_zero, List.getElem_cons_succ]
  simp only [List.setIfInBounds_toArray, List.set_cons_zero, List.set_cons_succ]
  refine wpAnyH_take (i := 4) (oi := _) (v := ?_) rfl (by kernel_rfl) (by kernel_rfl) (by kernel_rfl) (fun _ _ _ h => h) (Or.inl ⟨by rfl, ?_⟩) (by assumption) ?_
  rotate_left
  · intro wz hSw; go_simp; try with_reducible rfl
  dsimp only [Act.put, List.getElem_toArray, List.getElem_cons_zero, List.getElem_cons_succ]
  simp only [List.setIfInBounds_toArray, List.set_cons_zero, List.set_cons_succ]
  refine wpAnyH_take (i := 5) (oi := _) (v := ?_) rfl (by kernel_rfl) (by kernel_rfl) (by kernel_rfl) (fun _ _ _ h => h) (Or.inl ⟨by rfl, ?_⟩) (by assumption) ?_
  rotate_left
  · intro wz hSw; go_simp; try with_reducible rfl
  dsimp only [Act.put, List.getElem_toArray, List.getElem_cons_zero, List.getElem_cons_succ]
  simp only [List.setIfInBounds_toArray, List.set_cons_zero, List.set_cons_succ]
  refine wpAnyH_ready (rs := [3]) (by kernel_rfl) (by simp) ?_
  refine AllReadyH.cons rfl (fun K hK => ?_) AllReadyH.nil
  go_simp
  go_wp2_with (go_at_call 8; refine (all_c b1 _).mono ?_; rintro e9 w9 ⟨rfl, h9⟩; subst w9)
  refine hK.out _ _ trivial (fun hHeld2 => ?_)
  clear hK K
  have HW91 : Hid ((V81.alloc (.cells #[.pointer (some ⟨b1, 0, none⟩)] 25)).drew.heap[wb]? = some (.cells #[.pointer (some ⟨b0, 0, none⟩), .pointer (some ⟨b1, 0, none⟩), .pointer (some ⟨r0, 0, none⟩), .pointer (some ⟨r1, 0, none⟩), .func (.func 15) #[] #[.pointer (some ⟨a0, 0, none⟩)], .nilFunc, .slice none 0 0] 34 (0, 0))) := (Below.heap_alloc _ _ _ (lt_of_heap HW81.out)).trans HW81.out
  have BX1 : Hid (Below V81.heap.size V81 (V81.alloc (.cells #[.pointer (some ⟨b1, 0, none⟩)] 25)).drew) := ((Below.refl _ _).alloc (Nat.le_refl _) _).drew
  have A91 : Hid (Boxed (V81.alloc (.cells #[.pointer (some ⟨b1, 0, none⟩)] 25)).drew V81.heap.size 25 (.pointer (some ⟨b1, 0, none⟩))) := alloc_new V81 _
  generalize (V81.alloc (.cells #[.pointer (some ⟨b1, 0, none⟩)] 25)).drew = V91 at HW91 BX1 A91 ⊢
  rw [ha1] at A91
  refine wpAnyH_take (i := 6) (oi := _) (v := ?_) rfl (by kernel_rfl) (by kernel_rfl) (by kernel_rfl) (fun _ _ _ h => h) (Or.inl ⟨by rfl, ?_⟩) (by assumption) ?_
  rotate_left
  · intro wz hSw; go_simp; try with_reducible rfl
  dsimp only [Act.put, List.getElem_toArray, List.getElem_cons_zero, List.getElem_cons_succ]
  simp only [List.setIfInBounds_toArray, List.set_cons_zero, List.set_cons_succ]
  have ca1 : V91.cell? ⟨wb, 5, none⟩ = some (.nilFunc) := cell_row HW91.out (i := 5) rfl
  have fa1 := frz_row HW91.out 5
  refine wpAnyH_ready (rs := [7]) (by kernel_rfl) (by simp) ?_
  refine AllReadyH.cons rfl (fun K hK => ?_) AllReadyH.nil
  go_simp
  try rw [ha1]
  refine hK.out _ _ trivial (fun hHeld3 => ?_)
  clear hK K
  refine wpAnyH_done (by kernel_rfl) ?_ _
  have HW2 : Hid ((V91.setCell ⟨wb, 5, none⟩ (.func (.func 15) #[] #[.pointer (some ⟨a1, 0, none⟩)])).heap[wb]? = some (.cells #[.pointer (some ⟨b0, 0, none⟩), .pointer (some ⟨b1, 0, none⟩), .pointer (some ⟨r0, 0, none⟩), .pointer (some ⟨r1, 0, none⟩), .func (.func 15) #[] #[.pointer (some ⟨a0, 0, none⟩)], .func (.func 15) #[] #[.pointer (some ⟨a1, 0, none⟩)], .slice none 0 0] 34 (0, 0))) := heap_set_in HW91.out 5 _
  have FX1 : Hid (Fr (fun z => z = wb) V91 (V91.setCell ⟨wb, 5, none⟩ (.func (.func 15) #[] #[.pointer (some ⟨a1, 0, none⟩)]))) := (Fr.refl (fun z => z = wb) V91).setCell (p := ⟨wb, 5, none⟩) rfl _
  have LA1 : Hid (wb < a1) := (by have := lt_of_heap HW81.out; omega : wb < a1)
  have F91 : Hid (Fr (fun z => z = wb) V81 (V91.setCell ⟨wb, 5, none⟩ (.func (.func 15) #[] #[.pointer (some ⟨a1, 0, none⟩)]))) := (Fr.of_below BX1.out : Fr (fun z => z = wb) V81 V91).trans FX1.out
  have FV1 : Hid (Fr (fun z => z = wb) VN0 (V91.setCell ⟨wb, 5, none⟩ (.func (.func 15) #[] #[.pointer (some ⟨a1, 0, none⟩)]))) := (F61.out.trans F81.out).trans F91.out
  have MD1 : Hid (Made (V91.setCell ⟨wb, 5, none⟩ (.func (.func 15) #[] #[.pointer (some ⟨a1, 0, none⟩)])) b1 W2 M2 r1 a1) := ⟨T61.out.fr (F81.out.trans F91.out) (by have := LB1.out; omega) (fun q => absurd rfl q) (fun k _ i e hi => by simp at hi), (F91.out.block _ (lt_of_heap R81.out) (by have := LR1.out; omega)).trans R81.out, (FX1.out.block _ A91.out.lt (by have := LA1.out; omega)).trans A91.out⟩
  have SZ1 : Hid (VN0.heap.size ≤ b1 ∧ VN0.heap.size ≤ r1 ∧ VN0.heap.size ≤ a1 ∧ b1 < r1 ∧ r1 < a1) := hide3 (by
    have e1 := F61.out.size
    have e2 := F81.out.size
    have e3 := lt_of_heap T61.out.hb
    have e4 := lt_of_heap R81.out
    omega)
  clear HW91 BX1 A91 ca1 fa1 hHeld hHeld2 hHeld3 F61 F81 F91 FX1 T61 R81 HW61 HW81 HW1 hT1 hb1 hr1 ha1
  generalize (V91.setCell ⟨wb, 5, none⟩ (.func (.func 15) #[] #[.pointer (some ⟨a1, 0, none⟩)])) = VN1 at HW2 FV1 MD1 ⊢
  go_wp2
  refine unr_succ ?_
  go_upto_region 18 with fail
  have SS : Hid (WS w wb (fun j => if j = 0 then sd0 b0 W1 M1 r0 a0 else sd0 b1 W2 M2 r1 a1) (.slice none 0 0) [] VN1) := by
    obtain ⟨z1, z2, z3, z4, z5⟩ := SZ0.out
    obtain ⟨y1, y2, y3, y4, y5⟩ := SZ1.out
    have l0 := lt_of_heap MD0.out.tb.hb
    have l1 := lt_of_heap MD0.out.r
    have l2 := MD0.out.a.lt
    have lw := LB0.out
    have hw := HB0.out.2
    have s0 := FV0.out.size
    have s1 := HB0.out.1.size
    refine ⟨HW2.out, fun i hi => ?_, fun i j hi hj hne k hk hk' => ?_, ⟨World.ownsRow_nil _ _ _ _, fun i v hv => by simp at hv⟩, fun i hi k hk => ?_, hw, (HB0.out.1.trans (FV0.out.below s1 (fun k e => by omega))).trans (FV1.out.below (by omega) (fun k e => by omega))⟩
    · have : i = 0 ∨ i = 1 := by omega
      rcases this with rfl | rfl
      · exact (MD0.out.fr FV1.out (by omega) (by omega) (by omega)).pw
      · exact MD1.out.pw
    · have e1 : i = 0 ∧ j = 1 ∨ i = 1 ∧ j = 0 := by omega
      rcases e1 with ⟨rfl, rfl⟩ | ⟨rfl, rfl⟩
      · have h1 := sd0_foot (show (sd0 b0 W1 M1 r0 a0).foot k from hk)
        have h2 := sd0_foot (show (sd0 b1 W2 M2 r1 a1).foot k from hk')
        omega
      · have h1 := sd0_foot (show (sd0 b1 W2 M2 r1 a1).foot k from hk)
        have h2 := sd0_foot (show (sd0 b0 W1 M1 r0 a0).foot k from hk')
        omega
    · have e1 : i = 0 ∨ i = 1 := by omega
      rcases e1 with rfl | rfl
      · have h1 := sd0_foot (show (sd0 b0 W1 M1 r0 a0).foot k from hk)
        omega
      · have h1 := sd0_foot (show (sd0 b1 W2 M2 r1 a1).foot k from hk)
        omega
  obtain ⟨Mx, hMx⟩ : ∃ Mx, 1000000 + 1000000 = Mx := ⟨_, rfl⟩
  have HMX : Hid (300 * Mx ≤ 40000000000) := hide3 (by rw [← hMx]; decide)
  have HMY : Hid (∀ a : Nat, a + 1000000 + 1000000 = a + Mx) := hide3 (fun a => by rw [Nat.add_assoc, hMx])
  clear hMx MD0 MD1 FV0 FV1 HW2 SZ0 SZ1 LB0 LB1 LR0 LR1 LA0 LA1 HB0
  generalize (fun j => if j = 0 then sd0 b0 W1 M1 r0 a0 else sd0 b1 W2 M2 r1 a1) = s0 at SS
  go_loopw [18] (fun iv wr => ∃ (k : Nat) (s : Nat → Sd) (ov : Value) (vs : List Value), k ≤ rs.length ∧ k ≤ 300 ∧ iv = .int .i64 k ∧ WS w wb s ov vs wr ∧ vs.length ≤ k * Mx) (fun iv _ => 300 - (intOf iv).toNat)
  case atStart => exact ⟨0, s0, _, [], Nat.zero_le _, Nat.zero_le _, rfl, SS.out, Nat.zero_le _⟩
  case round =>
    obtain ⟨k, s, ov, vs, hk, hk3, rfl, hWS, hvl⟩ := hrel
    have S1 : Hid (WS w wb s ov vs wr) := hWS
    have HVL : Hid (vs.length ≤ k * Mx) := hvl
    clear hWS hvl SS
    by_cases hgo : k < rs.length ∧ k < 300
    · as_aux_lemma =>
        obtain ⟨hlt, h300⟩ := hgo
        obtain ⟨x, hx⟩ : ∃ x, rs[k]? = some x := ⟨_, List.getElem?_eq_getElem hlt⟩
        obtain ⟨g, off, rfl, hg, hok, hat⟩ := HC.out k x hx
        have OK := hide3 hok
        obtain ⟨e0, e1, e2, e3, e4, e5, e6, e7⟩ := hat
        have BD : Hid (k * Mx ≤ 40000000000) := hide3 (Nat.le_trans (Nat.mul_le_mul_right Mx hk3) HMX.out)
        have d0 := (S1.out.bel.cell (p := ⟨g, off + k * 8, none⟩) hg).trans e0
        have d1 := (S1.out.bel.cell (p := ⟨g, off + k * 8 + 1, none⟩) hg).trans e1
        have d2 := (S1.out.bel.cell (p := ⟨g, off + k * 8 + 2, none⟩) hg).trans e2
        have d3 := (S1.out.bel.cell (p := ⟨g, off + k * 8 + 3, none⟩) hg).trans e3
        have d4 := (S1.out.bel.cell (p := ⟨g, off + k * 8 + 4, none⟩) hg).trans e4
        have d5 := (S1.out.bel.cell (p := ⟨g, off + k * 8 + 5, none⟩) hg).trans e5
        have d6 := (S1.out.bel.cell (p := ⟨g, off + k * 8 + 6, none⟩) hg).trans e6
        have d7 := (S1.out.bel.cell (p := ⟨g, off + k * 8 + 7, none⟩) hg).trans e7
        have SC := hide3 (step_c S1.out HVL.out BD.out x.kind x.on x.v x.lv x.kv1 x.tn x.ii x.kv2 x.k1 x.k2 OK.out.wfo OK.out.wfl OK.out.wft OK.out.a1 OK.out.a2)
        have NB : Hid (∀ n : Nat, n ≤ vs.length + 1000000 + 1000000 → n ≤ (k + 1) * Mx ∧ n ≤ 100000000000) := hide3 (fun n hn => by
          rw [HMY.out] at hn
          have h1 : n ≤ (k + 1) * Mx := by rw [Nat.succ_mul]; exact Nat.le_trans hn (Nat.add_le_add_right HVL.out _)
          exact ⟨h1, Nat.le_trans h1 (Nat.le_trans (Nat.mul_le_mul_right Mx (by omega : k + 1 ≤ 300)) (Nat.le_trans HMX.out (by decide)))⟩)
        have i0 : (0 : Int) ≤ (k : Int) := by omega
        have i1 : (k : Int) < (rs.length : Int) := by omega
        have i2 : (k : Int) < 300 := by omega
        clear e0 e1 e2 e3 e4 e5 e6 e7 hx hok
        go_wp2_with first | (go_at_call 9; refine SC.out.mono ?_; rintro e9 w5 ⟨rfl, s5, ov5, vs5, h5, hl5⟩; have S5 := hide3 h5; have L5 := hide3 hl5; have KC := hide3 (kept_c (cell_row h5.hb (i := 6) rfl) h5.out (NB.out _ hl5).2); clear h5 hl5) | (go_at_call 10; refine KC.out.mono ?_; rintro e9 w9 ⟨rfl, h9⟩; subst w9)
        go_roundw
        case rel => exact ⟨k + 1, s5, ov5, vs5, by omega, by omega, by go_num, S5.out, (NB.out _ L5.out).1⟩
        case measure => simp only [intOf]; omega
    · have hq : ((k : Int) < (rs.length : Int) ∧ ¬ (k : Int) < 300) ∨ ¬ ((k : Int) < (rs.length : Int)) := by omega
      clear hgo
      rcases hq with ⟨j1, j2⟩ | j1
      all_goals
        go_wp2
        go_ret
        exact ⟨rfl, S1.out.bel⟩
end Go.Proofs.Ytmfljfedpdipiaa
