/-
  Parts of the proof.
-/
import Derived.Test.YtbfhahhcacnckaaGreatDoorSamesProofB23
import Derived.Test.YtbfhahhcacnckaaGreatDoorSamesProofB24
set_option linter.unusedSimpArgs false
namespace Go.Proofs.YtbfhahhcacnckaaGreatDoor
open Go Go.RowKit
attribute [local go_sem] Oper.semAt_some
def InP (w : World) (b : Nat) (a : Int) (i : Ins) (e : Ending) (w' : World) : Prop := e = .returned (.agg #[.int .i64 i.op, .int .i64 i.x, .int .i64 i.y, .int .i64 i.n, .int .i64 i.mn, .int .i64 i.mx, .int .u64 (z1_wd i.s 0), .int .u64 (z1_wd i.s 1), .int .u64 (z1_wd i.s 2), .int .u64 (z1_wd i.s 3)]) ∧ LB w' b [] false a ∧ Fr (At1 b) w w'
theorem fr_set {w w' : World} {b g : Nat} (h : Fr (At1 b) w w') (hg : w.heap.size ≤ g) (j : Nat) (v : Value) : Fr (At1 b) w (w'.setCell ⟨g, j, none⟩ v) := Fr.setNew h (p := ⟨g, j, none⟩) hg v
theorem keep_set {w : World} {k g : Nat} {o : Obj} (h : w.heap[k]? = some o) (hk : k ≠ g) (j : Nat) (v : Value) : (w.setCell ⟨g, j, none⟩ v).heap[k]? = some o := (Below.heap_setCell _ _ _ _ hk).trans h
theorem set10_fr (W : World) (g : Nat) (a0 a1 a2 a3 a4 a5 a6 a7 a8 a9 : Value) : Fr (At1 g) W ((((((((((W.setCell ⟨g, 0, none⟩ a0).setCell ⟨g, 1, none⟩ a1).setCell ⟨g, 2, none⟩ a2).setCell ⟨g, 3, none⟩ a3).setCell ⟨g, 4, none⟩ a4).setCell ⟨g, 5, none⟩ a5).setCell ⟨g, 6, none⟩ a6).setCell ⟨g, 7, none⟩ a7).setCell ⟨g, 8, none⟩ a8).setCell ⟨g, 9, none⟩ a9) := (Fr.setCell (S := At1 g) (Fr.setCell (S := At1 g) (Fr.setCell (S := At1 g) (Fr.setCell (S := At1 g) (Fr.setCell (S := At1 g) (Fr.setCell (S := At1 g) (Fr.setCell (S := At1 g) (Fr.setCell (S := At1 g) (Fr.setCell (S := At1 g) (Fr.setCell (S := At1 g) (Fr.refl _ _) (p := ⟨g, 0, none⟩) rfl _) (p := ⟨g, 1, none⟩) rfl _) (p := ⟨g, 2, none⟩) rfl _) (p := ⟨g, 3, none⟩) rfl _) (p := ⟨g, 4, none⟩) rfl _) (p := ⟨g, 5, none⟩) rfl _) (p := ⟨g, 6, none⟩) rfl _) (p := ⟨g, 7, none⟩) rfl _) (p := ⟨g, 8, none⟩) rfl _) (p := ⟨g, 9, none⟩) rfl _)
theorem set10_new {w W : World} {b g : Nat} (h : Fr (At1 b) w W) (hg : w.heap.size ≤ g) (a0 a1 a2 a3 a4 a5 a6 a7 a8 a9 : Value) : Fr (At1 b) w ((((((((((W.setCell ⟨g, 0, none⟩ a0).setCell ⟨g, 1, none⟩ a1).setCell ⟨g, 2, none⟩ a2).setCell ⟨g, 3, none⟩ a3).setCell ⟨g, 4, none⟩ a4).setCell ⟨g, 5, none⟩ a5).setCell ⟨g, 6, none⟩ a6).setCell ⟨g, 7, none⟩ a7).setCell ⟨g, 8, none⟩ a8).setCell ⟨g, 9, none⟩ a9) := (Fr.setNew (Fr.setNew (Fr.setNew (Fr.setNew (Fr.setNew (Fr.setNew (Fr.setNew (Fr.setNew (Fr.setNew (Fr.setNew h (p := ⟨g, 0, none⟩) hg _) (p := ⟨g, 1, none⟩) hg _) (p := ⟨g, 2, none⟩) hg _) (p := ⟨g, 3, none⟩) hg _) (p := ⟨g, 4, none⟩) hg _) (p := ⟨g, 5, none⟩) hg _) (p := ⟨g, 6, none⟩) hg _) (p := ⟨g, 7, none⟩) hg _) (p := ⟨g, 8, none⟩) hg _) (p := ⟨g, 9, none⟩) hg _)
set_option maxRecDepth 100000 in
set_option maxHeartbeats 4000000 in
theorem inst_11 {w : World} {b : Nat} {a : Int} (hT : z1_Tab w) (h : LB w b [109, 97, 116, 99, 104] true a) (h2 : 2 < b) : Calls Tryz.prog 55 #[.pointer (some ⟨b, 0, none⟩)] w (InP w b a ⟨11, 0, 0, 0, 0, 0, 0#256⟩) := by
  have lb := lt_of_heap h
  have H2 := hide h2
  have B1 : Hid (Below w.heap.size w (w.alloc (.cells #[.int .i64 0, .int .i64 0, .int .i64 0, .int .i64 0, .int .i64 0, .int .i64 0, .int .u64 0, .int .u64 0, .int .u64 0, .int .u64 0] 35))) := (Below.refl _ _).alloc (Nat.le_refl _) _
  have X1 : Hid ((w.alloc (.cells #[.int .i64 0, .int .i64 0, .int .i64 0, .int .i64 0, .int .i64 0, .int .i64 0, .int .u64 0, .int .u64 0, .int .u64 0, .int .u64 0] 35)).heap[w.heap.size]? = some (.cells #[.int .i64 0, .int .i64 0, .int .i64 0, .int .i64 0, .int .i64 0, .int .i64 0, .int .u64 0, .int .u64 0, .int .u64 0, .int .u64 0] 35 (0, 0))) := alloc_new w _
  have HW := hide (word_c (h.kept B1.out) (by decide))
  rw [show cutL 32 [109, 97, 116, 99, 104] = ([109, 97, 116, 99, 104], [], false) by decide] at HW
  have HW2 : Hid (Calls Tryz.prog 67 #[.pointer (some ⟨b, 0, none⟩)] (w.alloc (.cells #[.int .i64 0, .int .i64 0, .int .i64 0, .int .i64 0, .int .i64 0, .int .i64 0, .int .u64 0, .int .u64 0, .int .u64 0, .int .u64 0] 35)) fun e w' => e = .returned (.string ⟨#[109, 97, 116, 99, 104]⟩) ∧ LB w' b [] false a ∧ Fr (At1 b) (w.alloc (.cells #[.int .i64 0, .int .i64 0, .int .i64 0, .int .i64 0, .int .i64 0, .int .i64 0, .int .u64 0, .int .u64 0, .int .u64 0, .int .u64 0] 35)) w') := HW
  have HO := opn_11
  have hs := fun (W : World) => (show Calls Tryz.prog 32 #[.int .i64 11] W fun e w' => e = .returned (.tuple #[.string ⟨#[109, 97, 116, 99, 104]⟩, .int .i64 0]) ∧ w' = W from shape_c 11 W)
  have q24 : hsT 0 24 = false := by decide
  have q32 : hsT 0 32 = false := by decide
  have q2 : hsT 0 2 = false := by decide
  have q4 : hsT 0 4 = false := by decide
  have q1 : hsT 0 1 = false := by decide
  have HT := hide hT
  clear hT h HW
  go_enter Tryz.func55, Tryz.ntmps55
  go_upto_region 1 with fail
  generalize (w.alloc (.cells #[.int .i64 0, .int .i64 0, .int .i64 0, .int .i64 0, .int .i64 0, .int .i64 0, .int .u64 0, .int .u64 0, .int .u64 0, .int .u64 0] 35)) = w1 at B1 X1 HW2 ⊢
  have l1 := lt_of_heap X1.out
  go_upto_region 6 with first
    | (go_at_call 67; (with_reducible refine (HW2.out).mono ?_); rintro e w2 ⟨rfl, h21, h22⟩; have L2 := hide h21; have F2 := hide h22; have X2 := hide ((h22.block _ l1 (by show ¬ (w.heap.size = b); omega)).trans X1.out); have FF := hide ((Fr.of_below (S := At1 b) B1.out).trans h22); clear h21 h22)
    | (go_at_call 70; (with_reducible refine (HO _).mono ?_); rintro e w3 ⟨rfl, h3⟩; rw [h3]; clear h3 w3)
    | (go_at_call 32; (with_reducible refine (hs _).mono ?_); rintro e w3 ⟨rfl, h3⟩; rw [h3]; clear h3 w3)
  have BA : Below w2.heap.size w2 (w2.alloc (.cells #[.int .i64 11, .int .i64 0, .int .i64 0, .int .i64 0, .int .i64 0, .int .i64 0, .int .u64 0, .int .u64 0, .int .u64 0, .int .u64 0] 35)) := (Below.refl _ _).alloc (Nat.le_refl _) _
  have X3 := hide ((BA.block _ (lt_of_heap X2.out)).trans X2.out)
  have Y3 : Hid ((w2.alloc (.cells #[.int .i64 11, .int .i64 0, .int .i64 0, .int .i64 0, .int .i64 0, .int .i64 0, .int .u64 0, .int .u64 0, .int .u64 0, .int .u64 0] 35)).heap[w2.heap.size]? = some (.cells #[.int .i64 11, .int .i64 0, .int .i64 0, .int .i64 0, .int .i64 0, .int .i64 0, .int .u64 0, .int .u64 0, .int .u64 0, .int .u64 0] 35 (0, 0))) := alloc_new w2 _
  have L3 := hide (L2.out.kept BA)
  have F3 := hide (FF.out.then BA)
  have s1 := FF.out.size
  have s2 := lt_of_heap X2.out
  clear BA
  generalize (w2.alloc (.cells #[.int .i64 11, .int .i64 0, .int .i64 0, .int .i64 0, .int .i64 0, .int .i64 0, .int .u64 0, .int .u64 0, .int .u64 0, .int .u64 0] 35)) = w3 at X3 Y3 L3 F3 ⊢
  have HE := hide (lend_c L3.out)
  have y0 := cell_row Y3.out (i := 0) rfl
  have x0 := cell_row X3.out (i := 0) rfl
  have f0 := frz_row X3.out 0
  have y1 := cell_row Y3.out (i := 1) rfl
  have x1 := cell_row X3.out (i := 1) rfl
  have f1 := frz_row X3.out 1
  have y2 := cell_row Y3.out (i := 2) rfl
  have x2 := cell_row X3.out (i := 2) rfl
  have f2 := frz_row X3.out 2
  have y3 := cell_row Y3.out (i := 3) rfl
  have x3 := cell_row X3.out (i := 3) rfl
  have f3 := frz_row X3.out 3
  have y4 := cell_row Y3.out (i := 4) rfl
  have x4 := cell_row X3.out (i := 4) rfl
  have f4 := frz_row X3.out 4
  have y5 := cell_row Y3.out (i := 5) rfl
  have x5 := cell_row X3.out (i := 5) rfl
  have f5 := frz_row X3.out 5
  have y6 := cell_row Y3.out (i := 6) rfl
  have x6 := cell_row X3.out (i := 6) rfl
  have f6 := frz_row X3.out 6
  have y7 := cell_row Y3.out (i := 7) rfl
  have x7 := cell_row X3.out (i := 7) rfl
  have f7 := frz_row X3.out 7
  have y8 := cell_row Y3.out (i := 8) rfl
  have x8 := cell_row X3.out (i := 8) rfl
  have f8 := frz_row X3.out 8
  have y9 := cell_row Y3.out (i := 9) rfl
  have x9 := cell_row X3.out (i := 9) rfl
  have f9 := frz_row X3.out 9
  go_wp2_with first
    | (go_at_call 33; (with_reducible refine (has_t _ _ _).mono ?_); rintro e w7 ⟨rfl, h7⟩; rw [h7]; clear h7 w7)
    | (go_at_call 69; (with_reducible refine (HE.out).mono ?_); rintro e w7 ⟨rfl, h7⟩; rw [h7]; clear h7 w7)
  refine bodyPost_ret (v := .agg #[.int .i64 11, .int .i64 0, .int .i64 0, .int .i64 0, .int .i64 0, .int .i64 0, .int .u64 0, .int .u64 0, .int .u64 0, .int .u64 0]) (by simp [results, Tryz.results55, go_sem, x0, x1, x2, x3, x4, x5, x6, x7, x8, x9]) rfl ⟨?_, ?_, ?_⟩
  · simp [z1_wd_nil]
  · exact Eq.trans (Fr.block (S := At1 w.heap.size) (set10_fr _ _ _ _ _ _ _ _ _ _ _ _) b (lt_of_heap L3.out) (by show ¬ (b = w.heap.size); omega)) L3.out
  · exact set10_new F3.out (Nat.le_refl _) _ _ _ _ _ _ _ _ _ _
set_option maxRecDepth 100000 in
set_option maxHeartbeats 4000000 in
theorem inst_3 {w : World} {b : Nat} {a : Int} (hT : z1_Tab w) (h : LB w b [106, 117, 109, 112, 32, 48] true a) (h2 : 2 < b) : Calls Tryz.prog 55 #[.pointer (some ⟨b, 0, none⟩)] w (InP w b a ⟨3, 0, 0, 0, 0, 0, 0#256⟩) := by
  have lb := lt_of_heap h
  have H2 := hide h2
  have B1 : Hid (Below w.heap.size w (w.alloc (.cells #[.int .i64 0, .int .i64 0, .int .i64 0, .int .i64 0, .int .i64 0, .int .i64 0, .int .u64 0, .int .u64 0, .int .u64 0, .int .u64 0] 35))) := (Below.refl _ _).alloc (Nat.le_refl _) _
  have X1 : Hid ((w.alloc (.cells #[.int .i64 0, .int .i64 0, .int .i64 0, .int .i64 0, .int .i64 0, .int .i64 0, .int .u64 0, .int .u64 0, .int .u64 0, .int .u64 0] 35)).heap[w.heap.size]? = some (.cells #[.int .i64 0, .int .i64 0, .int .i64 0, .int .i64 0, .int .i64 0, .int .i64 0, .int .u64 0, .int .u64 0, .int .u64 0, .int .u64 0] 35 (0, 0))) := alloc_new w _
  have HW := hide (word_c (h.kept B1.out) (by decide))
  rw [show cutL 32 [106, 117, 109, 112, 32, 48] = ([106, 117, 109, 112], [48], true) by decide] at HW
  have HW2 : Hid (Calls Tryz.prog 67 #[.pointer (some ⟨b, 0, none⟩)] (w.alloc (.cells #[.int .i64 0, .int .i64 0, .int .i64 0, .int .i64 0, .int .i64 0, .int .i64 0, .int .u64 0, .int .u64 0, .int .u64 0, .int .u64 0] 35)) fun e w' => e = .returned (.string ⟨#[106, 117, 109, 112]⟩) ∧ LB w' b [48] true a ∧ Fr (At1 b) (w.alloc (.cells #[.int .i64 0, .int .i64 0, .int .i64 0, .int .i64 0, .int .i64 0, .int .i64 0, .int .u64 0, .int .u64 0, .int .u64 0, .int .u64 0] 35)) w') := HW
  have HO := opn_3
  have hs := fun (W : World) => (show Calls Tryz.prog 32 #[.int .i64 3] W fun e w' => e = .returned (.tuple #[.string ⟨#[106, 117, 109, 112]⟩, .int .i64 2]) ∧ w' = W from shape_c 3 W)
  have q24 : hsT 2 24 = false := by decide
  have q32 : hsT 2 32 = false := by decide
  have q2 : hsT 2 2 = true := by decide
  have q4 : hsT 2 4 = false := by decide
  have q1 : hsT 2 1 = false := by decide
  have HT := hide hT
  clear hT h HW
  go_enter Tryz.func55, Tryz.ntmps55
  go_upto_region 1 with fail
  generalize (w.alloc (.cells #[.int .i64 0, .int .i64 0, .int .i64 0, .int .i64 0, .int .i64 0, .int .i64 0, .int .u64 0, .int .u64 0, .int .u64 0, .int .u64 0] 35)) = w1 at B1 X1 HW2 ⊢
  have l1 := lt_of_heap X1.out
  go_upto_region 6 with first
    | (go_at_call 67; (with_reducible refine (HW2.out).mono ?_); rintro e w2 ⟨rfl, h21, h22⟩; have L2 := hide h21; have F2 := hide h22; have X2 := hide ((h22.block _ l1 (by show ¬ (w.heap.size = b); omega)).trans X1.out); have FF := hide ((Fr.of_below (S := At1 b) B1.out).trans h22); clear h21 h22)
    | (go_at_call 70; (with_reducible refine (HO _).mono ?_); rintro e w3 ⟨rfl, h3⟩; rw [h3]; clear h3 w3)
    | (go_at_call 32; (with_reducible refine (hs _).mono ?_); rintro e w3 ⟨rfl, h3⟩; rw [h3]; clear h3 w3)
  have BA : Below w2.heap.size w2 (w2.alloc (.cells #[.int .i64 3, .int .i64 0, .int .i64 0, .int .i64 0, .int .i64 0, .int .i64 0, .int .u64 0, .int .u64 0, .int .u64 0, .int .u64 0] 35)) := (Below.refl _ _).alloc (Nat.le_refl _) _
  have X3 := hide ((BA.block _ (lt_of_heap X2.out)).trans X2.out)
  have Y3 : Hid ((w2.alloc (.cells #[.int .i64 3, .int .i64 0, .int .i64 0, .int .i64 0, .int .i64 0, .int .i64 0, .int .u64 0, .int .u64 0, .int .u64 0, .int .u64 0] 35)).heap[w2.heap.size]? = some (.cells #[.int .i64 3, .int .i64 0, .int .i64 0, .int .i64 0, .int .i64 0, .int .i64 0, .int .u64 0, .int .u64 0, .int .u64 0, .int .u64 0] 35 (0, 0))) := alloc_new w2 _
  have L3 := hide (L2.out.kept BA)
  have F3 := hide (FF.out.then BA)
  have s1 := FF.out.size
  have s2 := lt_of_heap X2.out
  clear BA
  generalize (w2.alloc (.cells #[.int .i64 3, .int .i64 0, .int .i64 0, .int .i64 0, .int .i64 0, .int .i64 0, .int .u64 0, .int .u64 0, .int .u64 0, .int .u64 0] 35)) = w3 at X3 Y3 L3 F3 ⊢
  have HN3 := hide (number_c (d := [48]) (r := []) (f := false) L3.out (by decide) (by decide) 0 (by decide) (by decide +kernel) (by decide +kernel) (by decide))
  go_upto_region 13 with first
    | (go_at_call 33; (with_reducible refine (has_t _ _ _).mono ?_); rintro e w7 ⟨rfl, h7⟩; rw [h7]; clear h7 w7)
    | (go_at_call 68; (with_reducible refine (HN3.out).mono ?_); rintro e v4 ⟨rfl, h1, h3⟩; have L3a := hide h1; have X3a := hide ((h3.block _ (lt_of_heap X3.out) (by show ¬ (w.heap.size = b); omega)).trans X3.out); have Y3a := hide ((h3.block _ (lt_of_heap Y3.out) (by show ¬ (w2.heap.size = b); omega)).trans Y3.out); have F3a := hide (F3.out.trans h3); have c1 := cell_row Y3a.out (i := 1) rfl; have f1 := frz_row Y3a.out 1; clear h1 h3)
  have F4 : Hid (Fr (At1 b) w (v4.setCell ⟨w2.heap.size, 1, none⟩ (.int .i64 0))) := (fr_set F3a.out (by omega) 1 _)
  have Y4 : Hid ((v4.setCell ⟨w2.heap.size, 1, none⟩ (.int .i64 0)).heap[w2.heap.size]? = some (.cells #[.int .i64 3, .int .i64 0, .int .i64 0, .int .i64 0, .int .i64 0, .int .i64 0, .int .u64 0, .int .u64 0, .int .u64 0, .int .u64 0] 35 (0, 0))) := (heap_set_in Y3a.out 1 _)
  have X4 : Hid ((v4.setCell ⟨w2.heap.size, 1, none⟩ (.int .i64 0)).heap[w.heap.size]? = some (.cells #[.int .i64 0, .int .i64 0, .int .i64 0, .int .i64 0, .int .i64 0, .int .i64 0, .int .u64 0, .int .u64 0, .int .u64 0, .int .u64 0] 35 (0, 0))) := (keep_set X3a.out (by omega) 1 _)
  have L4 : Hid (LB (v4.setCell ⟨w2.heap.size, 1, none⟩ (.int .i64 0)) b [] false a) := (keep_set L3a.out (by omega) 1 _)
  clear c1 f1
  generalize (v4.setCell ⟨w2.heap.size, 1, none⟩ (.int .i64 0)) = w4 at F4 Y4 X4 L4 ⊢
  have HE := hide (lend_c L4.out)
  have y0 := cell_row Y4.out (i := 0) rfl
  have x0 := cell_row X4.out (i := 0) rfl
  have f0 := frz_row X4.out 0
  have y1 := cell_row Y4.out (i := 1) rfl
  have x1 := cell_row X4.out (i := 1) rfl
  have f1 := frz_row X4.out 1
  have y2 := cell_row Y4.out (i := 2) rfl
  have x2 := cell_row X4.out (i := 2) rfl
  have f2 := frz_row X4.out 2
  have y3 := cell_row Y4.out (i := 3) rfl
  have x3 := cell_row X4.out (i := 3) rfl
  have f3 := frz_row X4.out 3
  have y4 := cell_row Y4.out (i := 4) rfl
  have x4 := cell_row X4.out (i := 4) rfl
  have f4 := frz_row X4.out 4
  have y5 := cell_row Y4.out (i := 5) rfl
  have x5 := cell_row X4.out (i := 5) rfl
  have f5 := frz_row X4.out 5
  have y6 := cell_row Y4.out (i := 6) rfl
  have x6 := cell_row X4.out (i := 6) rfl
  have f6 := frz_row X4.out 6
  have y7 := cell_row Y4.out (i := 7) rfl
  have x7 := cell_row X4.out (i := 7) rfl
  have f7 := frz_row X4.out 7
  have y8 := cell_row Y4.out (i := 8) rfl
  have x8 := cell_row X4.out (i := 8) rfl
  have f8 := frz_row X4.out 8
  have y9 := cell_row Y4.out (i := 9) rfl
  have x9 := cell_row X4.out (i := 9) rfl
  have f9 := frz_row X4.out 9
  go_wp2_with first
    | (go_at_call 33; (with_reducible refine (has_t _ _ _).mono ?_); rintro e w7 ⟨rfl, h7⟩; rw [h7]; clear h7 w7)
    | (go_at_call 69; (with_reducible refine (HE.out).mono ?_); rintro e w7 ⟨rfl, h7⟩; rw [h7]; clear h7 w7)
  refine bodyPost_ret (v := .agg #[.int .i64 3, .int .i64 0, .int .i64 0, .int .i64 0, .int .i64 0, .int .i64 0, .int .u64 0, .int .u64 0, .int .u64 0, .int .u64 0]) (by simp [results, Tryz.results55, go_sem, x0, x1, x2, x3, x4, x5, x6, x7, x8, x9]) rfl ⟨?_, ?_, ?_⟩
  · simp [z1_wd_nil]
  · exact Eq.trans (Fr.block (S := At1 w.heap.size) (set10_fr _ _ _ _ _ _ _ _ _ _ _ _) b (lt_of_heap L4.out) (by show ¬ (b = w.heap.size); omega)) L4.out
  · exact set10_new F4.out (Nat.le_refl _) _ _ _ _ _ _ _ _ _ _
set_option maxRecDepth 100000 in
set_option maxHeartbeats 4000000 in
theorem inst_2 {w : World} {b : Nat} {a : Int} (hT : z1_Tab w) (h : LB w b [115, 112, 108, 105, 116, 32, 49, 32, 51] true a) (h2 : 2 < b) : Calls Tryz.prog 55 #[.pointer (some ⟨b, 0, none⟩)] w (InP w b a ⟨2, 1, 3, 0, 0, 0, 0#256⟩) := by
  have lb := lt_of_heap h
  have H2 := hide h2
  have B1 : Hid (Below w.heap.size w (w.alloc (.cells #[.int .i64 0, .int .i64 0, .int .i64 0, .int .i64 0, .int .i64 0, .int .i64 0, .int .u64 0, .int .u64 0, .int .u64 0, .int .u64 0] 35))) := (Below.refl _ _).alloc (Nat.le_refl _) _
  have X1 : Hid ((w.alloc (.cells #[.int .i64 0, .int .i64 0, .int .i64 0, .int .i64 0, .int .i64 0, .int .i64 0, .int .u64 0, .int .u64 0, .int .u64 0, .int .u64 0] 35)).heap[w.heap.size]? = some (.cells #[.int .i64 0, .int .i64 0, .int .i64 0, .int .i64 0, .int .i64 0, .int .i64 0, .int .u64 0, .int .u64 0, .int .u64 0, .int .u64 0] 35 (0, 0))) := alloc_new w _
  have HW := hide (word_c (h.kept B1.out) (by decide))
  rw [show cutL 32 [115, 112, 108, 105, 116, 32, 49, 32, 51] = ([115, 112, 108, 105, 116], [49, 32, 51], true) by decide] at HW
  have HW2 : Hid (Calls Tryz.prog 67 #[.pointer (some ⟨b, 0, none⟩)] (w.alloc (.cells #[.int .i64 0, .int .i64 0, .int .i64 0, .int .i64 0, .int .i64 0, .int .i64 0, .int .u64 0, .int .u64 0, .int .u64 0, .int .u64 0] 35)) fun e w' => e = .returned (.string ⟨#[115, 112, 108, 105, 116]⟩) ∧ LB w' b [49, 32, 51] true a ∧ Fr (At1 b) (w.alloc (.cells #[.int .i64 0, .int .i64 0, .int .i64 0, .int .i64 0, .int .i64 0, .int .i64 0, .int .u64 0, .int .u64 0, .int .u64 0, .int .u64 0] 35)) w') := HW
  have HO := opn_2
  have hs := fun (W : World) => (show Calls Tryz.prog 32 #[.int .i64 2] W fun e w' => e = .returned (.tuple #[.string ⟨#[115, 112, 108, 105, 116]⟩, .int .i64 6]) ∧ w' = W from shape_c 2 W)
  have q24 : hsT 6 24 = false := by decide
  have q32 : hsT 6 32 = false := by decide
  have q2 : hsT 6 2 = true := by decide
  have q4 : hsT 6 4 = true := by decide
  have q1 : hsT 6 1 = false := by decide
  have HT := hide hT
  clear hT h HW
  go_enter Tryz.func55, Tryz.ntmps55
  go_upto_region 1 with fail
  generalize (w.alloc (.cells #[.int .i64 0, .int .i64 0, .int .i64 0, .int .i64 0, .int .i64 0, .int .i64 0, .int .u64 0, .int .u64 0, .int .u64 0, .int .u64 0] 35)) = w1 at B1 X1 HW2 ⊢
  have l1 := lt_of_heap X1.out
  go_upto_region 6 with first
    | (go_at_call 67; (with_reducible refine (HW2.out).mono ?_); rintro e w2 ⟨rfl, h21, h22⟩; have L2 := hide h21; have F2 := hide h22; have X2 := hide ((h22.block _ l1 (by show ¬ (w.heap.size = b); omega)).trans X1.out); have FF := hide ((Fr.of_below (S := At1 b) B1.out).trans h22); clear h21 h22)
    | (go_at_call 70; (with_reducible refine (HO _).mono ?_); rintro e w3 ⟨rfl, h3⟩; rw [h3]; clear h3 w3)
    | (go_at_call 32; (with_reducible refine (hs _).mono ?_); rintro e w3 ⟨rfl, h3⟩; rw [h3]; clear h3 w3)
  have BA : Below w2.heap.size w2 (w2.alloc (.cells #[.int .i64 2, .int .i64 0, .int .i64 0, .int .i64 0, .int .i64 0, .int .i64 0, .int .u64 0, .int .u64 0, .int .u64 0, .int .u64 0] 35)) := (Below.refl _ _).alloc (Nat.le_refl _) _
  have X3 := hide ((BA.block _ (lt_of_heap X2.out)).trans X2.out)
  have Y3 : Hid ((w2.alloc (.cells #[.int .i64 2, .int .i64 0, .int .i64 0, .int .i64 0, .int .i64 0, .int .i64 0, .int .u64 0, .int .u64 0, .int .u64 0, .int .u64 0] 35)).heap[w2.heap.size]? = some (.cells #[.int .i64 2, .int .i64 0, .int .i64 0, .int .i64 0, .int .i64 0, .int .i64 0, .int .u64 0, .int .u64 0, .int .u64 0, .int .u64 0] 35 (0, 0))) := alloc_new w2 _
  have L3 := hide (L2.out.kept BA)
  have F3 := hide (FF.out.then BA)
  have s1 := FF.out.size
  have s2 := lt_of_heap X2.out
  clear BA
  generalize (w2.alloc (.cells #[.int .i64 2, .int .i64 0, .int .i64 0, .int .i64 0, .int .i64 0, .int .i64 0, .int .u64 0, .int .u64 0, .int .u64 0, .int .u64 0] 35)) = w3 at X3 Y3 L3 F3 ⊢
  have HN3 := hide (number_c (d := [49]) (r := [51]) (f := true) L3.out (by decide) (by decide) 1 (by decide) (by decide +kernel) (by decide +kernel) (by decide))
  go_upto_region 13 with first
    | (go_at_call 33; (with_reducible refine (has_t _ _ _).mono ?_); rintro e w7 ⟨rfl, h7⟩; rw [h7]; clear h7 w7)
    | (go_at_call 68; (with_reducible refine (HN3.out).mono ?_); rintro e v4 ⟨rfl, h1, h3⟩; have L3a := hide h1; have X3a := hide ((h3.block _ (lt_of_heap X3.out) (by show ¬ (w.heap.size = b); omega)).trans X3.out); have Y3a := hide ((h3.block _ (lt_of_heap Y3.out) (by show ¬ (w2.heap.size = b); omega)).trans Y3.out); have F3a := hide (F3.out.trans h3); have c1 := cell_row Y3a.out (i := 1) rfl; have f1 := frz_row Y3a.out 1; clear h1 h3)
  have F4 : Hid (Fr (At1 b) w (v4.setCell ⟨w2.heap.size, 1, none⟩ (.int .i64 1))) := (fr_set F3a.out (by omega) 1 _)
  have Y4 : Hid ((v4.setCell ⟨w2.heap.size, 1, none⟩ (.int .i64 1)).heap[w2.heap.size]? = some (.cells #[.int .i64 2, .int .i64 1, .int .i64 0, .int .i64 0, .int .i64 0, .int .i64 0, .int .u64 0, .int .u64 0, .int .u64 0, .int .u64 0] 35 (0, 0))) := (heap_set_in Y3a.out 1 _)
  have X4 : Hid ((v4.setCell ⟨w2.heap.size, 1, none⟩ (.int .i64 1)).heap[w.heap.size]? = some (.cells #[.int .i64 0, .int .i64 0, .int .i64 0, .int .i64 0, .int .i64 0, .int .i64 0, .int .u64 0, .int .u64 0, .int .u64 0, .int .u64 0] 35 (0, 0))) := (keep_set X3a.out (by omega) 1 _)
  have L4 : Hid (LB (v4.setCell ⟨w2.heap.size, 1, none⟩ (.int .i64 1)) b [51] true a) := (keep_set L3a.out (by omega) 1 _)
  clear c1 f1
  generalize (v4.setCell ⟨w2.heap.size, 1, none⟩ (.int .i64 1)) = w4 at F4 Y4 X4 L4 ⊢
  have HN4 := hide (number_c (d := [51]) (r := []) (f := false) L4.out (by decide) (by decide) 3 (by decide) (by decide +kernel) (by decide +kernel) (by decide))
  go_upto_region 15 with first
    | (go_at_call 33; (with_reducible refine (has_t _ _ _).mono ?_); rintro e w7 ⟨rfl, h7⟩; rw [h7]; clear h7 w7)
    | (go_at_call 68; (with_reducible refine (HN4.out).mono ?_); rintro e v5 ⟨rfl, h1, h3⟩; have L4a := hide h1; have X4a := hide ((h3.block _ (lt_of_heap X4.out) (by show ¬ (w.heap.size = b); omega)).trans X4.out); have Y4a := hide ((h3.block _ (lt_of_heap Y4.out) (by show ¬ (w2.heap.size = b); omega)).trans Y4.out); have F4a := hide (F4.out.trans h3); have c2 := cell_row Y4a.out (i := 2) rfl; have f2 := frz_row Y4a.out 2; clear h1 h3)
  have F5 : Hid (Fr (At1 b) w (v5.setCell ⟨w2.heap.size, 2, none⟩ (.int .i64 3))) := (fr_set F4a.out (by omega) 2 _)
  have Y5 : Hid ((v5.setCell ⟨w2.heap.size, 2, none⟩ (.int .i64 3)).heap[w2.heap.size]? = some (.cells #[.int .i64 2, .int .i64 1, .int .i64 3, .int .i64 0, .int .i64 0, .int .i64 0, .int .u64 0, .int .u64 0, .int .u64 0, .int .u64 0] 35 (0, 0))) := (heap_set_in Y4a.out 2 _)
  have X5 : Hid ((v5.setCell ⟨w2.heap.size, 2, none⟩ (.int .i64 3)).heap[w.heap.size]? = some (.cells #[.int .i64 0, .int .i64 0, .int .i64 0, .int .i64 0, .int .i64 0, .int .i64 0, .int .u64 0, .int .u64 0, .int .u64 0, .int .u64 0] 35 (0, 0))) := (keep_set X4a.out (by omega) 2 _)
  have L5 : Hid (LB (v5.setCell ⟨w2.heap.size, 2, none⟩ (.int .i64 3)) b [] false a) := (keep_set L4a.out (by omega) 2 _)
  clear c2 f2
  generalize (v5.setCell ⟨w2.heap.size, 2, none⟩ (.int .i64 3)) = w5 at F5 Y5 X5 L5 ⊢
  have HE := hide (lend_c L5.out)
  have y0 := cell_row Y5.out (i := 0) rfl
  have x0 := cell_row X5.out (i := 0) rfl
  have f0 := frz_row X5.out 0
  have y1 := cell_row Y5.out (i := 1) rfl
  have x1 := cell_row X5.out (i := 1) rfl
  have f1 := frz_row X5.out 1
  have y2 := cell_row Y5.out (i := 2) rfl
  have x2 := cell_row X5.out (i := 2) rfl
  have f2 := frz_row X5.out 2
  have y3 := cell_row Y5.out (i := 3) rfl
  have x3 := cell_row X5.out (i := 3) rfl
  have f3 := frz_row X5.out 3
  have y4 := cell_row Y5.out (i := 4) rfl
  have x4 := cell_row X5.out (i := 4) rfl
  have f4 := frz_row X5.out 4
  have y5 := cell_row Y5.out (i := 5) rfl
  have x5 := cell_row X5.out (i := 5) rfl
  have f5 := frz_row X5.out 5
  have y6 := cell_row Y5.out (i := 6) rfl
  have x6 := cell_row X5.out (i := 6) rfl
  have f6 := frz_row X5.out 6
  have y7 := cell_row Y5.out (i := 7) rfl
  have x7 := cell_row X5.out (i := 7) rfl
  have f7 := frz_row X5.out 7
  have y8 := cell_row Y5.out (i := 8) rfl
  have x8 := cell_row X5.out (i := 8) rfl
  have f8 := frz_row X5.out 8
  have y9 := cell_row Y5.out (i := 9) rfl
  have x9 := cell_row X5.out (i := 9) rfl
  have f9 := frz_row X5.out 9
  go_wp2_with first
    | (go_at_call 33; (with_reducible refine (has_t _ _ _).mono ?_); rintro e w7 ⟨rfl, h7⟩; rw [h7]; clear h7 w7)
    | (go_at_call 69; (with_reducible refine (HE.out).mono ?_); rintro e w7 ⟨rfl, h7⟩; rw [h7]; clear h7 w7)
  refine bodyPost_ret (v := .agg #[.int .i64 2, .int .i64 1, .int .i64 3, .int .i64 0, .int .i64 0, .int .i64 0, .int .u64 0, .int .u64 0, .int .u64 0, .int .u64 0]) (by simp [results, Tryz.results55, go_sem, x0, x1, x2, x3, x4, x5, x6, x7, x8, x9]) rfl ⟨?_, ?_, ?_⟩
  · simp [z1_wd_nil]
  · exact Eq.trans (Fr.block (S := At1 w.heap.size) (set10_fr _ _ _ _ _ _ _ _ _ _ _ _) b (lt_of_heap L5.out) (by show ¬ (b = w.heap.size); omega)) L5.out
  · exact set10_new F5.out (Nat.le_refl _) _ _ _ _ _ _ _ _ _ _
set_option maxRecDepth 100000 in
set_option maxHeartbeats 4000000 in
theorem inst_1 {w : World} {b : Nat} {a : Int} (hT : z1_Tab w) (h : LB w b [98, 121, 116, 101, 32, 54, 49] true a) (h2 : 2 < b) : Calls Tryz.prog 55 #[.pointer (some ⟨b, 0, none⟩)] w (InP w b a ⟨1, 0, 0, 0, 0, 0, aS⟩) := by
  have lb := lt_of_heap h
  have H2 := hide h2
  have B1 : Hid (Below w.heap.size w (w.alloc (.cells #[.int .i64 0, .int .i64 0, .int .i64 0, .int .i64 0, .int .i64 0, .int .i64 0, .int .u64 0, .int .u64 0, .int .u64 0, .int .u64 0] 35))) := (Below.refl _ _).alloc (Nat.le_refl _) _
  have X1 : Hid ((w.alloc (.cells #[.int .i64 0, .int .i64 0, .int .i64 0, .int .i64 0, .int .i64 0, .int .i64 0, .int .u64 0, .int .u64 0, .int .u64 0, .int .u64 0] 35)).heap[w.heap.size]? = some (.cells #[.int .i64 0, .int .i64 0, .int .i64 0, .int .i64 0, .int .i64 0, .int .i64 0, .int .u64 0, .int .u64 0, .int .u64 0, .int .u64 0] 35 (0, 0))) := alloc_new w _
  have HW := hide (word_c (h.kept B1.out) (by decide))
  rw [show cutL 32 [98, 121, 116, 101, 32, 54, 49] = ([98, 121, 116, 101], [54, 49], true) by decide] at HW
  have HW2 : Hid (Calls Tryz.prog 67 #[.pointer (some ⟨b, 0, none⟩)] (w.alloc (.cells #[.int .i64 0, .int .i64 0, .int .i64 0, .int .i64 0, .int .i64 0, .int .i64 0, .int .u64 0, .int .u64 0, .int .u64 0, .int .u64 0] 35)) fun e w' => e = .returned (.string ⟨#[98, 121, 116, 101]⟩) ∧ LB w' b [54, 49] true a ∧ Fr (At1 b) (w.alloc (.cells #[.int .i64 0, .int .i64 0, .int .i64 0, .int .i64 0, .int .i64 0, .int .i64 0, .int .u64 0, .int .u64 0, .int .u64 0, .int .u64 0] 35)) w') := HW
  have HO := opn_1
  have hs := fun (W : World) => (show Calls Tryz.prog 32 #[.int .i64 1] W fun e w' => e = .returned (.tuple #[.string ⟨#[98, 121, 116, 101]⟩, .int .i64 65]) ∧ w' = W from shape_c 1 W)
  have q24 : hsT 65 24 = false := by decide
  have q32 : hsT 65 32 = false := by decide
  have q2 : hsT 65 2 = false := by decide
  have q4 : hsT 65 4 = false := by decide
  have q1 : hsT 65 1 = true := by decide
  have HT := hide hT
  clear hT h HW
  go_enter Tryz.func55, Tryz.ntmps55
  go_upto_region 1 with fail
  generalize (w.alloc (.cells #[.int .i64 0, .int .i64 0, .int .i64 0, .int .i64 0, .int .i64 0, .int .i64 0, .int .u64 0, .int .u64 0, .int .u64 0, .int .u64 0] 35)) = w1 at B1 X1 HW2 ⊢
  have l1 := lt_of_heap X1.out
  go_upto_region 6 with first
    | (go_at_call 67; (with_reducible refine (HW2.out).mono ?_); rintro e w2 ⟨rfl, h21, h22⟩; have L2 := hide h21; have F2 := hide h22; have X2 := hide ((h22.block _ l1 (by show ¬ (w.heap.size = b); omega)).trans X1.out); have FF := hide ((Fr.of_below (S := At1 b) B1.out).trans h22); clear h21 h22)
    | (go_at_call 70; (with_reducible refine (HO _).mono ?_); rintro e w3 ⟨rfl, h3⟩; rw [h3]; clear h3 w3)
    | (go_at_call 32; (with_reducible refine (hs _).mono ?_); rintro e w3 ⟨rfl, h3⟩; rw [h3]; clear h3 w3)
  have BA : Below w2.heap.size w2 (w2.alloc (.cells #[.int .i64 1, .int .i64 0, .int .i64 0, .int .i64 0, .int .i64 0, .int .i64 0, .int .u64 0, .int .u64 0, .int .u64 0, .int .u64 0] 35)) := (Below.refl _ _).alloc (Nat.le_refl _) _
  have X3 := hide ((BA.block _ (lt_of_heap X2.out)).trans X2.out)
  have Y3 : Hid ((w2.alloc (.cells #[.int .i64 1, .int .i64 0, .int .i64 0, .int .i64 0, .int .i64 0, .int .i64 0, .int .u64 0, .int .u64 0, .int .u64 0, .int .u64 0] 35)).heap[w2.heap.size]? = some (.cells #[.int .i64 1, .int .i64 0, .int .i64 0, .int .i64 0, .int .i64 0, .int .i64 0, .int .u64 0, .int .u64 0, .int .u64 0, .int .u64 0] 35 (0, 0))) := alloc_new w2 _
  have L3 := hide (L2.out.kept BA)
  have F3 := hide (FF.out.then BA)
  have s1 := FF.out.size
  have s2 := lt_of_heap X2.out
  clear BA
  generalize (w2.alloc (.cells #[.int .i64 1, .int .i64 0, .int .i64 0, .int .i64 0, .int .i64 0, .int .i64 0, .int .u64 0, .int .u64 0, .int .u64 0, .int .u64 0] 35)) = w3 at X3 Y3 L3 F3 ⊢
  have HN3 := hide (set_61 (tab_fr HT.out F3.out h2) L3.out h2)
  unfold SeP at HN3
  go_upto_region 17 with first
    | (go_at_call 33; (with_reducible refine (has_t _ _ _).mono ?_); rintro e w7 ⟨rfl, h7⟩; rw [h7]; clear h7 w7)
    | (go_at_call 72; (with_reducible refine (HN3.out).mono ?_); rintro e v4 ⟨rfl, h1, h3⟩; have L3a := hide h1; have X3a := hide ((h3.block _ (lt_of_heap X3.out) (by show ¬ (w.heap.size = b); omega)).trans X3.out); have Y3a := hide ((h3.block _ (lt_of_heap Y3.out) (by show ¬ (w2.heap.size = b); omega)).trans Y3.out); have F3a := hide (F3.out.trans h3); have c6 := cell_row Y3a.out (i := 6) rfl; have f6 := frz_row Y3a.out 6; have c7 := cell_row Y3a.out (i := 7) rfl; have f7 := frz_row Y3a.out 7; have c8 := cell_row Y3a.out (i := 8) rfl; have f8 := frz_row Y3a.out 8; have c9 := cell_row Y3a.out (i := 9) rfl; have f9 := frz_row Y3a.out 9; clear h1 h3)
  have F4 : Hid (Fr (At1 b) w ((((v4.setCell ⟨w2.heap.size, 6, none⟩ (.int .u64 (z1_wd aS 0))).setCell ⟨w2.heap.size, 7, none⟩ (.int .u64 (z1_wd aS 1))).setCell ⟨w2.heap.size, 8, none⟩ (.int .u64 (z1_wd aS 2))).setCell ⟨w2.heap.size, 9, none⟩ (.int .u64 (z1_wd aS 3)))) := (fr_set (fr_set (fr_set (fr_set F3a.out (by omega) 6 _) (by omega) 7 _) (by omega) 8 _) (by omega) 9 _)
  have Y4 : Hid (((((v4.setCell ⟨w2.heap.size, 6, none⟩ (.int .u64 (z1_wd aS 0))).setCell ⟨w2.heap.size, 7, none⟩ (.int .u64 (z1_wd aS 1))).setCell ⟨w2.heap.size, 8, none⟩ (.int .u64 (z1_wd aS 2))).setCell ⟨w2.heap.size, 9, none⟩ (.int .u64 (z1_wd aS 3))).heap[w2.heap.size]? = some (.cells #[.int .i64 1, .int .i64 0, .int .i64 0, .int .i64 0, .int .i64 0, .int .i64 0, .int .u64 (z1_wd aS 0), .int .u64 (z1_wd aS 1), .int .u64 (z1_wd aS 2), .int .u64 (z1_wd aS 3)] 35 (0, 0))) := (heap_set_in (heap_set_in (heap_set_in (heap_set_in Y3a.out 6 _) 7 _) 8 _) 9 _)
  have X4 : Hid (((((v4.setCell ⟨w2.heap.size, 6, none⟩ (.int .u64 (z1_wd aS 0))).setCell ⟨w2.heap.size, 7, none⟩ (.int .u64 (z1_wd aS 1))).setCell ⟨w2.heap.size, 8, none⟩ (.int .u64 (z1_wd aS 2))).setCell ⟨w2.heap.size, 9, none⟩ (.int .u64 (z1_wd aS 3))).heap[w.heap.size]? = some (.cells #[.int .i64 0, .int .i64 0, .int .i64 0, .int .i64 0, .int .i64 0, .int .i64 0, .int .u64 0, .int .u64 0, .int .u64 0, .int .u64 0] 35 (0, 0))) := (keep_set (keep_set (keep_set (keep_set X3a.out (by omega) 6 _) (by omega) 7 _) (by omega) 8 _) (by omega) 9 _)
  have L4 : Hid (LB ((((v4.setCell ⟨w2.heap.size, 6, none⟩ (.int .u64 (z1_wd aS 0))).setCell ⟨w2.heap.size, 7, none⟩ (.int .u64 (z1_wd aS 1))).setCell ⟨w2.heap.size, 8, none⟩ (.int .u64 (z1_wd aS 2))).setCell ⟨w2.heap.size, 9, none⟩ (.int .u64 (z1_wd aS 3))) b [] false a) := (keep_set (keep_set (keep_set (keep_set L3a.out (by omega) 6 _) (by omega) 7 _) (by omega) 8 _) (by omega) 9 _)
  clear c6 f6 c7 f7 c8 f8 c9 f9
  generalize ((((v4.setCell ⟨w2.heap.size, 6, none⟩ (.int .u64 (z1_wd aS 0))).setCell ⟨w2.heap.size, 7, none⟩ (.int .u64 (z1_wd aS 1))).setCell ⟨w2.heap.size, 8, none⟩ (.int .u64 (z1_wd aS 2))).setCell ⟨w2.heap.size, 9, none⟩ (.int .u64 (z1_wd aS 3))) = w4 at F4 Y4 X4 L4 ⊢
  have HE := hide (lend_c L4.out)
  have y0 := cell_row Y4.out (i := 0) rfl
  have x0 := cell_row X4.out (i := 0) rfl
  have f0 := frz_row X4.out 0
  have y1 := cell_row Y4.out (i := 1) rfl
  have x1 := cell_row X4.out (i := 1) rfl
  have f1 := frz_row X4.out 1
  have y2 := cell_row Y4.out (i := 2) rfl
  have x2 := cell_row X4.out (i := 2) rfl
  have f2 := frz_row X4.out 2
  have y3 := cell_row Y4.out (i := 3) rfl
  have x3 := cell_row X4.out (i := 3) rfl
  have f3 := frz_row X4.out 3
  have y4 := cell_row Y4.out (i := 4) rfl
  have x4 := cell_row X4.out (i := 4) rfl
  have f4 := frz_row X4.out 4
  have y5 := cell_row Y4.out (i := 5) rfl
  have x5 := cell_row X4.out (i := 5) rfl
  have f5 := frz_row X4.out 5
  have y6 := cell_row Y4.out (i := 6) rfl
  have x6 := cell_row X4.out (i := 6) rfl
  have f6 := frz_row X4.out 6
  have y7 := cell_row Y4.out (i := 7) rfl
  have x7 := cell_row X4.out (i := 7) rfl
  have f7 := frz_row X4.out 7
  have y8 := cell_row Y4.out (i := 8) rfl
  have x8 := cell_row X4.out (i := 8) rfl
  have f8 := frz_row X4.out 8
  have y9 := cell_row Y4.out (i := 9) rfl
  have x9 := cell_row X4.out (i := 9) rfl
  have f9 := frz_row X4.out 9
  go_wp2_with first
    | (go_at_call 33; (with_reducible refine (has_t _ _ _).mono ?_); rintro e w7 ⟨rfl, h7⟩; rw [h7]; clear h7 w7)
    | (go_at_call 69; (with_reducible refine (HE.out).mono ?_); rintro e w7 ⟨rfl, h7⟩; rw [h7]; clear h7 w7)
  refine bodyPost_ret (v := .agg #[.int .i64 1, .int .i64 0, .int .i64 0, .int .i64 0, .int .i64 0, .int .i64 0, .int .u64 (z1_wd aS 0), .int .u64 (z1_wd aS 1), .int .u64 (z1_wd aS 2), .int .u64 (z1_wd aS 3)]) (by simp [results, Tryz.results55, go_sem, x0, x1, x2, x3, x4, x5, x6, x7, x8, x9]) rfl ⟨?_, ?_, ?_⟩
  · simp
  · exact Eq.trans (Fr.block (S := At1 w.heap.size) (set10_fr _ _ _ _ _ _ _ _ _ _ _ _) b (lt_of_heap L4.out) (by show ¬ (b = w.heap.size); omega)) L4.out
  · exact set10_new F4.out (Nat.le_refl _) _ _ _ _ _ _ _ _ _ _
end Go.Proofs.YtbfhahhcacnckaaGreatDoor
