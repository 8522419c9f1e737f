/-
  Parts of the proof.
-/
import Derived.Test.YtbfhahhcacnckaaGreatDoorSamesProofB21
import Derived.Test.YtbfhahhcacnckaaGreatDoorSamesProofB22
import Derived.Test.YtbfhahhcacnckaaGreatDoorSamesProofB13
set_option linter.unusedSimpArgs false
namespace Go.Proofs.YtbfhahhcacnckaaGreatDoor
open Go Go.RowKit
attribute [local go_sem] Oper.semAt_some
theorem aS_range : z1_srange 97 97 = aS := by decide +kernel
theorem aS_or : z1_sor (0#256) aS = aS := by decide +kernel
theorem zS_w : z1_wd (0#256) 0 = 0 ∧ z1_wd (0#256) 1 = 0 ∧ z1_wd (0#256) 2 = 0 ∧ z1_wd (0#256) 3 = 0 := by decide +kernel
theorem cut_lit {s : List UInt8} {c : UInt8} {a b : List UInt8} {f : Bool} (h : cutL c s = (a, b, f)) (hl : s.length ≤ 1000000) (w : World) : Calls Tryz.prog 65 #[.string (txt s), .string ⟨#[c]⟩] w fun e w' => e = .returned (.tuple #[.string (txt a), .string (txt b), .bool f]) ∧ Below w.heap.size w w' := by
  have := cut_c s c (by omega) w
  rw [h] at this
  exact this
set_option maxRecDepth 100000 in
set_option maxHeartbeats 4000000 in
theorem rangeOf_61 (b : Nat) (w : World) : Calls Tryz.prog 92 #[.pointer (some ⟨b, 0, none⟩), .string (txt [54, 49])] w fun e w' => e = .returned (.agg #[.int .u64 (z1_wd aS 0), .int .u64 (z1_wd aS 1), .int .u64 (z1_wd aS 2), .int .u64 (z1_wd aS 3)]) ∧ Below w.heap.size w w' := by
  have B1 : Hid (Below w.heap.size w (w.alloc (.cells #[.int .u64 0, .int .u64 0, .int .u64 0, .int .u64 0] 33))) := (Below.refl _ _).alloc (Nat.le_refl _) _
  have X1 : Hid ((w.alloc (.cells #[.int .u64 0, .int .u64 0, .int .u64 0, .int .u64 0] 33)).heap[w.heap.size]? = some (.cells #[.int .u64 0, .int .u64 0, .int .u64 0, .int .u64 0] 33 (0, 0))) := alloc_new w _
  have HC := fun W => cut_lit (s := [54, 49]) (c := 45) (a := [54, 49]) (b := []) (f := false) (by decide) (by decide) W
  have HB := fun W => (show Calls Tryz.prog 109 #[.pointer (some ⟨b, 0, none⟩), .string (txt [54, 49])] W fun e w' => e = .returned (.int .i64 97) ∧ Below W.heap.size W w' from byteOf_61 b W)
  have HR := fun W => z1_range_ok 97 97 W ⟨by decide, by decide, by decide⟩
  rw [aS_range] at HR
  go_enter Tryz.func92, Tryz.ntmps92
  go_upto_region 1 with fail
  generalize (w.alloc (.cells #[.int .u64 0, .int .u64 0, .int .u64 0, .int .u64 0] 33)) = w1 at B1 X1 ⊢
  have l1 := lt_of_heap X1.out
  go_wp2_with first
    | (go_at_call 65; (with_reducible refine (HC _).mono ?_); rintro e w2 ⟨rfl, h2⟩; have B2 := hide (chain B1.out h2 (Nat.le_refl _)); have X2 := hide ((h2.block _ l1).trans X1.out); clear h2)
    | (go_at_call 108; (with_reducible refine (HR _).mono ?_); rintro e w5 ⟨rfl, h5⟩; have B5 := hide (chain B4.out h5 (Nat.le_refl _)); have X5 := hide ((h5.block _ (lt_of_heap X4.out)).trans X4.out); have s0 := cell_row X5.out (i := 0) rfl; have s1 := cell_row X5.out (i := 1) rfl; have s2 := cell_row X5.out (i := 2) rfl; have s3 := cell_row X5.out (i := 3) rfl; have f0 := frz_row X5.out 0; have f1 := frz_row X5.out 1; have f2 := frz_row X5.out 2; have f3 := frz_row X5.out 3; have l5 := lt_of_heap X5.out; clear h5)
    | (go_at_call 109; (with_reducible refine (HB w3).mono ?_); rintro e w4 ⟨rfl, h4⟩; have B4 := hide (chain B3.out h4 (Nat.le_refl _)); have X4 := hide ((h4.block _ (lt_of_heap X3.out)).trans X3.out); clear h4)
    | (go_at_call 109; (with_reducible refine (HB _).mono ?_); rintro e w3 ⟨rfl, h3⟩; have B3 := hide (chain B2.out h3 (Nat.le_refl _)); have X3 := hide ((h3.block _ (lt_of_heap X2.out)).trans X2.out); clear h3)
  refine bodyPost_ret (v := .agg #[.int .u64 (z1_wd aS 0), .int .u64 (z1_wd aS 1), .int .u64 (z1_wd aS 2), .int .u64 (z1_wd aS 3)]) (by simp [results, Tryz.results92, go_sem, s0, s1, s2, s3, l5]) rfl ⟨rfl, ?_⟩
  repeat' (first | exact B5.out | refine Below.setCell ?_ (by simp) _ | refine Below.alloc ?_ (by simp <;> omega) _)
theorem set4_fr (W : World) (g : Nat) (a0 a1 a2 a3 : Value) : Fr (At1 g) W ((((W.setCell ⟨g, 0, none⟩ a0).setCell ⟨g, 1, none⟩ a1).setCell ⟨g, 2, none⟩ a2).setCell ⟨g, 3, none⟩ a3) :=
  Fr.setCell (S := At1 g) (Fr.setCell (S := At1 g) (Fr.setCell (S := At1 g) (Fr.setCell (S := At1 g) (Fr.refl _ _) (p := ⟨g, 0, none⟩) rfl _) (p := ⟨g, 1, none⟩) rfl _) (p := ⟨g, 2, none⟩) rfl _) (p := ⟨g, 3, none⟩) rfl _
theorem tab_fr {w w' : World} {b : Nat} (h : z1_Tab w) (hf : Fr (At1 b) w w') (hb : 2 < b) : z1_Tab w' :=
  ⟨Nat.lt_of_lt_of_le h.1 hf.size, fun j hj => (World.cell?_of_block (a := ⟨2, j, none⟩) (hf.block 2 h.1 (by show ¬ (2 = b); omega))).trans (h.2 j hj)⟩
def SeP (w : World) (b : Nat) (a : Int) (e : Ending) (w' : World) : Prop := e = .returned (.agg #[.int .u64 (z1_wd aS 0), .int .u64 (z1_wd aS 1), .int .u64 (z1_wd aS 2), .int .u64 (z1_wd aS 3)]) ∧ LB w' b [] false a ∧ Fr (At1 b) w w'
set_option maxRecDepth 100000 in
set_option maxHeartbeats 4000000 in
theorem set_61 {w : World} {b : Nat} {a : Int} (hT : z1_Tab w) (h : LB w b [54, 49] true a) (h2 : 2 < b) : Calls Tryz.prog 72 #[.pointer (some ⟨b, 0, none⟩)] w (SeP w b a) := by
  have lb := lt_of_heap h
  have B1 : Hid (Below w.heap.size w (w.alloc (.cells #[.int .u64 0, .int .u64 0, .int .u64 0, .int .u64 0] 33))) := (Below.refl _ _).alloc (Nat.le_refl _) _
  have X1 : Hid ((w.alloc (.cells #[.int .u64 0, .int .u64 0, .int .u64 0, .int .u64 0] 33)).heap[w.heap.size]? = some (.cells #[.int .u64 0, .int .u64 0, .int .u64 0, .int .u64 0] 33 (0, 0))) := alloc_new w _
  have HW := hide (word_c (h.kept B1.out) (by decide))
  rw [show cutL 32 [54, 49] = ([54, 49], [], false) by decide] at HW
  have HC := fun W => cut_lit (s := [54, 49]) (c := 44) (a := [54, 49]) (b := []) (f := false) (by decide) (by decide) W
  have HR := rangeOf_61 b
  have HO := z1_or_any (0#256) aS
  rw [aS_or, zS_w.1, zS_w.2.1, zS_w.2.2.1, zS_w.2.2.2] at HO
  have HT := hide hT
  clear hT h
  have HW2 : Hid (Calls Tryz.prog 67 #[.pointer (some ⟨b, 0, none⟩)] (w.alloc (.cells #[.int .u64 0, .int .u64 0, .int .u64 0, .int .u64 0] 33)) fun e w' => e = .returned (.string ⟨#[54, 49]⟩) ∧ LB w' b [] false a ∧ Fr (At1 b) (w.alloc (.cells #[.int .u64 0, .int .u64 0, .int .u64 0, .int .u64 0] 33)) w') := HW
  clear HW
  simp only [txt] at HC HR
  go_enter Tryz.func72, Tryz.ntmps72
  go_upto_region 1 with fail
  generalize (w.alloc (.cells #[.int .u64 0, .int .u64 0, .int .u64 0, .int .u64 0] 33)) = w1 at B1 X1 HW2 ⊢
  have l1 := lt_of_heap X1.out
  go_upto_region 3 with (go_at_call 67; (with_reducible refine (HW2.out).mono ?_); rintro e w2 ⟨rfl, h21, h22⟩; have L2 := hide h21; have F2 := hide h22; have X2 := hide ((h22.block _ l1 (by show ¬ (w.heap.size = b); omega)).trans X1.out); have FF := hide ((Fr.of_below (S := At1 b) B1.out).trans h22); clear h21 h22)
  have BA : Below w2.heap.size w2 (w2.alloc (.cells #[.int .u64 0, .int .u64 0, .int .u64 0, .int .u64 0] 33)) := (Below.refl _ _).alloc (Nat.le_refl _) _
  have X3 := hide ((BA.block _ (lt_of_heap X2.out)).trans X2.out)
  have Y3 : Hid ((w2.alloc (.cells #[.int .u64 0, .int .u64 0, .int .u64 0, .int .u64 0] 33)).heap[w2.heap.size]? = some (.cells #[.int .u64 0, .int .u64 0, .int .u64 0, .int .u64 0] 33 (0, 0))) := alloc_new w2 _
  have L3 := hide (L2.out.kept BA)
  have F3 := hide (FF.out.then BA)
  have l2 := lt_of_heap X2.out
  clear BA
  generalize (w2.alloc (.cells #[.int .u64 0, .int .u64 0, .int .u64 0, .int .u64 0] 33)) = w3 at X3 Y3 L3 F3 ⊢
  have sz3 := lt_of_heap Y3.out
  go_wp2
  refine wp_loop_unr 2 (unr_succ ?_)
  go_upto_region 7 with (go_at_call 65; (with_reducible refine (HC _).mono ?_); rintro e w4 ⟨rfl, h4⟩; have X4 := hide ((h4.block _ (lt_of_heap X3.out)).trans X3.out); have Y4 := hide ((h4.block _ sz3).trans Y3.out); have L4 := hide (L3.out.kept h4); have F4 := hide (F3.out.then h4); clear h4)
  have t0 := cell_row Y4.out (i := 0) rfl
  have t1 := cell_row Y4.out (i := 1) rfl
  have t2 := cell_row Y4.out (i := 2) rfl
  have t3 := cell_row Y4.out (i := 3) rfl
  have lY := lt_of_heap Y4.out
  have X4d : Hid (w4.drew.heap[w.heap.size]? = some (.cells #[.int .u64 0, .int .u64 0, .int .u64 0, .int .u64 0] 33 (0, 0))) := X4.out
  have Y4d : Hid (w4.drew.heap[w2.heap.size]? = some (.cells #[.int .u64 0, .int .u64 0, .int .u64 0, .int .u64 0] 33 (0, 0))) := Y4.out
  have L4d : Hid (LB w4.drew b [] false a) := L4.out
  have F4d : Hid (Fr (At1 b) w w4.drew) := F4.out.drew
  go_region_with first
    | (go_at_call 92; (with_reducible refine (HR _).mono ?_); rintro e w5 ⟨rfl, h5⟩; have X5 := hide ((h5.block _ (lt_of_heap X4d.out)).trans X4d.out); have Y5 := hide ((h5.block _ (lt_of_heap Y4d.out)).trans Y4d.out); have L5 := hide (L4d.out.kept h5); have F5 := hide (F4d.out.then h5); have u0 := cell_row Y5.out (i := 0) rfl; have u1 := cell_row Y5.out (i := 1) rfl; have u2 := cell_row Y5.out (i := 2) rfl; have u3 := cell_row Y5.out (i := 3) rfl; clear h5)
    | (go_at_call 91; (with_reducible refine (HO _).mono ?_); rintro e w6 ⟨rfl, h6⟩; have X6 := hide ((h6.block _ (lt_of_heap X5.out)).trans X5.out); have Y6 := hide ((h6.block _ (lt_of_heap Y5.out)).trans Y5.out); have L6 := hide (L5.out.kept h6); have F6 := hide (F5.out.then h6); have v0 := cell_row Y6.out (i := 0) rfl; have v1 := cell_row Y6.out (i := 1) rfl; have v2 := cell_row Y6.out (i := 2) rfl; have v3 := cell_row Y6.out (i := 3) rfl; have g0 := frz_row Y6.out 0; have g1 := frz_row Y6.out 1; have g2 := frz_row Y6.out 2; have g3 := frz_row Y6.out 3; clear h6)
  all_goals
    have FZ : Hid (Fr (At1 w2.heap.size) w6 ((((w6.setCell ⟨w2.heap.size, 0, none⟩ (.int .u64 (z1_wd aS 0))).setCell ⟨w2.heap.size, 1, none⟩ (.int .u64 (z1_wd aS 1))).setCell ⟨w2.heap.size, 2, none⟩ (.int .u64 (z1_wd aS 2))).setCell ⟨w2.heap.size, 3, none⟩ (.int .u64 (z1_wd aS 3)))) := set4_fr _ _ _ _ _ _
    have Y7 : Hid (((((w6.setCell ⟨w2.heap.size, 0, none⟩ (.int .u64 (z1_wd aS 0))).setCell ⟨w2.heap.size, 1, none⟩ (.int .u64 (z1_wd aS 1))).setCell ⟨w2.heap.size, 2, none⟩ (.int .u64 (z1_wd aS 2))).setCell ⟨w2.heap.size, 3, none⟩ (.int .u64 (z1_wd aS 3))).heap[w2.heap.size]? = some (.cells #[.int .u64 (z1_wd aS 0), .int .u64 (z1_wd aS 1), .int .u64 (z1_wd aS 2), .int .u64 (z1_wd aS 3)] 33 (0, 0))) := heap_set_in (heap_set_in (heap_set_in (heap_set_in Y6.out 0 _) 1 _) 2 _) 3 _
    have lw2 := F2.out.size
    have lw1 := B1.out.size
    have F7 : Hid (Fr (At1 b) w ((((w6.setCell ⟨w2.heap.size, 0, none⟩ (.int .u64 (z1_wd aS 0))).setCell ⟨w2.heap.size, 1, none⟩ (.int .u64 (z1_wd aS 1))).setCell ⟨w2.heap.size, 2, none⟩ (.int .u64 (z1_wd aS 2))).setCell ⟨w2.heap.size, 3, none⟩ (.int .u64 (z1_wd aS 3)))) := Fr.setNew (Fr.setNew (Fr.setNew (Fr.setNew F6.out (p := ⟨w2.heap.size, 0, none⟩) (by show w.heap.size ≤ w2.heap.size; omega) _) (p := ⟨w2.heap.size, 1, none⟩) (by show w.heap.size ≤ w2.heap.size; omega) _) (p := ⟨w2.heap.size, 2, none⟩) (by show w.heap.size ≤ w2.heap.size; omega) _) (p := ⟨w2.heap.size, 3, none⟩) (by show w.heap.size ≤ w2.heap.size; omega) _
    have X7 := hide ((FZ.out.block _ (lt_of_heap X6.out) (by show ¬ (w.heap.size = w2.heap.size); omega)).trans X6.out)
    have L7 := hide ((FZ.out.block _ (lt_of_heap L6.out) (by show ¬ (b = w2.heap.size); omega)).trans L6.out)
    clear v0 v1 v2 v3 g0 g1 g2 g3 u0 u1 u2 u3 t0 t1 t2 t3 FZ
    generalize ((((w6.setCell ⟨w2.heap.size, 0, none⟩ (.int .u64 (z1_wd aS 0))).setCell ⟨w2.heap.size, 1, none⟩ (.int .u64 (z1_wd aS 1))).setCell ⟨w2.heap.size, 2, none⟩ (.int .u64 (z1_wd aS 2))).setCell ⟨w2.heap.size, 3, none⟩ (.int .u64 (z1_wd aS 3))) = w7 at Y7 F7 X7 L7 ⊢
    have SW : Hid (Calls Tryz.prog 47 #[.agg #[.int .u64 (z1_wd aS 0), .int .u64 (z1_wd aS 1), .int .u64 (z1_wd aS 2), .int .u64 (z1_wd aS 3)]] w7 fun e w' => e = .returned (.string ⟨#[54, 49]⟩) ∧ Below w7.heap.size w7 w') := setWord_a (tab_fr HT.out F7.out h2)
    have a0 := cell_row Y7.out (i := 0) rfl
    have a1 := cell_row Y7.out (i := 1) rfl
    have a2 := cell_row Y7.out (i := 2) rfl
    have a3 := cell_row Y7.out (i := 3) rfl
    go_wp2
    refine unr_succ ?_
    go_wp2_with (go_at_call 47; (with_reducible refine (SW.out).mono ?_); rintro e w8 ⟨rfl, h8⟩; have X8 := hide ((h8.block _ (lt_of_heap X7.out)).trans X7.out); have Y8 := hide ((h8.block _ (lt_of_heap Y7.out)).trans Y7.out); have L8 := hide (LB.kept L7.out h8); have F8 := hide (F7.out.then h8); have b0 := cell_row Y8.out (i := 0) rfl; have b1 := cell_row Y8.out (i := 1) rfl; have b2 := cell_row Y8.out (i := 2) rfl; have b3 := cell_row Y8.out (i := 3) rfl; have s0 := cell_row X8.out (i := 0) rfl; have s1 := cell_row X8.out (i := 1) rfl; have s2 := cell_row X8.out (i := 2) rfl; have s3 := cell_row X8.out (i := 3) rfl; have f0 := frz_row X8.out 0; have f1 := frz_row X8.out 1; have f2 := frz_row X8.out 2; have f3 := frz_row X8.out 3; clear h8)
    refine bodyPost_ret (v := .agg #[.int .u64 (z1_wd aS 0), .int .u64 (z1_wd aS 1), .int .u64 (z1_wd aS 2), .int .u64 (z1_wd aS 3)]) (by simp [results, Tryz.results72, go_sem, s0, s1, s2, s3]) rfl ⟨rfl, ?_, ?_⟩
    · refine Eq.trans (Fr.block (S := At1 w.heap.size) (set4_fr _ _ _ _ _ _) b (lt_of_heap L8.out) (by show ¬ (b = w.heap.size); omega)) L8.out
    · exact Fr.setNew (Fr.setNew (Fr.setNew (Fr.setNew F8.out (p := ⟨w.heap.size, 0, none⟩) (Nat.le_refl _) _) (p := ⟨w.heap.size, 1, none⟩) (Nat.le_refl _) _) (p := ⟨w.heap.size, 2, none⟩) (Nat.le_refl _) _) (p := ⟨w.heap.size, 3, none⟩) (Nat.le_refl _) _
end Go.Proofs.YtbfhahhcacnckaaGreatDoor
