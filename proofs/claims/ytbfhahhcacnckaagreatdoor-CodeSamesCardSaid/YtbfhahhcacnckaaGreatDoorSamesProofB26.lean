/-
  Parts of the proof.
-/
import Derived.Test.YtbfhahhcacnckaaGreatDoorSamesProofB21
set_option linter.unusedSimpArgs false
namespace Go.Proofs.YtbfhahhcacnckaaGreatDoor
open Go Go.RowKit
attribute [local go_sem] Oper.semAt_some
theorem keep_setD {w : World} {k g : Nat} {o : Obj} (h : w.heap[k]? = some o) (hk : k ≠ g) (j : Nat) (v : Value) : (w.setCell ⟨g, j, none⟩ v).heap[k]? = some o := (Below.heap_setCell _ _ _ _ hk).trans h
set_option maxRecDepth 100000 in
set_option maxHeartbeats 4000000 in
theorem lhead_0 {w : World} {b : Nat} {a : Int} (h : LB w b [112, 114, 111, 103, 114, 97, 109, 32, 48, 32, 48] true a) : Calls Tryz.prog 54 #[.pointer (some ⟨b, 0, none⟩)] w fun e w' => e = .returned (.agg #[.slice none 0 0, .int .i64 0, .int .i64 0, .bool false]) ∧ Fr (At1 b) w w' := by
  have lb := lt_of_heap h
  have B1 : Hid (Below w.heap.size w (w.alloc (.cells #[.slice none 0 0, .int .i64 0, .int .i64 0, .bool false] 24))) := (Below.refl _ _).alloc (Nat.le_refl _) _
  have X1 : Hid ((w.alloc (.cells #[.slice none 0 0, .int .i64 0, .int .i64 0, .bool false] 24)).heap[w.heap.size]? = some (.cells #[.slice none 0 0, .int .i64 0, .int .i64 0, .bool false] 24 (0, 0))) := alloc_new w _
  have HW := hide (word_c (h.kept B1.out) (by decide))
  rw [show cutL 32 [112, 114, 111, 103, 114, 97, 109, 32, 48, 32, 48] = ([112, 114, 111, 103, 114, 97, 109], [48, 32, 48], true) by decide] at HW
  have HW2 : Hid (Calls Tryz.prog 67 #[.pointer (some ⟨b, 0, none⟩)] (w.alloc (.cells #[.slice none 0 0, .int .i64 0, .int .i64 0, .bool false] 24)) fun e w' => e = .returned (.string ⟨#[112, 114, 111, 103, 114, 97, 109]⟩) ∧ LB w' b [48, 32, 48] true a ∧ Fr (At1 b) (w.alloc (.cells #[.slice none 0 0, .int .i64 0, .int .i64 0, .bool false] 24)) w') := HW
  clear h HW
  go_enter Tryz.func54, Tryz.ntmps54
  go_upto_region 1 with fail
  generalize (w.alloc (.cells #[.slice none 0 0, .int .i64 0, .int .i64 0, .bool false] 24)) = w1 at B1 X1 HW2 ⊢
  have l1 := lt_of_heap X1.out
  go_upto_region 4 with (go_at_call 67; (with_reducible refine (HW2.out).mono ?_); rintro e w2 ⟨rfl, h21, h22⟩; have L2 := hide h21; have F2 := hide h22; have X2 := hide ((h22.block _ l1 (by show ¬ (w.heap.size = b); omega)).trans X1.out); have FF := hide ((Fr.of_below (S := At1 b) B1.out).trans h22); clear h21 h22)
  have BA : Below w2.heap.size w2 (w2.alloc (.cells #[.slice none 0 0, .int .i64 0, .int .i64 0, .bool false] 24)) := (Below.refl _ _).alloc (Nat.le_refl _) _
  have X3 := hide ((BA.block _ (lt_of_heap X2.out)).trans X2.out)
  have Y3 : Hid ((w2.alloc (.cells #[.slice none 0 0, .int .i64 0, .int .i64 0, .bool false] 24)).heap[w2.heap.size]? = some (.cells #[.slice none 0 0, .int .i64 0, .int .i64 0, .bool false] 24 (0, 0))) := alloc_new w2 _
  have L3 := hide (L2.out.kept BA)
  have F3 := hide (FF.out.then BA)
  have s1 := FF.out.size
  have s2 := lt_of_heap X2.out
  clear BA
  generalize (w2.alloc (.cells #[.slice none 0 0, .int .i64 0, .int .i64 0, .bool false] 24)) = w3 at X3 Y3 L3 F3 ⊢
  have HN3 := hide (number_c (d := [48]) (r := [48]) (f := true) L3.out (by decide) (by decide) 0 (by decide) (by decide +kernel) (by decide +kernel) (by decide))
  go_upto_region 5 with (go_at_call 68; (with_reducible refine (HN3.out).mono ?_); rintro e v4 ⟨rfl, h1, h3⟩; have L3a := hide h1; have X3a := hide ((h3.block _ (lt_of_heap X3.out) (by show ¬ (w.heap.size = b); omega)).trans X3.out); have Y3a := hide ((h3.block _ (lt_of_heap Y3.out) (by show ¬ (w2.heap.size = b); omega)).trans Y3.out); have F3a := hide (F3.out.trans h3); have c1 := cell_row Y3a.out (i := 1) rfl; have f1 := frz_row Y3a.out 1; clear h1 h3)
  have F4 : Hid (Fr (At1 b) w (v4.setCell ⟨w2.heap.size, 1, none⟩ (.int .i64 0))) := Fr.setNew F3a.out (p := ⟨w2.heap.size, 1, none⟩) (by show w.heap.size ≤ w2.heap.size; omega) _
  have Y4 : Hid ((v4.setCell ⟨w2.heap.size, 1, none⟩ (.int .i64 0)).heap[w2.heap.size]? = some (.cells #[.slice none 0 0, .int .i64 0, .int .i64 0, .bool false] 24 (0, 0))) := heap_set_in Y3a.out 1 _
  have X4 : Hid ((v4.setCell ⟨w2.heap.size, 1, none⟩ (.int .i64 0)).heap[w.heap.size]? = some (.cells #[.slice none 0 0, .int .i64 0, .int .i64 0, .bool false] 24 (0, 0))) := keep_setD X3a.out (by omega) 1 _
  have L4 : Hid (LB (v4.setCell ⟨w2.heap.size, 1, none⟩ (.int .i64 0)) b [48] true a) := keep_setD L3a.out (by omega) 1 _
  clear c1 f1
  generalize (v4.setCell ⟨w2.heap.size, 1, none⟩ (.int .i64 0)) = w4 at F4 Y4 X4 L4 ⊢
  have HN4 := hide (number_c (d := [48]) (r := []) (f := false) L4.out (by decide) (by decide) 0 (by decide) (by decide +kernel) (by decide +kernel) (by decide))
  go_upto_region 6 with (go_at_call 68; (with_reducible refine (HN4.out).mono ?_); rintro e v5 ⟨rfl, h1, h3⟩; have L4a := hide h1; have X4a := hide ((h3.block _ (lt_of_heap X4.out) (by show ¬ (w.heap.size = b); omega)).trans X4.out); have Y4a := hide ((h3.block _ (lt_of_heap Y4.out) (by show ¬ (w2.heap.size = b); omega)).trans Y4.out); have F4a := hide (F4.out.trans h3); have c2 := cell_row Y4a.out (i := 2) rfl; have f2 := frz_row Y4a.out 2; clear h1 h3)
  have F5 : Hid (Fr (At1 b) w (v5.setCell ⟨w2.heap.size, 2, none⟩ (.int .i64 0))) := Fr.setNew F4a.out (p := ⟨w2.heap.size, 2, none⟩) (by show w.heap.size ≤ w2.heap.size; omega) _
  have Y5 : Hid ((v5.setCell ⟨w2.heap.size, 2, none⟩ (.int .i64 0)).heap[w2.heap.size]? = some (.cells #[.slice none 0 0, .int .i64 0, .int .i64 0, .bool false] 24 (0, 0))) := heap_set_in Y4a.out 2 _
  have X5 : Hid ((v5.setCell ⟨w2.heap.size, 2, none⟩ (.int .i64 0)).heap[w.heap.size]? = some (.cells #[.slice none 0 0, .int .i64 0, .int .i64 0, .bool false] 24 (0, 0))) := keep_setD X4a.out (by omega) 2 _
  have L5 : Hid (LB (v5.setCell ⟨w2.heap.size, 2, none⟩ (.int .i64 0)) b [] false a) := keep_setD L4a.out (by omega) 2 _
  clear c2 f2
  generalize (v5.setCell ⟨w2.heap.size, 2, none⟩ (.int .i64 0)) = w5 at F5 Y5 X5 L5 ⊢
  have HE := hide (lend_c L5.out)
  have m1 := cell_row L5.out (i := 1) rfl
  have y0 := cell_row Y5.out (i := 0) rfl
  have y1 := cell_row Y5.out (i := 1) rfl
  have y2 := cell_row Y5.out (i := 2) rfl
  have y3 := cell_row Y5.out (i := 3) rfl
  have x0 := cell_row X5.out (i := 0) rfl
  have x1 := cell_row X5.out (i := 1) rfl
  have x2 := cell_row X5.out (i := 2) rfl
  have x3 := cell_row X5.out (i := 3) rfl
  have f0 := frz_row X5.out 0
  have f1 := frz_row X5.out 1
  have f2 := frz_row X5.out 2
  have f3 := frz_row X5.out 3
  go_wp2_with (go_at_call 69; (with_reducible refine (HE.out).mono ?_); rintro e w7 ⟨rfl, h7⟩; rw [h7]; clear h7 w7)
  refine bodyPost_ret (v := .agg #[.slice none 0 0, .int .i64 0, .int .i64 0, .bool false]) (by simp [results, Tryz.results54, go_sem, x0, x1, x2, x3]) rfl ⟨rfl, ?_⟩
  exact Fr.setNew (Fr.setNew (Fr.setNew (Fr.setNew F5.out (p := ⟨w.heap.size, 0, none⟩) (Nat.le_refl _) _) (p := ⟨w.heap.size, 1, none⟩) (Nat.le_refl _) _) (p := ⟨w.heap.size, 2, none⟩) (Nat.le_refl _) _) (p := ⟨w.heap.size, 3, none⟩) (Nat.le_refl _) _
def RB (w : World) (b : Nat) (rest : List UInt8) (at_ : Int) (v : Value) : Prop := w.heap[b]? = some (.cells #[.string (txt rest), .int .i64 at_, v] 86 (0, 0))
theorem RB.kept {w w' : World} {b : Nat} {r : List UInt8} {a : Int} {v : Value} (h : RB w b r a v) (hb : Below w.heap.size w w') : RB w' b r a v := (hb.block _ (lt_of_heap h)).trans h
def LiP (w : World) (b : Nat) (l r : List UInt8) (at_ : Int) (v : Value) (e : Ending) (w' : World) : Prop := ∃ g, e = .returned (.pointer (some ⟨g, 0, none⟩)) ∧ w.heap.size ≤ g ∧ LB w' g l true at_ ∧ RB w' b r (at_ + (l.length + 1)) v ∧ Fr (At1 b) w w'
set_option maxRecDepth 100000 in
set_option maxHeartbeats 4000000 in
theorem rline_c {w : World} {b : Nat} {s l r : List UInt8} {a : Int} {v : Value} (h : RB w b s a v) (hs : cutL 10 s = (l, r, true)) (hl : s.length ≤ 1000000) (h0 : 0 ≤ a) (h1 : a ≤ 1000000) (hll : l.length ≤ 1000000) : Calls Tryz.prog 53 #[.pointer (some ⟨b, 0, none⟩)] w (LiP w b l r a v) := by
  have H := hide h
  have c0 := cell_row h (i := 0) rfl
  have HX := hide (cut_c s 10 (by omega) w)
  rw [hs] at HX
  have hz := txt_size l
  clear h hs
  go_enter Tryz.func53, Tryz.ntmps53
  go_upto_region 2 with (go_at_call 65; (with_reducible refine (HX.out).mono ?_); rintro e w5 ⟨rfl, h5⟩; have B5 := hide h5; have H5 := hide (H.out.kept h5); have d0 := cell_row H5.out (i := 0) rfl; have d1 := cell_row H5.out (i := 1) rfl; have f0 := frz_row H5.out 0; have f1 := frz_row H5.out 1; have lb := lt_of_heap H5.out; clear h5)
  have hw1 : IntKind.wrap .i64 ((l.length : Int) + 1) = (l.length : Int) + 1 := wrap_small _ (by omega) (by omega)
  have hw2 : IntKind.wrap .i64 (a + ((l.length : Int) + 1)) = a + ((l.length : Int) + 1) := wrap_small _ (by omega) (by omega)
  go_wp2
  go_ret
  have hb : Fr (At1 b) w ((w5.setCell ⟨b, 0, none⟩ (.string (txt r))).setCell ⟨b, 1, none⟩ (.int .i64 (a + ((l.length : Int) + 1)))) := Fr.setCell (S := At1 b) (Fr.setCell (S := At1 b) (Fr.of_below B5.out) (p := ⟨b, 0, none⟩) rfl _) (p := ⟨b, 1, none⟩) rfl _
  have hsz : ((w5.setCell ⟨b, 0, none⟩ (.string (txt r))).setCell ⟨b, 1, none⟩ (.int .i64 (a + ((l.length : Int) + 1)))).heap.size = w5.heap.size := by simp [World.setCell]
  have hrb : ((w5.setCell ⟨b, 0, none⟩ (.string (txt r))).setCell ⟨b, 1, none⟩ (.int .i64 (a + ((l.length : Int) + 1)))).heap[b]? = some (.cells #[.string (txt r), .int .i64 (a + ((l.length : Int) + 1)), v] 86 (0, 0)) := heap_set_in (heap_set_in H5.out 0 _) 1 _
  refine ⟨w5.heap.size, rfl, B5.out.size, ?_, (Below.heap_alloc _ _ _ (by rw [hsz]; exact lb)).trans hrb, hb.alloc _⟩
  have := alloc_new ((w5.setCell ⟨b, 0, none⟩ (.string (txt r))).setCell ⟨b, 1, none⟩ (.int .i64 (a + ((l.length : Int) + 1)))) (.cells #[.string (txt l), .bool true, .int .i64 a] 110)
  rw [hsz] at this
  exact this
end Go.Proofs.YtbfhahhcacnckaaGreatDoor
