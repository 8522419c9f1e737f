/-
  Parts of the proof.
-/
import Derived.Test.YtbfhahhcacnckaaGreatDoorSamesProofB22
set_option linter.unusedSimpArgs false
namespace Go.Proofs.YtbfhahhcacnckaaGreatDoor
open Go Go.RowKit
attribute [local go_sem] Oper.semAt_some
theorem sr_one {base : Nat} (W : World) (x : List UInt8) (hb : base ≤ W.heap.size) : SR base (W.alloc (.cells #[.string (txt x)] 9)) (.slice (some ⟨W.heap.size, 0, none⟩) 1 1) [x] :=
  ⟨rfl, .inr ⟨W.heap.size, 1, _, rfl, hb, alloc_new W _, Nat.le_refl _, by unfold maxLen; omega, rfl, rfl⟩⟩
def SRR (w : World) (xs : List (List UInt8)) (e : Ending) (w' : World) : Prop := ∃ v, e = .returned v ∧ SR w.heap.size w' v xs ∧ Below w.heap.size w w'
set_option maxRecDepth 100000 in
set_option maxHeartbeats 2000000 in
theorem words_11 {w : World} (hT : z1_Tab w) (i : Ins) (hi0 : i = ⟨11, 0, 0, 0, 0, 0, 0#256⟩) : Calls Tryz.prog 26 #[.agg #[.int .i64 i.op, .int .i64 i.x, .int .i64 i.y, .int .i64 i.n, .int .i64 i.mn, .int .i64 i.mx, .int .u64 (z1_wd i.s 0), .int .u64 (z1_wd i.s 1), .int .u64 (z1_wd i.s 2), .int .u64 (z1_wd i.s 3)]] w (SRR w [[109, 97, 116, 99, 104]]) := by
  have B1 : Hid (Below w.heap.size w (w.alloc (.cells #[.int .i64 i.op, .int .i64 i.x, .int .i64 i.y, .int .i64 i.n, .int .i64 i.mn, .int .i64 i.mx, .int .u64 (z1_wd i.s 0), .int .u64 (z1_wd i.s 1), .int .u64 (z1_wd i.s 2), .int .u64 (z1_wd i.s 3)] 35))) := (Below.refl _ _).alloc (Nat.le_refl _) _
  have X1 : Hid ((w.alloc (.cells #[.int .i64 i.op, .int .i64 i.x, .int .i64 i.y, .int .i64 i.n, .int .i64 i.mn, .int .i64 i.mx, .int .u64 (z1_wd i.s 0), .int .u64 (z1_wd i.s 1), .int .u64 (z1_wd i.s 2), .int .u64 (z1_wd i.s 3)] 35)).heap[w.heap.size]? = some (.cells #[.int .i64 i.op, .int .i64 i.x, .int .i64 i.y, .int .i64 i.n, .int .i64 i.mn, .int .i64 i.mx, .int .u64 (z1_wd i.s 0), .int .u64 (z1_wd i.s 1), .int .u64 (z1_wd i.s 2), .int .u64 (z1_wd i.s 3)] 35 (0, 0))) := alloc_new w _
  have HT := hide hT
  have HI := hide hi0
  clear hi0
  obtain ⟨t0, hi, hz0, hz1, hz2⟩ := info_parts size_str
  have hs := fun (W : World) => (show Calls Tryz.prog 32 #[.int .i64 11] W fun e w' => e = .returned (.tuple #[.string (txt [109, 97, 116, 99, 104]), .int .i64 0]) ∧ w' = W from shape_c 11 W)
  have q24 : hsT 0 24 = false := by decide
  have q32 : hsT 0 32 = false := by decide
  have q2 : hsT 0 2 = false := by decide
  have q4 : hsT 0 4 = false := by decide
  have q1 : hsT 0 1 = false := by decide
  clear hT
  go_enter Tryz.func26, Tryz.ntmps26
  go_upto_region 1 with fail
  generalize (w.alloc (.cells #[.int .i64 i.op, .int .i64 i.x, .int .i64 i.y, .int .i64 i.n, .int .i64 i.mn, .int .i64 i.mx, .int .u64 (z1_wd i.s 0), .int .u64 (z1_wd i.s 1), .int .u64 (z1_wd i.s 2), .int .u64 (z1_wd i.s 3)] 35)) = w1 at B1 X1 ⊢
  have c0 : w1.cell? ⟨w.heap.size, 0, none⟩ = some (.int .i64 11) := cell_row X1.out (i := 0) (by have h := HI.out; subst h; rfl)
  have l1 := lt_of_heap X1.out
  go_upto_region 3 with (go_at_call 32; (with_reducible refine (hs _).mono ?_); rintro e w5 ⟨rfl, rfl⟩)
  have R2 : Hid (SR w.heap.size (w5.alloc (.cells #[.string (txt [109, 97, 116, 99, 104])] 9)) (.slice (some ⟨w5.heap.size, 0, none⟩) 1 1) [[109, 97, 116, 99, 104]]) := sr_one w5 _ (by omega)
  have B2 : Hid (Below w.heap.size w (w5.alloc (.cells #[.string (txt [109, 97, 116, 99, 104])] 9))) := chain B1.out ((Below.refl _ _).alloc (Nat.le_refl _) _) (Nat.le_refl _)
  have X2 : Hid ((w5.alloc (.cells #[.string (txt [109, 97, 116, 99, 104])] 9)).heap[w.heap.size]? = some (.cells #[.int .i64 i.op, .int .i64 i.x, .int .i64 i.y, .int .i64 i.n, .int .i64 i.mn, .int .i64 i.mx, .int .u64 (z1_wd i.s 0), .int .u64 (z1_wd i.s 1), .int .u64 (z1_wd i.s 2), .int .u64 (z1_wd i.s 3)] 35 (0, 0))) := (Below.heap_alloc _ _ _ l1).trans X1.out
  clear c0 B1 X1 hs
  generalize (w5.alloc (.cells #[.string (txt [109, 97, 116, 99, 104])] 9)) = w6 at B2 X2 R2 ⊢
  have l2 := lt_of_heap X2.out
  go_wp2_with (go_at_call 33; (with_reducible refine (has_t _ _ _).mono ?_); rintro e w7 ⟨rfl, rfl⟩)
  go_ret
  exact ⟨_, rfl, R2.out, B2.out⟩
set_option maxRecDepth 100000 in
set_option maxHeartbeats 2000000 in
theorem words_3 {w : World} (hT : z1_Tab w) (i : Ins) (hi0 : i = ⟨3, 0, 0, 0, 0, 0, 0#256⟩) : Calls Tryz.prog 26 #[.agg #[.int .i64 i.op, .int .i64 i.x, .int .i64 i.y, .int .i64 i.n, .int .i64 i.mn, .int .i64 i.mx, .int .u64 (z1_wd i.s 0), .int .u64 (z1_wd i.s 1), .int .u64 (z1_wd i.s 2), .int .u64 (z1_wd i.s 3)]] w (SRR w [[106, 117, 109, 112], [48]]) := by
  have B1 : Hid (Below w.heap.size w (w.alloc (.cells #[.int .i64 i.op, .int .i64 i.x, .int .i64 i.y, .int .i64 i.n, .int .i64 i.mn, .int .i64 i.mx, .int .u64 (z1_wd i.s 0), .int .u64 (z1_wd i.s 1), .int .u64 (z1_wd i.s 2), .int .u64 (z1_wd i.s 3)] 35))) := (Below.refl _ _).alloc (Nat.le_refl _) _
  have X1 : Hid ((w.alloc (.cells #[.int .i64 i.op, .int .i64 i.x, .int .i64 i.y, .int .i64 i.n, .int .i64 i.mn, .int .i64 i.mx, .int .u64 (z1_wd i.s 0), .int .u64 (z1_wd i.s 1), .int .u64 (z1_wd i.s 2), .int .u64 (z1_wd i.s 3)] 35)).heap[w.heap.size]? = some (.cells #[.int .i64 i.op, .int .i64 i.x, .int .i64 i.y, .int .i64 i.n, .int .i64 i.mn, .int .i64 i.mx, .int .u64 (z1_wd i.s 0), .int .u64 (z1_wd i.s 1), .int .u64 (z1_wd i.s 2), .int .u64 (z1_wd i.s 3)] 35 (0, 0))) := alloc_new w _
  have HT := hide hT
  have HI := hide hi0
  clear hi0
  obtain ⟨t0, hi, hz0, hz1, hz2⟩ := info_parts size_str
  have hs := fun (W : World) => (show Calls Tryz.prog 32 #[.int .i64 3] W fun e w' => e = .returned (.tuple #[.string (txt [106, 117, 109, 112]), .int .i64 2]) ∧ w' = W from shape_c 3 W)
  have q24 : hsT 2 24 = false := by decide
  have q32 : hsT 2 32 = false := by decide
  have q2 : hsT 2 2 = true := by decide
  have q4 : hsT 2 4 = false := by decide
  have q1 : hsT 2 1 = false := by decide
  clear hT
  go_enter Tryz.func26, Tryz.ntmps26
  go_upto_region 1 with fail
  generalize (w.alloc (.cells #[.int .i64 i.op, .int .i64 i.x, .int .i64 i.y, .int .i64 i.n, .int .i64 i.mn, .int .i64 i.mx, .int .u64 (z1_wd i.s 0), .int .u64 (z1_wd i.s 1), .int .u64 (z1_wd i.s 2), .int .u64 (z1_wd i.s 3)] 35)) = w1 at B1 X1 ⊢
  have c0 : w1.cell? ⟨w.heap.size, 0, none⟩ = some (.int .i64 3) := cell_row X1.out (i := 0) (by have h := HI.out; subst h; rfl)
  have l1 := lt_of_heap X1.out
  go_upto_region 3 with (go_at_call 32; (with_reducible refine (hs _).mono ?_); rintro e w5 ⟨rfl, rfl⟩)
  have R2 : Hid (SR w.heap.size (w5.alloc (.cells #[.string (txt [106, 117, 109, 112])] 9)) (.slice (some ⟨w5.heap.size, 0, none⟩) 1 1) [[106, 117, 109, 112]]) := sr_one w5 _ (by omega)
  have B2 : Hid (Below w.heap.size w (w5.alloc (.cells #[.string (txt [106, 117, 109, 112])] 9))) := chain B1.out ((Below.refl _ _).alloc (Nat.le_refl _) _) (Nat.le_refl _)
  have X2 : Hid ((w5.alloc (.cells #[.string (txt [106, 117, 109, 112])] 9)).heap[w.heap.size]? = some (.cells #[.int .i64 i.op, .int .i64 i.x, .int .i64 i.y, .int .i64 i.n, .int .i64 i.mn, .int .i64 i.mx, .int .u64 (z1_wd i.s 0), .int .u64 (z1_wd i.s 1), .int .u64 (z1_wd i.s 2), .int .u64 (z1_wd i.s 3)] 35 (0, 0))) := (Below.heap_alloc _ _ _ l1).trans X1.out
  clear c0 B1 X1 hs
  generalize (w5.alloc (.cells #[.string (txt [106, 117, 109, 112])] 9)) = w6 at B2 X2 R2 ⊢
  have l2 := lt_of_heap X2.out
  have d1 : w6.cell? ⟨w.heap.size, 1, none⟩ = some (.int .i64 0) := cell_row X2.out (i := 1) (by have h := HI.out; subst h; rfl)
  have IT := fun W => (show Calls Tryz.prog 45 #[.int .i64 0] W fun e w' => e = .returned (.string (txt [48])) ∧ w' = W from itoa_s 0 (by decide) [48] (by decide +kernel) W)
  go_wp2_with first
    | (go_at_call 33; (with_reducible refine (has_t _ _ _).mono ?_); rintro e w7 ⟨rfl, rfl⟩)
    | (go_at_call 45; (with_reducible refine (IT _).mono ?_); rintro e v3 ⟨rfl, rfl⟩; have R2a := R2; have B2a := B2; have X2a := X2)
    | (at_builtin; refine wpList_append_own_at _ rfl _ _ 66 rfl w.heap.size 9 t0 (.string ⟨#[]⟩) 1 16 und_strs hi hz0 hz1 hz2 rfl (by decide) _ 1 (stC [[106, 117, 109, 112]]) rfl (World.ownsRow.alloc R2a.out _) ⟨v3.heap.size, 0, none⟩ 1 1 [.string (txt [48])] rfl rfl (news1b _ _ _) (by simp [Value.oneCell']) ?c3 ?c4 ?c5 ?_)
  case c3 => unfold maxLen; omega
  case c4 => omega
  case c5 => have := B2a.out.size; simp; omega
  intro p3 w3x hown hgrow _ hblk
  have B3 : Hid (Below w.heap.size w w3x) := hide ((B2a.out.alloc (by have := B2a.out.size; omega) _).grown hgrow (by have := B2a.out.size; simp; omega) (fun k hk => (ownsRow_at R2a.out hk).1))
  have R3 : Hid (SR w.heap.size w3x p3 [[106, 117, 109, 112], [48]]) := hown
  have X3 : Hid (w3x.heap[w.heap.size]? = some (.cells #[.int .i64 i.op, .int .i64 i.x, .int .i64 i.y, .int .i64 i.n, .int .i64 i.mn, .int .i64 i.mx, .int .u64 (z1_wd i.s 0), .int .u64 (z1_wd i.s 1), .int .u64 (z1_wd i.s 2), .int .u64 (z1_wd i.s 3)] 35 (0, 0))) := hide ((hgrow.block _ (by have := lt_of_heap X2a.out; simp; omega) (fun e => ownsRow_not R2a.out X2a.out (by decide) e.symm)).trans ((Below.heap_alloc _ _ _ (lt_of_heap X2a.out)).trans X2a.out))
  have l3 := lt_of_heap X3.out
  obtain ⟨g3, c3, rfl, -⟩ := SR.split R3.out (by simp)
  clear hown hgrow hblk
  go_wp2_with (go_at_call 33; (with_reducible refine (has_t _ _ _).mono ?_); rintro e w7 ⟨rfl, rfl⟩)
  go_ret
  exact ⟨_, rfl, R3.out, B3.out⟩
set_option maxRecDepth 100000 in
set_option maxHeartbeats 2000000 in
theorem words_2 {w : World} (hT : z1_Tab w) (i : Ins) (hi0 : i = ⟨2, 1, 3, 0, 0, 0, 0#256⟩) : Calls Tryz.prog 26 #[.agg #[.int .i64 i.op, .int .i64 i.x, .int .i64 i.y, .int .i64 i.n, .int .i64 i.mn, .int .i64 i.mx, .int .u64 (z1_wd i.s 0), .int .u64 (z1_wd i.s 1), .int .u64 (z1_wd i.s 2), .int .u64 (z1_wd i.s 3)]] w (SRR w [[115, 112, 108, 105, 116], [49], [51]]) := by
  have B1 : Hid (Below w.heap.size w (w.alloc (.cells #[.int .i64 i.op, .int .i64 i.x, .int .i64 i.y, .int .i64 i.n, .int .i64 i.mn, .int .i64 i.mx, .int .u64 (z1_wd i.s 0), .int .u64 (z1_wd i.s 1), .int .u64 (z1_wd i.s 2), .int .u64 (z1_wd i.s 3)] 35))) := (Below.refl _ _).alloc (Nat.le_refl _) _
  have X1 : Hid ((w.alloc (.cells #[.int .i64 i.op, .int .i64 i.x, .int .i64 i.y, .int .i64 i.n, .int .i64 i.mn, .int .i64 i.mx, .int .u64 (z1_wd i.s 0), .int .u64 (z1_wd i.s 1), .int .u64 (z1_wd i.s 2), .int .u64 (z1_wd i.s 3)] 35)).heap[w.heap.size]? = some (.cells #[.int .i64 i.op, .int .i64 i.x, .int .i64 i.y, .int .i64 i.n, .int .i64 i.mn, .int .i64 i.mx, .int .u64 (z1_wd i.s 0), .int .u64 (z1_wd i.s 1), .int .u64 (z1_wd i.s 2), .int .u64 (z1_wd i.s 3)] 35 (0, 0))) := alloc_new w _
  have HT := hide hT
  have HI := hide hi0
  clear hi0
  obtain ⟨t0, hi, hz0, hz1, hz2⟩ := info_parts size_str
  have hs := fun (W : World) => (show Calls Tryz.prog 32 #[.int .i64 2] W fun e w' => e = .returned (.tuple #[.string (txt [115, 112, 108, 105, 116]), .int .i64 6]) ∧ w' = W from shape_c 2 W)
  have q24 : hsT 6 24 = false := by decide
  have q32 : hsT 6 32 = false := by decide
  have q2 : hsT 6 2 = true := by decide
  have q4 : hsT 6 4 = true := by decide
  have q1 : hsT 6 1 = false := by decide
  clear hT
  go_enter Tryz.func26, Tryz.ntmps26
  go_upto_region 1 with fail
  generalize (w.alloc (.cells #[.int .i64 i.op, .int .i64 i.x, .int .i64 i.y, .int .i64 i.n, .int .i64 i.mn, .int .i64 i.mx, .int .u64 (z1_wd i.s 0), .int .u64 (z1_wd i.s 1), .int .u64 (z1_wd i.s 2), .int .u64 (z1_wd i.s 3)] 35)) = w1 at B1 X1 ⊢
  have c0 : w1.cell? ⟨w.heap.size, 0, none⟩ = some (.int .i64 2) := cell_row X1.out (i := 0) (by have h := HI.out; subst h; rfl)
  have l1 := lt_of_heap X1.out
  go_upto_region 3 with (go_at_call 32; (with_reducible refine (hs _).mono ?_); rintro e w5 ⟨rfl, rfl⟩)
  have R2 : Hid (SR w.heap.size (w5.alloc (.cells #[.string (txt [115, 112, 108, 105, 116])] 9)) (.slice (some ⟨w5.heap.size, 0, none⟩) 1 1) [[115, 112, 108, 105, 116]]) := sr_one w5 _ (by omega)
  have B2 : Hid (Below w.heap.size w (w5.alloc (.cells #[.string (txt [115, 112, 108, 105, 116])] 9))) := chain B1.out ((Below.refl _ _).alloc (Nat.le_refl _) _) (Nat.le_refl _)
  have X2 : Hid ((w5.alloc (.cells #[.string (txt [115, 112, 108, 105, 116])] 9)).heap[w.heap.size]? = some (.cells #[.int .i64 i.op, .int .i64 i.x, .int .i64 i.y, .int .i64 i.n, .int .i64 i.mn, .int .i64 i.mx, .int .u64 (z1_wd i.s 0), .int .u64 (z1_wd i.s 1), .int .u64 (z1_wd i.s 2), .int .u64 (z1_wd i.s 3)] 35 (0, 0))) := (Below.heap_alloc _ _ _ l1).trans X1.out
  clear c0 B1 X1 hs
  generalize (w5.alloc (.cells #[.string (txt [115, 112, 108, 105, 116])] 9)) = w6 at B2 X2 R2 ⊢
  have l2 := lt_of_heap X2.out
  have d1 : w6.cell? ⟨w.heap.size, 1, none⟩ = some (.int .i64 1) := cell_row X2.out (i := 1) (by have h := HI.out; subst h; rfl)
  have IT := fun W => (show Calls Tryz.prog 45 #[.int .i64 1] W fun e w' => e = .returned (.string (txt [49])) ∧ w' = W from itoa_s 1 (by decide) [49] (by decide +kernel) W)
  go_wp2_with first
    | (go_at_call 33; (with_reducible refine (has_t _ _ _).mono ?_); rintro e w7 ⟨rfl, rfl⟩)
    | (go_at_call 45; (with_reducible refine (IT _).mono ?_); rintro e v3 ⟨rfl, rfl⟩; have R2a := R2; have B2a := B2; have X2a := X2)
    | (at_builtin; refine wpList_append_own_at _ rfl _ _ 66 rfl w.heap.size 9 t0 (.string ⟨#[]⟩) 1 16 und_strs hi hz0 hz1 hz2 rfl (by decide) _ 1 (stC [[115, 112, 108, 105, 116]]) rfl (World.ownsRow.alloc R2a.out _) ⟨v3.heap.size, 0, none⟩ 1 1 [.string (txt [49])] rfl rfl (news1b _ _ _) (by simp [Value.oneCell']) ?c3 ?c4 ?c5 ?_)
  case c3 => unfold maxLen; omega
  case c4 => omega
  case c5 => have := B2a.out.size; simp; omega
  intro p3 w3x hown hgrow _ hblk
  have B3 : Hid (Below w.heap.size w w3x) := hide ((B2a.out.alloc (by have := B2a.out.size; omega) _).grown hgrow (by have := B2a.out.size; simp; omega) (fun k hk => (ownsRow_at R2a.out hk).1))
  have R3 : Hid (SR w.heap.size w3x p3 [[115, 112, 108, 105, 116], [49]]) := hown
  have X3 : Hid (w3x.heap[w.heap.size]? = some (.cells #[.int .i64 i.op, .int .i64 i.x, .int .i64 i.y, .int .i64 i.n, .int .i64 i.mn, .int .i64 i.mx, .int .u64 (z1_wd i.s 0), .int .u64 (z1_wd i.s 1), .int .u64 (z1_wd i.s 2), .int .u64 (z1_wd i.s 3)] 35 (0, 0))) := hide ((hgrow.block _ (by have := lt_of_heap X2a.out; simp; omega) (fun e => ownsRow_not R2a.out X2a.out (by decide) e.symm)).trans ((Below.heap_alloc _ _ _ (lt_of_heap X2a.out)).trans X2a.out))
  have l3 := lt_of_heap X3.out
  obtain ⟨g3, c3, rfl, -⟩ := SR.split R3.out (by simp)
  clear hown hgrow hblk
  have d2 : w3x.cell? ⟨w.heap.size, 2, none⟩ = some (.int .i64 3) := cell_row X3.out (i := 2) (by have h := HI.out; subst h; rfl)
  have IT := fun W => (show Calls Tryz.prog 45 #[.int .i64 3] W fun e w' => e = .returned (.string (txt [51])) ∧ w' = W from itoa_s 3 (by decide) [51] (by decide +kernel) W)
  go_wp2_with first
    | (go_at_call 33; (with_reducible refine (has_t _ _ _).mono ?_); rintro e w7 ⟨rfl, rfl⟩)
    | (go_at_call 45; (with_reducible refine (IT _).mono ?_); rintro e v4 ⟨rfl, rfl⟩; have R3a := R3; have B3a := B3; have X3a := X3)
    | (at_builtin; refine wpList_append_own_at _ rfl _ _ 66 rfl w.heap.size 9 t0 (.string ⟨#[]⟩) 1 16 und_strs hi hz0 hz1 hz2 rfl (by decide) _ 2 (stC [[115, 112, 108, 105, 116], [49]]) rfl (World.ownsRow.alloc R3a.out _) ⟨v4.heap.size, 0, none⟩ 1 1 [.string (txt [51])] rfl rfl (news1b _ _ _) (by simp [Value.oneCell']) ?c3 ?c4 ?c5 ?_)
  case c3 => unfold maxLen; omega
  case c4 => omega
  case c5 => have := B3a.out.size; simp; omega
  intro p4 w4x hown hgrow _ hblk
  have B4 : Hid (Below w.heap.size w w4x) := hide ((B3a.out.alloc (by have := B3a.out.size; omega) _).grown hgrow (by have := B3a.out.size; simp; omega) (fun k hk => (ownsRow_at R3a.out hk).1))
  have R4 : Hid (SR w.heap.size w4x p4 [[115, 112, 108, 105, 116], [49], [51]]) := hown
  have X4 : Hid (w4x.heap[w.heap.size]? = some (.cells #[.int .i64 i.op, .int .i64 i.x, .int .i64 i.y, .int .i64 i.n, .int .i64 i.mn, .int .i64 i.mx, .int .u64 (z1_wd i.s 0), .int .u64 (z1_wd i.s 1), .int .u64 (z1_wd i.s 2), .int .u64 (z1_wd i.s 3)] 35 (0, 0))) := hide ((hgrow.block _ (by have := lt_of_heap X3a.out; simp; omega) (fun e => ownsRow_not R3a.out X3a.out (by decide) e.symm)).trans ((Below.heap_alloc _ _ _ (lt_of_heap X3a.out)).trans X3a.out))
  have l4 := lt_of_heap X4.out
  obtain ⟨g4, c4, rfl, -⟩ := SR.split R4.out (by simp)
  clear hown hgrow hblk
  go_wp2_with (go_at_call 33; (with_reducible refine (has_t _ _ _).mono ?_); rintro e w7 ⟨rfl, rfl⟩)
  go_ret
  exact ⟨_, rfl, R4.out, B4.out⟩
set_option maxRecDepth 100000 in
set_option maxHeartbeats 2000000 in
theorem words_1 {w : World} (hT : z1_Tab w) (i : Ins) (hi0 : i = ⟨1, 0, 0, 0, 0, 0, aS⟩) : Calls Tryz.prog 26 #[.agg #[.int .i64 i.op, .int .i64 i.x, .int .i64 i.y, .int .i64 i.n, .int .i64 i.mn, .int .i64 i.mx, .int .u64 (z1_wd i.s 0), .int .u64 (z1_wd i.s 1), .int .u64 (z1_wd i.s 2), .int .u64 (z1_wd i.s 3)]] w (SRR w [[98, 121, 116, 101], [54, 49]]) := by
  have B1 : Hid (Below w.heap.size w (w.alloc (.cells #[.int .i64 i.op, .int .i64 i.x, .int .i64 i.y, .int .i64 i.n, .int .i64 i.mn, .int .i64 i.mx, .int .u64 (z1_wd i.s 0), .int .u64 (z1_wd i.s 1), .int .u64 (z1_wd i.s 2), .int .u64 (z1_wd i.s 3)] 35))) := (Below.refl _ _).alloc (Nat.le_refl _) _
  have X1 : Hid ((w.alloc (.cells #[.int .i64 i.op, .int .i64 i.x, .int .i64 i.y, .int .i64 i.n, .int .i64 i.mn, .int .i64 i.mx, .int .u64 (z1_wd i.s 0), .int .u64 (z1_wd i.s 1), .int .u64 (z1_wd i.s 2), .int .u64 (z1_wd i.s 3)] 35)).heap[w.heap.size]? = some (.cells #[.int .i64 i.op, .int .i64 i.x, .int .i64 i.y, .int .i64 i.n, .int .i64 i.mn, .int .i64 i.mx, .int .u64 (z1_wd i.s 0), .int .u64 (z1_wd i.s 1), .int .u64 (z1_wd i.s 2), .int .u64 (z1_wd i.s 3)] 35 (0, 0))) := alloc_new w _
  have HT := hide hT
  have HI := hide hi0
  clear hi0
  obtain ⟨t0, hi, hz0, hz1, hz2⟩ := info_parts size_str
  have hs := fun (W : World) => (show Calls Tryz.prog 32 #[.int .i64 1] W fun e w' => e = .returned (.tuple #[.string (txt [98, 121, 116, 101]), .int .i64 65]) ∧ w' = W from shape_c 1 W)
  have q24 : hsT 65 24 = false := by decide
  have q32 : hsT 65 32 = false := by decide
  have q2 : hsT 65 2 = false := by decide
  have q4 : hsT 65 4 = false := by decide
  have q1 : hsT 65 1 = true := by decide
  clear hT
  go_enter Tryz.func26, Tryz.ntmps26
  go_upto_region 1 with fail
  generalize (w.alloc (.cells #[.int .i64 i.op, .int .i64 i.x, .int .i64 i.y, .int .i64 i.n, .int .i64 i.mn, .int .i64 i.mx, .int .u64 (z1_wd i.s 0), .int .u64 (z1_wd i.s 1), .int .u64 (z1_wd i.s 2), .int .u64 (z1_wd i.s 3)] 35)) = w1 at B1 X1 ⊢
  have c0 : w1.cell? ⟨w.heap.size, 0, none⟩ = some (.int .i64 1) := cell_row X1.out (i := 0) (by have h := HI.out; subst h; rfl)
  have l1 := lt_of_heap X1.out
  go_upto_region 3 with (go_at_call 32; (with_reducible refine (hs _).mono ?_); rintro e w5 ⟨rfl, rfl⟩)
  have R2 : Hid (SR w.heap.size (w5.alloc (.cells #[.string (txt [98, 121, 116, 101])] 9)) (.slice (some ⟨w5.heap.size, 0, none⟩) 1 1) [[98, 121, 116, 101]]) := sr_one w5 _ (by omega)
  have B2 : Hid (Below w.heap.size w (w5.alloc (.cells #[.string (txt [98, 121, 116, 101])] 9))) := chain B1.out ((Below.refl _ _).alloc (Nat.le_refl _) _) (Nat.le_refl _)
  have X2 : Hid ((w5.alloc (.cells #[.string (txt [98, 121, 116, 101])] 9)).heap[w.heap.size]? = some (.cells #[.int .i64 i.op, .int .i64 i.x, .int .i64 i.y, .int .i64 i.n, .int .i64 i.mn, .int .i64 i.mx, .int .u64 (z1_wd i.s 0), .int .u64 (z1_wd i.s 1), .int .u64 (z1_wd i.s 2), .int .u64 (z1_wd i.s 3)] 35 (0, 0))) := (Below.heap_alloc _ _ _ l1).trans X1.out
  clear c0 B1 X1 hs
  generalize (w5.alloc (.cells #[.string (txt [98, 121, 116, 101])] 9)) = w6 at B2 X2 R2 ⊢
  have l2 := lt_of_heap X2.out
  have d6 : w6.cell? ⟨w.heap.size, 6, none⟩ = some (.int .u64 (z1_wd aS 0)) := cell_row X2.out (i := 6) (by have h := HI.out; subst h; rfl)
  have d7 : w6.cell? ⟨w.heap.size, 7, none⟩ = some (.int .u64 (z1_wd aS 1)) := cell_row X2.out (i := 7) (by have h := HI.out; subst h; rfl)
  have d8 : w6.cell? ⟨w.heap.size, 8, none⟩ = some (.int .u64 (z1_wd aS 2)) := cell_row X2.out (i := 8) (by have h := HI.out; subst h; rfl)
  have d9 : w6.cell? ⟨w.heap.size, 9, none⟩ = some (.int .u64 (z1_wd aS 3)) := cell_row X2.out (i := 9) (by have h := HI.out; subst h; rfl)
  have SW := hide (setWord_a (HT.out.below (B2.out)))
  go_wp2_with first
    | (go_at_call 33; (with_reducible refine (has_t _ _ _).mono ?_); rintro e w7 ⟨rfl, rfl⟩)
    | (go_at_call 47; (with_reducible refine (SW.out).mono ?_); rintro e v3 ⟨rfl, h5⟩; have R2a := hide (ownsRow_fr R2.out (Fr.of_below (S := fun _ => False) h5) (fun _ _ q => q)); have B2a := hide (chain B2.out h5 (Nat.le_refl _)); have X2a := hide ((h5.block _ l2).trans X2.out); clear h5)
    | (at_builtin; refine wpList_append_own_at _ rfl _ _ 66 rfl w.heap.size 9 t0 (.string ⟨#[]⟩) 1 16 und_strs hi hz0 hz1 hz2 rfl (by decide) _ 1 (stC [[98, 121, 116, 101]]) rfl (World.ownsRow.alloc R2a.out _) ⟨v3.heap.size, 0, none⟩ 1 1 [.string (txt [54, 49])] rfl rfl (news1b _ _ _) (by simp [Value.oneCell']) ?c3 ?c4 ?c5 ?_)
  case c3 => unfold maxLen; omega
  case c4 => omega
  case c5 => have := B2a.out.size; simp; omega
  intro p3 w3x hown hgrow _ hblk
  have B3 : Hid (Below w.heap.size w w3x) := hide ((B2a.out.alloc (by have := B2a.out.size; omega) _).grown hgrow (by have := B2a.out.size; simp; omega) (fun k hk => (ownsRow_at R2a.out hk).1))
  have R3 : Hid (SR w.heap.size w3x p3 [[98, 121, 116, 101], [54, 49]]) := hown
  have X3 : Hid (w3x.heap[w.heap.size]? = some (.cells #[.int .i64 i.op, .int .i64 i.x, .int .i64 i.y, .int .i64 i.n, .int .i64 i.mn, .int .i64 i.mx, .int .u64 (z1_wd i.s 0), .int .u64 (z1_wd i.s 1), .int .u64 (z1_wd i.s 2), .int .u64 (z1_wd i.s 3)] 35 (0, 0))) := hide ((hgrow.block _ (by have := lt_of_heap X2a.out; simp; omega) (fun e => ownsRow_not R2a.out X2a.out (by decide) e.symm)).trans ((Below.heap_alloc _ _ _ (lt_of_heap X2a.out)).trans X2a.out))
  have l3 := lt_of_heap X3.out
  obtain ⟨g3, c3, rfl, -⟩ := SR.split R3.out (by simp)
  clear hown hgrow hblk
  go_wp2_with (go_at_call 33; (with_reducible refine (has_t _ _ _).mono ?_); rintro e w7 ⟨rfl, rfl⟩)
  go_ret
  exact ⟨_, rfl, R3.out, B3.out⟩
end Go.Proofs.YtbfhahhcacnckaaGreatDoor
