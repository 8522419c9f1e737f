/-
  A pile of structs of two cells (pile.undo): At, Top, Pop.
-/
import Derived.Test.YtobeiigmeflbjaaPileU
namespace Go.Proofs.Ytobeiigmeflbjaa
open Go Go.RowKit

set_option maxRecDepth 100000 in
set_option maxHeartbeats 1000000 in
theorem atU {base : Nat} {w : World} {b : Nat} {v : Value} {L : List (Int × Int)} (h : PU base w b v L) {k : Nat} {x : (Int × Int)} (hk : L[k]? = some x) :
    Calls Try.prog 51 #[.pointer (some ⟨b, 0, none⟩), .int .i64 k] w fun e w' => e = .returned (.tuple #[.agg #[.int .i64 x.1, .int .i64 x.2], .bool true]) ∧ Below w.heap.size w w' := by
  have hkl : k < L.length := (List.getElem?_eq_some_iff.1 hk).1
  obtain ⟨g, c, rfl⟩ := ownsRow_some h.own (by omega)
  have H0 : Hid (PU base w b (.slice (some ⟨g, 0, none⟩) L.length c) L) := h
  have HK : Hid (L[k]? = some x) := hk
  have n0 : ¬ (k : Int) < 0 := by omega
  have n1 : ¬ (L.length : Int) ≤ (k : Int) := by omega
  have n2 : (k : Int) < (L.length : Int) := by omega
  clear h hk
  go_enter Try.func51, Try.ntmps51
  go_upto_region 1 with fail
  have B1 : Hid (Below w.heap.size w (w.alloc (.cells #[.int .i64 0, .int .i64 0] 84))) := (Below.refl _ _).alloc (Nat.le_refl _) _
  have N1 := alloc_new w (.cells #[.int .i64 0, .int .i64 0] 84)
  have H : Hid (PU base (w.alloc (.cells #[.int .i64 0, .int .i64 0] 84)) b (.slice (some ⟨g, 0, none⟩) L.length c) L) := H0.out.kept B1.out
  generalize (w.alloc (.cells #[.int .i64 0, .int .i64 0] 84)) = w1 at B1 N1 H ⊢
  have c0 : w1.cell? ⟨b, 0, none⟩ = some (.slice (some ⟨g, 0, none⟩) L.length c) := cell_row H.out.hb (i := 0) rfl
  have k0 : w1.cell? ⟨g, k * 2, none⟩ = some (.int .i64 x.1) := ownsRow_cell H.out.own (cellsU_get HK.out).1
  have k1 : w1.cell? ⟨g, k * 2 + 1, none⟩ = some (.int .i64 x.2) := ownsRow_cell H.out.own (cellsU_get HK.out).2
  have f0 := frz_row N1 0
  have f1 := frz_row N1 1
  have r0 : w1.cell? ⟨w.heap.size, 0, none⟩ = some (.int .i64 0) := cell_row N1 (i := 0) rfl
  have r1 : w1.cell? ⟨w.heap.size, 1, none⟩ = some (.int .i64 0) := cell_row N1 (i := 1) rfl
  obtain ⟨q0, q1, -⟩ := set2_cells N1 (.int .i64 x.1) (.int .i64 x.2)
  clear N1
  go_wp2_with (go_at_call 47; (with_reducible refine (lenU H.out).mono ?_); rintro e w5 ⟨rfl, h5⟩; subst w5)
  exact bodyPost_ret (v := .tuple #[.agg #[.int .i64 x.1, .int .i64 x.2], .bool true]) (by simp [results, Try.results51, go_sem, q0, q1]) rfl ⟨rfl, below_set2 B1.out _ _⟩

set_option maxRecDepth 100000 in
set_option maxHeartbeats 1000000 in
theorem atU_bad {base : Nat} {w : World} {b : Nat} {v : Value} {L : List (Int × Int)} (h : PU base w b v L) {k : Int} (hk : k < 0 ∨ (L.length : Int) ≤ k) :
    Calls Try.prog 51 #[.pointer (some ⟨b, 0, none⟩), .int .i64 k] w fun e w' => e = .returned (.tuple #[.agg #[.int .i64 0, .int .i64 0], .bool false]) ∧ Below w.heap.size w w' := by
  have H0 : Hid (PU base w b v L) := h
  clear h
  go_enter Try.func51, Try.ntmps51
  go_upto_region 1 with fail
  have B1 : Hid (Below w.heap.size w (w.alloc (.cells #[.int .i64 0, .int .i64 0] 84))) := (Below.refl _ _).alloc (Nat.le_refl _) _
  have N1 := alloc_new w (.cells #[.int .i64 0, .int .i64 0] 84)
  have H : Hid (PU base (w.alloc (.cells #[.int .i64 0, .int .i64 0] 84)) b v L) := H0.out.kept B1.out
  have lw : w.heap.size < (w.alloc (.cells #[.int .i64 0, .int .i64 0] 84)).heap.size := by simp
  generalize (w.alloc (.cells #[.int .i64 0, .int .i64 0] 84)) = w1 at B1 N1 H lw ⊢
  have f0 := frz_row N1 0
  have f1 := frz_row N1 1
  have r0 : w1.cell? ⟨w.heap.size, 0, none⟩ = some (.int .i64 0) := cell_row N1 (i := 0) rfl
  have r1 : w1.cell? ⟨w.heap.size, 1, none⟩ = some (.int .i64 0) := cell_row N1 (i := 1) rfl
  have B2 : Hid (Below w.heap.size w (((w1.setCell ⟨w.heap.size, 0, none⟩ (.int .i64 0)).setCell ⟨w.heap.size, 1, none⟩ (.int .i64 0)).alloc (.cells #[.int .i64 0, .int .i64 0] 84))) := (below_set2 B1.out _ _).alloc (by simp [World.setCell]; omega) _
  have N4 : (((w1.setCell ⟨w.heap.size, 0, none⟩ (.int .i64 0)).setCell ⟨w.heap.size, 1, none⟩ (.int .i64 0)).alloc (.cells #[.int .i64 0, .int .i64 0] 84)).heap[w.heap.size]? = some (.cells #[.int .i64 0, .int .i64 0] 84 (0, 0)) := (Below.heap_alloc _ _ _ (by simp [World.setCell]; omega)).trans (set2_cells N1 _ _).2.2
  have q0 := cell_row N4 (i := 0) rfl
  have q1 := cell_row N4 (i := 1) rfl
  clear N1 N4
  rcases hk with hk | hk
  · go_wp2
    exact bodyPost_ret (v := .tuple #[.agg #[.int .i64 0, .int .i64 0], .bool false]) (by simp [results, Try.results51, go_sem, q0, q1]) rfl ⟨rfl, B2.out⟩
  · have n0 : ¬ k < 0 := by omega
    go_wp2_with (go_at_call 47; (with_reducible refine (lenU H.out).mono ?_); rintro e w5 ⟨rfl, h5⟩; subst w5)
    exact bodyPost_ret (v := .tuple #[.agg #[.int .i64 0, .int .i64 0], .bool false]) (by simp [results, Try.results51, go_sem, q0, q1]) rfl ⟨rfl, B2.out⟩

/-- Top, whatever At tells. -/
theorem topU_any {base : Nat} {w : World} {b : Nat} {v : Value} {L : List (Int × Int)} (h : PU base w b v L) (n : Int) (hn : (L.length : Int) - 1 = n) (z1 : Int) (z2 : Int) (ok : Bool)
    (hA : ∀ w', Below w.heap.size w w' → Calls Try.prog 51 #[.pointer (some ⟨b, 0, none⟩), .int .i64 n] w' fun e w'' => e = .returned (.tuple #[.agg #[.int .i64 z1, .int .i64 z2], .bool ok]) ∧ Below w'.heap.size w' w'') :
    Calls Try.prog 49 #[.pointer (some ⟨b, 0, none⟩)] w fun e w' => e = .returned (.tuple #[.agg #[.int .i64 z1, .int .i64 z2], .bool ok]) ∧ Below w.heap.size w w' := by
  have hL : (L.length : Int) ≤ 9223372036854775807 := by have := ownsRow_len h.own; simp [maxLen] at this; omega
  have h0 : (0 : Int) ≤ (L.length : Int) := by omega
  have H0 : Hid (PU base w b v L) := h
  have HA : Hid (∀ w', Below w.heap.size w w' → Calls Try.prog 51 #[.pointer (some ⟨b, 0, none⟩), .int .i64 ((L.length : Int) - 1)] w' fun e w'' => e = .returned (.tuple #[.agg #[.int .i64 z1, .int .i64 z2], .bool ok]) ∧ Below w'.heap.size w' w'') := by rw [hn]; exact hA
  clear h hA hn
  go_enter Try.func49, Try.ntmps49
  go_upto_region 1 with fail
  have B1 : Hid (Below w.heap.size w (w.alloc (.cells #[.int .i64 0, .int .i64 0] 84))) := (Below.refl _ _).alloc (Nat.le_refl _) _
  have N1 : Hid ((w.alloc (.cells #[.int .i64 0, .int .i64 0] 84)).heap[w.heap.size]? = some (.cells #[.int .i64 0, .int .i64 0] 84 (0, 0))) := alloc_new w _
  have H : Hid (PU base (w.alloc (.cells #[.int .i64 0, .int .i64 0] 84)) b v L) := H0.out.kept B1.out
  generalize (w.alloc (.cells #[.int .i64 0, .int .i64 0] 84)) = w1 at B1 N1 H ⊢
  go_wp2_with first | (go_at_call 47; (with_reducible refine (lenU H.out).mono ?_); rintro e w5 ⟨rfl, h5⟩; subst w5) | (go_at_call 51; (with_reducible refine (HA.out _ B1.out).mono ?_); rintro e w5 ⟨rfl, h5⟩; have B5 : Hid (Below w.heap.size w w5) := chain B1.out h5 (Nat.le_refl _); have N5 := (h5.block _ (lt_of_heap N1.out)).trans N1.out; have f0 := frz_row N5 0; have f1 := frz_row N5 1; have r0 : w5.cell? ⟨w.heap.size, 0, none⟩ = some (.int .i64 0) := cell_row N5 (i := 0) rfl; have r1 : w5.cell? ⟨w.heap.size, 1, none⟩ = some (.int .i64 0) := cell_row N5 (i := 1) rfl; obtain ⟨q0, q1, -⟩ := set2_cells N5 (.int .i64 z1) (.int .i64 z2); clear h5 N5)
  exact bodyPost_ret (v := .tuple #[.agg #[.int .i64 z1, .int .i64 z2], .bool ok]) (by simp [results, Try.results49, go_sem, q0, q1]) rfl ⟨rfl, below_set2 B5.out _ _⟩
theorem topU {base : Nat} {w : World} {b : Nat} {v : Value} {L : List (Int × Int)} {x : (Int × Int)} (h : PU base w b v (L ++ [x])) :
    Calls Try.prog 49 #[.pointer (some ⟨b, 0, none⟩)] w fun e w' => e = .returned (.tuple #[.agg #[.int .i64 x.1, .int .i64 x.2], .bool true]) ∧ Below w.heap.size w w' :=
  topU_any h (L.length : Nat) (by simp) x.1 x.2 true (fun w' hb => atU (h.kept hb) (k := L.length) (x := x) (by simp))
theorem topU_none {base : Nat} {w : World} {b : Nat} {v : Value} (h : PU base w b v []) :
    Calls Try.prog 49 #[.pointer (some ⟨b, 0, none⟩)] w fun e w' => e = .returned (.tuple #[.agg #[.int .i64 0, .int .i64 0], .bool false]) ∧ Below w.heap.size w w' :=
  topU_any h (-1) rfl 0 0 false (fun w' hb => atU_bad (h.kept hb) (.inl (by decide)))

set_option maxRecDepth 100000 in
set_option maxHeartbeats 1000000 in
theorem popU {base : Nat} {w : World} {b : Nat} {v : Value} {L : List (Int × Int)} {x : (Int × Int)} (h : PU base w b v (L ++ [x])) :
    Calls Try.prog 46 #[.pointer (some ⟨b, 0, none⟩)] w fun e w' => e = .returned (.tuple #[.agg #[.int .i64 x.1, .int .i64 x.2], .bool true]) ∧ ∃ v', PU base w' b v' L ∧ v'.ownBlock = v.ownBlock ∧ Fr (foot b v) w w' := by
  have hL : (L.length : Int) ≤ 9223372036854775807 := by have := ownsRow_len h.own; simp [maxLen] at this; omega
  have H0 : Hid (PU base w b v (L ++ [x])) := h
  have hlt : Hid (∀ k, foot b v k → k < w.heap.size) := h.lt
  clear h
  go_enter Try.func46, Try.ntmps46
  go_upto_region 1 with fail
  have B1 : Hid (Below w.heap.size w (w.alloc (.cells #[.int .i64 0, .int .i64 0] 84))) := (Below.refl _ _).alloc (Nat.le_refl _) _
  have N1 : Hid ((w.alloc (.cells #[.int .i64 0, .int .i64 0] 84)).heap[w.heap.size]? = some (.cells #[.int .i64 0, .int .i64 0] 84 (0, 0))) := alloc_new w _
  have H : Hid (PU base (w.alloc (.cells #[.int .i64 0, .int .i64 0] 84)) b v (L ++ [x])) := H0.out.kept B1.out
  generalize (w.alloc (.cells #[.int .i64 0, .int .i64 0] 84)) = w1 at B1 N1 H ⊢
  go_upto_region 2 with (go_at_call 49; (with_reducible refine (topU H.out).mono ?_); rintro e w5 ⟨rfl, h5⟩; have B5 : Hid (Below w.heap.size w w5) := chain B1.out h5 (Nat.le_refl _); have N5 : Hid (w5.heap[w.heap.size]? = some (.cells #[.int .i64 0, .int .i64 0] 84 (0, 0))) := (h5.block _ (lt_of_heap N1.out)).trans N1.out; have H5 : Hid (PU base w5 b v (L ++ [x])) := H.out.kept h5; clear h5)
  have B6 : Hid (Below w.heap.size w (w5.alloc (.cells #[.int .i64 x.1, .int .i64 x.2] 84))) := B5.out.alloc B5.out.size _
  have M6 : Hid ((w5.alloc (.cells #[.int .i64 x.1, .int .i64 x.2] 84)).heap[w5.heap.size]? = some (.cells #[.int .i64 x.1, .int .i64 x.2] 84 (0, 0))) := alloc_new w5 _
  have N6 : Hid ((w5.alloc (.cells #[.int .i64 x.1, .int .i64 x.2] 84)).heap[w.heap.size]? = some (.cells #[.int .i64 0, .int .i64 0] 84 (0, 0))) := (Below.heap_alloc _ _ _ (lt_of_heap N5.out)).trans N5.out
  have H6 : Hid (PU base (w5.alloc (.cells #[.int .i64 x.1, .int .i64 x.2] 84)) b v (L ++ [x])) := H5.out.kept ((Below.refl _ _).alloc (Nat.le_refl _) _)
  have S6 : Hid (w.heap.size ≤ w5.heap.size) := B5.out.size
  generalize (w5.alloc (.cells #[.int .i64 x.1, .int .i64 x.2] 84)) = w6 at B6 M6 N6 H6 ⊢
  have LN : Hid (Calls Try.prog 47 #[.pointer (some ⟨b, 0, none⟩)] w6 fun e w' => e = .returned (.int .i64 ((L.length : Int) + 1)) ∧ w' = w6) := by
    have := lenU H6.out
    rw [show (((L ++ [x]).length : Nat) : Int) = (L.length : Int) + 1 by simp] at this
    exact this
  have C : Hid (Calls Try.prog 50 #[.pointer (some ⟨b, 0, none⟩), .int .i64 (L.length : Int)] w6 fun e w' => e = .returned (.int .i64 0) ∧ ∃ v', PU base w' b v' L ∧ v'.ownBlock = v.ownBlock ∧ Fr (foot b v) w6 w') := by
    have := cutU H6.out (n := L.length) (by simp)
    rw [List.take_left' rfl] at this
    exact this
  go_wp2_with first | (go_at_call 47; (with_reducible refine LN.out.mono ?_); rintro e w9 ⟨rfl, h9⟩; subst w9) | (go_at_call 50; (with_reducible refine C.out.mono ?_); rintro e w7 ⟨rfl, v', h7, hv7, hf7⟩; have H7 : Hid (PU base w7 b v' L ∧ v'.ownBlock = v.ownBlock ∧ Fr (foot b v) w6 w7) := ⟨h7, hv7, hf7⟩; have N7 := (hf7.block _ (lt_of_heap N6.out) (fun q => by have := hlt.out _ q; omega)).trans N6.out; have M7 := (hf7.block _ (lt_of_heap M6.out) (fun q => by have := hlt.out _ q; have := S6.out; omega)).trans M6.out; have f0 := frz_row N7 0; have f1 := frz_row N7 1; have r0 : w7.cell? ⟨w.heap.size, 0, none⟩ = some (.int .i64 0) := cell_row N7 (i := 0) rfl; have r1 : w7.cell? ⟨w.heap.size, 1, none⟩ = some (.int .i64 0) := cell_row N7 (i := 1) rfl; have k0 : w7.cell? ⟨w5.heap.size, 0, none⟩ = some (.int .i64 x.1) := cell_row M7 (i := 0) rfl; have k1 : w7.cell? ⟨w5.heap.size, 1, none⟩ = some (.int .i64 x.2) := cell_row M7 (i := 1) rfl; obtain ⟨q0, q1, -⟩ := set2_cells N7 (.int .i64 x.1) (.int .i64 x.2); clear h7 hv7 hf7 N7 M7)
  refine bodyPost_ret (v := .tuple #[.agg #[.int .i64 x.1, .int .i64 x.2], .bool true]) (by simp [results, Try.results46, go_sem, q0, q1]) rfl ⟨rfl, v', ?_, H7.out.2.1, ?_⟩
  · refine H7.out.1.fr (S := fun k => k = w.heap.size) (((Fr.refl (fun k => k = w.heap.size) w7).setCell (p := ⟨w.heap.size, 0, none⟩) rfl _).setCell (p := ⟨w.heap.size, 1, none⟩) rfl _) (fun k hk e => ?_)
    have : foot b v k := hk.imp id (fun q => H7.out.2.1 ▸ q)
    have := hlt.out k this
    omega
  · exact (((Fr.of_below B6.out).trans H7.out.2.2).setNew (p := ⟨w.heap.size, 0, none⟩) (Nat.le_refl _) _).setNew (p := ⟨w.heap.size, 1, none⟩) (Nat.le_refl _) _

set_option maxRecDepth 100000 in
set_option maxHeartbeats 1000000 in
theorem popU_none {base : Nat} {w : World} {b : Nat} {v : Value} (h : PU base w b v []) :
    Calls Try.prog 46 #[.pointer (some ⟨b, 0, none⟩)] w fun e w' => e = .returned (.tuple #[.agg #[.int .i64 0, .int .i64 0], .bool false]) ∧ Below w.heap.size w w' := by
  have H0 : Hid (PU base w b v []) := h
  clear h
  go_enter Try.func46, Try.ntmps46
  go_upto_region 1 with fail
  have B1 : Hid (Below w.heap.size w (w.alloc (.cells #[.int .i64 0, .int .i64 0] 84))) := (Below.refl _ _).alloc (Nat.le_refl _) _
  have N1 : Hid ((w.alloc (.cells #[.int .i64 0, .int .i64 0] 84)).heap[w.heap.size]? = some (.cells #[.int .i64 0, .int .i64 0] 84 (0, 0))) := alloc_new w _
  have H : Hid (PU base (w.alloc (.cells #[.int .i64 0, .int .i64 0] 84)) b v []) := H0.out.kept B1.out
  generalize (w.alloc (.cells #[.int .i64 0, .int .i64 0] 84)) = w1 at B1 N1 H ⊢
  go_upto_region 2 with (go_at_call 49; (with_reducible refine (topU_none H.out).mono ?_); rintro e w5 ⟨rfl, h5⟩; have B5 : Hid (Below w.heap.size w w5) := chain B1.out h5 (Nat.le_refl _); have N5 : Hid (w5.heap[w.heap.size]? = some (.cells #[.int .i64 0, .int .i64 0] 84 (0, 0))) := (h5.block _ (lt_of_heap N1.out)).trans N1.out; clear h5)
  have B6 : Hid (Below w.heap.size w (w5.alloc (.cells #[.int .i64 0, .int .i64 0] 84))) := B5.out.alloc B5.out.size _
  have M6 := alloc_new w5 (.cells #[.int .i64 0, .int .i64 0] 84)
  have N6 := (Below.heap_alloc w5 (.cells #[.int .i64 0, .int .i64 0] 84) _ (lt_of_heap N5.out)).trans N5.out
  generalize (w5.alloc (.cells #[.int .i64 0, .int .i64 0] 84)) = w6 at B6 M6 N6 ⊢
  have f0 := frz_row N6 0
  have f1 := frz_row N6 1
  have r0 : w6.cell? ⟨w.heap.size, 0, none⟩ = some (.int .i64 0) := cell_row N6 (i := 0) rfl
  have r1 : w6.cell? ⟨w.heap.size, 1, none⟩ = some (.int .i64 0) := cell_row N6 (i := 1) rfl
  have k0 : w6.cell? ⟨w5.heap.size, 0, none⟩ = some (.int .i64 0) := cell_row M6 (i := 0) rfl
  have k1 : w6.cell? ⟨w5.heap.size, 1, none⟩ = some (.int .i64 0) := cell_row M6 (i := 1) rfl
  obtain ⟨q0, q1, -⟩ := set2_cells N6 (.int .i64 0) (.int .i64 0)
  clear N6 M6
  go_wp2
  exact bodyPost_ret (v := .tuple #[.agg #[.int .i64 0, .int .i64 0], .bool false]) (by simp [results, Try.results46, go_sem, q0, q1]) rfl ⟨rfl, below_set2 B6.out _ _⟩
end Go.Proofs.Ytobeiigmeflbjaa
