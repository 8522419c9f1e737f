/-
  A pile of structs of two cells (dredgelaw04.Thing): At, Top, Pop.
-/
import Derived.Test.YtobeiigmeflbjaaPileT
namespace Go.Proofs.Ytobeiigmeflbjaa
open Go Go.RowKit

set_option maxRecDepth 100000 in
set_option maxHeartbeats 1000000 in
theorem atT {base : Nat} {w : World} {b : Nat} {v : Value} {L : List (Int × ByteArray)} (h : PT base w b v L) {k : Nat} {x : (Int × ByteArray)} (hk : L[k]? = some x) :
    Calls Try.prog 29 #[.pointer (some ⟨b, 0, none⟩), .int .i64 k] w fun e w' => e = .returned (.tuple #[.agg #[.int .i64 x.1, .string x.2], .bool true]) ∧ Below w.heap.size w w' := by
  have hkl : k < L.length := (List.getElem?_eq_some_iff.1 hk).1
  obtain ⟨g, c, rfl⟩ := ownsRow_some h.own (by omega)
  have H0 : Hid (PT base w b (.slice (some ⟨g, 0, none⟩) L.length c) L) := h
  have HK : Hid (L[k]? = some x) := hk
  have n0 : ¬ (k : Int) < 0 := by omega
  have n1 : ¬ (L.length : Int) ≤ (k : Int) := by omega
  have n2 : (k : Int) < (L.length : Int) := by omega
  clear h hk
  go_enter Try.func29, Try.ntmps29
  go_upto_region 1 with fail
  have B1 : Hid (Below w.heap.size w (w.alloc (.cells #[.int .i64 0, .string ⟨#[]⟩] 28))) := (Below.refl _ _).alloc (Nat.le_refl _) _
  have N1 := alloc_new w (.cells #[.int .i64 0, .string ⟨#[]⟩] 28)
  have H : Hid (PT base (w.alloc (.cells #[.int .i64 0, .string ⟨#[]⟩] 28)) b (.slice (some ⟨g, 0, none⟩) L.length c) L) := H0.out.kept B1.out
  generalize (w.alloc (.cells #[.int .i64 0, .string ⟨#[]⟩] 28)) = w1 at B1 N1 H ⊢
  have c0 : w1.cell? ⟨b, 0, none⟩ = some (.slice (some ⟨g, 0, none⟩) L.length c) := cell_row H.out.hb (i := 0) rfl
  have k0 : w1.cell? ⟨g, k * 2, none⟩ = some (.int .i64 x.1) := ownsRow_cell H.out.own (cellsT_get HK.out).1
  have k1 : w1.cell? ⟨g, k * 2 + 1, none⟩ = some (.string x.2) := ownsRow_cell H.out.own (cellsT_get HK.out).2
  have f0 := frz_row N1 0
  have f1 := frz_row N1 1
  have r0 : w1.cell? ⟨w.heap.size, 0, none⟩ = some (.int .i64 0) := cell_row N1 (i := 0) rfl
  have r1 : w1.cell? ⟨w.heap.size, 1, none⟩ = some (.string ⟨#[]⟩) := cell_row N1 (i := 1) rfl
  obtain ⟨q0, q1, -⟩ := set2_cells N1 (.int .i64 x.1) (.string x.2)
  clear N1
  go_wp2_with (go_at_call 15; (with_reducible refine (lenT H.out).mono ?_); rintro e w5 ⟨rfl, h5⟩; subst w5)
  exact bodyPost_ret (v := .tuple #[.agg #[.int .i64 x.1, .string x.2], .bool true]) (by simp [results, Try.results29, go_sem, q0, q1]) rfl ⟨rfl, below_set2 B1.out _ _⟩

set_option maxRecDepth 100000 in
set_option maxHeartbeats 1000000 in
theorem atT_bad {base : Nat} {w : World} {b : Nat} {v : Value} {L : List (Int × ByteArray)} (h : PT base w b v L) {k : Int} (hk : k < 0 ∨ (L.length : Int) ≤ k) :
    Calls Try.prog 29 #[.pointer (some ⟨b, 0, none⟩), .int .i64 k] w fun e w' => e = .returned (.tuple #[.agg #[.int .i64 0, .string ⟨#[]⟩], .bool false]) ∧ Below w.heap.size w w' := by
  have H0 : Hid (PT base w b v L) := h
  clear h
  go_enter Try.func29, Try.ntmps29
  go_upto_region 1 with fail
  have B1 : Hid (Below w.heap.size w (w.alloc (.cells #[.int .i64 0, .string ⟨#[]⟩] 28))) := (Below.refl _ _).alloc (Nat.le_refl _) _
  have N1 := alloc_new w (.cells #[.int .i64 0, .string ⟨#[]⟩] 28)
  have H : Hid (PT base (w.alloc (.cells #[.int .i64 0, .string ⟨#[]⟩] 28)) b v L) := H0.out.kept B1.out
  have lw : w.heap.size < (w.alloc (.cells #[.int .i64 0, .string ⟨#[]⟩] 28)).heap.size := by simp
  generalize (w.alloc (.cells #[.int .i64 0, .string ⟨#[]⟩] 28)) = w1 at B1 N1 H lw ⊢
  have f0 := frz_row N1 0
  have f1 := frz_row N1 1
  have r0 : w1.cell? ⟨w.heap.size, 0, none⟩ = some (.int .i64 0) := cell_row N1 (i := 0) rfl
  have r1 : w1.cell? ⟨w.heap.size, 1, none⟩ = some (.string ⟨#[]⟩) := cell_row N1 (i := 1) rfl
  have B2 : Hid (Below w.heap.size w (((w1.setCell ⟨w.heap.size, 0, none⟩ (.int .i64 0)).setCell ⟨w.heap.size, 1, none⟩ (.string ⟨#[]⟩)).alloc (.cells #[.int .i64 0, .string ⟨#[]⟩] 28))) := (below_set2 B1.out _ _).alloc (by simp [World.setCell]; omega) _
  have N4 : (((w1.setCell ⟨w.heap.size, 0, none⟩ (.int .i64 0)).setCell ⟨w.heap.size, 1, none⟩ (.string ⟨#[]⟩)).alloc (.cells #[.int .i64 0, .string ⟨#[]⟩] 28)).heap[w.heap.size]? = some (.cells #[.int .i64 0, .string ⟨#[]⟩] 28 (0, 0)) := (Below.heap_alloc _ _ _ (by simp [World.setCell]; omega)).trans (set2_cells N1 _ _).2.2
  have q0 := cell_row N4 (i := 0) rfl
  have q1 := cell_row N4 (i := 1) rfl
  clear N1 N4
  rcases hk with hk | hk
  · go_wp2
    exact bodyPost_ret (v := .tuple #[.agg #[.int .i64 0, .string ⟨#[]⟩], .bool false]) (by simp [results, Try.results29, go_sem, q0, q1]) rfl ⟨rfl, B2.out⟩
  · have n0 : ¬ k < 0 := by omega
    go_wp2_with (go_at_call 15; (with_reducible refine (lenT H.out).mono ?_); rintro e w5 ⟨rfl, h5⟩; subst w5)
    exact bodyPost_ret (v := .tuple #[.agg #[.int .i64 0, .string ⟨#[]⟩], .bool false]) (by simp [results, Try.results29, go_sem, q0, q1]) rfl ⟨rfl, B2.out⟩

/-- Top, whatever At tells. -/
theorem topT_any {base : Nat} {w : World} {b : Nat} {v : Value} {L : List (Int × ByteArray)} (h : PT base w b v L) (n : Int) (hn : (L.length : Int) - 1 = n) (z1 : Int) (z2 : ByteArray) (ok : Bool)
    (hA : ∀ w', Below w.heap.size w w' → Calls Try.prog 29 #[.pointer (some ⟨b, 0, none⟩), .int .i64 n] w' fun e w'' => e = .returned (.tuple #[.agg #[.int .i64 z1, .string z2], .bool ok]) ∧ Below w'.heap.size w' w'') :
    Calls Try.prog 42 #[.pointer (some ⟨b, 0, none⟩)] w fun e w' => e = .returned (.tuple #[.agg #[.int .i64 z1, .string z2], .bool ok]) ∧ Below w.heap.size w w' := by
  have hL : (L.length : Int) ≤ 9223372036854775807 := by have := ownsRow_len h.own; simp [maxLen] at this; omega
  have h0 : (0 : Int) ≤ (L.length : Int) := by omega
  have H0 : Hid (PT base w b v L) := h
  have HA : Hid (∀ w', Below w.heap.size w w' → Calls Try.prog 29 #[.pointer (some ⟨b, 0, none⟩), .int .i64 ((L.length : Int) - 1)] w' fun e w'' => e = .returned (.tuple #[.agg #[.int .i64 z1, .string z2], .bool ok]) ∧ Below w'.heap.size w' w'') := by rw [hn]; exact hA
  clear h hA hn
  go_enter Try.func42, Try.ntmps42
  go_upto_region 1 with fail
  have B1 : Hid (Below w.heap.size w (w.alloc (.cells #[.int .i64 0, .string ⟨#[]⟩] 28))) := (Below.refl _ _).alloc (Nat.le_refl _) _
  have N1 : Hid ((w.alloc (.cells #[.int .i64 0, .string ⟨#[]⟩] 28)).heap[w.heap.size]? = some (.cells #[.int .i64 0, .string ⟨#[]⟩] 28 (0, 0))) := alloc_new w _
  have H : Hid (PT base (w.alloc (.cells #[.int .i64 0, .string ⟨#[]⟩] 28)) b v L) := H0.out.kept B1.out
  generalize (w.alloc (.cells #[.int .i64 0, .string ⟨#[]⟩] 28)) = w1 at B1 N1 H ⊢
  go_wp2_with first | (go_at_call 15; (with_reducible refine (lenT H.out).mono ?_); rintro e w5 ⟨rfl, h5⟩; subst w5) | (go_at_call 29; (with_reducible refine (HA.out _ B1.out).mono ?_); rintro e w5 ⟨rfl, h5⟩; have B5 : Hid (Below w.heap.size w w5) := chain B1.out h5 (Nat.le_refl _); have N5 := (h5.block _ (lt_of_heap N1.out)).trans N1.out; have f0 := frz_row N5 0; have f1 := frz_row N5 1; have r0 : w5.cell? ⟨w.heap.size, 0, none⟩ = some (.int .i64 0) := cell_row N5 (i := 0) rfl; have r1 : w5.cell? ⟨w.heap.size, 1, none⟩ = some (.string ⟨#[]⟩) := cell_row N5 (i := 1) rfl; obtain ⟨q0, q1, -⟩ := set2_cells N5 (.int .i64 z1) (.string z2); clear h5 N5)
  exact bodyPost_ret (v := .tuple #[.agg #[.int .i64 z1, .string z2], .bool ok]) (by simp [results, Try.results42, go_sem, q0, q1]) rfl ⟨rfl, below_set2 B5.out _ _⟩
theorem topT {base : Nat} {w : World} {b : Nat} {v : Value} {L : List (Int × ByteArray)} {x : (Int × ByteArray)} (h : PT base w b v (L ++ [x])) :
    Calls Try.prog 42 #[.pointer (some ⟨b, 0, none⟩)] w fun e w' => e = .returned (.tuple #[.agg #[.int .i64 x.1, .string x.2], .bool true]) ∧ Below w.heap.size w w' :=
  topT_any h (L.length : Nat) (by simp) x.1 x.2 true (fun w' hb => atT (h.kept hb) (k := L.length) (x := x) (by simp))
theorem topT_none {base : Nat} {w : World} {b : Nat} {v : Value} (h : PT base w b v []) :
    Calls Try.prog 42 #[.pointer (some ⟨b, 0, none⟩)] w fun e w' => e = .returned (.tuple #[.agg #[.int .i64 0, .string ⟨#[]⟩], .bool false]) ∧ Below w.heap.size w w' :=
  topT_any h (-1) rfl 0 ⟨#[]⟩ false (fun w' hb => atT_bad (h.kept hb) (.inl (by decide)))

set_option maxRecDepth 100000 in
set_option maxHeartbeats 1000000 in
theorem popT {base : Nat} {w : World} {b : Nat} {v : Value} {L : List (Int × ByteArray)} {x : (Int × ByteArray)} (h : PT base w b v (L ++ [x])) :
    Calls Try.prog 28 #[.pointer (some ⟨b, 0, none⟩)] w fun e w' => e = .returned (.tuple #[.agg #[.int .i64 x.1, .string x.2], .bool true]) ∧ ∃ v', PT base w' b v' L ∧ v'.ownBlock = v.ownBlock ∧ Fr (foot b v) w w' := by
  have hL : (L.length : Int) ≤ 9223372036854775807 := by have := ownsRow_len h.own; simp [maxLen] at this; omega
  have H0 : Hid (PT base w b v (L ++ [x])) := h
  have hlt : Hid (∀ k, foot b v k → k < w.heap.size) := h.lt
  clear h
  go_enter Try.func28, Try.ntmps28
  go_upto_region 1 with fail
  have B1 : Hid (Below w.heap.size w (w.alloc (.cells #[.int .i64 0, .string ⟨#[]⟩] 28))) := (Below.refl _ _).alloc (Nat.le_refl _) _
  have N1 : Hid ((w.alloc (.cells #[.int .i64 0, .string ⟨#[]⟩] 28)).heap[w.heap.size]? = some (.cells #[.int .i64 0, .string ⟨#[]⟩] 28 (0, 0))) := alloc_new w _
  have H : Hid (PT base (w.alloc (.cells #[.int .i64 0, .string ⟨#[]⟩] 28)) b v (L ++ [x])) := H0.out.kept B1.out
  generalize (w.alloc (.cells #[.int .i64 0, .string ⟨#[]⟩] 28)) = w1 at B1 N1 H ⊢
  go_upto_region 2 with (go_at_call 42; (with_reducible refine (topT H.out).mono ?_); rintro e w5 ⟨rfl, h5⟩; have B5 : Hid (Below w.heap.size w w5) := chain B1.out h5 (Nat.le_refl _); have N5 : Hid (w5.heap[w.heap.size]? = some (.cells #[.int .i64 0, .string ⟨#[]⟩] 28 (0, 0))) := (h5.block _ (lt_of_heap N1.out)).trans N1.out; have H5 : Hid (PT base w5 b v (L ++ [x])) := H.out.kept h5; clear h5)
  have B6 : Hid (Below w.heap.size w (w5.alloc (.cells #[.int .i64 x.1, .string x.2] 28))) := B5.out.alloc B5.out.size _
  have M6 : Hid ((w5.alloc (.cells #[.int .i64 x.1, .string x.2] 28)).heap[w5.heap.size]? = some (.cells #[.int .i64 x.1, .string x.2] 28 (0, 0))) := alloc_new w5 _
  have N6 : Hid ((w5.alloc (.cells #[.int .i64 x.1, .string x.2] 28)).heap[w.heap.size]? = some (.cells #[.int .i64 0, .string ⟨#[]⟩] 28 (0, 0))) := (Below.heap_alloc _ _ _ (lt_of_heap N5.out)).trans N5.out
  have H6 : Hid (PT base (w5.alloc (.cells #[.int .i64 x.1, .string x.2] 28)) b v (L ++ [x])) := H5.out.kept ((Below.refl _ _).alloc (Nat.le_refl _) _)
  have S6 : Hid (w.heap.size ≤ w5.heap.size) := B5.out.size
  generalize (w5.alloc (.cells #[.int .i64 x.1, .string x.2] 28)) = w6 at B6 M6 N6 H6 ⊢
  have LN : Hid (Calls Try.prog 15 #[.pointer (some ⟨b, 0, none⟩)] w6 fun e w' => e = .returned (.int .i64 ((L.length : Int) + 1)) ∧ w' = w6) := by
    have := lenT H6.out
    rw [show (((L ++ [x]).length : Nat) : Int) = (L.length : Int) + 1 by simp] at this
    exact this
  have C : Hid (Calls Try.prog 30 #[.pointer (some ⟨b, 0, none⟩), .int .i64 (L.length : Int)] w6 fun e w' => e = .returned (.int .i64 0) ∧ ∃ v', PT base w' b v' L ∧ v'.ownBlock = v.ownBlock ∧ Fr (foot b v) w6 w') := by
    have := cutT H6.out (n := L.length) (by simp)
    rw [List.take_left' rfl] at this
    exact this
  go_wp2_with first | (go_at_call 15; (with_reducible refine LN.out.mono ?_); rintro e w9 ⟨rfl, h9⟩; subst w9) | (go_at_call 30; (with_reducible refine C.out.mono ?_); rintro e w7 ⟨rfl, v', h7, hv7, hf7⟩; have H7 : Hid (PT base w7 b v' L ∧ v'.ownBlock = v.ownBlock ∧ Fr (foot b v) w6 w7) := ⟨h7, hv7, hf7⟩; have N7 := (hf7.block _ (lt_of_heap N6.out) (fun q => by have := hlt.out _ q; omega)).trans N6.out; have M7 := (hf7.block _ (lt_of_heap M6.out) (fun q => by have := hlt.out _ q; have := S6.out; omega)).trans M6.out; have f0 := frz_row N7 0; have f1 := frz_row N7 1; have r0 : w7.cell? ⟨w.heap.size, 0, none⟩ = some (.int .i64 0) := cell_row N7 (i := 0) rfl; have r1 : w7.cell? ⟨w.heap.size, 1, none⟩ = some (.string ⟨#[]⟩) := cell_row N7 (i := 1) rfl; have k0 : w7.cell? ⟨w5.heap.size, 0, none⟩ = some (.int .i64 x.1) := cell_row M7 (i := 0) rfl; have k1 : w7.cell? ⟨w5.heap.size, 1, none⟩ = some (.string x.2) := cell_row M7 (i := 1) rfl; obtain ⟨q0, q1, -⟩ := set2_cells N7 (.int .i64 x.1) (.string x.2); clear h7 hv7 hf7 N7 M7)
  refine bodyPost_ret (v := .tuple #[.agg #[.int .i64 x.1, .string x.2], .bool true]) (by simp [results, Try.results28, go_sem, q0, q1]) rfl ⟨rfl, v', ?_, H7.out.2.1, ?_⟩
  · refine H7.out.1.fr (S := fun k => k = w.heap.size) (((Fr.refl (fun k => k = w.heap.size) w7).setCell (p := ⟨w.heap.size, 0, none⟩) rfl _).setCell (p := ⟨w.heap.size, 1, none⟩) rfl _) (fun k hk e => ?_)
    have : foot b v k := hk.imp id (fun q => H7.out.2.1 ▸ q)
    have := hlt.out k this
    omega
  · exact (((Fr.of_below B6.out).trans H7.out.2.2).setNew (p := ⟨w.heap.size, 0, none⟩) (Nat.le_refl _) _).setNew (p := ⟨w.heap.size, 1, none⟩) (Nat.le_refl _) _

set_option maxRecDepth 100000 in
set_option maxHeartbeats 1000000 in
theorem popT_none {base : Nat} {w : World} {b : Nat} {v : Value} (h : PT base w b v []) :
    Calls Try.prog 28 #[.pointer (some ⟨b, 0, none⟩)] w fun e w' => e = .returned (.tuple #[.agg #[.int .i64 0, .string ⟨#[]⟩], .bool false]) ∧ Below w.heap.size w w' := by
  have H0 : Hid (PT base w b v []) := h
  clear h
  go_enter Try.func28, Try.ntmps28
  go_upto_region 1 with fail
  have B1 : Hid (Below w.heap.size w (w.alloc (.cells #[.int .i64 0, .string ⟨#[]⟩] 28))) := (Below.refl _ _).alloc (Nat.le_refl _) _
  have N1 : Hid ((w.alloc (.cells #[.int .i64 0, .string ⟨#[]⟩] 28)).heap[w.heap.size]? = some (.cells #[.int .i64 0, .string ⟨#[]⟩] 28 (0, 0))) := alloc_new w _
  have H : Hid (PT base (w.alloc (.cells #[.int .i64 0, .string ⟨#[]⟩] 28)) b v []) := H0.out.kept B1.out
  generalize (w.alloc (.cells #[.int .i64 0, .string ⟨#[]⟩] 28)) = w1 at B1 N1 H ⊢
  go_upto_region 2 with (go_at_call 42; (with_reducible refine (topT_none H.out).mono ?_); rintro e w5 ⟨rfl, h5⟩; have B5 : Hid (Below w.heap.size w w5) := chain B1.out h5 (Nat.le_refl _); have N5 : Hid (w5.heap[w.heap.size]? = some (.cells #[.int .i64 0, .string ⟨#[]⟩] 28 (0, 0))) := (h5.block _ (lt_of_heap N1.out)).trans N1.out; clear h5)
  have B6 : Hid (Below w.heap.size w (w5.alloc (.cells #[.int .i64 0, .string ⟨#[]⟩] 28))) := B5.out.alloc B5.out.size _
  have M6 := alloc_new w5 (.cells #[.int .i64 0, .string ⟨#[]⟩] 28)
  have N6 := (Below.heap_alloc w5 (.cells #[.int .i64 0, .string ⟨#[]⟩] 28) _ (lt_of_heap N5.out)).trans N5.out
  generalize (w5.alloc (.cells #[.int .i64 0, .string ⟨#[]⟩] 28)) = w6 at B6 M6 N6 ⊢
  have f0 := frz_row N6 0
  have f1 := frz_row N6 1
  have r0 : w6.cell? ⟨w.heap.size, 0, none⟩ = some (.int .i64 0) := cell_row N6 (i := 0) rfl
  have r1 : w6.cell? ⟨w.heap.size, 1, none⟩ = some (.string ⟨#[]⟩) := cell_row N6 (i := 1) rfl
  have k0 : w6.cell? ⟨w5.heap.size, 0, none⟩ = some (.int .i64 0) := cell_row M6 (i := 0) rfl
  have k1 : w6.cell? ⟨w5.heap.size, 1, none⟩ = some (.string ⟨#[]⟩) := cell_row M6 (i := 1) rfl
  obtain ⟨q0, q1, -⟩ := set2_cells N6 (.int .i64 0) (.string ⟨#[]⟩)
  clear N6 M6
  go_wp2
  exact bodyPost_ret (v := .tuple #[.agg #[.int .i64 0, .string ⟨#[]⟩], .bool false]) (by simp [results, Try.results28, go_sem, q0, q1]) rfl ⟨rfl, below_set2 B6.out _ _⟩
end Go.Proofs.Ytobeiigmeflbjaa
