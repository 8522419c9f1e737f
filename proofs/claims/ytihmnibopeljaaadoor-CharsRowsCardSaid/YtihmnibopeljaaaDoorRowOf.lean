/-
  rowOf: contract.
-/
import Derived.Test.YtihmnibopeljaaaDoorRead
namespace Go.Proofs.YtihmnibopeljaaaDoor
open Go Go.RowKit
attribute [local go_sem] ext_cell

theorem size_range : (Tryd.prog.info? 37).map (fun i => (i.zero, i.size, i.bytes)) = some (some (.agg #[.int .i64 0, .int .i64 0]), 2, 16) := by kernel_rfl
theorem und_ranges : Tryd.prog.underlying 35 = some (.slice 37) := by kernel_rfl
theorem make_ranges (n : Nat) (h : n * 16 ≤ 281474976710656) (w : World) :
    (Instr.makeSlice 35 (.int .i64 (n : Int)) (.int .i64 (n : Int))).run Tryd.prog w = .ok (.slice (some ⟨w.heap.size, 0, none⟩) n n) (w.alloc (.cells (madeCells #[.int .i64 0, .int .i64 0] (n * 2)) 37)) := by
  obtain ⟨i0, hi, hz0, hz1, hz2⟩ := info_parts size_range
  have := run_make (P := Tryd.prog) w 35 37 i0 (.agg #[.int .i64 0, .int .i64 0]) und_ranges hi hz0 .i64 .i64 (n : Int) (n : Int) (by omega) (by omega) (by rw [hz2]; omega) (by omega)
  rw [hz1] at this
  simpa [Value.cells] using this

/-- A row of ranges of bytes, in a block: from each byte of E to that of F (the first k). -/
structure RowB (E F : ByteArray) (n k : Nat) (w : World) (g : Nat) : Prop where
  blk : ∃ cs : Array Value, w.heap[g]? = some (.cells cs 37 (0, 0)) ∧ cs.size = n * 2 ∧ ∀ j, j < k → cs[j * 2]? = some (.int .i64 ((E.get! j).toNat : Int)) ∧ cs[j * 2 + 1]? = some (.int .i64 ((F.get! j).toNat : Int))
theorem RowB.cells {E F : ByteArray} {n k : Nat} {w : World} {g : Nat} (h : RowB E F n k w g) {j : Nat} (hj : j < n) : (∃ u, w.cell? ⟨g, j * 2, none⟩ = some u) ∧ (∃ u, w.cell? ⟨g, j * 2 + 1, none⟩ = some u) ∧ ∀ o, w.frozen? ⟨g, o, none⟩ = false := by
  obtain ⟨cs, h1, h2, _⟩ := h.blk
  refine ⟨⟨_, cell_row h1 (Array.getElem?_eq_getElem (by omega))⟩, ⟨_, cell_row h1 (Array.getElem?_eq_getElem (by omega))⟩, fun o => frz_row h1 o⟩
theorem RowB.put {E F : ByteArray} {n k : Nat} {w : World} {g : Nat} (h : RowB E F n k w g) (hk : k < n) : RowB E F n (k + 1) ((w.setCell ⟨g, k * 2, none⟩ (.int .i64 ((E.get! k).toNat : Int))).setCell ⟨g, k * 2 + 1, none⟩ (.int .i64 ((F.get! k).toNat : Int))) g := by
  obtain ⟨cs, h1, h2, h3⟩ := h.blk
  refine ⟨_, heap_set_in (heap_set_in h1 _ _) _ _, by simpa using h2, fun j hj => ?_⟩
  simp only [Array.getElem?_setIfInBounds, Array.size_setIfInBounds]
  by_cases e : j = k
  · subst e
    refine ⟨?_, ?_⟩
    · rw [if_neg (by omega), if_pos rfl, if_pos (by omega)]
    · rw [if_pos rfl, if_pos (by omega)]
  · have := h3 j (by omega)
    refine ⟨?_, ?_⟩
    · rw [if_neg (by omega), if_neg (by omega)]; exact this.1
    · rw [if_neg (by omega), if_neg (by omega)]; exact this.2
theorem RowB.then {E F : ByteArray} {n k : Nat} {w w' : World} {g : Nat} (h : RowB E F n k w g) (hb : w'.heap[g]? = w.heap[g]?) : RowB E F n k w' g := by
  obtain ⟨cs, h1, h2⟩ := h.blk
  exact ⟨cs, hb.trans h1, h2⟩

set_option maxHeartbeats 4000000 in
set_option maxRecDepth 1000000 in
theorem rowOf_c (lo hi : Int) (w : World) (h0 : 0 ≤ lo) (h1 : lo ≤ 1114111) (h2 : 0 ≤ hi) (h3 : hi ≤ 1114111) (n : Nat) (hE : (Utf8.encode lo).size = n) (hF : (Utf8.encode hi).size = n) (hn : n ≤ 4) :
    Calls Tryd.prog 43 #[.int .i64 lo, .int .i64 hi] w fun e w' => e = .returned (.slice (some ⟨w.heap.size, 0, none⟩) n n) ∧ RowB (Utf8.encode lo) (Utf8.encode hi) n n w' w.heap.size ∧ Below w.heap.size w w' ∧ w.heap.size < w'.heap.size := by
  have hw1 : IntKind.wrap .i32 lo = lo := by rw [IntKind.wrap_i32]; omega
  have hw2 : IntKind.wrap .i32 hi = hi := by rw [IntKind.wrap_i32]; omega
  have hmk := make_ranges n (by omega) w
  obtain ⟨E, hEe⟩ : ∃ E, Utf8.encode lo = E := ⟨_, rfl⟩
  obtain ⟨F, hFe⟩ : ∃ F, Utf8.encode hi = F := ⟨_, rfl⟩
  rw [hEe] at hE ⊢
  rw [hFe] at hF ⊢
  go_enter Tryd.func43, Tryd.ntmps43
  go_wp2
  go_loopw [20] (fun i wr => ∃ k : Nat, i = .int .i64 (k : Int) ∧ k ≤ n ∧ RowB E F n k wr w.heap.size ∧ Below w.heap.size w wr) (fun i _ => n - (intOf i).toNat)
  case atStart =>
    refine ⟨0, rfl, Nat.zero_le _, ⟨_, alloc_new w _, size_madeCells _ _, fun j hj => by omega⟩, (Below.refl _ w).alloc (Nat.le_refl _) _⟩
  case round =>
    obtain ⟨k, rfl, hk, hR, hbw⟩ := hrel
    have R : Hid (RowB E F n k wr w.heap.size) := hR
    have B : Hid (Below w.heap.size w wr) := hbw
    have hgs : w.heap.size < wr.heap.size := by obtain ⟨cs, q, _⟩ := hR.blk; exact lt_of_heap q
    clear hR hbw
    by_cases hlt : k < n
    · obtain ⟨x, hx⟩ : ∃ x, E.get! k = x := ⟨_, rfl⟩
      obtain ⟨y, hy⟩ : ∃ y, F.get! k = y := ⟨_, rfl⟩
      have gE : E[k]'(by omega) = x := by rw [← hx]; exact (Utf8W.get!_of_lt E k (by omega)).symm
      have gF : F[k]'(by omega) = y := by rw [← hy]; exact (Utf8W.get!_of_lt F k (by omega)).symm
      have HX : Hid (E.get! k = x) := hx
      have HY : Hid (F.get! k = y) := hy
      clear hx hy
      have i0 : (0 : Int) ≤ (k : Int) := by omega
      have i1 : (k : Int) < (E.size : Int) := by omega
      have i2 : (k : Int) < (F.size : Int) := by omega
      have i3 : (k : Int) < (n : Int) := by omega
      have hwr : IntKind.wrap .i64 ((k : Int) + 1) = (k : Int) + 1 := wrap_small _ (by omega) (by omega)
      have x0 := x.toNat_lt
      have y0 := y.toNat_lt
      have hwx : IntKind.wrap .i64 (x.toNat : Int) = (x.toNat : Int) := wrap_small _ (by omega) (by omega)
      have hwy : IntKind.wrap .i64 (y.toNat : Int) = (y.toNat : Int) := wrap_small _ (by omega) (by omega)
      go_wp2
      refine wp_region_last_lit (List.cons_ne_nil _ _) (by kernel_rfl) (by kernel_rfl) (by kernel_rfl) ?_
      dsimp only [List.dropLast, List.getLast]
      repeat (go_big_quiet_step (first | exact rfl))
      refine wpQuiet_nil ?_
      intro w5 hw5
      have B5 : Hid (Below wr.heap.size wr w5) := ext_of hw5
      have R5 : Hid (RowB E F n k w5 w.heap.size) := R.out.then (B5.out.block _ hgs)
      clear hw5
      obtain ⟨⟨u0, c0⟩, ⟨u1, c1⟩, f⟩ := R5.out.cells hlt
      have f0 := f (k * 2)
      have f1 := f (k * 2 + 1)
      have c2 : (w5.setCell ⟨w.heap.size, k * 2, none⟩ (.int .i64 (x.toNat : Int))).cell? ⟨w.heap.size, k * 2 + 1, none⟩ = some u1 := by
        obtain ⟨cs, q1, q2, _⟩ := R5.out.blk
        have := heap_set_in q1 (k * 2) (.int .i64 (x.toNat : Int))
        have q3 : cs[k * 2 + 1]? = some u1 := by simpa [World.cell?, q1] using c1
        refine cell_row this ?_
        rw [Array.getElem?_setIfInBounds, if_neg (by omega)]
        exact q3
      have f2 : (w5.setCell ⟨w.heap.size, k * 2, none⟩ (.int .i64 (x.toNat : Int))).frozen? ⟨w.heap.size, k * 2 + 1, none⟩ = false := by
        obtain ⟨cs, q1, q2, _⟩ := R5.out.blk
        exact frz_row (heap_set_in q1 (k * 2) _) _
      clear f
      go_wp2
      go_roundw
      case rel =>
        refine ⟨k + 1, by go_num, by omega, ?_, ?_⟩
        · have := R5.out.put hlt
          rw [HX.out, HY.out] at this
          exact this
        · exact (((Fr.of_below (S := fun _ => False) (chain B.out B5.out (Nat.le_refl _))).setNew (p := ⟨w.heap.size, k * 2, none⟩) (Nat.le_refl _) _).setNew (p := ⟨w.heap.size, k * 2 + 1, none⟩) (Nat.le_refl _) _).below (Nat.le_refl _) (fun _ q => q.elim)
      case measure => simp only [intOf]; omega
    · obtain rfl : k = n := by omega
      have i3 : ¬ ((k : Nat) : Int) < (k : Int) := by omega
      go_wp2
      go_ret
      exact ⟨rfl, R.out, B.out, hgs⟩
end Go.Proofs.YtihmnibopeljaaaDoor
