/-
  lent, still, spoil: lists that are handed in, and lists that came.
-/
import Derived.Test.YtfihhliiecdnaaaRefC
import Derived.Test.YtfihhliiecdnaaaAlike
import Derived.Laws.MakeOwn
namespace Go.Proofs.Ytfihhliiecdnaaa
open Go Go.RowKit

theorem size_two : (Try.prog.info? 38).map (·.size) = some 2 := by kernel_rfl
theorem run_copy_two {P : Program} (w : World) (dT sT ty elem : TypeId) (g dLen dCap : Nat) (sp : Option Addr) (sLen sCap : Nat) (cur : Array Value) (t : TypeId) (cs : List Value)
    (hu : P.underlying dT = some (.slice elem)) (hs : (P.info? elem).map (·.size) = some 2)
    (hg : w.heap[g]? = some (.cells cur t (0, 0))) (hn : cs.length = sLen * 2) (hle : sLen ≤ dLen)
    (hsrc : sLen = 0 ∨ ∃ ad, sp = some ad ∧ ∀ j v, cs[j]? = some v → w.cell? (ad.add j) = some v) (hfit : cs.length ≤ cur.size) (h1 : ∀ v ∈ cs, v.oneCell' = true) :
    (Builtin.copy_ #[dT, sT] ty #[.slice (some ⟨g, 0, none⟩) dLen dCap, .slice sp sLen sCap]).run P w =
      .ok (goInt sLen) (w.setRow g (cs ++ cur.toList.drop cs.length).toArray) := by
  have hmin : sLen.min dLen = sLen := Nat.min_eq_left hle
  have hst := run_storeCells_at P g 0 t cs 0 cur w hg (by simpa using hfit) h1
  simp only [Nat.zero_add, Nat.add_zero, List.take_zero, List.nil_append] at hst
  cases hq : P.info? elem with
  | none => simp [hq] at hs
  | some i =>
    have hi : i.size = 2 := by simpa [hq] using hs
    rcases hsrc with h0 | ⟨ad, rfl, hsrc⟩
    · subst h0
      obtain rfl : cs = [] := List.eq_nil_of_length_eq_zero (by simpa using hn)
      have hl : ∀ (x : Addr), (loadCells x 0).run P w = .ok #[] w := fun x => by simpa using run_loadCells_list (P := P) w x [] (by simp)
      have hst' : (storeCells ⟨g, 0, none⟩ [] 0).run P w = .ok () (w.setRow g (cur.toList.drop 0).toArray) := hst
      cases sp <;> simp [Builtin.copy_, run_underlying hu, Builtin.lenOf, Builtin.firstCells, sizeOf, typeInfo, hq, hl, hst']
    · have hl := run_loadCells_list (P := P) w ad cs hsrc
      rw [hn] at hl
      simp [Builtin.copy_, run_underlying hu, Builtin.lenOf, Builtin.firstCells, sizeOf, typeInfo, hq, hi, hmin, hl, hst]
theorem wpList_copy_two {P : Program} {w : World} {ops : Array Oper} {rest : List Oper} {o : Oper} {a : Act} {Q : Exit → Act → World → Prop} (hgd : o.guard = none) (d s : Operand) (dT sT : TypeId)
    (ho : o.op = .call { callee := .builtin .copy, args := #[d, s], argTypes := #[dT, sT] }) (elem : TypeId) (hu : P.underlying dT = some (.slice elem)) (hsz : (P.info? elem).map (·.size) = some 2)
    (g dLen dCap : Nat) (sp : Option Addr) (sLen sCap : Nat) (hd : a.eval d = .slice (some ⟨g, 0, none⟩) dLen dCap) (hs : a.eval s = .slice sp sLen sCap)
    (cur : Array Value) (t : TypeId) (hg : w.heap[g]? = some (.cells cur t (0, 0))) (cs : List Value) (hn : cs.length = sLen * 2) (hle : sLen ≤ dLen)
    (hsrc : sLen = 0 ∨ ∃ ad, sp = some ad ∧ ∀ j v, cs[j]? = some v → w.cell? (ad.add j) = some v) (hfit : cs.length ≤ cur.size) (h1 : ∀ v ∈ cs, v.oneCell' = true)
    (h : ∀ w', Hid (w'.heap[g]? = some (.cells (cs ++ cur.toList.drop cs.length).toArray t (0, 0))) → Below g w w' → wpList P ops Q rest (a.put o.dst (goInt sLen)) w') : wpList P ops Q (o :: rest) a w := by
  refine wpList_plain hgd fun K hK => ?_
  have hrun := run_copy_two (P := P) w dT sT o.type elem g dLen dCap sp sLen sCap cur t cs hu hsz hg hn hle hsrc hfit h1
  unfold Oper.wp
  simp [execOp, ho, resolve, invoke, builtin, hd, hs, hrun, Result.andThen]
  exact hK _ _ (h _ (setRow_heap w g _ _ t _ hg) (((Fr.refl (fun k => k = g) w).setRow rfl _).below (Nat.le_of_lt (lt_of_heap hg)) (fun k e => by omega)))

/-- The copy with the mark behind it. -/
def XAt (W : World) (X : Nat) (L : List (Int × Int)) : Prop := W.heap[X]? = some (.cells (cellsR (L ++ [(-7, 7)])).toArray 38 (0, 0))
theorem XAt.kept {W W' : World} {X : Nat} {L : List (Int × Int)} (h : XAt W X L) (hb : Below W.heap.size W W') : XAt W' X L := (hb.block X (lt_of_heap h)).trans h
theorem XAt.get {W : World} {X : Nat} {L : List (Int × Int)} (h : XAt W X L) {i : Nat} {r : Int × Int} (hi : (L ++ [(-7, 7)])[i]? = some r) : W.cell? ⟨X, 2 * i, none⟩ = some (.int .i64 r.1) ∧ W.cell? ⟨X, 2 * i + 1, none⟩ = some (.int .i64 r.2) := by
  obtain ⟨f1, f2⟩ := cellsR_get _ i r hi
  exact ⟨cell_row h (by simpa using f1), cell_row h (by simpa using f2)⟩
theorem XAt.arg {W : World} {X : Nat} {L : List (Int × Int)} (h : XAt W X L) (hm : L.length + 1 ≤ maxLen) : ArgR W (.slice (some ⟨X, 0, none⟩) L.length (L.length + 1)) L :=
  .inr ⟨X, 0, L.length + 1, rfl, lt_of_heap h, by omega, hm, fun i r hi => by
    have hl : i < L.length := (List.getElem?_eq_some_iff.1 hi).1
    rw [Nat.zero_add]
    exact h.get (by rw [List.getElem?_append_left hl]; exact hi)⟩
theorem ArgR.src {w : World} {sp : Option Addr} {n cap : Nat} {L : List (Int × Int)} (h : ArgR w (.slice sp n cap) L) : n = 0 ∨ ∃ ad, sp = some ad ∧ ∀ j v, (cellsR L)[j]? = some v → w.cell? (ad.add j) = some v := by
  cases sp with
  | none =>
    rcases h with ⟨_, _, h1, _⟩ | ⟨g, off, cap', h1, _⟩
    · cases h1; exact .inl rfl
    · cases h1
  | some ad => exact .inr ⟨ad, rfl, h.news⟩
theorem made_mark {W : World} {X : Nat} {L : List (Int × Int)} {Z : List Value} (h : W.heap[X]? = some (.cells (cellsR L ++ Z).toArray 38 (0, 0))) (hZ : Z.length = 2) :
    XAt ((W.setCell ⟨X, L.length * 2, none⟩ (.int .i64 (-7))).setCell ⟨X, L.length * 2 + 1, none⟩ (.int .i64 7)) X L := by
  refine (heap_set_in (heap_set_in h _ _) _ _).trans ?_
  obtain ⟨x, y, rfl⟩ : ∃ x y, Z = [x, y] := by
    match Z, hZ with
    | [x, y], _ => exact ⟨x, y, rfl⟩
  congr 2
  apply Array.ext'
  simp only [Array.toList_setIfInBounds]
  rw [cellsR_append, List.set_append_right _ _ (by rw [cellsR_length]; omega), List.set_append_right _ _ (by rw [cellsR_length]; omega), cellsR_length]
  simp [cellsR]
theorem made_cells {W : World} {X : Nat} {L : List (Int × Int)} {Z : List Value} (h : W.heap[X]? = some (.cells (cellsR L ++ Z).toArray 38 (0, 0))) (hZ : Z.length = 2) :
    (∃ u, W.cell? ⟨X, L.length * 2, none⟩ = some u) ∧ (∃ u, W.cell? ⟨X, L.length * 2 + 1, none⟩ = some u) ∧ ∀ o, W.frozen? ⟨X, o, none⟩ = false := by
  obtain ⟨x, y, rfl⟩ : ∃ x y, Z = [x, y] := by
    match Z, hZ with
    | [x, y], _ => exact ⟨x, y, rfl⟩
  refine ⟨⟨x, cell_row h ?_⟩, ⟨y, cell_row h ?_⟩, fun o => frz_row h o⟩
  · simp [← cellsR_length]
  · rw [List.getElem?_toArray, List.getElem?_append_right (by rw [cellsR_length]; omega), cellsR_length]
    simp

theorem make_ranges (n : Nat) (h : n ≤ 8796093022208) (w : World) :
    (Instr.makeSlice 22 (.int .i64 (n : Int)) (.int .i64 (n : Int))).run Try.prog w = .ok (.slice (some ⟨w.heap.size, 0, none⟩) n n) (w.alloc (.cells (madeCells #[.int .i64 0, .int .i64 0] (n * 2)) 38)) := by
  obtain ⟨i0, hi, hz0, hz1, hz2⟩ := info_parts size_range
  have := run_make (P := Try.prog) w 22 38 i0 (.agg #[.int .i64 0, .int .i64 0]) und_ranges hi hz0 .i64 .i64 (n : Int) (n : Int) (by omega) (by omega) (by rw [hz2]; omega) (by omega)
  rw [hz1] at this
  simpa [Value.cells] using this

set_option maxRecDepth 100000 in
set_option maxHeartbeats 1000000 in
theorem lent_c {w : World} {v : Value} {L : List (Int × Int)} (h : ArgR w v L) (hl : L.length ≤ 8796093021952) :
    Calls Try.prog 22 #[v] w fun e w' => e = .returned (.slice (some ⟨w.heap.size, 0, none⟩) (L.length + 1) (L.length + 1)) ∧ XAt w' w.heap.size L ∧ Below w.heap.size w w' := by
  obtain ⟨q, cap, e, -, -, -⟩ := h.slice
  subst e
  have A : Hid (ArgR w (.slice q L.length cap) L) := h
  have m0 := make_ranges (L.length + 1) (by omega)
  have hnew : ∀ W : World, (W.alloc (.cells (madeCells #[.int .i64 0, .int .i64 0] ((L.length + 1) * 2)) 38)).heap[W.heap.size]? = some (.cells (madeCells #[.int .i64 0, .int .i64 0] ((L.length + 1) * 2)) 38 (0, 0)) := fun W => alloc_new W _
  obtain ⟨Z, hZ⟩ : ∃ Z, Z = (madeCells #[.int .i64 0, .int .i64 0] ((L.length + 1) * 2)).toList.drop (cellsR L).length := ⟨_, rfl⟩
  have HZ : Hid (Z.length = 2 ∧ (madeCells #[.int .i64 0, .int .i64 0] ((L.length + 1) * 2)).toList.drop (cellsR L).length = Z ∧ (cellsR L).length ≤ (madeCells #[.int .i64 0, .int .i64 0] ((L.length + 1) * 2)).size) := ⟨by rw [hZ, List.length_drop, Array.length_toList, size_madeCells, cellsR_length]; omega, hZ.symm, by rw [size_madeCells, cellsR_length]; omega⟩
  have HN : Hid _ := hnew
  have wn : IntKind.wrap .i64 ((L.length : Int) + 1) = (L.length : Int) + 1 := by rw [IntKind.wrap_i64]; omega
  have m1 : ∀ W : World, (Instr.makeSlice 22 (.int .i64 ((L.length : Int) + 1)) (.int .i64 ((L.length : Int) + 1))).run Try.prog W = _ := m0
  clear hZ hnew h m0
  generalize madeCells #[.int .i64 0, .int .i64 0] ((L.length + 1) * 2) = M at m1 HZ HN
  have i0 : (0 : Int) ≤ (L.length : Int) := by omega
  have i1 : (L.length : Int) < (L.length : Int) + 1 := by omega
  have B1 : Hid (Below w.heap.size w (w.alloc (.cells M 38))) := (Below.refl _ _).alloc (Nat.le_refl _) _
  go_enter Try.func22, Try.ntmps22
  go_upto_region 3 with (refine wpList_copy_two rfl _ _ 22 22 rfl 38 und_ranges size_two w.heap.size (L.length + 1) (L.length + 1) q L.length cap rfl rfl _ _ (HN.out w) (cellsR L) (cellsR_length L) (by omega) (A.out.kept B1.out).src HZ.out.2.2 (cellsR_one L) ?_; rw [HZ.out.2.1]; intro w4 hg4 hb4; have V4 : Hid (Below w.heap.size w w4) := B1.out.trans hb4; have G4 : Hid (w4.heap[w.heap.size]? = some (.cells (cellsR L ++ Z).toArray 38 (0, 0))) := hg4; clear hg4 hb4)
  obtain ⟨⟨y1, c1⟩, ⟨y2, c2⟩, f4⟩ := made_cells G4.out HZ.out.1
  have hlt : w.heap.size < w4.heap.size := lt_of_heap G4.out
  go_wp2
  go_ret
  exact ⟨rfl, made_mark G4.out HZ.out.1, (V4.out.setCell (p := ⟨w.heap.size, L.length * 2, none⟩) (Nat.le_refl _) _).setCell (p := ⟨w.heap.size, L.length * 2 + 1, none⟩) (Nat.le_refl _) _⟩

set_option maxRecDepth 100000 in
set_option maxHeartbeats 1000000 in
theorem still_c {w : World} {X : Nat} {v : Value} {L : List (Int × Int)} (hX : XAt w X L) (h : ArgR w v L) (hl : L.length ≤ 8796093021952) :
    Calls Try.prog 29 #[.slice (some ⟨X, 0, none⟩) (L.length + 1) (L.length + 1), v] w fun e w' => e = .returned (.bool true) ∧ Below w.heap.size w w' := by
  obtain ⟨q, cap, e, -, -, -⟩ := h.slice
  subst e
  have A : Hid (ArgR w (.slice q L.length cap) L ∧ XAt w X L) := ⟨h, hX⟩
  have AX : Hid (ArgR w (.slice (some ⟨X, 0, none⟩) L.length (L.length + 1)) L) := hX.arg (by unfold maxLen; omega)
  clear h hX
  have i0 : (0 : Int) ≤ (L.length : Int) := by omega
  have i1 : (L.length : Int) < (L.length : Int) + 1 := by omega
  have i2 : (L.length : Int) ≤ (L.length : Int) + 1 := by omega
  have b7 : ((-7 : Int) == -7) = true := rfl
  have b8 : ((7 : Int) == 7) = true := rfl
  go_enter Try.func29, Try.ntmps29
  go_wp2_with (go_at_call 23; refine (alike_c AX.out A.out.1).mono ?_; rw [decide_eq_true rfl]; rintro e w5 ⟨rfl, h1⟩; have B5 : Hid (Below w.heap.size w w5) := h1; have hm := (A.out.2.kept h1).get (i := L.length) (r := (-7, 7)) (by simp); have m1 := hm.1; have m2 := hm.2; rw [Nat.mul_comm] at m1 m2; clear h1 hm)
  go_ret
  exact ⟨rfl, B5.out⟩
end Go.Proofs.Ytfihhliiecdnaaa
