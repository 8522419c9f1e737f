/-
  lent, still, spoil: lists that are handed in, and lists that came.
-/
import Derived.Test.YtloeajhmmjdlgaaGreatDoorReadsProofB1
import Derived.Laws.MakeOwn
namespace Go.Proofs.YtloeajhmmjdlgaaGreatDoor
open Go Go.RowKit

theorem size_two : (Tryz.prog.info? 39).map (·.size) = some 2 := by kernel_rfl
theorem run_copy_two {P : Program} (w : World) (dT sT ty elem : TypeId) (g dLen dCap : Nat) (sp : Option Addr) (sLen sCap : Nat) (cur : Array Value) (t : TypeId) (cs : List Value)
    (hu : P.underlying dT = some (.slice elem)) (hs : (P.info? elem).map (·.size) = some 2)
    (hg : w.heap[g]? = some (.cells cur t (0, 0))) (hn : cs.length = sLen * 2) (hle : sLen ≤ dLen)
    (hsrc : sLen = 0 ∨ ∃ ad, sp = some ad ∧ ∀ j v, cs[j]? = some v → w.cell? (ad.add j) = some v) (hfit : cs.length ≤ cur.size) (h1 : ∀ v ∈ cs, v.oneCell' = true) :
    (Builtin.copy_ #[dT, sT] ty #[.slice (some ⟨g, 0, none⟩) dLen dCap, .slice sp sLen sCap]).run P w =
      .ok (goInt sLen) (w.setRow g (cs ++ cur.toList.drop cs.length).toArray) := by
  have hmin : sLen.min dLen = sLen := Nat.min_eq_left hle
  have hst := run_storeCells_at P g 0 t cs 0 cur w hg (by simpa using hfit) h1
  simp only [Nat.zero_add, Nat.add_zero, List.take_zero, List.nil_append] at hst
  cases hq : P.info? elem with
  | none => simp [hq] at hs
  | some i =>
    have hi : i.size = 2 := by simpa [hq] using hs
    rcases hsrc with h0 | ⟨ad, rfl, hsrc⟩
    · subst h0
      obtain rfl : cs = [] := List.eq_nil_of_length_eq_zero (by simpa using hn)
      have hl : ∀ (x : Addr), (loadCells x 0).run P w = .ok #[] w := fun x => by simpa using run_loadCells_list (P := P) w x [] (by simp)
      have hst' : (storeCells ⟨g, 0, none⟩ [] 0).run P w = .ok () (w.setRow g (cur.toList.drop 0).toArray) := hst
      cases sp <;> simp [Builtin.copy_, run_underlying hu, Builtin.lenOf, Builtin.firstCells, sizeOf, typeInfo, hq, hl, hst']
    · have hl := run_loadCells_list (P := P) w ad cs hsrc
      rw [hn] at hl
      simp [Builtin.copy_, run_underlying hu, Builtin.lenOf, Builtin.firstCells, sizeOf, typeInfo, hq, hi, hmin, hl, hst]
theorem wpList_copy_two {P : Program} {w : World} {ops : Array Oper} {rest : List Oper} {o : Oper} {a : Act} {Q : Exit → Act → World → Prop} (hgd : o.guard = none) (d s : Operand) (dT sT : TypeId)
    (ho : o.op = .call { callee := .builtin .copy, args := #[d, s], argTypes := #[dT, sT] }) (elem : TypeId) (hu : P.underlying dT = some (.slice elem)) (hsz : (P.info? elem).map (·.size) = some 2)
    (g dLen dCap : Nat) (sp : Option Addr) (sLen sCap : Nat) (hd : a.eval d = .slice (some ⟨g, 0, none⟩) dLen dCap) (hs : a.eval s = .slice sp sLen sCap)
    (cur : Array Value) (t : TypeId) (hg : w.heap[g]? = some (.cells cur t (0, 0))) (cs : List Value) (hn : cs.length = sLen * 2) (hle : sLen ≤ dLen)
    (hsrc : sLen = 0 ∨ ∃ ad, sp = some ad ∧ ∀ j v, cs[j]? = some v → w.cell? (ad.add j) = some v) (hfit : cs.length ≤ cur.size) (h1 : ∀ v ∈ cs, v.oneCell' = true)
    (h : ∀ w', Hid (w'.heap[g]? = some (.cells (cs ++ cur.toList.drop cs.length).toArray t (0, 0))) → Below g w w' → wpList P ops Q rest (a.put o.dst (goInt sLen)) w') : wpList P ops Q (o :: rest) a w := by
  refine wpList_plain hgd fun K hK => ?_
  have hrun := run_copy_two (P := P) w dT sT o.type elem g dLen dCap sp sLen sCap cur t cs hu hsz hg hn hle hsrc hfit h1
  unfold Oper.wp
  simp [execOp, ho, resolve, invoke, builtin, hd, hs, hrun, Result.andThen]
  exact hK _ _ (h _ (setRow_heap w g _ _ t _ hg) (((Fr.refl (fun k => k = g) w).setRow rfl _).below (Nat.le_of_lt (lt_of_heap hg)) (fun k e => by omega)))

/-- The copy with the mark behind it. -/
def XAt (W : World) (X : Nat) (L : List (Int × Int)) : Prop := W.heap[X]? = some (.cells (cellsR (L ++ [(-7, 7)])).toArray 39 (0, 0))
theorem XAt.kept {W W' : World} {X : Nat} {L : List (Int × Int)} (h : XAt W X L) (hb : Below W.heap.size W W') : XAt W' X L := (hb.block X (lt_of_heap h)).trans h
theorem XAt.get {W : World} {X : Nat} {L : List (Int × Int)} (h : XAt W X L) {i : Nat} {r : Int × Int} (hi : (L ++ [(-7, 7)])[i]? = some r) : W.cell? ⟨X, 2 * i, none⟩ = some (.int .i64 r.1) ∧ W.cell? ⟨X, 2 * i + 1, none⟩ = some (.int .i64 r.2) := by
  obtain ⟨f1, f2⟩ := cellsR_get _ i r hi
  exact ⟨cell_row h (by simpa using f1), cell_row h (by simpa using f2)⟩
theorem XAt.arg {W : World} {X : Nat} {L : List (Int × Int)} (h : XAt W X L) (hm : L.length + 1 ≤ maxLen) : ArgR W (.slice (some ⟨X, 0, none⟩) L.length (L.length + 1)) L :=
  .inr ⟨X, 0, L.length + 1, rfl, lt_of_heap h, by omega, hm, fun i r hi => by
    have hl : i < L.length := (List.getElem?_eq_some_iff.1 hi).1
    rw [Nat.zero_add]
    exact h.get (by rw [List.getElem?_append_left hl]; exact hi)⟩
theorem ArgR.src {w : World} {sp : Option Addr} {n cap : Nat} {L : List (Int × Int)} (h : ArgR w (.slice sp n cap) L) : n = 0 ∨ ∃ ad, sp = some ad ∧ ∀ j v, (cellsR L)[j]? = some v → w.cell? (ad.add j) = some v := by
  cases sp with
  | none =>
    rcases h with ⟨_, _, h1, _⟩ | ⟨g, off, cap', h1, _⟩
    · cases h1; exact .inl rfl
    · cases h1
  | some ad => exact .inr ⟨ad, rfl, h.news⟩
theorem made_mark {W : World} {X : Nat} {L : List (Int × Int)} {Z : List Value} (h : W.heap[X]? = some (.cells (cellsR L ++ Z).toArray 39 (0, 0))) (hZ : Z.length = 2) :
    XAt ((W.setCell ⟨X, L.length * 2, none⟩ (.int .i64 (-7))).setCell ⟨X, L.length * 2 + 1, none⟩ (.int .i64 7)) X L := by
  refine (heap_set_in (heap_set_in h _ _) _ _).trans ?_
  obtain ⟨x, y, rfl⟩ : ∃ x y, Z = [x, y] := by
    match Z, hZ with
    | [x, y], _ => exact ⟨x, y, rfl⟩
  congr 2
  apply Array.ext'
  simp only [Array.toList_setIfInBounds]
  rw [cellsR_append, List.set_append_right _ _ (by rw [cellsR_length]; omega), List.set_append_right _ _ (by rw [cellsR_length]; omega), cellsR_length]
  simp [cellsR]
theorem made_cells {W : World} {X : Nat} {L : List (Int × Int)} {Z : List Value} (h : W.heap[X]? = some (.cells (cellsR L ++ Z).toArray 39 (0, 0))) (hZ : Z.length = 2) :
    (∃ u, W.cell? ⟨X, L.length * 2, none⟩ = some u) ∧ (∃ u, W.cell? ⟨X, L.length * 2 + 1, none⟩ = some u) ∧ ∀ o, W.frozen? ⟨X, o, none⟩ = false := by
  obtain ⟨x, y, rfl⟩ : ∃ x y, Z = [x, y] := by
    match Z, hZ with
    | [x, y], _ => exact ⟨x, y, rfl⟩
  refine ⟨⟨x, cell_row h ?_⟩, ⟨y, cell_row h ?_⟩, fun o => frz_row h o⟩
  · simp [← cellsR_length]
  · rw [List.getElem?_toArray, List.getElem?_append_right (by rw [cellsR_length]; omega), cellsR_length]
    simp

theorem make_ranges (n : Nat) (h : n ≤ 8796093022208) (w : World) :
    (Instr.makeSlice 35 (.int .i64 (n : Int)) (.int .i64 (n : Int))).run Tryz.prog w = .ok (.slice (some ⟨w.heap.size, 0, none⟩) n n) (w.alloc (.cells (madeCells #[.int .i64 0, .int .i64 0] (n * 2)) 39)) := by
  obtain ⟨i0, hi, hz0, hz1, hz2⟩ := info_parts size_range
  have := run_make (P := Tryz.prog) w 35 39 i0 (.agg #[.int .i64 0, .int .i64 0]) und_ranges hi hz0 .i64 .i64 (n : Int) (n : Int) (by omega) (by omega) (by rw [hz2]; omega) (by omega)
  rw [hz1] at this
  simpa [Value.cells] using this

end Go.Proofs.YtloeajhmmjdlgaaGreatDoor
