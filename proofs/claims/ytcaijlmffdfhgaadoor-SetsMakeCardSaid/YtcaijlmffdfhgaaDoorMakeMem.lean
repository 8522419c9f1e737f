/-
  The copy of a list of ranges: what copy does with elements of two cells, and the row behind it.
-/
import Derived.Test.YtcaijlmffdfhgaaDoorSame
import Derived.Laws.CopyOwn
import Derived.Laws.MakeOwn
namespace Go.Proofs.YtcaijlmffdfhgaaDoor
open Go Go.RowKit

theorem run_copy_two {P : Program} (w : World) (dT sT ty elem : TypeId) (g dLen dCap : Nat) (sp : Option Addr) (sLen sCap : Nat) (cur : Array Value) (t : TypeId) (cs : List Value)
    (hu : P.underlying dT = some (.slice elem)) (hs : (P.info? elem).map (·.size) = some 2)
    (hg : w.heap[g]? = some (.cells cur t (0, 0))) (hn : cs.length = sLen * 2) (hle : sLen ≤ dLen)
    (hsrc : sLen = 0 ∨ ∃ ad, sp = some ad ∧ ∀ j v, cs[j]? = some v → w.cell? (ad.add j) = some v) (hfit : cs.length ≤ cur.size) (h1 : ∀ v ∈ cs, v.oneCell' = true) :
    (Builtin.copy_ #[dT, sT] ty #[.slice (some ⟨g, 0, none⟩) dLen dCap, .slice sp sLen sCap]).run P w =
      .ok (goInt sLen) (w.setRow g (cs ++ cur.toList.drop cs.length).toArray) := by
  have hmin : sLen.min dLen = sLen := Nat.min_eq_left hle
  have hst := run_storeCells_at P g 0 t cs 0 cur w hg (by simpa using hfit) h1
  simp only [Nat.zero_add, Nat.add_zero, List.take_zero, List.nil_append] at hst
  cases hq : P.info? elem with
  | none => simp [hq] at hs
  | some i =>
    have hi : i.size = 2 := by simpa [hq] using hs
    rcases hsrc with h0 | ⟨ad, rfl, hsrc⟩
    · subst h0
      obtain rfl : cs = [] := List.eq_nil_of_length_eq_zero (by simpa using hn)
      have hl : ∀ (x : Addr), (loadCells x 0).run P w = .ok #[] w := fun x => by simpa using run_loadCells_list (P := P) w x [] (by simp)
      have hst' : (storeCells ⟨g, 0, none⟩ [] 0).run P w = .ok () (w.setRow g (cur.toList.drop 0).toArray) := hst
      cases sp <;> simp [Builtin.copy_, run_underlying hu, Builtin.lenOf, Builtin.firstCells, sizeOf, typeInfo, hq, hl, hst']
    · have hl := run_loadCells_list (P := P) w ad cs hsrc
      rw [hn] at hl
      simp [Builtin.copy_, run_underlying hu, Builtin.lenOf, Builtin.firstCells, sizeOf, typeInfo, hq, hi, hmin, hl, hst]

theorem wpList_copy_two {P : Program} {w : World} {ops : Array Oper} {rest : List Oper} {o : Oper} {a : Act} {Q : Exit → Act → World → Prop} (hgd : o.guard = none) (d s : Operand) (dT sT : TypeId)
    (ho : o.op = .call { callee := .builtin .copy, args := #[d, s], argTypes := #[dT, sT] }) (elem : TypeId) (hu : P.underlying dT = some (.slice elem)) (hsz : (P.info? elem).map (·.size) = some 2)
    (g dLen dCap : Nat) (sp : Option Addr) (sLen sCap : Nat) (hd : a.eval d = .slice (some ⟨g, 0, none⟩) dLen dCap) (hs : a.eval s = .slice sp sLen sCap)
    (cur : Array Value) (t : TypeId) (hg : w.heap[g]? = some (.cells cur t (0, 0))) (cs : List Value) (hn : cs.length = sLen * 2) (hle : sLen ≤ dLen)
    (hsrc : sLen = 0 ∨ ∃ ad, sp = some ad ∧ ∀ j v, cs[j]? = some v → w.cell? (ad.add j) = some v) (hfit : cs.length ≤ cur.size) (h1 : ∀ v ∈ cs, v.oneCell' = true)
    (h : ∀ w', Hid (w'.heap[g]? = some (.cells (cs ++ cur.toList.drop cs.length).toArray t (0, 0))) → Below g w w' → wpList P ops Q rest (a.put o.dst (goInt sLen)) w') : wpList P ops Q (o :: rest) a w := by
  refine wpList_plain hgd fun K hK => ?_
  have hrun := run_copy_two (P := P) w dT sT o.type elem g dLen dCap sp sLen sCap cur t cs hu hsz hg hn hle hsrc hfit h1
  unfold Oper.wp
  simp [execOp, ho, resolve, invoke, builtin, hd, hs, hrun, Result.andThen]
  exact hK _ _ (h _ (setRow_heap w g _ _ t _ hg) (below_setRow (Below.refl _ _) (Nat.le_refl _) _))

theorem flat_inv (rs : List (Int × Int)) (j : Nat) (v : Value) (h : (flat rs)[j]? = some v) :
    ∃ i lo hi, rs[i]? = some (lo, hi) ∧ ((j = i * 2 ∧ v = .int .i64 lo) ∨ (j = i * 2 + 1 ∧ v = .int .i64 hi)) := by
  have hj : j < rs.length * 2 := by have := (List.getElem?_eq_some_iff.1 h).1; rwa [flat_length] at this
  have hi : j / 2 < rs.length := by omega
  obtain ⟨p, hp⟩ : ∃ p, rs[j / 2]? = some p := ⟨_, List.getElem?_eq_getElem hi⟩
  obtain ⟨lo, hi'⟩ := p
  obtain ⟨f1, f2⟩ := flat_get rs (j / 2) lo hi' hp
  by_cases he : j % 2 = 0
  · have e : j = j / 2 * 2 := by omega
    rw [← e, h] at f1
    exact ⟨j / 2, lo, hi', hp, .inl ⟨e, by simpa using f1⟩⟩
  · have e : j = j / 2 * 2 + 1 := by omega
    rw [← e, h] at f2
    exact ⟨j / 2, lo, hi', hp, .inr ⟨e, by simpa using f2⟩⟩
theorem flat_one_cell (rs : List (Int × Int)) : ∀ v ∈ flat rs, v.oneCell' = true := fun v hv => by
  obtain ⟨j, hj⟩ := List.getElem?_of_mem hv
  obtain ⟨i, lo, hi, _, h | h⟩ := flat_inv rs j v hj
  · rw [h.2]; rfl
  · rw [h.2]; rfl

/-- The list lies where the slice points: what copy reads. -/
theorem RowAt.src {w : World} {sp : Option Addr} {n cap : Nat} {rs : List (Int × Int)} (h : RowAt w (.slice sp n cap) rs) :
    n = 0 ∨ ∃ ad, sp = some ad ∧ ∀ j v, (flat rs)[j]? = some v → w.cell? (ad.add j) = some v := by
  rcases h with ⟨_, _, h1, h2⟩ | ⟨g, off, cap', h1, _, _, _, hc⟩
  · cases h1; exact .inl rfl
  · cases h1
    refine .inr ⟨_, rfl, fun j v hv => ?_⟩
    have hadd : (⟨g, off, none⟩ : Addr).add j = ⟨g, off + j, none⟩ := by unfold Addr.add; split <;> simp_all
    rw [hadd]
    obtain ⟨i, lo, hi, hi', h | h⟩ := flat_inv rs j v hv
    · rw [h.1, h.2]; exact (hc i lo hi hi').1
    · rw [h.1, h.2]; exact (hc i lo hi hi').2

/-- The copy with the mark behind it. -/
def XAt (W : World) (X : Nat) (rs : List (Int × Int)) : Prop := W.heap[X]? = some (.cells (flat (rs ++ [(-7, 7)])).toArray 48 (0, 0))
theorem XAt.lt {W : World} {X : Nat} {rs : List (Int × Int)} (h : XAt W X rs) : X < W.heap.size := (Array.getElem?_eq_some_iff.1 h).1
theorem XAt.below {W W' : World} {X n₀ : Nat} {rs : List (Int × Int)} (h : XAt W X rs) (hb : Below n₀ W W') (hX : X < n₀) : XAt W' X rs := (hb.block X hX).trans h
theorem XAt.alloc {W : World} {X : Nat} {rs : List (Int × Int)} (h : XAt W X rs) (o : Obj) : XAt (W.alloc o) X rs := (Below.heap_alloc W o X h.lt).trans h
theorem XAt.get {W : World} {X : Nat} {rs : List (Int × Int)} (h : XAt W X rs) (i : Nat) (lo hi : Int) (hi' : (rs ++ [(-7, 7)])[i]? = some (lo, hi)) :
    W.cell? ⟨X, i * 2, none⟩ = some (.int .i64 lo) ∧ W.cell? ⟨X, i * 2 + 1, none⟩ = some (.int .i64 hi) := by
  obtain ⟨f1, f2⟩ := flat_get _ i lo hi hi'
  exact ⟨by simp [World.cell?, show W.heap[X]? = _ from h, f1], by simp [World.cell?, show W.heap[X]? = _ from h, f2]⟩
theorem XAt.mark {W : World} {X : Nat} {rs : List (Int × Int)} (h : XAt W X rs) : W.cell? ⟨X, rs.length * 2, none⟩ = some (.int .i64 (-7)) ∧ W.cell? ⟨X, rs.length * 2 + 1, none⟩ = some (.int .i64 7) :=
  h.get rs.length _ _ (by simp)
theorem XAt.row {W : World} {X : Nat} {rs : List (Int × Int)} (h : XAt W X rs) (hm : rs.length + 1 ≤ maxLen) : RowAt W (.slice (some ⟨X, 0, none⟩) rs.length (rs.length + 1)) rs :=
  .inr ⟨X, 0, rs.length + 1, rfl, h.lt, by omega, hm, fun i lo hi hi' => by
    have hl : i < rs.length := (List.getElem?_eq_some_iff.1 hi').1
    rw [Nat.zero_add]
    exact h.get i lo hi (by rw [List.getElem?_append_left hl]; exact hi')⟩

/-- The mark is written behind the copy. -/
theorem XAt.made {W : World} {X : Nat} {rs : List (Int × Int)} {L : List Value} (h : W.heap[X]? = some (.cells (flat rs ++ L).toArray 48 (0, 0))) (hL : L.length = 2) :
    XAt ((W.setCell ⟨X, rs.length * 2, none⟩ (.int .i64 (-7))).setCell ⟨X, rs.length * 2 + 1, none⟩ (.int .i64 7)) X rs := by
  refine (heap_set_in (heap_set_in h _ _) _ _).trans ?_
  obtain ⟨x, y, rfl⟩ : ∃ x y, L = [x, y] := by
    match L, hL with
    | [x, y], _ => exact ⟨x, y, rfl⟩
  congr 2
  apply Array.ext'
  simp only [Array.toList_setIfInBounds]
  rw [flat_append, flat_one, List.set_append_right _ _ (by rw [flat_length]; omega), List.set_append_right _ _ (by rw [flat_length]; omega), flat_length]
  simp
theorem made_cell {W : World} {X : Nat} {rs : List (Int × Int)} {L : List Value} (h : W.heap[X]? = some (.cells (flat rs ++ L).toArray 48 (0, 0))) (hL : L.length = 2) :
    (∃ u, W.cell? ⟨X, rs.length * 2, none⟩ = some u) ∧ (∃ u, W.cell? ⟨X, rs.length * 2 + 1, none⟩ = some u) ∧ ∀ o, W.frozen? ⟨X, o, none⟩ = false := by
  obtain ⟨x, y, rfl⟩ : ∃ x y, L = [x, y] := by
    match L, hL with
    | [x, y], _ => exact ⟨x, y, rfl⟩
  refine ⟨⟨x, ?_⟩, ⟨y, ?_⟩, fun o => by simp [World.frozen?, h]⟩
  · simp [World.cell?, h, flat_length]
  · simp [World.cell?, h, flat_length]

theorem size_range : (Tryd.prog.info? 48).map (·.size) = some 2 := by kernel_rfl
theorem und_ranges : Tryd.prog.underlying 29 = some (.slice 48) := by kernel_rfl
theorem make_ranges (n : Nat) (h : n * 16 ≤ 281474976710656) (w : World) :
    (Instr.makeSlice 29 (.int .i64 (n : Int)) (.int .i64 (n : Int))).run Tryd.prog w = .ok (.slice (some ⟨w.heap.size, 0, none⟩) n n) (w.alloc (.cells (madeCells #[.int .i64 0, .int .i64 0] (n * 2)) 48)) := by
  obtain ⟨i0, hi, hz0, hz1, hz2⟩ := info_parts info_range
  have := run_make (P := Tryd.prog) w 29 48 i0 (.agg #[.int .i64 0, .int .i64 0]) und_ranges hi hz0 .i64 .i64 (n : Int) (n : Int) (by omega) (by omega) (by rw [hz2]; omega) (by omega)
  rw [hz1] at this
  simpa [Value.cells] using this
end Go.Proofs.YtcaijlmffdfhgaaDoor
