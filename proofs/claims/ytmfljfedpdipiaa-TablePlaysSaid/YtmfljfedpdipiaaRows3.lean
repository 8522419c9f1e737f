/-
  Rows of three numbers, as they come in.
-/
import Derived.Test.YtmfljfedpdipiaaFrame
import Derived.Deep.Slices
import Derived.ChangeSame
namespace Go.Proofs.Ytmfljfedpdipiaa
open Go Go.ChangeShapes Go.WideShapes Go.ChangeAt Go.RowKit

/-- Rows of three numbers that came in. -/
def ArgA (W : World) (v : Value) (ls : List (Int × Int × Int)) : Prop :=
  (∃ p cap, v = .slice p 0 cap ∧ ls = []) ∨ ∃ g off cap, v = .slice (some ⟨g, off, none⟩) ls.length cap ∧ g < W.heap.size ∧ ls.length ≤ cap ∧ cap ≤ maxLen ∧ ∀ (i : Nat) (x : Int × Int × Int), ls[i]? = some x →
    ((Lit.int .i64 x.1).wf = true ∧ (Lit.int .i64 x.2.1).wf = true ∧ (Lit.int .i64 x.2.2).wf = true) ∧ W.cell? ⟨g, off + i * 3, none⟩ = some (.int .i64 x.1) ∧ W.cell? ⟨g, off + i * 3 + 1, none⟩ = some (.int .i64 x.2.1) ∧ W.cell? ⟨g, off + i * 3 + 2, none⟩ = some (.int .i64 x.2.2)

theorem cells_row3 : Try.prog.cellsOf 50 = 3 := by kernel_rfl

set_option maxRecDepth 100000 in
theorem open_rows3 {H : Type} {enc : TypeId × Value → H} {W : World} {base : Nat} {v : Value} {d : DataW H} {p : List MemPlace} (hok : Value.okWide Try.prog W .any base 48 v)
    (h : DataW.Trod enc Try.prog W 0 (fun _ => true) true 48 v d p) : ∃ ls : List (Int × Int × Int), ArgA W v ls := by
  obtain ⟨a', len', cap', rfl⟩ := okWide_slice Try.underlying48 hok
  obtain ⟨fuel, hf⟩ := h
  rcases Deep.open_slice Try.underlying48 hf with ⟨h1, h2⟩ | ⟨a, len, cap, m, n, D, Pl, h1, _, hlc, hcap, hm, h2, hx⟩
  · have h1' : Value.slice a' len' cap' = .slice none 0 0 := by simpa [Value.cells] using h1
    cases h1'
    exact ⟨[], .inl ⟨none, 0, rfl, rfl⟩⟩
  · have h1' : Value.slice a' len' cap' = .slice (some a) len cap := by simpa [Value.cells] using h1
    cases h1'
    rw [if_pos rfl] at hm
    subst hm
    by_cases hc : m = 0
    · have hl : len' = 0 := by omega
      subst hc hl
      exact ⟨[], .inl ⟨some a, 0, rfl, rfl⟩⟩
    · have each : ∀ i, i < m → ∃ q : Int × Int × Int, ((Lit.int .i64 q.1).wf = true ∧ (Lit.int .i64 q.2.1).wf = true ∧ (Lit.int .i64 q.2.2).wf = true) ∧ W.cell? (a.add (i * 3)) = some (.int .i64 q.1) ∧ W.cell? (a.add (i * 3 + 1)) = some (.int .i64 q.2.1) ∧ W.cell? (a.add (i * 3 + 2)) = some (.int .i64 q.2.2) := by
        intro i hi
        obtain ⟨cs', g1, g2⟩ := hx i hi
        rw [cells_row3] at g1
        obtain ⟨_, hlen, hcell⟩ := World.cells?_some g1
        obtain ⟨xs, k, hk, hxy, _, hxl, hf⟩ := DataW.trod_array Try.underlying50 g2
        match xs, hxl, cs', hlen with
        | [y0, y1, y2], _, [v0, v1, v2], _ =>
          have F0 := hf 0 (by decide)
          have F1 := hf 1 (by decide)
          have F2 := hf 2 (by decide)
          simp [cells_int] at F0 F1 F2
          obtain ⟨x0, e0, _, w0⟩ := DataW.trod_int Try.underlying3 F0
          obtain ⟨x1, e1, _, w1⟩ := DataW.trod_int Try.underlying3 F1
          obtain ⟨x2, e2, _, w2⟩ := DataW.trod_int Try.underlying3 F2
          cases e0; cases e1; cases e2
          have c0 := hcell 0 (by omega)
          have c1 := hcell 1 (by omega)
          have c2 := hcell 2 (by omega)
          rw [Deep.add_add] at c0 c1 c2
          exact ⟨(x0, x1, x2), ⟨w0, w1, w2⟩, c0, c1, c2⟩
      obtain ⟨q, hq⟩ := Deep.choose_lt each
      obtain ⟨b, off, spot⟩ := a
      have c0 := (hq 0 (by omega)).2.1
      have hs : spot = none := by
        cases spot with
        | none => rfl
        | some k =>
          exfalso
          unfold Addr.add World.cell? at c0
          simp at c0
          split at c0 <;> simp_all
      subst hs
      have hadd : ∀ j, (⟨b, off, none⟩ : Addr).add j = ⟨b, off + j, none⟩ := fun j => by unfold Addr.add; split <;> simp_all
      have hb : b < W.heap.size := by
        rw [hadd] at c0
        rcases Nat.lt_or_ge b W.heap.size with h | h
        · exact h
        · have : W.heap[b]? = none := Array.getElem?_eq_none h
          simp [World.cell?, this] at c0
      refine ⟨(List.range len').map q, .inr ⟨b, off, m, by simp, hb, by simpa using hlc, hcap, fun i x hi => ?_⟩⟩
      have hil : i < len' := by have := (List.getElem?_eq_some_iff.1 hi).1; simpa using this
      have hqi : q i = x := by simpa [hil] using hi
      have hh := hq i (by omega)
      rw [hqi] at hh
      simp only [hadd] at hh
      simp only [← Nat.add_assoc] at hh
      exact hh
end Go.Proofs.Ytmfljfedpdipiaa
