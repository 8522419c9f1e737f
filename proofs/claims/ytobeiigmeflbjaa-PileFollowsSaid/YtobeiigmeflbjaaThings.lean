/-
  A list of things, as it comes in.
-/
import Derived.Test.YtobeiigmeflbjaaRnd4
import Derived.Test.YtobeiigmeflbjaaFrame
import Derived.Deep.Slices
import Derived.ChangeSame
namespace Go.Proofs.Ytobeiigmeflbjaa
open Go Go.ChangeShapes Go.WideShapes Go.ChangeAt Go.RowKit

theorem cells_thing : Try.prog.cellsOf 28 = 2 := by kernel_rfl

theorem cells_str : Try.prog.cellsOf 9 = 1 := by kernel_rfl
set_option maxRecDepth 100000 in
theorem open_things {H : Type} {enc : TypeId × Value → H} {W : World} {base : Nat} {v : Value} {d : DataW H} {p : List MemPlace} (hok : Value.okWide Try.prog W .any base 29 v)
    (h : DataW.Trod enc Try.prog W 0 (fun _ => true) true 29 v d p) : ∃ ls : List Th, ArgT W v ls := by
  obtain ⟨a', len', cap', rfl⟩ := okWide_slice Try.underlying29 hok
  obtain ⟨fuel, hf⟩ := h
  rcases Deep.open_slice Try.underlying29 hf with ⟨h1, h2⟩ | ⟨a, len, cap, m, n, D, Pl, h1, _, hlc, hcap, hm, h2, hx⟩
  · have h1' : Value.slice a' len' cap' = .slice none 0 0 := by simpa [Value.cells] using h1
    cases h1'
    exact ⟨[], .inl ⟨none, 0, rfl, rfl⟩⟩
  · have h1' : Value.slice a' len' cap' = .slice (some a) len cap := by simpa [Value.cells] using h1
    cases h1'
    rw [if_pos rfl] at hm
    subst hm
    by_cases hc : m = 0
    · have hl : len' = 0 := by omega
      subst hc hl
      exact ⟨[], .inl ⟨some a, 0, rfl, rfl⟩⟩
    · have each : ∀ i, i < m → ∃ q : Th, W.cell? (a.add (i * 2)) = some (.int .i64 q.1) ∧ W.cell? (a.add (i * 2 + 1)) = some (.string q.2) := by
        intro i hi
        obtain ⟨cs', g1, g2⟩ := hx i hi
        rw [cells_thing] at g1
        obtain ⟨_, hlen, hcell⟩ := World.cells?_some g1
        obtain ⟨xs, k, hk, hxy, _, hxl, hf⟩ := DataW.trod_struct Try.underlying28 g2
        match xs, hxl, cs', hlen with
        | [y0, y1], _, [v0, v1], _ =>
          have F0 := hf 0 _ rfl
          have F1 := hf 1 _ rfl
          simp [cells_int, cells_str] at F0 F1
          obtain ⟨x0, e0, _, w0⟩ := DataW.trod_int Try.underlying3 F0
          obtain ⟨x1, e1, _⟩ := DataW.trod_string Try.underlying9 F1
          cases e0; cases e1
          have c0 := hcell 0 (by omega)
          have c1 := hcell 1 (by omega)
          rw [Deep.add_add] at c0 c1
          exact ⟨(x0, _), c0, c1⟩
      have : Inhabited Th := ⟨(0, ⟨#[]⟩)⟩
      obtain ⟨q, hq⟩ := Deep.choose_lt each
      obtain ⟨b, off, spot⟩ := a
      have c0 := (hq 0 (by omega)).1
      have hs : spot = none := by
        cases spot with
        | none => rfl
        | some k =>
          exfalso
          unfold Addr.add World.cell? at c0
          simp at c0
          split at c0 <;> simp_all
      subst hs
      have hadd : ∀ j, (⟨b, off, none⟩ : Addr).add j = ⟨b, off + j, none⟩ := fun j => by unfold Addr.add; split <;> simp_all
      have hb : b < W.heap.size := by
        rw [hadd] at c0
        rcases Nat.lt_or_ge b W.heap.size with h | h
        · exact h
        · have : W.heap[b]? = none := Array.getElem?_eq_none h
          simp [World.cell?, this] at c0
      refine ⟨(List.range len').map q, .inr ⟨b, off, m, by simp, hb, by simpa using hlc, hcap, fun i x hi => ?_⟩⟩
      have hil : i < len' := by have := (List.getElem?_eq_some_iff.1 hi).1; simpa using this
      have hqi : q i = x := by simpa [hil] using hi
      have hh := hq i (by omega)
      rw [hqi] at hh
      simp only [hadd] at hh
      simp only [← Nat.add_assoc] at hh
      exact hh
end Go.Proofs.Ytobeiigmeflbjaa
