/-
  A script, as it comes in.
-/
import Derived.Test.YtobeiigmeflbjaaLawPPlay
import Derived.Test.YtobeiigmeflbjaaFrame
import Derived.Deep.Slices
import Derived.ChangeSame
namespace Go.Proofs.Ytobeiigmeflbjaa
open Go Go.ChangeShapes Go.WideShapes Go.ChangeAt Go.RowKit

theorem cells_step : Try.prog.cellsOf 36 = 6 := by kernel_rfl

theorem cells_str : Try.prog.cellsOf 9 = 1 := by kernel_rfl
set_option maxRecDepth 100000 in
theorem open_steps {H : Type} {enc : TypeId × Value → H} {W : World} {base : Nat} {v : Value} {d : DataW H} {p : List MemPlace} (hok : Value.okWide Try.prog W .any base 22 v)
    (h : DataW.Trod enc Try.prog W 0 (fun _ => true) true 22 v d p) : ∃ rs : List Sp, ArgP W v rs := by
  obtain ⟨a', len', cap', rfl⟩ := okWide_slice Try.underlying22 hok
  obtain ⟨fuel, hf⟩ := h
  rcases Deep.open_slice Try.underlying22 hf with ⟨h1, h2⟩ | ⟨a, len, cap, m, n, D, Pl, h1, _, hlc, hcap, hm, h2, hx⟩
  · have h1' : Value.slice a' len' cap' = .slice none 0 0 := by simpa [Value.cells] using h1
    cases h1'
    exact ⟨[], .inl ⟨none, 0, rfl, rfl⟩⟩
  · have h1' : Value.slice a' len' cap' = .slice (some a) len cap := by simpa [Value.cells] using h1
    cases h1'
    rw [if_pos rfl] at hm
    subst hm
    by_cases hc : m = 0
    · have hl : len' = 0 := by omega
      subst hc hl
      exact ⟨[], .inl ⟨some a, 0, rfl, rfl⟩⟩
    · have each : ∀ i, i < m → ∃ q : Sp, ((Lit.int .i64 q.lv).wf = true ∧ (Lit.int .i64 q.tn).wf = true) ∧ W.cell? (a.add (i * 6)) = some (.int .i64 q.kind) ∧ W.cell? (a.add (i * 6 + 1)) = some (.int .i64 q.n) ∧ W.cell? (a.add (i * 6 + 2)) = some (.int .i64 q.lv) ∧ W.cell? (a.add (i * 6 + 3)) = some (.string q.s) ∧ W.cell? (a.add (i * 6 + 4)) = some (.int .i64 q.tn) ∧ W.cell? (a.add (i * 6 + 5)) = some (.int .i64 q.ii) := by
        intro i hi
        obtain ⟨cs', g1, g2⟩ := hx i hi
        rw [cells_step] at g1
        obtain ⟨_, hlen, hcell⟩ := World.cells?_some g1
        obtain ⟨xs, k, hk, hxy, _, hxl, hf⟩ := DataW.trod_struct Try.underlying36 g2
        match xs, hxl, cs', hlen with
        | [y0, y1, y2, y3, y4, y5], _, [v0, v1, v2, v3, v4, v5], _ =>
          have F0 := hf 0 _ rfl
          have F1 := hf 1 _ rfl
          have F2 := hf 2 _ rfl
          have F3 := hf 3 _ rfl
          have F4 := hf 4 _ rfl
          have F5 := hf 5 _ rfl
          simp [cells_int, cells_str] at F0 F1 F2 F3 F4 F5
          obtain ⟨x0, e0, _, w0⟩ := DataW.trod_int Try.underlying3 F0
          obtain ⟨x1, e1, _, w1⟩ := DataW.trod_int Try.underlying3 F1
          obtain ⟨x2, e2, _, w2⟩ := DataW.trod_int Try.underlying3 F2
          obtain ⟨x3, e3, _⟩ := DataW.trod_string Try.underlying9 F3
          obtain ⟨x4, e4, _, w4⟩ := DataW.trod_int Try.underlying3 F4
          obtain ⟨x5, e5, _, w5⟩ := DataW.trod_int Try.underlying3 F5
          cases e0; cases e1; cases e2; cases e3; cases e4; cases e5
          have c0 := hcell 0 (by omega)
          have c1 := hcell 1 (by omega)
          have c2 := hcell 2 (by omega)
          have c3 := hcell 3 (by omega)
          have c4 := hcell 4 (by omega)
          have c5 := hcell 5 (by omega)
          rw [Deep.add_add] at c0 c1 c2 c3 c4 c5
          exact ⟨⟨x0, x1, x2, x3, x4, x5⟩, ⟨w2, w4⟩, c0, c1, c2, c3, c4, c5⟩
      have : Inhabited Sp := ⟨⟨0, 0, 0, ⟨#[]⟩, 0, 0⟩⟩
      obtain ⟨q, hq⟩ := Deep.choose_lt each
      obtain ⟨b, off, spot⟩ := a
      have c0 := (hq 0 (by omega)).2.1
      have hs : spot = none := by
        cases spot with
        | none => rfl
        | some k =>
          exfalso
          unfold Addr.add World.cell? at c0
          simp at c0
          split at c0 <;> simp_all
      subst hs
      have hadd : ∀ j, (⟨b, off, none⟩ : Addr).add j = ⟨b, off + j, none⟩ := fun j => by unfold Addr.add; split <;> simp_all
      have hb : b < W.heap.size := by
        rw [hadd] at c0
        rcases Nat.lt_or_ge b W.heap.size with h | h
        · exact h
        · have : W.heap[b]? = none := Array.getElem?_eq_none h
          simp [World.cell?, this] at c0
      refine ⟨(List.range len').map q, .inr ⟨b, off, m, by simp, hb, by simpa using hlc, hcap, fun i x hi => ?_⟩⟩
      have hil : i < len' := by have := (List.getElem?_eq_some_iff.1 hi).1; simpa using this
      have hqi : q i = x := by simpa [hil] using hi
      have hh := hq i (by omega)
      rw [hqi] at hh
      simp only [hadd] at hh
      simp only [← Nat.add_assoc] at hh
      exact hh
end Go.Proofs.Ytobeiigmeflbjaa
