/-
  What came in: lists of ranges with their sizes; what the second form's bound gives.
-/
import Derived.Test.YtfihhliiecdnaabMem6
import Derived.Deep.SlicePairs
import Derived.SizedLaws
import Derived.ChangeMaps5
namespace Go.Proofs.Ytfihhliiecdnaab
open Go Go.ChangeShapes Go.WideShapes Go.ChangeAt Go.RowKit

theorem cells_range : Try.prog.cellsOf 33 = 2 := by kernel_rfl
theorem bytes_range : Try.prog.bytesOf 33 = 16 := by kernel_rfl
set_option maxRecDepth 100000 in
theorem open_ranges {H : Type} {enc : TypeId × Value → H} {W : World} {base : Nat} {v : Value} {d : DataW H} {p : List MemPlace} (hok : Value.okWide Try.prog W .any base 25 v)
    (h : DataW.Trod enc Try.prog W 0 (fun _ => true) true 25 v d p) : ∃ rs : List (Int × Int), ArgR W v rs ∧ Fit rs ∧ (rs.length = 0 ∨ ∃ es sp, d = .slice es sp ∧ es.length = rs.length) := by
  obtain ⟨a', len', cap', rfl⟩ := okWide_slice Try.underlying25 hok
  obtain ⟨fuel, hf⟩ := h
  rcases Deep.open_slice_pairs Try.underlying25 Try.underlying33 cells_range rfl rfl cells_int cells_int hf with ⟨h1, h2⟩ | ⟨a, len, cap, m, n, V0, V1, D0, D1, P0, P1, h1, _, hlc, hcap, hm, h2, hx⟩
  · have h1' : Value.slice a' len' cap' = .slice none 0 0 := by simpa [Value.cells] using h1
    cases h1'
    exact ⟨[], .inl ⟨none, 0, rfl, rfl, fun _ => rfl⟩, fit_nil, .inl rfl⟩
  · have h1' : Value.slice a' len' cap' = .slice (some a) len cap := by simpa [Value.cells] using h1
    cases h1'
    rw [if_pos rfl] at hm
    subst hm
    by_cases hc : m = 0
    · have hl : len' = 0 := by omega
      subst hc hl
      exact ⟨[], .inl ⟨some a, 0, rfl, rfl, fun q => (by cases q)⟩, fit_nil, .inl rfl⟩
    · have hp : ∀ i, i < m → ∃ q : Int × Int, V0 i = .int .i64 q.1 ∧ V1 i = .int .i64 q.2 ∧ (Lit.int .i64 q.1).wf = true ∧ (Lit.int .i64 q.2).wf = true := fun i hi => by
        obtain ⟨_, _, g0, g1⟩ := hx i hi
        obtain ⟨x0, e0, _, w0⟩ := DataW.trod_int Try.underlying3 g0
        obtain ⟨x1, e1, _, w1⟩ := DataW.trod_int Try.underlying3 g1
        exact ⟨(x0, x1), by simpa using e0, by simpa using e1, w0, w1⟩
      obtain ⟨q, hq⟩ := Deep.choose_lt hp
      obtain ⟨b, off, spot⟩ := a
      have c0 := (hx 0 (by omega)).1
      have hs : spot = none := by
        cases spot with
        | none => rfl
        | some k =>
          exfalso
          unfold Addr.add World.cell? at c0
          simp at c0
          split at c0 <;> simp_all
      subst hs
      have hadd : ∀ j, (⟨b, off, none⟩ : Addr).add j = ⟨b, off + j, none⟩ := fun j => by unfold Addr.add; split <;> simp_all
      have hb : b < W.heap.size := by
        rw [hadd] at c0
        rcases Nat.lt_or_ge b W.heap.size with h | h
        · exact h
        · have : W.heap[b]? = none := Array.getElem?_eq_none h
          simp [World.cell?, this] at c0
      refine ⟨(List.range len').map q, .inr ⟨b, off, m, by simp, hb, by simpa using hlc, hcap, fun i r hi' => ?_⟩, fun r hr => ?_, .inr ⟨_, _, (Prod.mk.inj h2).1, by simp⟩⟩
      · have hil : i < len' := by have := (List.getElem?_eq_some_iff.1 hi').1; simpa using this
        have hqi : q i = r := by simpa [hil] using hi'
        obtain ⟨k0, k1, _, _⟩ := hx i (by omega)
        rw [hadd, Nat.mul_comm] at k0
        rw [hadd, Nat.mul_comm, ← Nat.add_assoc] at k1
        obtain ⟨r0, r1, _, _⟩ := hq i (by omega)
        rw [hqi] at r0 r1
        exact ⟨by rw [k0, r0], by rw [k1, r1]⟩
      · obtain ⟨i, hi, rfl⟩ := List.mem_map.1 hr
        have hil : i < len' := List.mem_range.1 hi
        obtain ⟨_, _, w0, w1⟩ := hq i (by omega)
        exact ⟨wf_range w0, wf_range w1⟩

/-- What the bound gives. -/
theorem bulk_one {H : Type} (d : DataW H) : 1 ≤ Rows.uptoBulk d := by
  cases d with
  | lit l => cases l <;> simp [Rows.uptoBulk]
  | nil => simp [Rows.uptoBulk]
  | ptr d => simp [Rows.uptoBulk]
  | slice elems spare => simp [Rows.uptoBulk]
  | agg parts => simp [Rows.uptoBulk]
  | iface t d => simp [Rows.uptoBulk]
  | map entries => simp [Rows.uptoBulk]
  | held h => simp [Rows.uptoBulk]
theorem bulk_part {H : Type} {d : DataW H} {l : List (DataW H)} (h : d ∈ l) : Rows.uptoBulk d ≤ Rows.uptoBulkAll l := by
  induction l with
  | nil => cases h
  | cons x r ih =>
    simp only [Rows.uptoBulkAll]
    cases List.mem_cons.1 h with
    | inl e => subst e; omega
    | inr e => have := ih e; omega
theorem bulk_len {H : Type} (l : List (DataW H)) : l.length ≤ Rows.uptoBulkAll l := by
  induction l with
  | nil => simp [Rows.uptoBulkAll]
  | cons x r ih => have := bulk_one x; simp only [Rows.uptoBulkAll, List.length_cons]; omega
theorem bulk_of {H : Type} {d : DataW H} {l : List (DataW H)} (hk : Rows.uptoSmall H l = true) (h : d ∈ l) : Rows.uptoBulk d ≤ 1048576 := Nat.le_trans (bulk_part h) (of_decide_eq_true hk)
theorem bulk_ranges {H : Type} {d : DataW H} {rs : List (Int × Int)} {l : List (DataW H)} (hk : Rows.uptoSmall H l = true) (h : d ∈ l) (hz : rs.length = 0 ∨ ∃ es sp, d = .slice es sp ∧ es.length = rs.length) : rs.length ≤ 1048576 := by
  have := bulk_of hk h
  rcases hz with e | ⟨es, sp, rfl, he⟩
  · omega
  · have h1 := bulk_len es
    simp only [Rows.uptoBulk] at this
    omega
end Go.Proofs.Ytfihhliiecdnaab
