/-
  What came in: lists of numbers with their sizes; what the second form's bound gives.
-/
import Derived.Test.YtihmnibopeljaaaDoorLaidG
import Derived.SizedLaws
namespace Go.Proofs.YtihmnibopeljaaaDoor
open Go Go.ChangeShapes Go.WideShapes Go.ChangeAt Go.RowKit

theorem bytes_int : Tryd.prog.bytesOf 3 = 8 := by kernel_rfl
set_option maxRecDepth 100000 in
theorem open_intsN {H : Type} {enc : TypeId × Value → H} {W : World} {base : Nat} {v : Value} {d : DataW H} {p : List MemPlace} (hok : Value.okWide Tryd.prog W .any base 22 v)
    (h : DataW.Trod enc Tryd.prog W 0 (fun _ => true) true 22 v d p) : ∃ zs : List Int, ArgI W v zs ∧ (zs.length = 0 ∨ ∃ es sp, d = .slice es sp ∧ es.length = zs.length) ∧ ∀ x ∈ zs, (Lit.int .i64 x).wf = true := by
  obtain ⟨a', len', cap', rfl⟩ := okWide_slice Tryd.underlying22 hok
  obtain ⟨fuel, hf⟩ := h
  rcases open_ints Tryd.underlying22 Tryd.underlying3 cells_int hf with ⟨h1, h2⟩ | ⟨a, len, cap, zs, h1, _, hlc, hcap, hm, h2, hx, hwf⟩
  · have h1' : Value.slice a' len' cap' = .slice none 0 0 := by simpa [Value.cells] using h1
    cases h1'
    exact ⟨[], .inl ⟨none, 0, rfl, rfl⟩, .inl rfl, fun x hx => by cases hx⟩
  · have h1' : Value.slice a' len' cap' = .slice (some a) len cap := by simpa [Value.cells] using h1
    cases h1'
    rw [if_pos rfl] at hm
    by_cases hl : len' = 0
    · subst hl
      exact ⟨[], .inl ⟨some a, _, rfl, rfl⟩, .inl rfl, fun x hx => by cases hx⟩
    · obtain ⟨b, off, spot⟩ := a
      have c0 := hx 0 (by omega)
      have hs : spot = none := by
        cases spot with
        | none => rfl
        | some k =>
          exfalso
          unfold Addr.add World.cell? at c0
          simp at c0
          split at c0 <;> simp_all
      subst hs
      have hadd : ∀ j, (⟨b, off, none⟩ : Addr).add j = ⟨b, off + j, none⟩ := fun j => by unfold Addr.add; split <;> simp_all
      have hb : b < W.heap.size := by
        rw [hadd] at c0
        exact cell_block c0
      have hlen : (zs.take len').length = len' := by simp; omega
      refine ⟨zs.take len', .inr ⟨b, off, cap', by rw [hlen], hb, by omega, hcap, fun i x hi => ?_⟩, .inr ⟨_, _, (Prod.mk.inj h2).1, ?_⟩, fun x hx => hwf x (List.mem_of_mem_take hx)⟩
      · have hil : i < len' := by have := (List.getElem?_eq_some_iff.1 hi).1; omega
        rw [List.getElem?_take_of_lt hil] at hi
        have hxi := hx i (by omega)
        rw [hadd] at hxi
        rw [hxi]
        simp [List.getD, hi]
      · simp [lits]

/-- What the bound gives. -/
theorem bulk_one {H : Type} (d : DataW H) : 1 ≤ Rows.uptoBulk d := by
  cases d with
  | lit l => cases l <;> simp [Rows.uptoBulk]
  | nil => simp [Rows.uptoBulk]
  | ptr d => simp [Rows.uptoBulk]
  | slice elems spare => simp [Rows.uptoBulk]
  | agg parts => simp [Rows.uptoBulk]
  | iface t d => simp [Rows.uptoBulk]
  | map entries => simp [Rows.uptoBulk]
  | held h => simp [Rows.uptoBulk]
theorem bulk_part {H : Type} {d : DataW H} {l : List (DataW H)} (h : d ∈ l) : Rows.uptoBulk d ≤ Rows.uptoBulkAll l := by
  induction l with
  | nil => cases h
  | cons x r ih =>
    simp only [Rows.uptoBulkAll]
    cases List.mem_cons.1 h with
    | inl e => subst e; omega
    | inr e => have := ih e; omega
theorem bulk_len {H : Type} (l : List (DataW H)) : l.length ≤ Rows.uptoBulkAll l := by
  induction l with
  | nil => simp [Rows.uptoBulkAll]
  | cons x r ih => have := bulk_one x; simp only [Rows.uptoBulkAll, List.length_cons]; omega
theorem bulk_of {H : Type} {d : DataW H} {l : List (DataW H)} (hk : Rows.uptoSmall H l = true) (h : d ∈ l) : Rows.uptoBulk d ≤ 1048576 := Nat.le_trans (bulk_part h) (of_decide_eq_true hk)
theorem bulk_text {H : Type} {s : ByteArray} {l : List (DataW H)} (hk : Rows.uptoSmall H l = true) (h : DataW.lit (.string s.data.toList) ∈ l) : s.size ≤ 1048576 := by
  have := bulk_of hk h
  simp only [Rows.uptoBulk] at this
  rw [size_list] at this
  omega
theorem bulk_ints {H : Type} {d : DataW H} {zs : List Int} {l : List (DataW H)} (hk : Rows.uptoSmall H l = true) (h : d ∈ l) (hz : zs.length = 0 ∨ ∃ es sp, d = .slice es sp ∧ es.length = zs.length) : zs.length ≤ 1048576 := by
  have := bulk_of hk h
  rcases hz with e | ⟨es, sp, rfl, he⟩
  · omega
  · have h1 := bulk_len es
    simp only [Rows.uptoBulk] at this
    omega
end Go.Proofs.YtihmnibopeljaaaDoor
