/-
  Parts of the proof.
-/
import Derived.Test.YtaikcnoiaaiopaaDoorPlaysProofB15
import Derived.Test.YtaikcnoiaaiopaaDoorPlaysProofB42
set_option linter.unusedSimpArgs false
namespace Go.Proofs.YtaikcnoiaaiopaaDoor
open Go Go.ChangeShapes Go.WideShapes Go.ChangeAt Go.RowKit
theorem o_int9 : Tryd.prog.cellsOf 3 = 1 := by kernel_rfl
theorem o_str9 : Tryd.prog.cellsOf 9 = 1 := by kernel_rfl
theorem o_call9 : Tryd.prog.cellsOf 31 = 4 := by kernel_rfl
def clC (o : Cl) : List Value := [.string o.line, .int .i64 o.fm, .int .i64 o.lv, .int .i64 o.tn]
structure ClOk (o : Cl) : Prop where
  fm : (Lit.int .i64 o.fm).wf = true
  lv : (Lit.int .i64 o.lv).wf = true
  tn : (Lit.int .i64 o.tn).wf = true
set_option maxRecDepth 100000 in
theorem open_call {H : Type} {enc : TypeId × Value → H} {W : World} {fuel : Nat} {cs : List Value} {x : DataW H × List MemPlace} (hl : cs.length = 4) (hf : DataW.trod enc Tryd.prog W 0 (fun _ => true) true fuel 31 cs = some x) : ∃ o : Cl, ClOk o ∧ cs = clC o ∧ o.line.size ≤ Rows.uptoBulk x.1 := by
  obtain ⟨xs, k, hk, hxy, _, hxl, hf⟩ := DataW.trod_struct Tryd.underlying31 hf
  have hD : x.1 = .agg (xs.map (·.1)) := by rw [hxy]
  clear hxy
  match xs, hxl, cs, hl, hf, hD with
  | [y0, y1, y2, y3], _, [v0, v1, v2, v3], _, hf, hD =>
    have F0 := hf 0 _ rfl
    have F1 := hf 1 _ rfl
    have F2 := hf 2 _ rfl
    have F3 := hf 3 _ rfl
    simp [o_int9, o_str9] at F0 F1 F2 F3
    obtain ⟨s, e0, g0, z0⟩ := DataW.trod_string Tryd.underlying9 F0
    obtain ⟨x1, e1, _, w1⟩ := DataW.trod_int Tryd.underlying3 F1
    obtain ⟨x2, e2, _, w2⟩ := DataW.trod_int Tryd.underlying3 F2
    obtain ⟨x3, e3, _, w3⟩ := DataW.trod_int Tryd.underlying3 F3
    cases e0; cases e1; cases e2; cases e3
    refine ⟨⟨s, x1, x2, x3⟩, ⟨w1, w2, w3⟩, rfl, ?_⟩
    rw [hD]
    have hz : s.data.toList.length = s.size := Array.length_toList
    have h0 : y0.1 = .lit (.string s.data.toList) := by rw [g0]
    simp only [List.map_cons, List.map_nil, Rows.uptoBulk, Rows.uptoBulkAll, h0]
    omega
set_option maxRecDepth 100000 in
theorem open_calls {H : Type} {enc : TypeId × Value → H} {W : World} {base : Nat} {v : Value} {d : DataW H} {p : List MemPlace} (hok : Value.okWide Tryd.prog W .any base 23 v)
    (h : DataW.Trod enc Tryd.prog W 0 (fun _ => true) true 23 v d p) (hb : Rows.uptoBulk d ≤ 1048576) : ∃ (q : Option Addr) (L : List Cl) (c : Nat), v = .slice q L.length c ∧ CL W q L := by
  obtain ⟨a', len', cap', rfl⟩ := okWide_slice Tryd.underlying23 hok
  obtain ⟨fuel, hf⟩ := h
  rcases Deep.open_slice Tryd.underlying23 hf with ⟨h1, h2⟩ | ⟨a, len, cap, m, n, D, Pl, h1, _, hlc, hcap, hm, h2, hx⟩
  · have h1' : Value.slice a' len' cap' = .slice none 0 0 := by simpa [Value.cells] using h1
    cases h1'
    exact ⟨none, [], 0, rfl, fun j i h => by simp at h⟩
  · have h1' : Value.slice a' len' cap' = .slice (some a) len cap := by simpa [Value.cells] using h1
    cases h1'
    rw [if_pos rfl] at hm
    subst hm
    have hde : d = .slice ((List.range len').map D) ((List.range (m - len')).map fun j => D (len' + j)) := (Prod.mk.inj h2).1
    have each : ∀ i, i < len' → ∃ o : Cl, ClOk o ∧ o.line.size ≤ 1048576 ∧ ∀ j v, (clC o)[j]? = some v → W.cell? (a.add (i * 4 + j)) = some v := by
      intro i hi
      obtain ⟨cs', g1, g2⟩ := hx i (by omega)
      rw [o_call9] at g1
      obtain ⟨_, hlen, hcell⟩ := World.cells?_some g1
      obtain ⟨o, ho, rfl, hbb⟩ := open_call hlen g2
      have hDi : Rows.uptoBulk (D i) ≤ 1048576 := by
        rw [hde] at hb
        have h3 := bulk_part8 (d := D i) (l := (List.range len').map D) (List.mem_map.2 ⟨i, List.mem_range.2 hi, rfl⟩)
        simp only [Rows.uptoBulk] at hb
        omega
      refine ⟨o, ho, Nat.le_trans hbb hDi, fun j v hj => ?_⟩
      have hjl : j < 4 := by have := (List.getElem?_eq_some_iff.1 hj).1; simpa [clC] using this
      have := hcell j hjl
      rw [Deep.add_add] at this
      rw [this]
      exact hj
    by_cases hl : len' = 0
    · subst hl
      exact ⟨some a, [], m, rfl, fun j i h => by simp at h⟩
    · have : Inhabited Cl := ⟨⟨⟨#[]⟩, 0, 0, 0⟩⟩
      obtain ⟨q, hq⟩ := Deep.choose_lt each
      obtain ⟨b, off, spot⟩ := a
      have c0 := (hq 0 (by omega)).2.2 0 _ rfl
      have hs : spot = none := by
        cases spot with
        | none => rfl
        | some k =>
          exfalso
          unfold Addr.add World.cell? at c0
          simp at c0
          split at c0 <;> simp_all
      subst hs
      have hadd : ∀ j, (⟨b, off, none⟩ : Addr).add j = ⟨b, off + j, none⟩ := fun j => by unfold Addr.add; split <;> simp_all
      have hb' : b < W.heap.size := by
        rw [hadd] at c0
        exact cell_blk c0
      refine ⟨some ⟨b, off, none⟩, (List.range len').map q, m, by simp, fun j i hi => ?_⟩
      have hil : j < len' := by have := (List.getElem?_eq_some_iff.1 hi).1; simpa using this
      have hqi : q j = i := by simpa [hil] using hi
      have hh := hq j hil
      rw [hqi] at hh
      have h3 := hh.2.2
      simp only [hadd] at h3
      simp only [← Nat.add_assoc] at h3
      exact ⟨hh.2.1, hh.1.fm, hh.1.lv, hh.1.tn, b, off, rfl, hb', h3 0 _ rfl, h3 1 _ rfl, h3 2 _ rfl, h3 3 _ rfl⟩
end Go.Proofs.YtaikcnoiaaiopaaDoor
