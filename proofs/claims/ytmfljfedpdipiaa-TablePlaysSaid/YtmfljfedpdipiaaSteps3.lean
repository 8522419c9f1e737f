/-
  A script, as it comes in.
-/
import Derived.Test.YtmfljfedpdipiaaLawPlays3
import Derived.Test.YtmfljfedpdipiaaFrame
import Derived.Deep.Slices
import Derived.ChangeSame
import Derived.SizedLaws
namespace Go.Proofs.Ytmfljfedpdipiaa
open Go Go.ChangeShapes Go.WideShapes Go.ChangeAt Go.RowKit

theorem cells_step : Try.prog.cellsOf 46 = 8 := by kernel_rfl
theorem cells_keys : Try.prog.cellsOf 44 = 1 := by kernel_rfl
theorem bytes_int : Try.prog.bytesOf 3 = 8 := by kernel_rfl
theorem weights_all {H : Type} {P : Program} {e : TypeId} {d : DataW H} {n : Nat} : ∀ {l : List (DataW H)}, d ∈ l → n ∈ d.weights P e → n ∈ DataW.weightsAll P e l
  | [], h, _ => by cases h
  | x :: r, h, hn => by
    simp only [DataW.weightsAll, List.mem_append]
    rcases List.mem_cons.1 h with rfl | h
    · exact .inl hn
    · exact .inr (weights_all h hn)
theorem cell_blk {w : World} {g o : Nat} {v : Value} (h : w.cell? ⟨g, o, none⟩ = some v) : g < w.heap.size := by
  rcases Nat.lt_or_ge g w.heap.size with h' | h'
  · exact h'
  · have : w.heap[g]? = none := Array.getElem?_eq_none h'
    simp [World.cell?, this] at h

set_option maxRecDepth 100000 in
theorem open_key {H : Type} {enc : TypeId × Value → H} {W : World} {fuel : Nat} {v : Value} {x : DataW H × List MemPlace} (hf : DataW.trod enc Try.prog W 0 (fun _ => true) true fuel 44 [v] = some x) (hw : ∀ n ∈ x.1.weights Try.prog 44, n ≤ reachBytes) : ∃ k : List Int, ArgK W v k := by
  rcases open_ints Try.underlying44 Try.underlying3 cells_int hf with ⟨h1, h2⟩ | ⟨a, len, cap, zs, h1, _, hlc, hcap, hm, h2, hx, hwf⟩
  · cases h1
    exact ⟨[], .inl ⟨none, 0, rfl, rfl⟩, by simp, .inl ⟨rfl, rfl⟩⟩
  · cases h1
    rw [if_pos rfl] at hm
    by_cases hl : len = 0
    · subst hl
      exact ⟨[], .inl ⟨some a, _, rfl, rfl⟩, by simp, .inr ⟨a, cap, rfl⟩⟩
    · obtain ⟨b, off, spot⟩ := a
      have c0 := hx 0 (by omega)
      have hs : spot = none := by
        cases spot with
        | none => rfl
        | some k =>
          exfalso
          unfold Addr.add World.cell? at c0
          simp at c0
          split at c0 <;> simp_all
      subst hs
      have hadd : ∀ j, (⟨b, off, none⟩ : Addr).add j = ⟨b, off + j, none⟩ := fun j => by unfold Addr.add; split <;> simp_all
      have hb : b < W.heap.size := by
        rw [hadd] at c0
        exact cell_blk c0
      have hlen : (zs.take len).length = len := by simp; omega
      refine ⟨zs.take len, .inr ⟨b, off, cap, by rw [hlen], hb, by omega, hcap, fun i x hi => ?_⟩, ?_, .inr ⟨_, cap, by rw [hlen]⟩⟩
      · have hil : i < len := by have := (List.getElem?_eq_some_iff.1 hi).1; omega
        rw [List.getElem?_take_of_lt hil] at hi
        have hxi := hx i (by omega)
        rw [hadd] at hxi
        rw [hxi]
        simp [List.getD, hi]
      · rw [hlen]
        obtain ⟨es, sp, e1, e2⟩ : ∃ es sp, x.1 = .slice es sp ∧ es.length = len := ⟨_, _, congrArg Prod.fst h2, by simp [lits]; omega⟩
        have h3 := hw ((es.length + sp.length) * Try.prog.bytesOf 3) (by rw [e1]; simp [DataW.weights, Try.underlying44])
        rw [bytes_int] at h3
        have r : reachBytes = 140737488351232 := by decide
        omega

set_option maxRecDepth 100000 in
theorem open_steps {H : Type} {enc : TypeId × Value → H} {W : World} {base : Nat} {v : Value} {d : DataW H} {p : List MemPlace} (hok : Value.okWide Try.prog W .any base 22 v)
    (h : DataW.Trod enc Try.prog W 0 (fun _ => true) true 22 v d p) (hw : ∀ n ∈ d.weights Try.prog 22, n ≤ reachBytes) : ∃ rs : List Sp, ArgS W v rs := by
  obtain ⟨a', len', cap', rfl⟩ := okWide_slice Try.underlying22 hok
  obtain ⟨fuel, hf⟩ := h
  rcases Deep.open_slice Try.underlying22 hf with ⟨h1, h2⟩ | ⟨a, len, cap, m, n, D, Pl, h1, _, hlc, hcap, hm, h2, hx⟩
  · have h1' : Value.slice a' len' cap' = .slice none 0 0 := by simpa [Value.cells] using h1
    cases h1'
    exact ⟨[], .inl ⟨none, 0, rfl, rfl⟩⟩
  · have h1' : Value.slice a' len' cap' = .slice (some a) len cap := by simpa [Value.cells] using h1
    cases h1'
    rw [if_pos rfl] at hm
    subst hm
    by_cases hl : len' = 0
    · subst hl
      exact ⟨[], .inl ⟨some a, _, rfl, rfl⟩⟩
    · have hde : d = .slice ((List.range len').map D) ((List.range (m - len')).map fun j => D (len' + j)) := (Prod.mk.inj h2).1
      have hwD : ∀ i, i < len' → ∀ k ∈ (D i).weights Try.prog 46, k ≤ reachBytes := fun i hi k hk => hw k (by
        rw [hde]
        simp only [DataW.weights, Try.underlying22, List.mem_cons, List.mem_append]
        exact .inr (.inl (weights_all (List.mem_map.2 ⟨i, List.mem_range.2 hi, rfl⟩) hk)))
      have each : ∀ i, i < len' → ∃ q : Sp, q.Ok W ∧ W.cell? (a.add (i * 8)) = some (.int .i64 q.kind) ∧ W.cell? (a.add (i * 8 + 1)) = some (.int .i64 q.on) ∧ W.cell? (a.add (i * 8 + 2)) = some (.int .i64 q.v) ∧ W.cell? (a.add (i * 8 + 3)) = some (.int .i64 q.lv) ∧ W.cell? (a.add (i * 8 + 4)) = some q.kv1 ∧ W.cell? (a.add (i * 8 + 5)) = some (.int .i64 q.tn) ∧ W.cell? (a.add (i * 8 + 6)) = some (.int .i64 q.ii) ∧ W.cell? (a.add (i * 8 + 7)) = some q.kv2 := by
        intro i hi
        obtain ⟨cs', g1, g2⟩ := hx i (by omega)
        rw [cells_step] at g1
        obtain ⟨_, hlen, hcell⟩ := World.cells?_some g1
        obtain ⟨xs, k, hk, hxy, _, hxl, hf⟩ := DataW.trod_struct Try.underlying46 g2
        have hD : D i = .agg (xs.map (·.1)) := (Prod.mk.inj hxy).1
        have hwi := hwD i hi
        rw [hD] at hwi
        simp only [DataW.weights, Try.underlying46] at hwi
        clear hD hxy g1 g2
        match xs, hxl, cs', hlen, hf, hwi, hcell with
        | [y0, y1, y2, y3, y4, y5, y6, y7], _, [v0, v1, v2, v3, v4, v5, v6, v7], _, hf, hwi, hcell =>
          have F0 := hf 0 _ rfl
          have F1 := hf 1 _ rfl
          have F2 := hf 2 _ rfl
          have F3 := hf 3 _ rfl
          have F4 := hf 4 _ rfl
          have F5 := hf 5 _ rfl
          have F6 := hf 6 _ rfl
          have F7 := hf 7 _ rfl
          simp [cells_int, cells_keys] at F0 F1 F2 F3 F4 F5 F6 F7
          obtain ⟨x0, e0, _, w0⟩ := DataW.trod_int Try.underlying3 F0
          obtain ⟨x1, e1, _, w1⟩ := DataW.trod_int Try.underlying3 F1
          obtain ⟨x2, e2, _, w2⟩ := DataW.trod_int Try.underlying3 F2
          obtain ⟨x3, e3, _, w3⟩ := DataW.trod_int Try.underlying3 F3
          obtain ⟨x5, e5, _, w5⟩ := DataW.trod_int Try.underlying3 F5
          obtain ⟨x6, e6, _, w6⟩ := DataW.trod_int Try.underlying3 F6
          obtain ⟨key1, hk1⟩ := open_key F4 (fun n hn => hwi n (DataW.weights_mem_each (j := 4) (t := 44) rfl rfl n hn))
          obtain ⟨key2, hk2⟩ := open_key F7 (fun n hn => hwi n (DataW.weights_mem_each (j := 7) (t := 44) rfl rfl n hn))
          cases e0; cases e1; cases e2; cases e3; cases e5; cases e6
          have c0 := hcell 0 (by omega)
          have c1 := hcell 1 (by omega)
          have c2 := hcell 2 (by omega)
          have c3 := hcell 3 (by omega)
          have c4 := hcell 4 (by omega)
          have c5 := hcell 5 (by omega)
          have c6 := hcell 6 (by omega)
          have c7 := hcell 7 (by omega)
          rw [Deep.add_add] at c0 c1 c2 c3 c4 c5 c6 c7
          exact ⟨⟨x0, x1, x2, x3, v4, key1, x5, x6, v7, key2⟩, ⟨w1, w3, w5, hk1, hk2⟩, c0, c1, c2, c3, c4, c5, c6, c7⟩
      have : Inhabited Sp := ⟨⟨0, 0, 0, 0, .nilFunc, [], 0, 0, .nilFunc, []⟩⟩
      obtain ⟨q, hq⟩ := Deep.choose_lt each
      obtain ⟨b, off, spot⟩ := a
      have c0 := (hq 0 (by omega)).2.1
      have hs : spot = none := by
        cases spot with
        | none => rfl
        | some k =>
          exfalso
          unfold Addr.add World.cell? at c0
          simp at c0
          split at c0 <;> simp_all
      subst hs
      have hadd : ∀ j, (⟨b, off, none⟩ : Addr).add j = ⟨b, off + j, none⟩ := fun j => by unfold Addr.add; split <;> simp_all
      have hb : b < W.heap.size := by
        rw [hadd] at c0
        exact cell_blk c0
      refine ⟨(List.range len').map q, .inr ⟨b, off, m, by simp, hb, by simpa using hlc, hcap, fun i x hi => ?_⟩⟩
      have hil : i < len' := by have := (List.getElem?_eq_some_iff.1 hi).1; simpa using this
      have hqi : q i = x := by simpa [hil] using hi
      have hh := hq i hil
      rw [hqi] at hh
      simp only [hadd] at hh
      simp only [← Nat.add_assoc] at hh
      exact hh
end Go.Proofs.Ytmfljfedpdipiaa
