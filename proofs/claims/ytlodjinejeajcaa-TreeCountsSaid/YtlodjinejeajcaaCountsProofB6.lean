/-
  A tree, as it comes in.
-/
import Derived.Test.YtlodjinejeajcaaC1
import Derived.Test.YtlodjinejeajcaaC0
import Derived.Deep.Slices
import Derived.Deep.SlicePairs
import Derived.ChangeSame
import Derived.SizedLaws
namespace Go.Proofs.Ytlodjinejeajcaa
open Go Go.ChangeShapes Go.WideShapes Go.ChangeAt Go.RowKit

theorem cells_node : Try.prog.cellsOf 25 = 6 := by kernel_rfl
theorem cells_rng : Try.prog.cellsOf 72 = 2 := by kernel_rfl
theorem cells_rngs : Try.prog.cellsOf 22 = 1 := by kernel_rfl
theorem cells_nods : Try.prog.cellsOf 23 = 1 := by kernel_rfl
theorem bytes_rng : Try.prog.bytesOf 72 = 16 := by kernel_rfl
theorem weights_all {H : Type} {P : Program} {e : TypeId} {d : DataW H} {n : Nat} : ∀ {l : List (DataW H)}, d ∈ l → n ∈ d.weights P e → n ∈ DataW.weightsAll P e l
  | [], h, _ => by cases h
  | x :: r, h, hn => by
    simp only [DataW.weightsAll, List.mem_append]
    rcases List.mem_cons.1 h with rfl | h
    · exact .inl hn
    · exact .inr (weights_all h hn)
theorem cell_blk {w : World} {g o : Nat} {v : Value} (h : w.cell? ⟨g, o, none⟩ = some v) : g < w.heap.size := by
  rcases Nat.lt_or_ge g w.heap.size with h' | h'
  · exact h'
  · have : w.heap[g]? = none := Array.getElem?_eq_none h'
    simp [World.cell?, this] at h
theorem add_none {a : Addr} {W : World} {v : Value} (h : W.cell? (a.add 0) = some v) : ∃ b off, a = ⟨b, off, none⟩ := by
  obtain ⟨b, off, spot⟩ := a
  cases spot with
  | none => exact ⟨b, off, rfl⟩
  | some k =>
    exfalso
    unfold Addr.add World.cell? at h
    simp at h
    split at h <;> simp_all

set_option maxRecDepth 100000 in
theorem open_rngs {H : Type} {enc : TypeId × Value → H} {W : World} {fuel : Nat} {v : Value} {x : DataW H × List MemPlace} (hf : DataW.trod enc Try.prog W 0 (fun _ => true) true fuel 22 [v] = some x) (hw : ∀ n ∈ x.1.weights Try.prog 22, n ≤ reachBytes) :
    ∃ (rs : List (Int × Int)) (q : Option Addr) (c : Nat), v = .slice q rs.length c ∧ ArgR W v rs ∧ Fit rs ∧ rs.length + 3 ≤ 8796093022208 := by
  rcases Deep.open_slice_pairs Try.underlying22 Try.underlying72 cells_rng rfl rfl cells_int cells_int hf with ⟨h1, h2⟩ | ⟨a, len, cap, m, n, V0, V1, D0, D1, P0, P1, h1, _, hlc, hcap, hm, h2, hx⟩
  · cases h1
    exact ⟨[], none, 0, rfl, .inl ⟨none, 0, rfl, rfl, fun _ => rfl⟩, fit_nil, by simp⟩
  · cases h1
    rw [if_pos rfl] at hm
    subst hm
    by_cases hc : m = 0
    · have hl : len = 0 := by omega
      subst hc hl
      exact ⟨[], some a, 0, rfl, .inl ⟨some a, 0, rfl, rfl, fun q => (by cases q)⟩, fit_nil, by simp⟩
    · have hp : ∀ i, i < m → ∃ q : Int × Int, V0 i = .int .i64 q.1 ∧ V1 i = .int .i64 q.2 ∧ (Lit.int .i64 q.1).wf = true ∧ (Lit.int .i64 q.2).wf = true := fun i hi => by
        obtain ⟨_, _, g0, g1⟩ := hx i hi
        obtain ⟨x0, e0, _, w0⟩ := DataW.trod_int Try.underlying3 g0
        obtain ⟨x1, e1, _, w1⟩ := DataW.trod_int Try.underlying3 g1
        exact ⟨(x0, x1), by simpa using e0, by simpa using e1, w0, w1⟩
      obtain ⟨q, hq⟩ := Deep.choose_lt hp
      have c0 := (hx 0 (by omega)).1
      obtain ⟨b, off, rfl⟩ := add_none (by simpa using c0)
      have hadd : ∀ j, (⟨b, off, none⟩ : Addr).add j = ⟨b, off + j, none⟩ := fun j => by unfold Addr.add; split <;> simp_all
      have hb : b < W.heap.size := by rw [hadd] at c0; exact cell_blk c0
      refine ⟨(List.range len).map q, some ⟨b, off, none⟩, m, by simp, .inr ⟨b, off, m, by simp, hb, by simpa using hlc, hcap, fun i r hi' => ?_⟩, fun r hr => ?_, ?_⟩
      · have hil : i < len := by have := (List.getElem?_eq_some_iff.1 hi').1; simpa using this
        have hqi : q i = r := by simpa [hil] using hi'
        obtain ⟨k0, k1, _, _⟩ := hx i (by omega)
        rw [hadd, Nat.mul_comm] at k0
        rw [hadd, Nat.mul_comm, ← Nat.add_assoc] at k1
        obtain ⟨r0, r1, _, _⟩ := hq i (by omega)
        rw [hqi] at r0 r1
        exact ⟨by rw [k0, r0], by rw [k1, r1]⟩
      · obtain ⟨i, hi, rfl⟩ := List.mem_map.1 hr
        have hil : i < len := List.mem_range.1 hi
        obtain ⟨_, _, w0, w1⟩ := hq i (by omega)
        exact ⟨wf_range w0, wf_range w1⟩
      · obtain ⟨es, sp, e1, e2⟩ : ∃ es sp, x.1 = .slice es sp ∧ es.length = len := ⟨_, _, congrArg Prod.fst h2, by simp⟩
        have h3 := hw ((es.length + sp.length) * Try.prog.bytesOf 72) (by rw [e1]; simp [DataW.weights, Try.underlying22])
        rw [bytes_rng] at h3
        have r : reachBytes = 140737488351232 := by decide
        simp
        omega

set_option maxRecDepth 100000 in
set_option maxHeartbeats 2000000 in
theorem open_nodeF {H : Type} {enc : TypeId × Value → H} {W : World} : ∀ (fuel : Nat) (cs : List Value) (x : DataW H × List MemPlace), DataW.trod enc Try.prog W 0 (fun _ => true) true fuel 25 cs = some x → (∀ n ∈ x.1.weights Try.prog 25, n ≤ reachBytes) →
    ∃ t : Tr, TA W t ∧ cs = [.int .i64 t.f.k, .int .i64 t.f.n, .int .i64 t.f.mn, .int .i64 t.f.mx, .slice t.f.rq t.f.rs.length t.f.rc, .slice t.f.kq t.f.kl t.f.kc] := by
  intro fuel
  induction fuel using Nat.strongRecOn with
  | ind fuel ih =>
    intro cs x hf hw
    obtain ⟨xs, k, hk, hxy, hcl, hxl, hfs⟩ := DataW.trod_struct Try.underlying25 hf
    have hD : x.1 = .agg (xs.map (·.1)) := (congrArg Prod.fst hxy)
    rw [hD] at hw
    simp only [DataW.weights, Try.underlying25] at hw
    rw [cells_node] at hcl
    clear hD hxy hf
    match xs, hxl, cs, hcl, hfs, hw with
    | [y0, y1, y2, y3, y4, y5], _, [v0, v1, v2, v3, v4, v5], _, hf, hwi =>
      have F0 := hf 0 _ rfl
      have F1 := hf 1 _ rfl
      have F2 := hf 2 _ rfl
      have F3 := hf 3 _ rfl
      have F4 := hf 4 _ rfl
      have F5 := hf 5 _ rfl
      simp [cells_int, cells_rngs, cells_nods] at F0 F1 F2 F3 F4 F5
      obtain ⟨x0, e0, _, w0⟩ := DataW.trod_int Try.underlying3 F0
      obtain ⟨x1, e1, _, w1⟩ := DataW.trod_int Try.underlying3 F1
      obtain ⟨x2, e2, _, w2⟩ := DataW.trod_int Try.underlying3 F2
      obtain ⟨x3, e3, _, w3⟩ := DataW.trod_int Try.underlying3 F3
      obtain ⟨rs, q, c, rfl, hr, hfit, hlen⟩ := open_rngs F4 (fun n hn => hwi n (DataW.weights_mem_each (j := 4) (t := 22) rfl rfl n hn))
      cases e0; cases e1; cases e2; cases e3
      have hwk := fun n hn => hwi n (DataW.weights_mem_each (j := 5) (t := 23) (d := y5.1) rfl rfl n hn)
      rcases DataW.trod_slice Try.underlying23 F5 with ⟨h1, h2⟩ | ⟨a, len, cap, elems, rest, n, hn, h1, h2, _, hlc, hcap, hel, hx, -, -⟩
      · cases h1
        exact ⟨.mk ⟨x0, x1, x2, x3, rs, q, c, none, 0, 0⟩ [], (every_eq _).2 ⟨⟨hr, .inl ⟨none, 0, rfl, rfl, fun _ => rfl⟩, hfit, hlen⟩, (everyL_iff _).2 fun u hu => by cases hu⟩, rfl⟩
      · cases h1
        by_cases hl : len = 0
        · subst hl
          exact ⟨.mk ⟨x0, x1, x2, x3, rs, q, c, some a, 0, cap⟩ [], (every_eq _).2 ⟨⟨hr, .inl ⟨some a, cap, rfl, rfl, fun z => by cases z⟩, hfit, hlen⟩, (everyL_iff _).2 fun u hu => by cases hu⟩, rfl⟩
        · have each : ∀ i, i < len → ∃ t : Tr, TA W t ∧ ∀ j v, [Value.int .i64 t.f.k, .int .i64 t.f.n, .int .i64 t.f.mn, .int .i64 t.f.mx, .slice t.f.rq t.f.rs.length t.f.rc, .slice t.f.kq t.f.kl t.f.kc][j]? = some v → W.cell? (a.add (i * 6 + j)) = some v := by
            intro i hi
            have hxi := hx i hi
            rw [List.getElem?_eq_getElem (by omega)] at hxi
            obtain ⟨cs', g1, g2⟩ := Option.bind_eq_some_iff.1 hxi
            rw [cells_node] at g1
            obtain ⟨_, hlc', hcell⟩ := World.cells?_some g1
            obtain ⟨t, ht, hcs⟩ := ih n (by omega) cs' _ g2 (fun m hm => hwk m (by
              rw [show y5.1 = .slice (elems.map (·.1)) (rest.map (·.1)) from congrArg Prod.fst h2]
              simp only [DataW.weights, Try.underlying23, List.mem_cons, List.mem_append]
              exact .inr (.inl (weights_all (List.mem_map.2 ⟨_, List.getElem_mem _, rfl⟩) hm))))
            refine ⟨t, ht, fun j v hj => ?_⟩
            have hj6 : j < 6 := by have := (List.getElem?_eq_some_iff.1 hj).1; simpa using this
            have := hcell j (by omega)
            rw [Deep.add_add] at this
            rw [this, hcs]
            exact hj
          have : Inhabited Tr := ⟨.mk ⟨0, 0, 0, 0, [], none, 0, none, 0, 0⟩ []⟩
          obtain ⟨tt, htt⟩ := Deep.choose_lt each
          have c0 := (htt 0 (by omega)).2 0 _ rfl
          obtain ⟨b, off, rfl⟩ := add_none (by simpa using c0)
          have hadd : ∀ j, (⟨b, off, none⟩ : Addr).add j = ⟨b, off + j, none⟩ := fun j => by unfold Addr.add; split <;> simp_all
          have hb : b < W.heap.size := by rw [hadd] at c0; exact cell_blk c0
          refine ⟨.mk ⟨x0, x1, x2, x3, rs, q, c, some ⟨b, off, none⟩, len, cap⟩ ((List.range len).map tt), (every_eq _).2 ⟨⟨hr, .inr ⟨b, off, cap, by simp [Tr.f, Tr.ks], hb, by simpa [Tr.ks] using hlc, hcap, fun i t hi => ?_⟩, hfit, hlen⟩, (everyL_iff _).2 fun u hu => ?_⟩, rfl⟩
          · have hi' : ((List.range len).map tt)[i]? = some t := hi
            have hil : i < len := by have := (List.getElem?_eq_some_iff.1 hi').1; simpa using this
            have hqi : tt i = t := by simpa [hil] using hi'
            have hh := (htt i hil).2
            rw [hqi] at hh
            simp only [hadd, ← Nat.add_assoc] at hh
            exact ⟨hh 0 _ rfl, hh 1 _ rfl, hh 2 _ rfl, hh 3 _ rfl, hh 4 _ rfl, hh 5 _ rfl⟩
          · have hu' : u ∈ (List.range len).map tt := hu
            obtain ⟨i, hi, rfl⟩ := List.mem_map.1 hu'
            exact (htt i (List.mem_range.1 hi)).1
theorem cells_mode8 : Try.prog.cellsOf 27 = 2 := by kernel_rfl
theorem cells_bool8 : Try.prog.cellsOf 4 = 1 := by kernel_rfl
set_option maxRecDepth 100000 in
theorem open_node {H : Type} {enc : TypeId × Value → H} {W : World} {base : Nat} {v : Value} {d : DataW H} {p : List MemPlace} (hok : Value.okWide Try.prog W .any base 25 v)
    (h : DataW.Trod enc Try.prog W 0 (fun _ => true) true 25 v d p) (hw : ∀ n ∈ d.weights Try.prog 25, n ≤ reachBytes) : ∃ t : Tr, TA W t ∧ v = .agg #[.int .i64 t.f.k, .int .i64 t.f.n, .int .i64 t.f.mn, .int .i64 t.f.mx, .slice t.f.rq t.f.rs.length t.f.rc, .slice t.f.kq t.f.kl t.f.kc] := by
  obtain ⟨cs, rfl, hsz⟩ := okWide_struct Try.underlying25 hok
  obtain ⟨fuel, hf⟩ := h
  obtain ⟨t, ht, hcs⟩ := open_nodeF fuel _ _ hf hw
  refine ⟨t, ht, ?_⟩
  obtain ⟨l⟩ := cs
  simp [Value.cells] at hcs
  rw [hcs]
set_option maxRecDepth 100000 in
theorem open_mode8 {H : Type} {enc : TypeId × Value → H} {W : World} {base : Nat} {v : Value} {d : DataW H} {p : List MemPlace} (hok : Value.okWide Try.prog W .any base 27 v)
    (h : DataW.Trod enc Try.prog W 0 (fun _ => true) true 27 v d p) : ∃ c f : Bool, v = .agg #[.bool c, .bool f] := by
  obtain ⟨cs, rfl, hsz⟩ := okWide_struct Try.underlying27 hok
  obtain ⟨fuel, hf⟩ := h
  obtain ⟨xs, k, hk, hxy, hcl, hxl, hfs⟩ := DataW.trod_struct Try.underlying27 hf
  rw [cells_mode8] at hcl
  obtain ⟨l⟩ := cs
  simp [Value.cells] at hcl hfs
  match xs, hxl, l, hcl, hfs with
  | [y0, y1], _, [c0, c1], _, hf =>
    have F0 := hf 0 _ rfl
    have F1 := hf 1 _ rfl
    simp [cells_bool8] at F0 F1
    obtain ⟨b0, e0, -⟩ := DataW.trod_bool Try.underlying4 F0
    obtain ⟨b1, e1, -⟩ := DataW.trod_bool Try.underlying4 F1
    cases e0; cases e1
    exact ⟨b0, b1, rfl⟩
end Go.Proofs.Ytlodjinejeajcaa
