/-
  Proved: the law MarksPlays answers true for every two rooms and every script, and leaves the script as it was: each of at most 200 steps on two sets (Put, Has, At, Clear, Rising, All gone over with a call in its midst, left early, or made long ago, Same, Copy) answers as the document's own answer does, and what came out stays as its owner left it.
-/
import Derived.Test.YtofiidfnjgoenaaLawPlays
import Derived.Test.YtofiidfnjgoenaaFrame
import Derived.Deep.Slices
import Derived.ChangeSame
namespace Go.Proofs.Ytofiidfnjgoenaa
open Go Go.ChangeShapes Go.WideShapes Go.ChangeAt Go.RowKit

theorem cells_step : Try.prog.cellsOf 47 = 7 := by kernel_rfl

theorem open_script {H : Type} {enc : TypeId × Value → H} {W : World} {base : Nat} {v : Value} {d : DataW H} {p : List MemPlace} (hok : Value.okWide Try.prog W .any base 29 v)
    (h : DataW.Trod enc Try.prog W 0 (fun _ => true) true 29 v d p) : ∃ rs : List Sp, ArgS W v rs := by
  obtain ⟨a', len', cap', rfl⟩ := okWide_slice Try.underlying29 hok
  obtain ⟨fuel, hf⟩ := h
  rcases Deep.open_slice Try.underlying29 hf with ⟨h1, h2⟩ | ⟨a, len, cap, m, n, D, Pl, h1, _, hlc, hcap, hm, h2, hx⟩
  · have h1' : Value.slice a' len' cap' = .slice none 0 0 := by simpa [Value.cells] using h1
    cases h1'
    exact ⟨[], .inl ⟨none, 0, rfl, rfl⟩⟩
  · have h1' : Value.slice a' len' cap' = .slice (some a) len cap := by simpa [Value.cells] using h1
    cases h1'
    rw [if_pos rfl] at hm
    subst hm
    by_cases hc : m = 0
    · have hl : len' = 0 := by omega
      subst hc hl
      exact ⟨[], .inl ⟨some a, 0, rfl, rfl⟩⟩
    · have each : ∀ i, i < m → ∃ q : Sp, q.Ok ∧ W.cell? (a.add (i * 7)) = some (.int .i64 q.kind) ∧ W.cell? (a.add (i * 7 + 1)) = some (.int .i64 q.on) ∧ W.cell? (a.add (i * 7 + 2)) = some (.int .i64 q.n) ∧ W.cell? (a.add (i * 7 + 3)) = some (.int .i64 q.lv) ∧ W.cell? (a.add (i * 7 + 4)) = some (.int .i64 q.tn) ∧ W.cell? (a.add (i * 7 + 5)) = some (.int .i64 q.ii) ∧ W.cell? (a.add (i * 7 + 6)) = some (.int .i64 q.o6) := by
        intro i hi
        obtain ⟨cs', g1, g2⟩ := hx i hi
        rw [cells_step] at g1
        obtain ⟨_, hlen, hcell⟩ := World.cells?_some g1
        obtain ⟨xs, k, hk, hxy, _, hxl, hf⟩ := DataW.trod_struct Try.underlying47 g2
        match xs, hxl, cs', hlen with
        | [y0, y1, y2, y3, y4, y5, y6], _, [v0, v1, v2, v3, v4, v5, v6], _ =>
          have F0 := hf 0 _ rfl
          have F1 := hf 1 _ rfl
          have F2 := hf 2 _ rfl
          have F3 := hf 3 _ rfl
          have F4 := hf 4 _ rfl
          have F5 := hf 5 _ rfl
          have F6 := hf 6 _ rfl
          simp [cells_int] at F0 F1 F2 F3 F4 F5 F6
          obtain ⟨x0, e0, _, w0⟩ := DataW.trod_int Try.underlying3 F0
          obtain ⟨x1, e1, _, w1⟩ := DataW.trod_int Try.underlying3 F1
          obtain ⟨x2, e2, _, w2⟩ := DataW.trod_int Try.underlying3 F2
          obtain ⟨x3, e3, _, w3⟩ := DataW.trod_int Try.underlying3 F3
          obtain ⟨x4, e4, _, w4⟩ := DataW.trod_int Try.underlying3 F4
          obtain ⟨x5, e5, _, w5⟩ := DataW.trod_int Try.underlying3 F5
          obtain ⟨x6, e6, _, w6⟩ := DataW.trod_int Try.underlying3 F6
          cases e0; cases e1; cases e2; cases e3; cases e4; cases e5; cases e6
          have c0 := hcell 0 (by omega)
          have c1 := hcell 1 (by omega)
          have c2 := hcell 2 (by omega)
          have c3 := hcell 3 (by omega)
          have c4 := hcell 4 (by omega)
          have c5 := hcell 5 (by omega)
          have c6 := hcell 6 (by omega)
          rw [Deep.add_add] at c0 c1 c2 c3 c4 c5 c6
          exact ⟨⟨x0, x1, x2, x3, x4, x5, x6⟩, ⟨w1, w3, w4⟩, c0, c1, c2, c3, c4, c5, c6⟩
      have : Inhabited Sp := ⟨⟨0, 0, 0, 0, 0, 0, 0⟩⟩
      obtain ⟨q, hq⟩ := Deep.choose_lt each
      obtain ⟨b, off, spot⟩ := a
      have c0 := (hq 0 (by omega)).2.1
      have hs : spot = none := by
        cases spot with
        | none => rfl
        | some k =>
          exfalso
          unfold Addr.add World.cell? at c0
          simp at c0
          split at c0 <;> simp_all
      subst hs
      have hadd : ∀ j, (⟨b, off, none⟩ : Addr).add j = ⟨b, off + j, none⟩ := fun j => by unfold Addr.add; split <;> simp_all
      have hb : b < W.heap.size := by
        rw [hadd] at c0
        rcases Nat.lt_or_ge b W.heap.size with h | h
        · exact h
        · have : W.heap[b]? = none := Array.getElem?_eq_none h
          simp [World.cell?, this] at c0
      refine ⟨(List.range len').map q, .inr ⟨b, off, m, by simp, hb, by simpa using hlc, hcap, fun i x hi => ?_⟩⟩
      have hil : i < len' := by have := (List.getElem?_eq_some_iff.1 hi).1; simpa using this
      have hqi : q i = x := by simpa [hil] using hi
      have hh := hq i (by omega)
      rw [hqi] at hh
      simp only [hadd] at hh
      simp only [← Nat.add_assoc] at hh
      exact hh

set_option maxRecDepth 100000 in
theorem marksPlays_lifted (os : Os) (started : os.Started) (H : Type) (enc : TypeId × Value → H) :
    ReturnsInHanded {} Try.checked os 4 .any (Rows.marksPlaysSpec.pre6 enc Try.prog Try.f4 Rows.marksPlaysRow.domain false) (Rows.marksPlaysSpec.post enc Try.prog Try.f4 false true false false) := by
  refine returnsInHanded_of_change (C := Try.checked) own started (by kernel_rfl) Try.func4
    (ChangeSpec.witness6 (enc := enc) (C := Try.checked) false ⟨#[], #[.int .i64 0, .int .i64 0, .slice none 0 0], []⟩ 8 (by kernel_rfl) (by kernel_rfl) (by kernel_rfl) (by kernel_rfl)) ?_
  intro W base args ds gs before hval0 hW _ _
  have hval : ∀ (j : Nat) t v, Try.f4.params[j]? = some t → args[j]? = some v → Value.okWide Try.prog W .any base t v := hval0
  have hW' := hW
  obtain ⟨p, q, hA0, hV, rfl, hfz, hnd⟩ := hW
  have hA : DataW.TrodAll enc Try.prog W 0 (fun _ => true) true Try.f4.params.toList args.toList ds p := hA0
  rw [Try.params4] at hA hval
  obtain ⟨v0, v1, v2, d0, d1, d2, p0, p1, p2, rfl, rfl, rfl, h0, h1, h2⟩ := trodAll_three hA
  obtain ⟨rfl, rfl⟩ := trodVars_none hV
  obtain ⟨x0, rfl, rfl, rfl, wf0⟩ := open_int Try.underlying3 (hval 0 3 v0 rfl rfl) h0
  obtain ⟨x1, rfl, rfl, rfl, wf1⟩ := open_int Try.underlying3 (hval 1 3 v1 rfl rfl) h1
  obtain ⟨rs, hz⟩ := open_script (hval 2 29 v2 rfl rfl) h2
  have lt2 : ∀ x ∈ p2, x.block < W.heap.size := by obtain ⟨m, hm⟩ := h2; exact DataW.trod_lt m _ _ _ hm
  clear hA0 hval0
  refine (law_plays x0 x1 wf0 wf1 rs v2 W hz).mono fun e W' ⟨he, bel⟩ => ?_
  subst he
  exact ⟨_, rfl, _, _, _, [], _, [], hW', trodAll_mk1 (shut_bool Try.underlying4 _), trodAll_mk3 (shut_int Try.underlying3 wf0) (shut_int Try.underlying3 wf1) (Below.trod laidOut (by kernel_rfl) (of_decide_eq_true (by kernel_rfl)) h2 bel lt2), rfl, bel.frame _, fun h => by cases h⟩

theorem marksPlays_holds : Rows.MarksPlaysSaid :=
  OpenClaim.holds_of_wide 4 Try.f4 rfl rfl rfl rfl rfl rfl rfl ⟨rfl, rfl, rfl, rfl, rfl⟩ rfl rfl rfl rfl rfl (by kernel_rfl) Try.func4 (by kernel_rfl)
    (of_decide_eq_true (by kernel_rfl)) (by unfold Func.isWrapper; first | (rw [if_pos (by decide +kernel)]; kernel_rfl) | (rw [if_neg (by decide +kernel)]; exact ⟨rfl, rfl⟩))
    (fun os started H enc _ => marksPlays_lifted os started H enc)
#print axioms marksPlays_holds
end Go.Proofs.Ytofiidfnjgoenaa
