/-
  Proved: the law SetsMake answers true for every text, every two numbers and every list of ranges, and leaves them as they were: Of, Range and From answer as the document's own answer does, and what was handed in stays; where the library's table of trailing zeros lies as the program's own text lays it (the card's tie).
-/
import Derived.Test.YtcaijlmffdfhgaaDoorMake
import Derived.Test.YtcaijlmffdfhgaaDoorFrame
import Derived.Deep.SlicePairs
import Derived.Deep.DeepHandedRow
import Derived.SizedLaws
import Derived.ChangeMaps5
namespace Go.Proofs.YtcaijlmffdfhgaaDoor
open Go Go.ChangeShapes Go.WideShapes Go.ChangeAt Go.RowKit
open Go.ChangeMaps (open_string shut_string)

theorem cells_range : Tryd.prog.cellsOf 48 = 2 := by kernel_rfl
theorem cells_int : Tryd.prog.cellsOf 3 = 1 := by kernel_rfl
theorem bytes_range : Tryd.prog.bytesOf 48 = 16 := by kernel_rfl

/-- A list of ranges that came in. -/
theorem open_ranges {H : Type} {enc : TypeId × Value → H} {W : World} {base : Nat} {v : Value} {d : DataW H} {p : List MemPlace} (hok : Value.okWide Tryd.prog W .any base 29 v)
    (h : DataW.Trod enc Tryd.prog W 0 (fun _ => true) true 29 v d p) : ∃ rs : List (Int × Int), RowAt W v rs ∧ (rs.length = 0 ∨ ∃ es sp, d = .slice es sp ∧ es.length = rs.length) := by
  obtain ⟨a', len', cap', rfl⟩ := okWide_slice Tryd.underlying29 hok
  obtain ⟨fuel, hf⟩ := h
  rcases Deep.open_slice_pairs Tryd.underlying29 Tryd.underlying48 cells_range rfl rfl cells_int cells_int hf with ⟨h1, h2⟩ | ⟨a, len, cap, m, n, V0, V1, D0, D1, P0, P1, h1, _, hlc, hcap, hm, h2, hx⟩
  · have h1' : Value.slice a' len' cap' = .slice none 0 0 := by simpa [Value.cells] using h1
    cases h1'
    exact ⟨[], .inl ⟨none, 0, rfl, rfl⟩, .inl rfl⟩
  · have h1' : Value.slice a' len' cap' = .slice (some a) len cap := by simpa [Value.cells] using h1
    cases h1'
    rw [if_pos rfl] at hm
    subst hm
    by_cases hc : m = 0
    · have hl : len' = 0 := by omega
      subst hc hl
      exact ⟨[], .inl ⟨some a, 0, rfl, rfl⟩, .inl rfl⟩
    · have hp : ∀ i, i < m → ∃ q : Int × Int, V0 i = .int .i64 q.1 ∧ V1 i = .int .i64 q.2 := fun i hi => by
        obtain ⟨_, _, g0, g1⟩ := hx i hi
        obtain ⟨x0, e0, _, _⟩ := DataW.trod_int Tryd.underlying3 g0
        obtain ⟨x1, e1, _, _⟩ := DataW.trod_int Tryd.underlying3 g1
        exact ⟨(x0, x1), by simpa using e0, by simpa using e1⟩
      obtain ⟨q, hq⟩ := Deep.choose_lt hp
      obtain ⟨b, off, spot⟩ := a
      have c0 := (hx 0 (by omega)).1
      have hs : spot = none := by
        cases spot with
        | none => rfl
        | some k =>
          exfalso
          unfold Addr.add World.cell? at c0
          simp at c0
          split at c0 <;> simp_all
      subst hs
      have hadd : ∀ j, (⟨b, off, none⟩ : Addr).add j = ⟨b, off + j, none⟩ := fun j => by unfold Addr.add; split <;> simp_all
      have hb : b < W.heap.size := by
        rw [hadd] at c0
        rcases Nat.lt_or_ge b W.heap.size with h | h
        · exact h
        · have : W.heap[b]? = none := Array.getElem?_eq_none h
          simp [World.cell?, this] at c0
      refine ⟨(List.range len').map q, .inr ⟨b, off, m, by simp, hb, by simpa using hlc, hcap, fun i lo hi hi' => ?_⟩, .inr ⟨_, _, (Prod.mk.inj h2).1, by simp⟩⟩
      have hil : i < len' := by have := (List.getElem?_eq_some_iff.1 hi').1; simpa using this
      have hqi : q i = (lo, hi) := by simpa [hil] using hi'
      obtain ⟨k0, k1, _, _⟩ := hx i (by omega)
      rw [hadd] at k0 k1
      obtain ⟨r0, r1⟩ := hq i (by omega)
      rw [k0, r0, ← Nat.add_assoc] at *
      rw [hqi] at r0 r1 ⊢
      exact ⟨rfl, by rw [k1, r1]⟩

set_option maxRecDepth 100000 in
theorem setsMake_lifted (os : Os) (started : os.Started) (H : Type) (enc : TypeId × Value → H) (F : Stop.Interp) :
    ReturnsInHanded {} Tryd.checked os 6 .any ((OpenSpec.ofChange Rows.setsMakeSpec).preRow enc Tryd.prog Tryd.f6 [] false laidL) (((OpenSpec.ofChange Rows.setsMakeSpec).at F).post enc Tryd.prog Tryd.f6 false true false false) := by
  refine returnsInHanded_of_row (C := Tryd.checked) (s := OpenSpec.ofChange Rows.setsMakeSpec) own started (by kernel_rfl) Tryd.func6
    (ChangeSpec.witness_shaped (enc := enc) (C := Tryd.checked) (os := os) (X := fun w _ => laidMetH Tryd.prog laidL w) false (World.doorLaid Tryd.prog 400 os) #[.string ⟨#[]⟩, .int .i64 0, .int .i64 0, .slice none 0 0] 8 rfl (World.shaped_of_RefB (by kernel_rfl) (by kernel_rfl)) (by kernel_rfl) (by kernel_rfl) (by kernel_rfl) (door_met os _)) ?_
  intro W base args ds gs before hval0 hW _ _ hsz hL _ _
  have hval : ∀ (j : Nat) t v, Tryd.f6.params[j]? = some t → args[j]? = some v → Value.okWide Tryd.prog W .any base t v := hval0
  have hW' := hW
  obtain ⟨p, q, hA0, hV, rfl, hfz, hnd⟩ := hW
  have hA : DataW.TrodAll enc Tryd.prog W 0 (fun _ => true) true Tryd.f6.params.toList args.toList ds p := hA0
  rw [Tryd.params6] at hA hval hsz
  obtain ⟨v0, v1, v2, v3, d0, d1, d2, d3, p0, p1, p2, p3, rfl, rfl, rfl, h0, h1, h2, h3⟩ := trodAll_four hA
  obtain ⟨rfl, rfl⟩ := trodVars_none hV
  obtain ⟨x0, rfl, rfl, rfl, wf0⟩ := open_string Tryd.underlying9 (hval 0 9 v0 rfl rfl) h0
  obtain ⟨x1, rfl, rfl, rfl, wf1⟩ := open_int Tryd.underlying3 (hval 1 3 v1 rfl rfl) h1
  obtain ⟨x2, rfl, rfl, rfl, wf2⟩ := open_int Tryd.underlying3 (hval 2 3 v2 rfl rfl) h2
  obtain ⟨rs, hrow, hlen⟩ := open_ranges (hval 3 29 v3 rfl rfl) h3
  have lt3 : ∀ x ∈ p3, x.block < W.heap.size := by obtain ⟨m, hm⟩ := h3; exact DataW.trod_lt m _ _ _ hm
  have hroom : (rs.length + 1) * 16 ≤ 281474976710656 := by
    rcases hlen with h | ⟨es, sp, rfl, he⟩
    · omega
    · have := sized_slice hsz (j := 3) (t := 29) (e := 48) rfl rfl Tryd.underlying29
      rw [show Tryd.checked.prog.bytesOf 48 = 16 from bytes_range] at this
      have r := reachBytes_lt
      omega
  clear hA0 hval0
  refine (law_make x0 x1 x2 rs v3 W (tab_of hL) wf0 hrow hroom).mono fun e W' ⟨he, bel⟩ => ?_
  subst he
  exact ⟨_, rfl, _, _, _, [], _, [], hW', trodAll_mk1 (shut_bool Tryd.underlying4 _), trodAll_mk4 (shut_string Tryd.underlying9 wf0) (shut_int Tryd.underlying3 wf1) (shut_int Tryd.underlying3 wf2) (Below.trod laidOut (by kernel_rfl) (of_decide_eq_true (by kernel_rfl)) h3 bel lt3), rfl, bel.frame _, fun h => by cases h⟩

theorem setsMake_holds : Rows.SetsMakeSaid :=
  OpenClaim.holds_of_cond 6 Tryd.f6 rfl rfl rfl rfl rfl rfl rfl ⟨rfl, rfl, rfl, rfl, rfl⟩ rfl rfl rfl rfl rfl (by kernel_rfl) Tryd.func6 (by kernel_rfl)
    (of_decide_eq_true (by kernel_rfl)) (by unfold Func.isWrapper; first | (rw [if_pos (by decide +kernel)]; kernel_rfl) | (rw [if_neg (by decide +kernel)]; exact ⟨rfl, rfl⟩))
    (fun os started H enc _ F => by rw [OpenClaim.pre_eq_preRow]; exact setsMake_lifted os started H enc F)

/-- THE TIED CARD. -/
theorem setsMake_card : Rows.SetsMakeCardSaid :=
  Claim7.holds_tied_plain_at .later [] [.data] true (true, "6e3420079c83eebf42ea6b3c3fdcffb1b0a9f830c759b9c6c4e8af2ca2f93fd2") false
    setsMake_holds (fun _ h => by cases h) (by kernel_rfl) (fun _ h => by cases h) setsMake_row_tie rfl ⟨rfl, rfl⟩ (by kernel_rfl) rfl
    (fun f fn hf hfn => by
      obtain rfl : f = 6 := Option.some.inj ((show Tryd.prog.funcNamed "dredge/dredgelaw01.SetsMake" = some 6 by kernel_rfl).symm.trans hf) |>.symm
      obtain rfl : fn = Tryd.f6 := (Option.some.inj (Tryd.func6.symm.trans hfn)).symm
      exact ⟨by kernel_rfl, fun j t ht => by
        rw [Tryd.params6] at ht
        have hm : t ∈ [9, 3, 3, 29] := by simpa using Array.mem_of_getElem? ht
        have hall : ([9, 3, 3, 29].all fun u => !Tryd.prog.wantsStandIn u) = true := by kernel_rfl
        exact (show Tryd.prog.wantsStandIn t = false by simpa using List.all_eq_true.1 hall t hm)⟩)
    (by kernel_rfl)
#print axioms setsMake_card
end Go.Proofs.YtcaijlmffdfhgaaDoor
