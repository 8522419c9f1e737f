/-
  slices.Concat of lists of ranges.
-/
import Derived.Test.YtfihhliiecdnaabRest2
import Derived.Test.YtfihhliiecdnaabGrowL
import Derived.Laws.AppendOwnNone
namespace Go.Proofs.Ytfihhliiecdnaab
open Go Go.RowKit

/-- Lists, one behind the other. -/
def flat (V : List (Value × List (Int × Int))) : List (Int × Int) := V.flatMap fun p => p.2
theorem flat_next {V : List (Value × List (Int × Int))} {k : Nat} {p : Value × List (Int × Int)} (h : V[k]? = some p) : flat (V.take (k + 1)) = flat (V.take k) ++ p.2 := by
  obtain ⟨hk, rfl⟩ := List.getElem?_eq_some_iff.1 h
  rw [take_next V k hk]
  unfold flat
  rw [List.flatMap_append]
  simp only [List.flatMap_cons, List.flatMap_nil, List.append_nil]
theorem flat_le (V : List (Value × List (Int × Int))) (k : Nat) : (flat (V.take k)).length ≤ (flat V).length := by
  have e : flat V = flat (V.take k) ++ flat (V.drop k) := by unfold flat; rw [← List.flatMap_append, List.take_append_drop]
  rw [e, List.length_append]
  omega
theorem rr_apps {base : Nat} {w : World} {n : Nat} {v : Value} {F L : List (Int × Int)} (h : w.ownsRow base 33 2 v n (cellsR F ++ cellsR L)) : RR base w v (F ++ L) := by
  have hn : n = (F ++ L).length := by have := h.1; simp [cellsR_length] at this; simp; omega
  subst hn
  unfold RR
  rw [cellsR_append]
  exact h
theorem grow_zero (w : World) : Calls Try.prog 28 #[.slice none 0 0, .int .i64 0] w fun e w' => e = .returned (.slice none 0 0) ∧ w' = w :=
  Any8.slices_Grow_room Try.growPl none 0 0 0 w (by omega) (by omega) (by omega) (by omega)
theorem grow_c (n : Nat) (w : World) (hn : n ≤ 8796093022208) : Calls Try.prog 28 #[.slice none 0 0, .int .i64 (n : Int)] w fun e w' => ∃ v, e = .returned v ∧ RR w.heap.size w' v [] ∧ Below w.heap.size w w' := by
  rcases Nat.eq_zero_or_pos n with rfl | hp
  · exact (grow_zero w).mono fun e w' ⟨h1, h2⟩ => ⟨_, h1, RR.nil _ _, by rw [h2]; exact Below.refl _ _⟩
  · obtain ⟨i0, hi, hz0, hz1, hz2⟩ := info_parts size_range
    have h := Any8.slices_Grow_grow Try.growPl i0 (.agg #[.int .i64 0, .int .i64 0]) hi hz0 (by rw [hz1]; decide) none 0 0 n [] w (by omega) (by omega) (by rw [hz2]; omega) (by omega) (by simp) (fun _ => rfl) (fun _ q => by cases q)
    refine Calls.mono (show Calls Try.prog 28 _ _ _ from h) ?_
    rintro e w' ⟨rfl, rfl⟩
    have hg := grownCap_ge w (0 + n) 0 33
    have hm := grownCap_le_maxLen w (0 + n) 0 33 (by unfold maxLen; omega)
    refine ⟨_, rfl, ?_, (Below.refl _ _).drew.alloc (by simp) _⟩
    have hz : ∀ k, (Builtin.zeroCells #[.int .i64 0, .int .i64 0] k).size = k * 2 := fun k => by simp [Builtin.zeroCells]
    refine World.ownsRow_made w.drew _ _ (Nat.le_refl _) hm ?_
    show (#[] ++ Builtin.zeroCells #[.int .i64 0, .int .i64 0] (0 + n - 0) ++ Builtin.zeroCells #[.int .i64 0, .int .i64 0] (grownCap w (0 + n) 0 33 - (0 + n))).size = grownCap w (0 + n) 0 33 * 2
    rw [Array.size_append, Array.size_append, hz, hz]
    generalize grownCap w (0 + n) 0 33 = G at *
    show 0 + (0 + n - 0) * 2 + (G - (0 + n)) * 2 = G * 2
    omega

set_option maxRecDepth 100000 in
set_option maxHeartbeats 2000000 in
theorem concat_c {w : World} {g m : Nat} {V : List (Value × List (Int × Int))} (hm : V.length = m) (hV : ∀ (i : Nat) (p : Value × List (Int × Int)), V[i]? = some p → w.cell? ⟨g, i, none⟩ = some p.1 ∧ ArgR w p.1 p.2) (hg : g < w.heap.size) (hml : m ≤ 1000) (hl : (flat V).length + 1 ≤ 8796093022208) :
    Calls Try.prog 22 #[.slice (some ⟨g, 0, none⟩) m m] w fun e w' => ∃ v, e = .returned v ∧ RR w.heap.size w' v (flat V) ∧ Below w.heap.size w w' := by
  have HV : Hid (∀ (i : Nat) (p : Value × List (Int × Int)), V[i]? = some p → w.cell? ⟨g, i, none⟩ = some p.1 ∧ ArgR w p.1 p.2) := hV
  have HM : Hid (V.length = m) := hm
  obtain ⟨t0, ti, hz0, hz1, hz2⟩ := info_parts size_range
  clear hV hm
  go_enter Try.func22, Try.ntmps22
  go_wp2
  go_loopw [3, 11] (fun s i wr => ∃ k : Nat, k ≤ m ∧ i = .int .i64 k ∧ s = .int .i64 ((flat (V.take k)).length : Nat) ∧ wr = w) (fun _ i _ => m - (intOf i).toNat)
  case atStart => exact ⟨0, Nat.zero_le _, rfl, rfl, rfl⟩
  case round =>
    obtain ⟨k, hk, rfl, rfl, hw⟩ := hrel
    subst wr
    by_cases hlt : k < m
    · obtain ⟨⟨v, L⟩, hp⟩ : ∃ p, V[k]? = some p := ⟨_, List.getElem?_eq_getElem (by have := HM.out; omega)⟩
      obtain ⟨d0, ha⟩ := HV.out k _ hp
      dsimp only at d0 ha
      obtain ⟨q, cap, rfl, -, -, -⟩ := ha.slice
      have NX : Hid ((flat (V.take (k + 1))).length = (flat (V.take k)).length + L.length) := hide (by rw [flat_next hp, List.length_append])
      have le1 := flat_le V (k + 1)
      rw [NX.out] at le1
      clear hp ha
      generalize (flat (V.take k)).length = n at *
      have i0 : (0 : Int) ≤ (k : Int) := by omega
      have i1 : (k : Int) < (m : Int) := by omega
      have wn : IntKind.wrap .i64 ((n : Int) + (L.length : Int)) = (n : Int) + (L.length : Int) := by rw [IntKind.wrap_i64]; omega
      have nn : ¬ ((n : Int) + (L.length : Int) < 0) := by omega
      go_wp2
      go_roundw
      case rel => exact ⟨k + 1, by omega, by go_num, by rw [NX.out]; rfl, by first | rfl | trivial⟩
      case measure => simp [intOf]; omega
    · have i1 : ¬ (k : Int) < (m : Int) := by omega
      have E : Hid (V.take k = V) := hide (List.take_of_length_le (by rw [HM.out]; omega))
      rw [E.out]
      have LB : Hid ((flat V).length ≤ 8796093022208) := hide (by omega)
      go_wp2_with (go_at_call 28; refine (grow_c _ _ LB.out).mono ?_; rintro e w5 ⟨v5, rfl, h1, h2⟩; have R5 : Hid (RR w.heap.size w5 v5 []) := h1; have B5 : Hid (Below w.heap.size w w5) := h2; clear h1 h2)
      rename World => W1
      go_loopw [6, 27] (fun s i wr => ∃ k : Nat, k ≤ m ∧ i = .int .i64 k ∧ RR w.heap.size wr s (flat (V.take k)) ∧ Below w.heap.size w wr) (fun _ i _ => m - (intOf i).toNat)
      case atStart => exact ⟨0, Nat.zero_le _, rfl, R5.out, B5.out⟩
      case round =>
        obtain ⟨j, hj, rfl, hrr, hb⟩ := hrel
        obtain ⟨qg, cg, rfl⟩ := hrr.shape
        have RG : Hid (RR w.heap.size wr (.slice qg (flat (V.take j)).length cg) (flat (V.take j))) := hrr
        have B : Hid (Below w.heap.size w wr) := hb
        have hbs : w.heap.size ≤ wr.heap.size := hb.size
        clear hrr hb
        by_cases hjlt : j < m
        · obtain ⟨⟨v, L⟩, hp⟩ : ∃ p, V[j]? = some p := ⟨_, List.getElem?_eq_getElem (by have := HM.out; omega)⟩
          obtain ⟨d0, ha⟩ := HV.out j _ hp
          dsimp only at d0 ha
          have d1 := (B.out.cell (p := ⟨g, j, none⟩) hg).trans d0
          have NX : Hid (flat (V.take (j + 1)) = flat (V.take j) ++ L) := flat_next hp
          have le1 := flat_le V (j + 1)
          rw [NX.out, List.length_append] at le1
          have hA := ha.kept B.out
          obtain ⟨q, cap, rfl, -, -, -⟩ := ha.slice
          have j0 : (0 : Int) ≤ (j : Int) := by omega
          have j1 : (j : Int) < (m : Int) := by omega
          clear hp d0
          generalize flat (V.take j) = F at *
          cases q with
          | none =>
            have e0 : Value.slice none L.length cap = .slice none 0 0 ∧ L = [] := by
              rcases ha with ⟨p, cap', e, e2, e3⟩ | ⟨g', off', cap', e, _⟩
              · subst e2
                cases e
                have := e3 rfl
                subst this
                exact ⟨rfl, rfl⟩
              · cases e
            rw [e0.1] at d1
            have EL : Hid (L = []) := e0.2
            clear ha hA e0
            go_wp2_with (at_builtin; refine wpList_append_own_none rfl _ _ 25 rfl w.heap.size 33 t0 2 und_ranges ti (.slice qg F.length cg) F.length (cellsR F) rfl RG.out rfl ?_)
            go_roundw
            case rel => exact ⟨j + 1, by omega, by go_num, by rw [NX.out, EL.out, List.append_nil]; exact RG.out, B.out⟩
            case measure => simp [intOf]; omega
          | some ad =>
            have NW : Hid (∀ j u, (cellsR L)[j]? = some u → wr.cell? (ad.add j) = some u) := hA.news
            clear ha hA
            go_wp2_with (at_builtin; refine wpList_append_own_at _ rfl _ _ 25 rfl w.heap.size 33 t0 (.agg #[.int .i64 0, .int .i64 0]) 2 16 und_ranges ti hz0 hz1 hz2 rfl (by decide) (.slice qg F.length cg) F.length (cellsR F) rfl RG.out ad L.length cap (cellsR L) rfl (cellsR_length L) NW.out (cellsR_one L) (by unfold maxLen; omega) (by omega) hbs ?_; intro v' w6 hown' hgrow _ hblk; have A6 : Hid (RR w.heap.size w6 v' (F ++ L)) := rr_apps hown'; have B6 : Hid (Below w.heap.size w w6) := below_grown B.out RG.out hgrow; clear hown' hgrow hblk)
            go_roundw
            case rel => exact ⟨j + 1, by omega, by go_num, by rw [NX.out]; exact A6.out, B6.out⟩
            case measure => simp [intOf]; omega
        · have j1 : ¬ (j : Int) < (m : Int) := by omega
          have E2 : Hid (V.take j = V) := hide (List.take_of_length_le (by rw [HM.out]; omega))
          rw [E2.out] at RG ⊢
          go_wp2
          go_ret
          exact ⟨_, rfl, RG.out, B.out⟩
end Go.Proofs.Ytfihhliiecdnaab
