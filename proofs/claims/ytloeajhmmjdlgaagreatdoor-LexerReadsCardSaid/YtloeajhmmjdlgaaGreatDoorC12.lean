/-
  The library's Grow, as it lies in this program (laid by program). slices.Concat of lists of ranges. Norm, Or, And, Less, Not: each makes a class. moved, Fold: letters in both cases. slices.Equal of lists of ranges; dredgeref06.Alike. Fold; Same, Right; Count. Items: classes, ranges; the class of a token.
-/
import Derived.Shelf.Spec.SlicesGrow
import Derived.Test.YtloeajhmmjdlgaaGreatDoorProg
import Derived.Test.YtloeajhmmjdlgaaGreatDoorC6
import Derived.Laws.AppendOwnNone
import Derived.Test.YtloeajhmmjdlgaaGreatDoorC11
import Derived.Test.YtloeajhmmjdlgaaGreatDoorC1
import Derived.Test.YtloeajhmmjdlgaaGreatDoorC0
import Derived.Test.YtloeajhmmjdlgaaGreatDoorC4
import Derived.Test.YtloeajhmmjdlgaaGreatDoorC10
namespace Go.Proofs
open Go.Shelf
def Tryz.growPl_ren : Go.Shelf.Ren := ⟨fun | 4 => 77 | n => n, fun | 22 => 35 | 25 => 39 | 3 => 3 | 4 => 4 | 9 => 9 | 20 => 20 | 0 => 0 | 2 => 3 | n => n, fun | n => n⟩
theorem Tryz.growPl : Go.Proofs.Lays8.n4 Tryz.prog Tryz.growPl_ren := {
  mixed := by kernel_rfl
  f4 := ⟨Tryz.f77.name, by decide, Tryz.func77.trans (congrArg some (by kernel_rfl))⟩
  t0 := Tryz.underlying0
  a0 := Tryz.isAgg0
  z0 := Tryz.sizeOf0
  v0 := Tryz.zeroValue0
  t3 := Tryz.underlying3
  a3 := Tryz.isAgg3
  z3 := Tryz.sizeOf3
  v3 := Tryz.zeroValue3
  t4 := Tryz.underlying4
  a4 := Tryz.isAgg4
  z4 := Tryz.sizeOf4
  v4 := Tryz.zeroValue4
  t9 := Tryz.underlying9
  a9 := Tryz.isAgg9
  z9 := Tryz.sizeOf9
  v9 := Tryz.zeroValue9
  t20 := Tryz.underlying20
  a20 := Tryz.isAgg20
  z20 := Tryz.sizeOf20
  v20 := Tryz.zeroValue20
  t22 := Tryz.underlying35
  a22 := Tryz.isAgg35
  z22 := Tryz.sizeOf35
  v22 := Tryz.zeroValue35 }
end Go.Proofs
namespace Go.Proofs.YtloeajhmmjdlgaaGreatDoor
open Go Go.RowKit

/-- Lists, one behind the other. -/
def flat (V : List (Value × List (Int × Int))) : List (Int × Int) := V.flatMap fun p => p.2
theorem flat_next {V : List (Value × List (Int × Int))} {k : Nat} {p : Value × List (Int × Int)} (h : V[k]? = some p) : flat (V.take (k + 1)) = flat (V.take k) ++ p.2 := by
  obtain ⟨hk, rfl⟩ := List.getElem?_eq_some_iff.1 h
  rw [take_next V k hk]
  unfold flat
  rw [List.flatMap_append]
  simp only [List.flatMap_cons, List.flatMap_nil, List.append_nil]
theorem flat_le (V : List (Value × List (Int × Int))) (k : Nat) : (flat (V.take k)).length ≤ (flat V).length := by
  have e : flat V = flat (V.take k) ++ flat (V.drop k) := by unfold flat; rw [← List.flatMap_append, List.take_append_drop]
  rw [e, List.length_append]
  omega
theorem rr_apps {base : Nat} {w : World} {n : Nat} {v : Value} {F L : List (Int × Int)} (h : w.ownsRow base 39 2 v n (cellsR F ++ cellsR L)) : RR base w v (F ++ L) := by
  have hn : n = (F ++ L).length := by have := h.1; simp [cellsR_length] at this; simp; omega
  subst hn
  unfold RR
  rw [cellsR_append]
  exact h
theorem grow_zero (w : World) : Calls Tryz.prog 77 #[.slice none 0 0, .int .i64 0] w fun e w' => e = .returned (.slice none 0 0) ∧ w' = w :=
  Any8.slices_Grow_room Tryz.growPl none 0 0 0 w (by omega) (by omega) (by omega) (by omega)
theorem grow_c (n : Nat) (w : World) (hn : n ≤ 8796093022208) : Calls Tryz.prog 77 #[.slice none 0 0, .int .i64 (n : Int)] w fun e w' => ∃ v, e = .returned v ∧ RR w.heap.size w' v [] ∧ Below w.heap.size w w' := by
  rcases Nat.eq_zero_or_pos n with rfl | hp
  · exact (grow_zero w).mono fun e w' ⟨h1, h2⟩ => ⟨_, h1, RR.nil _ _, by rw [h2]; exact Below.refl _ _⟩
  · obtain ⟨i0, hi, hz0, hz1, hz2⟩ := info_parts size_range
    have h := Any8.slices_Grow_grow Tryz.growPl i0 (.agg #[.int .i64 0, .int .i64 0]) hi hz0 (by rw [hz1]; decide) none 0 0 n [] w (by omega) (by omega) (by rw [hz2]; omega) (by omega) (by simp) (fun _ => rfl) (fun _ q => by cases q)
    refine Calls.mono (show Calls Tryz.prog 77 _ _ _ from h) ?_
    rintro e w' ⟨rfl, rfl⟩
    have hg := grownCap_ge w (0 + n) 0 39
    have hm := grownCap_le_maxLen w (0 + n) 0 39 (by unfold maxLen; omega)
    refine ⟨_, rfl, ?_, (Below.refl _ _).drew.alloc (by simp) _⟩
    have hz : ∀ k, (Builtin.zeroCells #[.int .i64 0, .int .i64 0] k).size = k * 2 := fun k => by simp [Builtin.zeroCells]
    refine World.ownsRow_made w.drew _ _ (Nat.le_refl _) hm ?_
    show (#[] ++ Builtin.zeroCells #[.int .i64 0, .int .i64 0] (0 + n - 0) ++ Builtin.zeroCells #[.int .i64 0, .int .i64 0] (grownCap w (0 + n) 0 39 - (0 + n))).size = grownCap w (0 + n) 0 39 * 2
    rw [Array.size_append, Array.size_append, hz, hz]
    generalize grownCap w (0 + n) 0 39 = G at *
    show 0 + (0 + n - 0) * 2 + (G - (0 + n)) * 2 = G * 2
    omega

set_option maxRecDepth 100000 in
set_option maxHeartbeats 2000000 in
theorem concat_c {w : World} {g m : Nat} {V : List (Value × List (Int × Int))} (hm : V.length = m) (hV : ∀ (i : Nat) (p : Value × List (Int × Int)), V[i]? = some p → w.cell? ⟨g, i, none⟩ = some p.1 ∧ ArgR w p.1 p.2) (hg : g < w.heap.size) (hml : m ≤ 1000) (hl : (flat V).length + 1 ≤ 8796093022208) :
    Calls Tryz.prog 61 #[.slice (some ⟨g, 0, none⟩) m m] w fun e w' => ∃ v, e = .returned v ∧ RR w.heap.size w' v (flat V) ∧ Below w.heap.size w w' := by
  have HV : Hid (∀ (i : Nat) (p : Value × List (Int × Int)), V[i]? = some p → w.cell? ⟨g, i, none⟩ = some p.1 ∧ ArgR w p.1 p.2) := hV
  have HM : Hid (V.length = m) := hm
  obtain ⟨t0, ti, hz0, hz1, hz2⟩ := info_parts size_range
  clear hV hm
  go_enter Tryz.func61, Tryz.ntmps61
  go_wp2
  go_loopw [3, 11] (fun s i wr => ∃ k : Nat, k ≤ m ∧ i = .int .i64 k ∧ s = .int .i64 ((flat (V.take k)).length : Nat) ∧ wr = w) (fun _ i _ => m - (intOf i).toNat)
  case atStart => exact ⟨0, Nat.zero_le _, rfl, rfl, rfl⟩
  case round =>
    obtain ⟨k, hk, rfl, rfl, hw⟩ := hrel
    subst wr
    by_cases hlt : k < m
    · obtain ⟨⟨v, L⟩, hp⟩ : ∃ p, V[k]? = some p := ⟨_, List.getElem?_eq_getElem (by have := HM.out; omega)⟩
      obtain ⟨d0, ha⟩ := HV.out k _ hp
      dsimp only at d0 ha
      obtain ⟨q, cap, rfl, -, -, -⟩ := ha.slice
      have NX : Hid ((flat (V.take (k + 1))).length = (flat (V.take k)).length + L.length) := hide (by rw [flat_next hp, List.length_append])
      have le1 := flat_le V (k + 1)
      rw [NX.out] at le1
      clear hp ha
      generalize (flat (V.take k)).length = n at *
      have i0 : (0 : Int) ≤ (k : Int) := by omega
      have i1 : (k : Int) < (m : Int) := by omega
      have wn : IntKind.wrap .i64 ((n : Int) + (L.length : Int)) = (n : Int) + (L.length : Int) := by rw [IntKind.wrap_i64]; omega
      have nn : ¬ ((n : Int) + (L.length : Int) < 0) := by omega
      go_wp2
      go_roundw
      case rel => exact ⟨k + 1, by omega, by go_num, by rw [NX.out]; rfl, by first | rfl | trivial⟩
      case measure => simp [intOf]; omega
    · have i1 : ¬ (k : Int) < (m : Int) := by omega
      have E : Hid (V.take k = V) := hide (List.take_of_length_le (by rw [HM.out]; omega))
      rw [E.out]
      have LB : Hid ((flat V).length ≤ 8796093022208) := hide (by omega)
      go_wp2_with (go_at_call 77; refine (grow_c _ _ LB.out).mono ?_; rintro e w5 ⟨v5, rfl, h1, h2⟩; have R5 : Hid (RR w.heap.size w5 v5 []) := h1; have B5 : Hid (Below w.heap.size w w5) := h2; clear h1 h2)
      rename World => W1
      go_loopw [6, 27] (fun s i wr => ∃ k : Nat, k ≤ m ∧ i = .int .i64 k ∧ RR w.heap.size wr s (flat (V.take k)) ∧ Below w.heap.size w wr) (fun _ i _ => m - (intOf i).toNat)
      case atStart => exact ⟨0, Nat.zero_le _, rfl, R5.out, B5.out⟩
      case round =>
        obtain ⟨j, hj, rfl, hrr, hb⟩ := hrel
        obtain ⟨qg, cg, rfl⟩ := hrr.shape
        have RG : Hid (RR w.heap.size wr (.slice qg (flat (V.take j)).length cg) (flat (V.take j))) := hrr
        have B : Hid (Below w.heap.size w wr) := hb
        have hbs : w.heap.size ≤ wr.heap.size := hb.size
        clear hrr hb
        by_cases hjlt : j < m
        · obtain ⟨⟨v, L⟩, hp⟩ : ∃ p, V[j]? = some p := ⟨_, List.getElem?_eq_getElem (by have := HM.out; omega)⟩
          obtain ⟨d0, ha⟩ := HV.out j _ hp
          dsimp only at d0 ha
          have d1 := (B.out.cell (p := ⟨g, j, none⟩) hg).trans d0
          have NX : Hid (flat (V.take (j + 1)) = flat (V.take j) ++ L) := flat_next hp
          have le1 := flat_le V (j + 1)
          rw [NX.out, List.length_append] at le1
          have hA := ha.kept B.out
          obtain ⟨q, cap, rfl, -, -, -⟩ := ha.slice
          have j0 : (0 : Int) ≤ (j : Int) := by omega
          have j1 : (j : Int) < (m : Int) := by omega
          clear hp d0
          generalize flat (V.take j) = F at *
          cases q with
          | none =>
            have e0 : Value.slice none L.length cap = .slice none 0 0 ∧ L = [] := by
              rcases ha with ⟨p, cap', e, e2, e3⟩ | ⟨g', off', cap', e, _⟩
              · subst e2
                cases e
                have := e3 rfl
                subst this
                exact ⟨rfl, rfl⟩
              · cases e
            rw [e0.1] at d1
            have EL : Hid (L = []) := e0.2
            clear ha hA e0
            go_wp2_with (at_builtin; refine wpList_append_own_none rfl _ _ 35 rfl w.heap.size 39 t0 2 und_ranges ti (.slice qg F.length cg) F.length (cellsR F) rfl RG.out rfl ?_)
            go_roundw
            case rel => exact ⟨j + 1, by omega, by go_num, by rw [NX.out, EL.out, List.append_nil]; exact RG.out, B.out⟩
            case measure => simp [intOf]; omega
          | some ad =>
            have NW : Hid (∀ j u, (cellsR L)[j]? = some u → wr.cell? (ad.add j) = some u) := hA.news
            clear ha hA
            go_wp2_with (at_builtin; refine wpList_append_own_at _ rfl _ _ 35 rfl w.heap.size 39 t0 (.agg #[.int .i64 0, .int .i64 0]) 2 16 und_ranges ti hz0 hz1 hz2 rfl (by decide) (.slice qg F.length cg) F.length (cellsR F) rfl RG.out ad L.length cap (cellsR L) rfl (cellsR_length L) NW.out (cellsR_one L) (by unfold maxLen; omega) (by omega) hbs ?_; intro v' w6 hown' hgrow _ hblk; have A6 : Hid (RR w.heap.size w6 v' (F ++ L)) := rr_apps hown'; have B6 : Hid (Below w.heap.size w w6) := below_grown B.out RG.out hgrow; clear hown' hgrow hblk)
            go_roundw
            case rel => exact ⟨j + 1, by omega, by go_num, by rw [NX.out]; exact A6.out, B6.out⟩
            case measure => simp [intOf]; omega
        · have j1 : ¬ (j : Int) < (m : Int) := by omega
          have E2 : Hid (V.take j = V) := hide (List.take_of_length_le (by rw [HM.out]; omega))
          rw [E2.out] at RG ⊢
          go_wp2
          go_ret
          exact ⟨_, rfl, RG.out, B.out⟩
end Go.Proofs.YtloeajhmmjdlgaaGreatDoor
namespace Go.Proofs.YtloeajhmmjdlgaaGreatDoor
open Go Go.RowKit

def num (c : Int) : Prop := -9223372036854775808 ≤ c ∧ c ≤ 9223372036854775807
set_option maxHeartbeats 1000000 in
theorem norm_c {w : World} {v : Value} {L : List (Int × Int)} {m : Bool} (h : ArgR w v L) (hF : Fit L) (hl : L.length + 3 ≤ 8796093022208) :
    Calls Tryz.prog 45 #[v, .bool m] w (Gets w (fun c => In L c ∧ isChar m c) (L.length + 2)) := by
  have H : Hid (ArgR w v L ∧ Fit L) := ⟨h, hF⟩
  have hl1 : L.length ≤ 8796093022208 := by omega
  clear h hF
  go_enter Tryz.func45, Tryz.ntmps45
  go_wp2_with first
    | (go_at_call 60; refine (classOf_c H.out.1 H.out.2 hl1).mono ?_; rintro e w5 ⟨v5, C5, rfl, h1, h2, h3, h4⟩; have X5 : Hid (RR w.heap.size w5 v5 C5 ∧ IsC C5 (In L) ∧ C5.length ≤ L.length ∧ Below w.heap.size w w5) := ⟨h1, h2, h3, h4⟩; clear h1 h2 h3 h4)
    | (go_at_call 63; refine (chars_c m _).mono ?_; rintro e w6 ⟨v6, rfl, h1, h2⟩; have X6 : Hid (RR w5.heap.size w6 v6 (charsL m) ∧ Below w5.heap.size w5 w6) := ⟨h1, h2⟩; clear h1 h2)
    | (go_at_call 62; refine (common_c (X5.out.1.kept X6.out.2).arg X6.out.1.arg X5.out.2.1.cls (charsL_is m).cls X5.out.2.1.fit (charsL_is m).fit (by have := X5.out.2.2.1; have := charsL_length m; omega)).mono ?_; rintro e w7 ⟨v7, C7, rfl, h1, h2, h3, h4⟩; have X7 : Hid (RR w6.heap.size w7 v7 C7 ∧ IsC C7 (fun c => In C5 c ∧ In (charsL m) c) ∧ C7.length ≤ C5.length + (charsL m).length ∧ Below w6.heap.size w6 w7) := ⟨h1, h2, h3, h4⟩; clear h1 h2 h3 h4)
  go_ret
  have B6 := chain X5.out.2.2.2 X6.out.2 (Nat.le_refl _)
  refine ⟨_, _, rfl, X7.out.1.mono B6.size, X7.out.2.1.to fun c => ?_, ?_, chain B6 X7.out.2.2.2 (Nat.le_refl _)⟩
  · rw [X5.out.2.1.mem, (charsL_is m).mem]
  · have := X7.out.2.2.1
    have := X5.out.2.2.1
    have := charsL_length m
    omega

set_option maxHeartbeats 1000000 in
theorem and_c {w : World} {va vb : Value} {A B : List (Int × Int)} (ha : ArgR w va A) (hb : ArgR w vb B) (fa : Fit A) (fb : Fit B) (hl : A.length + B.length + 1 ≤ 8796093022208) :
    Calls Tryz.prog 74 #[va, vb] w (Gets w (fun c => In A c ∧ In B c) (A.length + B.length)) := by
  have H : Hid (ArgR w va A ∧ Fit A) := ⟨ha, fa⟩
  have K : Hid (ArgR w vb B ∧ Fit B) := ⟨hb, fb⟩
  have hl1 : A.length ≤ 8796093022208 := by omega
  have hl2 : B.length ≤ 8796093022208 := by omega
  clear ha hb fa fb
  go_enter Tryz.func74, Tryz.ntmps74
  go_wp2_with first
    | (have hx := X5.out; clear hx; go_at_call 60; have hih := classOf_c (K.out.1.kept X5.out.2.2.2) K.out.2 hl2; refine hih.mono ?_; clear hih; rintro e w6 ⟨v6, C6, rfl, h1, h2, h3, h4⟩; have X6 : Hid (RR w5.heap.size w6 v6 C6 ∧ IsC C6 (In B) ∧ C6.length ≤ B.length ∧ Below w5.heap.size w5 w6) := ⟨h1, h2, h3, h4⟩; clear h1 h2 h3 h4)
    | (go_at_call 60; refine (classOf_c H.out.1 H.out.2 hl1).mono ?_; rintro e w5 ⟨v5, C5, rfl, h1, h2, h3, h4⟩; have X5 : Hid (RR w.heap.size w5 v5 C5 ∧ IsC C5 (In A) ∧ C5.length ≤ A.length ∧ Below w.heap.size w w5) := ⟨h1, h2, h3, h4⟩; clear h1 h2 h3 h4)
    | (go_at_call 62; refine (common_c (X5.out.1.kept X6.out.2.2.2).arg X6.out.1.arg X5.out.2.1.cls X6.out.2.1.cls X5.out.2.1.fit X6.out.2.1.fit (by have := X5.out.2.2.1; have := X6.out.2.2.1; omega)).mono ?_; rintro e w7 ⟨v7, C7, rfl, h1, h2, h3, h4⟩; have X7 : Hid (RR w6.heap.size w7 v7 C7 ∧ IsC C7 (fun c => In C5 c ∧ In C6 c) ∧ C7.length ≤ C5.length + C6.length ∧ Below w6.heap.size w6 w7) := ⟨h1, h2, h3, h4⟩; clear h1 h2 h3 h4)
  go_ret
  have B6 := chain X5.out.2.2.2 X6.out.2.2.2 (Nat.le_refl _)
  refine ⟨_, _, rfl, X7.out.1.mono B6.size, X7.out.2.1.to fun c => ?_, ?_, chain B6 X7.out.2.2.2 (Nat.le_refl _)⟩
  · rw [X5.out.2.1.mem, X6.out.2.1.mem]
  · have := X7.out.2.2.1
    have := X5.out.2.2.1
    have := X6.out.2.2.1
    omega

theorem char_num {m : Bool} {c : Int} (h : isChar m c) : -9223372036854775808 ≤ c ∧ c ≤ 9223372036854775807 := by
  obtain ⟨h1, h2, _⟩ := h
  unfold top at h2
  split at h2 <;> omega
set_option maxHeartbeats 1000000 in
theorem not_c {w : World} {v : Value} {L : List (Int × Int)} {m : Bool} (h : ArgR w v L) (hF : Fit L) (hl : L.length + 5 ≤ 8796093022208) :
    Calls Tryz.prog 44 #[v, .bool m] w (Gets w (fun c => isChar m c ∧ ¬ In L c) (L.length + 3)) := by
  have K : Hid (ArgR w v L ∧ Fit L) := ⟨h, hF⟩
  have hl2 : L.length ≤ 8796093022208 := by omega
  clear h hF
  go_enter Tryz.func44, Tryz.ntmps44
  go_wp2_with first
    | (go_at_call 63; refine (chars_c m _).mono ?_; rintro e w5 ⟨v5, rfl, h1, h2⟩; have X5 : Hid (RR w.heap.size w5 v5 (charsL m) ∧ Below w.heap.size w w5) := ⟨h1, h2⟩; clear h1 h2)
    | (go_at_call 60; refine (classOf_c (K.out.1.kept X5.out.2) K.out.2 hl2).mono ?_; rintro e w6 ⟨v6, C6, rfl, h1, h2, h3, h4⟩; have X6 : Hid (RR w5.heap.size w6 v6 C6 ∧ IsC C6 (In L) ∧ C6.length ≤ L.length ∧ Below w5.heap.size w5 w6) := ⟨h1, h2, h3, h4⟩; clear h1 h2 h3 h4)
    | (go_at_call 64; refine (rest_c X6.out.1.arg X6.out.2.1.cls X6.out.2.1.fit (by have := X6.out.2.2.1; omega)).mono ?_; rintro e w8 ⟨v8, C8, rfl, h1, h2, h3, h4⟩; have X8 : Hid (RR w6.heap.size w8 v8 C8 ∧ IsC C8 (fun c => (-9223372036854775808 ≤ c ∧ c ≤ 9223372036854775807) ∧ ¬ In C6 c) ∧ C8.length ≤ C6.length + 1 ∧ Below w6.heap.size w6 w8) := ⟨h1, h2, h3, h4⟩; clear h1 h2 h3 h4)
    | (go_at_call 62; refine (common_c ((X5.out.1.kept X6.out.2.2.2).kept X8.out.2.2.2).arg X8.out.1.arg (charsL_is m).cls X8.out.2.1.cls (charsL_is m).fit X8.out.2.1.fit (by have := charsL_length m; have := X6.out.2.2.1; have := X8.out.2.2.1; omega)).mono ?_; rintro e w7 ⟨v7, C7, rfl, h1, h2, h3, h4⟩; have X7 : Hid (RR w8.heap.size w7 v7 C7 ∧ IsC C7 (fun c => In (charsL m) c ∧ In C8 c) ∧ C7.length ≤ (charsL m).length + C8.length ∧ Below w8.heap.size w8 w7) := ⟨h1, h2, h3, h4⟩; clear h1 h2 h3 h4)
  go_ret
  have B8 := chain (chain X5.out.2 X6.out.2.2.2 (Nat.le_refl _)) X8.out.2.2.2 (Nat.le_refl _)
  refine ⟨_, _, rfl, X7.out.1.mono B8.size, X7.out.2.1.to fun c => ?_, ?_, chain B8 X7.out.2.2.2 (Nat.le_refl _)⟩
  · rw [(charsL_is m).mem, X8.out.2.1.mem, X6.out.2.1.mem]
    exact ⟨fun ⟨p, q⟩ => ⟨p, q.2⟩, fun ⟨p, q⟩ => ⟨p, char_num p, q⟩⟩
  · have := X7.out.2.2.1
    have := charsL_length m
    have := X6.out.2.2.1
    have := X8.out.2.2.1
    omega

theorem two_args {w : World} {va vb : Value} {A B : List (Int × Int)} (ha : ArgR w va A) (hb : ArgR w vb B) (t : TypeId) : ∀ (i : Nat) (p : Value × List (Int × Int)), [(va, A), (vb, B)][i]? = some p → (w.alloc (.cells #[va, vb] t)).cell? ⟨w.heap.size, i, none⟩ = some p.1 ∧ ArgR (w.alloc (.cells #[va, vb] t)) p.1 p.2 := by
  have B1 : Below w.heap.size w (w.alloc (.cells #[va, vb] t)) := (Below.refl _ _).alloc (Nat.le_refl _) _
  intro i p hp
  match i, hp with
  | 0, hp => simp at hp; subst hp; exact ⟨cell_row (alloc_new w _) (i := 0) rfl, ha.kept B1⟩
  | 1, hp => simp at hp; subst hp; exact ⟨cell_row (alloc_new w _) (i := 1) rfl, hb.kept B1⟩
end Go.Proofs.YtloeajhmmjdlgaaGreatDoor
namespace Go.Proofs.YtloeajhmmjdlgaaGreatDoor
open Go Go.RowKit

theorem rr_of {base : Nat} {w : World} {n : Nat} {v : Value} {L : List (Int × Int)} (h : w.ownsRow base 39 2 v n (cellsR L)) (hn : L.length = n) : RR base w v L := by subst hn; exact h
/-- The first k ranges are moved. -/
def shK (C : List (Int × Int)) (k : Nat) (d : Int) : List (Int × Int) := C.mapIdx fun i r => if i < k then (r.1 + d, r.2 + d) else r
theorem shK_zero (C : List (Int × Int)) (d : Int) : shK C 0 d = C := by
  unfold shK
  apply List.ext_getElem
  · simp
  · intro i h1 h2; simp
theorem shK_length (C : List (Int × Int)) (k : Nat) (d : Int) : (shK C k d).length = C.length := by simp [shK]
theorem shK_get {C : List (Int × Int)} {k : Nat} {r : Int × Int} (h : C[k]? = some r) (d : Int) : (shK C k d)[k]? = some r := by
  simp [shK, h]
theorem shK_set {C : List (Int × Int)} {k : Nat} {r : Int × Int} (h : C[k]? = some r) (d : Int) : (shK C k d).set k (r.1 + d, r.2 + d) = shK C (k + 1) d := by
  obtain ⟨hk, rfl⟩ := List.getElem?_eq_some_iff.1 h
  unfold shK
  apply List.ext_getElem
  · simp
  · intro i h1 h2
    rw [List.getElem_set]
    simp only [List.getElem_mapIdx]
    by_cases hik : k = i
    · subst hik; simp
    · rw [if_neg hik]
      by_cases q : i < k
      · rw [if_pos q, if_pos (by omega)]
      · rw [if_neg q, if_neg (by omega)]
theorem shK_all (C : List (Int × Int)) (d : Int) : shK C C.length d = C.map fun r => (r.1 + d, r.2 + d) := by
  unfold shK
  apply List.ext_getElem
  · simp
  · intro i h1 h2
    simp only [List.length_mapIdx] at h1
    simp [h1]
theorem in_map_shift (C : List (Int × Int)) (d c : Int) : In (C.map fun r => (r.1 + d, r.2 + d)) c ↔ In C (c - d) := by
  unfold In
  constructor
  · rintro ⟨r, hr, h1, h2⟩
    obtain ⟨x, hx, rfl⟩ := List.mem_map.1 hr
    exact ⟨x, hx, by simp only at h1 h2; omega, by simp only at h1 h2; omega⟩
  · rintro ⟨r, hr, h1, h2⟩
    exact ⟨_, List.mem_map.2 ⟨r, hr, rfl⟩, by simp only; omega, by simp only; omega⟩

set_option maxRecDepth 100000 in
set_option maxHeartbeats 1000000 in
theorem moved_c {w : World} {v : Value} {L : List (Int × Int)} {a b d : Int} (h : ArgR w v L) (hF : Fit L) (hl : L.length + 2 ≤ 8796093022208) (h0 : 65 ≤ a) (hab : a ≤ b) (h1 : b ≤ 122) (hd1 : -32 ≤ d) (hd2 : d ≤ 32) :
    Calls Tryz.prog 59 #[v, .agg #[.int .i64 a, .int .i64 b], .int .i64 d] w fun e w' => ∃ v' D, e = .returned v' ∧ RR w.heap.size w' v' D ∧ Fit D ∧ (∀ c, In D c ↔ In L (c - d) ∧ a ≤ c - d ∧ c - d ≤ b) ∧ D.length ≤ L.length + 1 ∧ Below w.heap.size w w' := by
  have H : Hid (ArgR w v L ∧ Fit L) := ⟨h, hF⟩
  have FB : Hid (Fit [(a, b)]) := fit_one (by omega)
  have B2 : Hid (Below w.heap.size w ((w.alloc (.cells #[.int .i64 a, .int .i64 b] 39)).alloc (.cells #[.int .i64 a, .int .i64 b] 39))) := ((Below.refl _ _).alloc (Nat.le_refl _) _).alloc (by simp) _
  have AB : Hid (ArgR ((w.alloc (.cells #[.int .i64 a, .int .i64 b] 39)).alloc (.cells #[.int .i64 a, .int .i64 b] 39)) (.slice (some ⟨w.heap.size + 1, 0, none⟩) 1 1) [(a, b)]) := hide <| by
    have : RR w.heap.size ((w.alloc (.cells #[.int .i64 a, .int .i64 b] 39)).alloc (.cells #[.int .i64 a, .int .i64 b] 39)) (.slice (some ⟨(w.alloc (.cells #[.int .i64 a, .int .i64 b] 39)).heap.size, 0, none⟩) 1 1) [(a, b)] := World.ownsRow_lit _ #[.int .i64 a, .int .i64 b] 1 (by simp) (by unfold maxLen; omega) rfl
    simpa using this.arg
  clear h hF
  go_enter Tryz.func59, Tryz.ntmps59
  go_wp2_with (go_at_call 74; refine (and_c (H.out.1.kept B2.out) AB.out H.out.2 FB.out (by simp; omega)).mono ?_; rintro e w5 ⟨v5, C, rfl, p1, p2, p3, p4⟩; obtain ⟨q5, c5, rfl⟩ := p1.shape; have X5 : Hid (RR w.heap.size w5 (.slice q5 C.length c5) C ∧ IsC C (fun c => In L c ∧ In [(a, b)] c) ∧ C.length ≤ L.length + 1 ∧ Below w.heap.size w w5) := ⟨p1.mono B2.out.size, p2, p3, chain B2.out p4 (Nat.le_refl _)⟩; clear p1 p2 p3 p4)
  have hcl := X5.out.2.2.1
  have BD : Hid (∀ (i : Nat) (r : Int × Int), C[i]? = some r → (a ≤ r.1 ∧ r.1 ≤ b) ∧ (a ≤ r.2 ∧ r.2 ≤ b)) := fun i r hr => by
    have hm := List.mem_of_getElem? hr
    have hs := X5.out.2.1.cls.some r hm
    have p := ((X5.out.2.1.mem r.1).1 ⟨r, hm, Int.le_refl _, hs⟩).2
    have q := ((X5.out.2.1.mem r.2).1 ⟨r, hm, hs, Int.le_refl _⟩).2
    rw [in_one] at p q
    exact ⟨p, q⟩
  go_loopw [15] (fun i wr => ∃ k : Nat, k ≤ C.length ∧ i = .int .i64 k ∧ RR w.heap.size wr (.slice q5 C.length c5) (shK C k d) ∧ Below w.heap.size w wr) (fun i _ => C.length - (intOf i).toNat)
  case atStart => exact ⟨0, Nat.zero_le _, rfl, by rw [shK_zero]; exact X5.out.1, X5.out.2.2.2⟩
  case round =>
    obtain ⟨k, hk, rfl, hrr, hb⟩ := hrel
    have RK : Hid (RR w.heap.size wr (.slice q5 C.length c5) (shK C k d)) := hrr
    have B : Hid (Below w.heap.size w wr) := hb
    clear hrr hb
    by_cases hlt : k < C.length
    · obtain ⟨r, hr⟩ : ∃ r, C[k]? = some r := ⟨_, List.getElem?_eq_getElem hlt⟩
      have hbd := BD.out k r hr
      have OW : Hid (wr.ownsRow w.heap.size 39 2 (.slice q5 C.length c5) C.length (cellsR (shK C k d))) := hide (by have := RK.out; unfold RR at this; rwa [shK_length] at this)
      obtain ⟨g, c', e⟩ := ownsRow_some OW.out (by omega)
      cases e
      obtain ⟨z1, z2⟩ := cellsR_get _ k r (shK_get hr d)
      have d1 := ownsRow_cell OW.out z1
      have d2 := ownsRow_cell OW.out z2
      rw [Nat.mul_comm] at d1 d2
      have f1 := OW.out.frozenAt (k * 2)
      have f2 := OW.out.frozenAt (k * 2 + 1)
      have O2 : Hid ((((wr.setCell ⟨g, k * 2, none⟩ (.int .i64 (r.1 + d))).setCell ⟨g, k * 2 + 1, none⟩ (.int .i64 (r.2 + d)))).ownsRow w.heap.size 39 2 (.slice (some ⟨g, 0, none⟩) C.length c5) C.length (cellsR (shK C (k + 1) d))) := hide (by
        have := ((OW.out.stored (k * 2) (.int .i64 (r.1 + d))).1.stored (k * 2 + 1) (.int .i64 (r.2 + d))).1
        rwa [cellsR_set, shK_set hr] at this)
      have hgb := (ownsRow_at OW.out rfl).1
      have hgs := (ownsRow_at OW.out rfl).2.1
      have FB2 : Hid (Below w.heap.size w ((wr.setCell ⟨g, k * 2, none⟩ (.int .i64 (r.1 + d))).setCell ⟨g, k * 2 + 1, none⟩ (.int .i64 (r.2 + d)))) := (B.out.setCell (p := ⟨g, k * 2, none⟩) hgb _).setCell (p := ⟨g, k * 2 + 1, none⟩) hgb _
      obtain ⟨r1, r2⟩ := r
      dsimp only at d1 d2 hbd
      have w1 : IntKind.wrap .i64 (r1 + d) = r1 + d := by rw [IntKind.wrap_i64]; omega
      have w2 : IntKind.wrap .i64 (r2 + d) = r2 + d := by rw [IntKind.wrap_i64]; omega
      have i0 : (0 : Int) ≤ (k : Int) := by omega
      have i1 : (k : Int) < (C.length : Int) := by omega
      clear z1 z2 hr hbd
      go_wp2
      go_roundw
      case rel => exact ⟨k + 1, by omega, by go_num, rr_of O2.out (shK_length C (k + 1) d), FB2.out⟩
      case measure => simp [intOf]; omega
    · have i1 : ¬ (k : Int) < (C.length : Int) := by omega
      obtain rfl : k = C.length := by omega
      rw [shK_all] at RK
      go_wp2
      go_ret
      refine ⟨_, rfl, _, RK.out, fun r hr => ?_, fun c => ?_, by simp; omega, B.out⟩
      · obtain ⟨x, hx, e⟩ := List.mem_map.1 hr
        subst e
        obtain ⟨i, hi⟩ := List.getElem?_of_mem hx
        have := BD.out i x hi
        simp only
        omega
      · rw [in_map_shift, X5.out.2.1.mem, in_one]
end Go.Proofs.YtloeajhmmjdlgaaGreatDoor
namespace Go.Proofs.YtloeajhmmjdlgaaGreatDoor
open Go Go.RowKit
attribute [local go_sem] ext_cell

theorem take_eq_next {A B : List (Int × Int)} {k : Nat} {a b : Int × Int} (ha : A[k]? = some a) (hb : B[k]? = some b) (h : A.take k = B.take k) : A.take (k + 1) = B.take (k + 1) ↔ a = b := by
  obtain ⟨h1, rfl⟩ := List.getElem?_eq_some_iff.1 ha
  obtain ⟨h2, rfl⟩ := List.getElem?_eq_some_iff.1 hb
  rw [take_next A k h1, take_next B k h2, h]
  simp only [List.append_cancel_left_eq, List.cons.injEq, and_true]

end Go.Proofs.YtloeajhmmjdlgaaGreatDoor
namespace Go.Proofs.YtloeajhmmjdlgaaGreatDoor
open Go Go.RowKit

/-- What Fold tells. -/
def foldP (L : List (Int × Int)) (c : Int) : Prop := In L c ∨ (In L (c - 32) ∧ 65 ≤ c - 32 ∧ c - 32 ≤ 90) ∨ (In L (c + 32) ∧ 97 ≤ c + 32 ∧ c + 32 ≤ 122)
theorem three_args {w : World} {va vb vc : Value} {A B C : List (Int × Int)} (ha : ArgR w va A) (hb : ArgR w vb B) (hc : ArgR w vc C) (t : TypeId) : ∀ (i : Nat) (p : Value × List (Int × Int)), [(va, A), (vb, B), (vc, C)][i]? = some p → (w.alloc (.cells #[va, vb, vc] t)).cell? ⟨w.heap.size, i, none⟩ = some p.1 ∧ ArgR (w.alloc (.cells #[va, vb, vc] t)) p.1 p.2 := by
  have B1 : Below w.heap.size w (w.alloc (.cells #[va, vb, vc] t)) := (Below.refl _ _).alloc (Nat.le_refl _) _
  intro i p hp
  match i, hp with
  | 0, hp => simp at hp; subst hp; exact ⟨cell_row (alloc_new w _) (i := 0) rfl, ha.kept B1⟩
  | 1, hp => simp at hp; subst hp; exact ⟨cell_row (alloc_new w _) (i := 1) rfl, hb.kept B1⟩
  | 2, hp => simp at hp; subst hp; exact ⟨cell_row (alloc_new w _) (i := 2) rfl, hc.kept B1⟩
theorem concat3 {w : World} {va vb vc : Value} {A B C : List (Int × Int)} (ha : ArgR w va A) (hb : ArgR w vb B) (hc : ArgR w vc C) (hl : A.length + B.length + C.length + 1 ≤ 8796093022208) :
    Calls Tryz.prog 61 #[.slice (some ⟨w.heap.size, 0, none⟩) 3 3] (w.alloc (.cells #[va, vb, vc] 35)) fun e w' => ∃ v, e = .returned v ∧ RR w.heap.size w' v (A ++ (B ++ C)) ∧ Below w.heap.size w w' :=
  (concat_c (V := [(va, A), (vb, B), (vc, C)]) (m := 3) rfl (three_args ha hb hc 35) (by simp) (by omega) (by simp [flat]; omega)).mono fun e w' ⟨v, h1, h2, h3⟩ => ⟨v, h1, by have := h2.mono (base' := w.heap.size) (by simp); simpa [flat] using this, chain ((Below.refl _ _).alloc (Nat.le_refl _) _) h3 (Nat.le_refl _)⟩

set_option maxHeartbeats 1000000 in
theorem fold_c {w : World} {v : Value} {L : List (Int × Int)} (h : ArgR w v L) (hF : Fit L) (hl : 3 * L.length + 9 ≤ 8796093022208) :
    Calls Tryz.prog 43 #[v] w (Gets w (foldP L) (3 * L.length + 2)) := by
  obtain ⟨q1, k1, e1, -, -, -⟩ := h.slice
  subst e1
  have H : Hid (ArgR w (.slice q1 L.length k1) L ∧ Fit L) := ⟨h, hF⟩
  have hl1 : L.length + 2 ≤ 8796093022208 := by omega
  clear h hF
  go_enter Tryz.func43, Tryz.ntmps43
  go_wp2_with first
    | (have hx := X5.out; clear hx; go_at_call 59; have hih := moved_c (a := 97) (b := 122) (d := -32) (H.out.1.kept X5.out.2.2.2.2) H.out.2 hl1 (by omega) (by omega) (by omega) (by omega) (by omega); refine hih.mono ?_; clear hih; rintro e w6 ⟨v6, D6, rfl, h1, h2, h3, h4, h5⟩; obtain ⟨q6, c6, rfl⟩ := h1.shape; have X6 : Hid (RR w5.heap.size w6 (.slice q6 D6.length c6) D6 ∧ Fit D6 ∧ (∀ c, In D6 c ↔ In L (c - -32) ∧ 97 ≤ c - -32 ∧ c - -32 ≤ 122) ∧ D6.length ≤ L.length + 1 ∧ Below w5.heap.size w5 w6) := ⟨h1, h2, h3, h4, h5⟩; clear h1 h2 h3 h4 h5)
    | (go_at_call 59; have hih := moved_c (a := 65) (b := 90) (d := 32) H.out.1 H.out.2 hl1 (by omega) (by omega) (by omega) (by omega) (by omega); refine hih.mono ?_; clear hih; rintro e w5 ⟨v5, D5, rfl, h1, h2, h3, h4, h5⟩; obtain ⟨q5, c5, rfl⟩ := h1.shape; have X5 : Hid (RR w.heap.size w5 (.slice q5 D5.length c5) D5 ∧ Fit D5 ∧ (∀ c, In D5 c ↔ In L (c - 32) ∧ 65 ≤ c - 32 ∧ c - 32 ≤ 90) ∧ D5.length ≤ L.length + 1 ∧ Below w.heap.size w w5) := ⟨h1, h2, h3, h4, h5⟩; clear h1 h2 h3 h4 h5)
    | (go_at_call 61; refine (concat3 ((H.out.1.kept X5.out.2.2.2.2).kept X6.out.2.2.2.2) (X5.out.1.kept X6.out.2.2.2.2).arg X6.out.1.arg (by have := X5.out.2.2.2.1; have := X6.out.2.2.2.1; omega)).mono ?_; rintro e w7 ⟨v7, rfl, h1, h2⟩; have X7 : Hid (RR w6.heap.size w7 v7 (L ++ (D5 ++ D6)) ∧ Below w6.heap.size w6 w7) := ⟨h1, h2⟩; clear h1 h2)
    | (go_at_call 60; refine (classOf_c X7.out.1.arg (fit_append H.out.2 (fit_append X5.out.2.1 X6.out.2.1)) (by have := X5.out.2.2.2.1; have := X6.out.2.2.2.1; simp; omega)).mono ?_; rintro e w8 ⟨v8, C8, rfl, h1, h2, h3, h4⟩; have X8 : Hid (RR w7.heap.size w8 v8 C8 ∧ IsC C8 (In (L ++ (D5 ++ D6))) ∧ C8.length ≤ (L ++ (D5 ++ D6)).length ∧ Below w7.heap.size w7 w8) := ⟨h1, h2, h3, h4⟩; clear h1 h2 h3 h4)
  go_ret
  have B7 := chain (chain X5.out.2.2.2.2 X6.out.2.2.2.2 (Nat.le_refl _)) X7.out.2 (Nat.le_refl _)
  refine ⟨_, _, rfl, X8.out.1.mono B7.size, X8.out.2.1.to fun c => ?_, ?_, chain B7 X8.out.2.2.2 (Nat.le_refl _)⟩
  · rw [in_append, in_append, X5.out.2.2.1, X6.out.2.2.1]
    unfold foldP
    rw [show c - -32 = c + 32 by omega]
  · have := X8.out.2.2.1
    have := X5.out.2.2.2.1
    have := X6.out.2.2.2.1
    simp at *
    omega

end Go.Proofs.YtloeajhmmjdlgaaGreatDoor
namespace Go.Proofs.YtloeajhmmjdlgaaGreatDoor
open Go Go.RowKit
attribute [local go_sem] ext_cell

def isL (base : Nat) (w : World) (v : Value) (L : List (Int × Int)) : Prop := RR base w v L ∧ Fit L ∧ 0 < L.length ∧ L.length ≤ 4
/-- A token's value. -/
def TkAt (base : Nat) (w : World) (v : Value) (t : Tk) : Prop := ∃ rv C, v = tkV t 0 0 rv ∧ RR base w rv C ∧ IsC C t.q
theorem isC_none : IsC [] (fun _ => False) := ⟨cls_nil, fit_nil, fun c => ⟨fun h => in_nil c h, fun h => h.elim⟩⟩
theorem tkAt_nil (base : Nat) (w : World) {t : Tk} (ht : t.q = fun _ => False) : TkAt base w (tkV t 0 0 (.slice none 0 0)) t := ⟨_, [], rfl, RR.nil _ _, by rw [ht]; exact isC_none⟩

abbrev tokZ : Obj := .cells #[.int .i64 0, .int .i64 0, .int .i64 0, .int .i64 0, .int .i64 0, .int .i64 0, .slice none 0 0] 37
/-- A token's place that nothing has been laid into. -/
def TZ (w : World) (g : Nat) : Prop := w.heap[g]? = some tokZ
theorem TZ.all {w : World} {g : Nat} (h : TZ w g) : w.cell? ⟨g, 0, none⟩ = some (.int .i64 0) ∧ w.cell? ⟨g, 1, none⟩ = some (.int .i64 0) ∧ w.cell? ⟨g, 2, none⟩ = some (.int .i64 0) ∧ w.cell? ⟨g, 3, none⟩ = some (.int .i64 0) ∧ w.cell? ⟨g, 4, none⟩ = some (.int .i64 0) ∧ w.cell? ⟨g, 5, none⟩ = some (.int .i64 0) ∧ w.cell? ⟨g, 6, none⟩ = some (.slice none 0 0) ∧
    w.frozen? ⟨g, 0, none⟩ = false ∧ w.frozen? ⟨g, 1, none⟩ = false ∧ w.frozen? ⟨g, 2, none⟩ = false ∧ w.frozen? ⟨g, 3, none⟩ = false ∧ w.frozen? ⟨g, 4, none⟩ = false ∧ w.frozen? ⟨g, 5, none⟩ = false ∧ w.frozen? ⟨g, 6, none⟩ = false :=
  ⟨cell_row h (i := 0) rfl, cell_row h (i := 1) rfl, cell_row h (i := 2) rfl, cell_row h (i := 3) rfl, cell_row h (i := 4) rfl, cell_row h (i := 5) rfl, cell_row h (i := 6) rfl, frz_row h 0, frz_row h 1, frz_row h 2, frz_row h 3, frz_row h 4, frz_row h 5, frz_row h 6⟩
theorem TZ.kept {w w' : World} {g n : Nat} (h : TZ w g) (hb : Below n w w') (hn : g < n) : TZ w' g := (hb.block g hn).trans h
theorem TZ.fr {w w' : World} {g : Nat} {S : Nat → Prop} (h : TZ w g) (hb : Fr S w w') (hn : ¬ S g) : TZ w' g := (hb.block g (lt_of_heap h) hn).trans h
theorem TZ.new (w : World) : TZ (w.alloc tokZ) w.heap.size := alloc_new _ _
abbrev put7 (w : World) (g : Nat) (a b c d e f x : Value) : World := ((((((w.setCell ⟨g, 0, none⟩ a).setCell ⟨g, 1, none⟩ b).setCell ⟨g, 2, none⟩ c).setCell ⟨g, 3, none⟩ d).setCell ⟨g, 4, none⟩ e).setCell ⟨g, 5, none⟩ f).setCell ⟨g, 6, none⟩ x
theorem put7_heap {w : World} {g : Nat} (h : TZ w g) (a b c d e f x : Value) : (put7 w g a b c d e f x).heap[g]? = some (.cells #[a, b, c, d, e, f, x] 37 (0, 0)) :=
  heap_set_in (heap_set_in (heap_set_in (heap_set_in (heap_set_in (heap_set_in (heap_set_in h 0 a) 1 b) 2 c) 3 d) 4 e) 5 f) 6 x
theorem put7_cells {w : World} {g : Nat} (h : TZ w g) (a b c d e f x : Value) : (put7 w g a b c d e f x).cell? ⟨g, 0, none⟩ = some a ∧ (put7 w g a b c d e f x).cell? ⟨g, 1, none⟩ = some b ∧ (put7 w g a b c d e f x).cell? ⟨g, 2, none⟩ = some c ∧ (put7 w g a b c d e f x).cell? ⟨g, 3, none⟩ = some d ∧ (put7 w g a b c d e f x).cell? ⟨g, 4, none⟩ = some e ∧ (put7 w g a b c d e f x).cell? ⟨g, 5, none⟩ = some f ∧ (put7 w g a b c d e f x).cell? ⟨g, 6, none⟩ = some x := by
  have k := put7_heap h a b c d e f x
  exact ⟨cell_row k (i := 0) rfl, cell_row k (i := 1) rfl, cell_row k (i := 2) rfl, cell_row k (i := 3) rfl, cell_row k (i := 4) rfl, cell_row k (i := 5) rfl, cell_row k (i := 6) rfl⟩
theorem fr7 {S : Nat → Prop} {a w : World} {g : Nat} (h : Fr S a w) (hg : S g ∨ a.heap.size ≤ g) (x0 x1 x2 x3 x4 x5 x6 : Value) : Fr S a (put7 w g x0 x1 x2 x3 x4 x5 x6) := by
  rcases hg with hg | hg
  · exact ((((((h.setCell (p := ⟨g, 0, none⟩) hg _).setCell (p := ⟨g, 1, none⟩) hg _).setCell (p := ⟨g, 2, none⟩) hg _).setCell (p := ⟨g, 3, none⟩) hg _).setCell (p := ⟨g, 4, none⟩) hg _).setCell (p := ⟨g, 5, none⟩) hg _).setCell (p := ⟨g, 6, none⟩) hg _
  · exact ((((((h.setNew (p := ⟨g, 0, none⟩) hg _).setNew (p := ⟨g, 1, none⟩) hg _).setNew (p := ⟨g, 2, none⟩) hg _).setNew (p := ⟨g, 3, none⟩) hg _).setNew (p := ⟨g, 4, none⟩) hg _).setNew (p := ⟨g, 5, none⟩) hg _).setNew (p := ⟨g, 6, none⟩) hg _
theorem below7 {w w' : World} {g : Nat} (h : Below w.heap.size w w') (hg : w.heap.size ≤ g) (x0 x1 x2 x3 x4 x5 x6 : Value) : Below w.heap.size w (put7 w' g x0 x1 x2 x3 x4 x5 x6) :=
  (fr7 (S := fun _ => False) (Fr.of_below h) (.inr hg) x0 x1 x2 x3 x4 x5 x6).below (Nat.le_refl _) (fun _ h => h.elim)
theorem rr7 {base : Nat} {w : World} {v : Value} {C : List (Int × Int)} {g : Nat} (h : RR base w v C) (hg : g < base) (x0 x1 x2 x3 x4 x5 x6 : Value) : RR base (put7 w g x0 x1 x2 x3 x4 x5 x6) v C :=
  h.fr (S := fun k => k = g) (fr7 (S := fun k => k = g) (Fr.refl _ w) (.inl rfl) x0 x1 x2 x3 x4 x5 x6) fun k hk e => by have := (ownsRow_at h hk).1; omega

set_option maxRecDepth 100000 in
set_option maxHeartbeats 2000000 in
theorem set_c {w : World} {b : Nat} {s : ByteArray} {m : Md} {p : Nat} {tv : Value} (h : RD w b s m p tv) {v : Value} {L : List (Int × Int)} (ha : ArgR w v L) (hF : Fit L) (hl : L.length ≤ 100000) (t : Bool) :
    Calls Tryz.prog 31 #[.pointer (some ⟨b, 0, none⟩), v, .bool t] w fun e w' => ∃ v', e = .returned v' ∧ TkAt w.heap.size w' v' (setT m L t) ∧ Below w.heap.size w w' := by
  obtain ⟨mc, mf⟩ := m
  have W1 : Below w.heap.size w (w.alloc (.cells #[.int .i64 0, .int .i64 0, .int .i64 0, .int .i64 0, .int .i64 0, .int .i64 0, .slice none 0 0] 37)) := (Below.refl _ _).alloc (Nat.le_refl _) _
  have lb := h.lt
  have c1 := (h.kept W1).c1
  have c2 := (h.kept W1).c2
  obtain ⟨q0, k0, rfl, -, -, -⟩ := ha.slice
  have H : Hid (RD w b s ⟨mc, mf⟩ p tv ∧ ArgR w (.slice q0 L.length k0) L ∧ Fit L) := ⟨h, ha, hF⟩
  clear h ha hF
  simp only at c1 c2
  have GN : Hid (∀ W v' L', Below w.heap.size w W → ArgR W v' L' → Fit L' → L'.length ≤ 300002 → Calls Tryz.prog 45 #[v', .bool mc] W (Gets W (fun c => In L' c ∧ isChar mc c) (L'.length + 2))) := fun W v' L' _ h1 h2 h3 => norm_c h1 h2 (by omega)
  have GT : Hid (∀ W v' L', Below w.heap.size w W → ArgR W v' L' → Fit L' → L'.length ≤ 300002 → Calls Tryz.prog 44 #[v', .bool mc] W (Gets W (fun c => isChar mc c ∧ ¬ In L' c) (L'.length + 3))) := fun W v' L' _ h1 h2 h3 => not_c h1 h2 (by omega)
  have GF : Hid (∀ W, Below w.heap.size w W → Calls Tryz.prog 43 #[.slice q0 L.length k0] W (Gets W (foldP L) (3 * L.length + 2))) := fun W hW => fold_c (H.out.2.1.kept hW) H.out.2.2 (by omega)
  have HW1 : Hid (Below w.heap.size w (w.alloc tokZ)) := W1
  clear W1
  cases mf with
  | true =>
    cases t with
    | true =>
      go_enter Tryz.func31, Tryz.ntmps31
      go_wp2_with first
        | (go_at_call 43; (with_reducible refine (GF.out _ HW1.out).mono ?_); rintro e w5 ⟨v5, C5, rfl, h1, h2, h3, h4⟩; obtain ⟨q5, k5, rfl⟩ := h1.shape; have X5 : Hid (ArgR w5 (.slice q5 C5.length k5) C5 ∧ IsC C5 (foldP L) ∧ C5.length ≤ 3 * L.length + 2 ∧ Below w.heap.size w w5 ∧ TZ w5 w.heap.size) := ⟨h1.arg, h2, h3, chain HW1.out h4 (Nat.le_refl _), (TZ.new w).kept h4 (by simp)⟩; have d1 := (H.out.1.kept X5.out.2.2.2.1).c1; clear h1 h2 h3 h4)
        | (go_at_call 44; (with_reducible refine (GT.out _ _ _ X5.out.2.2.2.1 X5.out.1 X5.out.2.1.fit (by have := X5.out.2.2.1; omega)).mono ?_); rintro e w6 ⟨v6, C6, rfl, h1, h2, h3, h4⟩; obtain ⟨q6, k6, rfl⟩ := h1.shape; have X6 : Hid (RR w5.heap.size w6 (.slice q6 C6.length k6) C6 ∧ IsC C6 (fun c => isChar mc c ∧ ¬ In C5 c) ∧ Below w.heap.size w w6 ∧ w.heap.size < w5.heap.size ∧ TZ w6 w.heap.size) := ⟨h1, h2, chain X5.out.2.2.2.1 h4 (Nat.le_refl _), lt_of_heap X5.out.2.2.2.2, X5.out.2.2.2.2.kept h4 (lt_of_heap X5.out.2.2.2.2)⟩; obtain ⟨z0, z1, z2, z3, z4, z5, z6, y0, y1, y2, y3, y4, y5, y6⟩ := (X5.out.2.2.2.2.kept h4 (lt_of_heap X5.out.2.2.2.2)).all; clear h1 h2 h3 h4)
      refine bodyPost_ret (v := tkV (setT ⟨mc, true⟩ L true) 0 0 (.slice q6 C6.length k6)) (by obtain ⟨e0, e1, e2, e3, e4, e5, e6⟩ := put7_cells X6.out.2.2.2.2 (.int .i64 1) (.int .i64 0) (.int .i64 0) (.int .i64 0) (.int .i64 0) (.int .i64 0) (.slice q6 C6.length k6); simp [results, Tryz.results31, go_sem, tkV, setT, e0, e1, e2, e3, e4, e5, e6]) rfl ⟨_, rfl, ⟨_, C6, rfl, RR.mono (rr7 X6.out.1 X6.out.2.2.2.1 _ _ _ _ _ _ _) (Nat.le_of_lt X6.out.2.2.2.1), X6.out.2.1.to fun c => ?_⟩, below7 X6.out.2.2.1 (Nat.le_refl _) _ _ _ _ _ _ _⟩
      simp only [setT, setQ, if_true]
      rw [X5.out.2.1.mem]
      exact Iff.rfl
    | false =>
      go_enter Tryz.func31, Tryz.ntmps31
      go_wp2_with first
        | (go_at_call 43; (with_reducible refine (GF.out _ HW1.out).mono ?_); rintro e w5 ⟨v5, C5, rfl, h1, h2, h3, h4⟩; obtain ⟨q5, k5, rfl⟩ := h1.shape; have X5 : Hid (ArgR w5 (.slice q5 C5.length k5) C5 ∧ IsC C5 (foldP L) ∧ C5.length ≤ 3 * L.length + 2 ∧ Below w.heap.size w w5 ∧ TZ w5 w.heap.size) := ⟨h1.arg, h2, h3, chain HW1.out h4 (Nat.le_refl _), (TZ.new w).kept h4 (by simp)⟩; have d1 := (H.out.1.kept X5.out.2.2.2.1).c1; clear h1 h2 h3 h4)
        | (go_at_call 45; (with_reducible refine (GN.out _ _ _ X5.out.2.2.2.1 X5.out.1 X5.out.2.1.fit (by have := X5.out.2.2.1; omega)).mono ?_); rintro e w6 ⟨v6, C6, rfl, h1, h2, h3, h4⟩; obtain ⟨q6, k6, rfl⟩ := h1.shape; have X6 : Hid (RR w5.heap.size w6 (.slice q6 C6.length k6) C6 ∧ IsC C6 (fun c => In C5 c ∧ isChar mc c) ∧ Below w.heap.size w w6 ∧ w.heap.size < w5.heap.size ∧ TZ w6 w.heap.size) := ⟨h1, h2, chain X5.out.2.2.2.1 h4 (Nat.le_refl _), lt_of_heap X5.out.2.2.2.2, X5.out.2.2.2.2.kept h4 (lt_of_heap X5.out.2.2.2.2)⟩; obtain ⟨z0, z1, z2, z3, z4, z5, z6, y0, y1, y2, y3, y4, y5, y6⟩ := (X5.out.2.2.2.2.kept h4 (lt_of_heap X5.out.2.2.2.2)).all; clear h1 h2 h3 h4)
      refine bodyPost_ret (v := tkV (setT ⟨mc, true⟩ L false) 0 0 (.slice q6 C6.length k6)) (by obtain ⟨e0, e1, e2, e3, e4, e5, e6⟩ := put7_cells X6.out.2.2.2.2 (.int .i64 1) (.int .i64 0) (.int .i64 0) (.int .i64 0) (.int .i64 0) (.int .i64 0) (.slice q6 C6.length k6); simp [results, Tryz.results31, go_sem, tkV, setT, e0, e1, e2, e3, e4, e5, e6]) rfl ⟨_, rfl, ⟨_, C6, rfl, RR.mono (rr7 X6.out.1 X6.out.2.2.2.1 _ _ _ _ _ _ _) (Nat.le_of_lt X6.out.2.2.2.1), X6.out.2.1.to fun c => ?_⟩, below7 X6.out.2.2.1 (Nat.le_refl _) _ _ _ _ _ _ _⟩
      simp only [setT, setQ, if_true, Bool.false_eq_true, if_false]
      rw [X5.out.2.1.mem]
      exact And.comm
  | false =>
    cases t with
    | true =>
      go_enter Tryz.func31, Tryz.ntmps31
      go_wp2_with first
        | (go_at_call 44; (with_reducible refine (GT.out _ _ _ HW1.out (H.out.2.1.kept HW1.out) H.out.2.2 (by omega)).mono ?_); rintro e w6 ⟨v6, C6, rfl, h1, h2, h3, h4⟩; obtain ⟨q6, k6, rfl⟩ := h1.shape; have X6 : Hid (RR (w.alloc tokZ).heap.size w6 (.slice q6 C6.length k6) C6 ∧ IsC C6 (fun c => isChar mc c ∧ ¬ In L c) ∧ Below w.heap.size w w6 ∧ w.heap.size < (w.alloc tokZ).heap.size ∧ TZ w6 w.heap.size) := ⟨h1, h2, chain HW1.out h4 (Nat.le_refl _), lt_of_heap (TZ.new w), (TZ.new w).kept h4 (lt_of_heap (TZ.new w))⟩; obtain ⟨z0, z1, z2, z3, z4, z5, z6, y0, y1, y2, y3, y4, y5, y6⟩ := ((TZ.new w).kept h4 (lt_of_heap (TZ.new w))).all; clear h1 h2 h3 h4)
      refine bodyPost_ret (v := tkV (setT ⟨mc, false⟩ L true) 0 0 (.slice q6 C6.length k6)) (by obtain ⟨e0, e1, e2, e3, e4, e5, e6⟩ := put7_cells X6.out.2.2.2.2 (.int .i64 1) (.int .i64 0) (.int .i64 0) (.int .i64 0) (.int .i64 0) (.int .i64 0) (.slice q6 C6.length k6); simp [results, Tryz.results31, go_sem, tkV, setT, e0, e1, e2, e3, e4, e5, e6]) rfl ⟨_, rfl, ⟨_, C6, rfl, RR.mono (rr7 X6.out.1 X6.out.2.2.2.1 _ _ _ _ _ _ _) (Nat.le_of_lt X6.out.2.2.2.1), X6.out.2.1.to fun c => ?_⟩, below7 X6.out.2.2.1 (Nat.le_refl _) _ _ _ _ _ _ _⟩
      simp [setT, setQ]
    | false =>
      go_enter Tryz.func31, Tryz.ntmps31
      go_wp2_with first
        | (go_at_call 45; (with_reducible refine (GN.out _ _ _ HW1.out (H.out.2.1.kept HW1.out) H.out.2.2 (by omega)).mono ?_); rintro e w6 ⟨v6, C6, rfl, h1, h2, h3, h4⟩; obtain ⟨q6, k6, rfl⟩ := h1.shape; have X6 : Hid (RR (w.alloc tokZ).heap.size w6 (.slice q6 C6.length k6) C6 ∧ IsC C6 (fun c => In L c ∧ isChar mc c) ∧ Below w.heap.size w w6 ∧ w.heap.size < (w.alloc tokZ).heap.size ∧ TZ w6 w.heap.size) := ⟨h1, h2, chain HW1.out h4 (Nat.le_refl _), lt_of_heap (TZ.new w), (TZ.new w).kept h4 (lt_of_heap (TZ.new w))⟩; obtain ⟨z0, z1, z2, z3, z4, z5, z6, y0, y1, y2, y3, y4, y5, y6⟩ := ((TZ.new w).kept h4 (lt_of_heap (TZ.new w))).all; clear h1 h2 h3 h4)
      refine bodyPost_ret (v := tkV (setT ⟨mc, false⟩ L false) 0 0 (.slice q6 C6.length k6)) (by obtain ⟨e0, e1, e2, e3, e4, e5, e6⟩ := put7_cells X6.out.2.2.2.2 (.int .i64 1) (.int .i64 0) (.int .i64 0) (.int .i64 0) (.int .i64 0) (.int .i64 0) (.slice q6 C6.length k6); simp [results, Tryz.results31, go_sem, tkV, setT, e0, e1, e2, e3, e4, e5, e6]) rfl ⟨_, rfl, ⟨_, C6, rfl, RR.mono (rr7 X6.out.1 X6.out.2.2.2.1 _ _ _ _ _ _ _) (Nat.le_of_lt X6.out.2.2.2.1), X6.out.2.1.to fun c => ?_⟩, below7 X6.out.2.2.1 (Nat.le_refl _) _ _ _ _ _ _ _⟩
      simp only [setT, setQ, Bool.false_eq_true, if_false]
      exact And.comm
end Go.Proofs.YtloeajhmmjdlgaaGreatDoor
