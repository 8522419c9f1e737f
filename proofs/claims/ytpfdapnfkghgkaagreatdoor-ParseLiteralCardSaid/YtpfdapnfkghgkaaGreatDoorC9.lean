/-
  rest, as it runs. The library's Grow, as it lies in this program (laid by program). slices.Concat of lists of ranges. Norm, Or, And, Less, Not: each makes a class. moved, Fold: letters in both cases. slices.Equal of lists of ranges; dredgeref06.Alike. Fold; Same, Right; Count. Count: how many numbers there are. Has: is a number in one of some ranges? rising; Right and Same where the answer is known. How many characters there are in classes of a mode.
-/
import Derived.Test.YtpfdapnfkghgkaaGreatDoorC7
import Derived.Shelf.Spec.SlicesGrow
import Derived.Test.YtpfdapnfkghgkaaGreatDoorProg
import Derived.Laws.AppendOwnNone
import Derived.Test.YtpfdapnfkghgkaaGreatDoorC8
import Derived.Test.YtpfdapnfkghgkaaGreatDoorC1
import Derived.Test.YtpfdapnfkghgkaaGreatDoorC0
namespace Go.Proofs.YtpfdapnfkghgkaaGreatDoor
open Go Go.RowKit

theorem below_grown {w w1 w6 : World} {v : Value} {n : Nat} {xs : List Value} {t : TypeId} {size : Nat} (B : Below w.heap.size w w1) (ho : w1.ownsRow w.heap.size t size v n xs) (hg : w1.grownBy w6 v.ownBlock) : Below w.heap.size w w6 :=
  chainF B ((Fr.refl (blk v) w1).grown hg fun _ hk => hk) (Nat.le_refl _) (fun _ hk => (ownsRow_at ho hk).1)
theorem box_kept {base : Nat} {w w6 : World} {v : Value} {n size : Nat} {xs : List Value} {t tt : TypeId} {cs : Array Value} {o2 : Obj} (ho : w.ownsRow base t size v n xs) (hg : ((w.alloc (.cells cs tt)).alloc o2).grownBy w6 v.ownBlock) : w6.heap[w.heap.size]? = some (.cells cs tt (0, 0)) := by
  refine (hg.block w.heap.size (by simp; omega) ?_).trans ((Below.heap_alloc _ _ _ (by simp)).trans (alloc_new w _))
  intro e
  have := (ownsRow_at ho e.symm).2.1
  omega
theorem rr_app {base : Nat} {w : World} {n c g : Nat} {G : List (Int × Int)} {a b : Int} (h : w.ownsRow base 99 2 (.slice (some ⟨g, 0, none⟩) (G.length + 1) c) n (cellsR G ++ [.int .i64 a, .int .i64 b])) : RR base w (.slice (some ⟨g, 0, none⟩) (G.length + 1) c) (G ++ [(a, b)]) := by
  have hn : n = G.length + 1 := by have := h.1; simp [cellsR_length] at this; omega
  subst hn
  unfold RR
  rw [List.length_append, List.length_singleton, cellsR_append]
  exact h
theorem news2b (W : World) (o : Obj) (a b : Value) (t : TypeId) : ∀ (j : Nat) (u : Value), [a, b][j]? = some u → ((W.alloc o).alloc (.cells #[a, b] t)).cell? ((⟨W.heap.size + 1, 0, none⟩ : Addr).add j) = some u := by
  have := news2 (W.alloc o) a b t
  simpa using this
set_option maxRecDepth 100000 in
set_option maxHeartbeats 1000000 in
theorem rest_c {w : World} {v : Value} {C : List (Int × Int)} (h : ArgR w v C) (hC : Cls C) (hF : Fit C) (hl : C.length + 1 ≤ 8796093022208) :
    Calls Tryz.prog 130 #[v] w (Gets w (fun c => (-9223372036854775808 ≤ c ∧ c ≤ 9223372036854775807) ∧ ¬ In C c) (C.length + 1)) := by
  obtain ⟨t0, ti, hz0, hz1, hz2⟩ := info_parts size_range
  obtain ⟨q, cap, rfl, -, -, hcells⟩ := h.slice
  have HC : Hid (∀ (i : Nat) (r : Int × Int), C[i]? = some r → ∃ g off, q = some ⟨g, off, none⟩ ∧ g < w.heap.size ∧ w.cell? ⟨g, off + 2 * i, none⟩ = some (.int .i64 r.1) ∧ w.cell? ⟨g, off + 2 * i + 1, none⟩ = some (.int .i64 r.2)) := hcells
  have K : Hid (Cls C ∧ Fit C) := ⟨hC, hF⟩
  clear hcells h hC hF
  go_enter Tryz.func130, Tryz.ntmps130
  go_wp2
  go_loopw [3, 4, 9] (fun gv fv i wr => ∃ (k : Nat) (f : Int) (G : List (Int × Int)), k ≤ C.length ∧ i = .int .i64 k ∧ fv = .int .i64 f ∧ RR w.heap.size wr gv G ∧ RestI C k f G ∧ Below w.heap.size w wr) (fun _ _ i _ => C.length - (intOf i).toNat)
  case atStart => exact ⟨0, _, [], Nat.zero_le _, rfl, rfl, RR.nil _ _, RestI.start K.out.2, Below.refl _ _⟩
  case round =>
    obtain ⟨k, f, G, hk, rfl, rfl, hrr, hI, hb⟩ := hrel
    obtain ⟨qg, cg, rfl⟩ := hrr.shape
    have RG : Hid (RR w.heap.size wr (.slice qg G.length cg) G) := hrr
    have I : Hid (RestI C k f G) := hI
    have B : Hid (Below w.heap.size w wr) := hb
    have hbs : w.heap.size ≤ wr.heap.size := hb.size
    have hgl : G.length + 1 ≤ 8796093022208 := by have := hI.len; omega
    have flo := hI.lo
    have fhi := hI.hi
    clear hrr hI hb
    by_cases hlt : k < C.length
    · obtain ⟨r, hr⟩ : ∃ r, C[k]? = some r := ⟨_, List.getElem?_eq_getElem hlt⟩
      obtain ⟨g, off, rfl, hg, x1, x2⟩ := HC.out k r hr
      have d1 := (B.out.cell (p := ⟨g, off + 2 * k, none⟩) hg).trans x1
      have d2 := (B.out.cell (p := ⟨g, off + 2 * k + 1, none⟩) hg).trans x2
      rw [Nat.mul_comm] at d1 d2
      have HR : Hid (C[k]? = some r) := hr
      have hfr := K.out.2 r (List.mem_of_getElem? hr)
      obtain ⟨lo, hi⟩ := r
      dsimp only at d1 d2 hfr
      have i0 : (0 : Int) ≤ (k : Int) := by omega
      have i1 : (k : Int) < (C.length : Int) := by omega
      have GO : Hid (hi ≠ 9223372036854775807 → RestI C (k + 1) (hi + 1) (gapG f lo G)) := fun q => I.out.go HR.out K.out.1 K.out.2 q
      have FU : Hid (hi = 9223372036854775807 → IsC (gapG f lo G) (fun c => (-9223372036854775808 ≤ c ∧ c ≤ 9223372036854775807) ∧ ¬ In C c) ∧ (gapG f lo G).length ≤ C.length + 1) := fun q => ⟨I.out.full HR.out K.out.1 K.out.2 q, by have := (I.out.gap HR.out K.out.1 K.out.2).2.2.1; dsimp only at this; omega⟩
      clear x1 x2 hr
      obtain ⟨f1, f2⟩ := hfr.1
      obtain ⟨f3, f4⟩ := hfr.2
      clear hfr
      have BW : Hid (Below w.heap.size w ((wr.alloc (.cells #[.int .i64 lo, .int .i64 hi] 99)))) := B.out.alloc hbs _
      by_cases hf : f < lo
      · have wlo : IntKind.wrap .i64 (lo - 1) = lo - 1 := by rw [IntKind.wrap_i64]; omega
        have E : Hid (gapG f lo G = G ++ [(f, lo - 1)]) := gapG_pos hf
        rw [E.out] at GO FU
        by_cases hm : hi = 9223372036854775807
        · have FU2 : Hid _ := FU.out hm
          have hd : (hi == 9223372036854775807) = true := by simp [hm]
          clear hm
          go_wp2_with (at_builtin; refine wpList_append_own_at _ rfl _ _ 25 rfl w.heap.size 99 t0 (.agg #[.int .i64 0, .int .i64 0]) 2 16 und_ranges ti hz0 hz1 hz2 rfl (by decide) (.slice qg G.length cg) G.length (cellsR G) rfl (World.ownsRow.alloc (World.ownsRow.alloc RG.out (.cells #[.int .i64 lo, .int .i64 hi] 99)) (.cells #[.int .i64 f, .int .i64 (lo - 1)] 99)) ⟨wr.heap.size + 1, 0, none⟩ 1 1 [.int .i64 f, .int .i64 (lo - 1)] rfl rfl (news2b _ _ _ _ _) (by simp [Value.oneCell']) (by unfold maxLen; omega) (by omega) (by simp; omega) ?_; intro v' w6 hown' hgrow _ hblk; obtain ⟨g6, cap6, rfl⟩ := ownsRow_some hown' (Nat.succ_pos _); have A6 : Hid (RR w.heap.size w6 (.slice (some ⟨g6, 0, none⟩) (G.length + 1) cap6) (G ++ [(f, lo - 1)])) := rr_app hown'; have B6 : Hid (Below w.heap.size w w6) := below_grown (BW.out.alloc (by simp; omega) _) (World.ownsRow.alloc (World.ownsRow.alloc RG.out _) _) hgrow; have c6 : w6.cell? ⟨wr.heap.size, 1, none⟩ = some (.int .i64 hi) := cell_row (box_kept RG.out hgrow) (i := 1) rfl; clear hown' hgrow hblk)
          go_ret
          exact ⟨_, _, rfl, A6.out, FU2.out.1, FU2.out.2, B6.out⟩
        · have GO2 : Hid _ := GO.out hm
          have hd : (hi == 9223372036854775807) = false := by simp [hm]
          have whi : IntKind.wrap .i64 (hi + 1) = hi + 1 := by rw [IntKind.wrap_i64]; omega
          go_wp2_with (at_builtin; refine wpList_append_own_at _ rfl _ _ 25 rfl w.heap.size 99 t0 (.agg #[.int .i64 0, .int .i64 0]) 2 16 und_ranges ti hz0 hz1 hz2 rfl (by decide) (.slice qg G.length cg) G.length (cellsR G) rfl (World.ownsRow.alloc (World.ownsRow.alloc RG.out (.cells #[.int .i64 lo, .int .i64 hi] 99)) (.cells #[.int .i64 f, .int .i64 (lo - 1)] 99)) ⟨wr.heap.size + 1, 0, none⟩ 1 1 [.int .i64 f, .int .i64 (lo - 1)] rfl rfl (news2b _ _ _ _ _) (by simp [Value.oneCell']) (by unfold maxLen; omega) (by omega) (by simp; omega) ?_; intro v' w6 hown' hgrow _ hblk; obtain ⟨g6, cap6, rfl⟩ := ownsRow_some hown' (Nat.succ_pos _); have A6 : Hid (RR w.heap.size w6 (.slice (some ⟨g6, 0, none⟩) (G.length + 1) cap6) (G ++ [(f, lo - 1)])) := rr_app hown'; have B6 : Hid (Below w.heap.size w w6) := below_grown (BW.out.alloc (by simp; omega) _) (World.ownsRow.alloc (World.ownsRow.alloc RG.out _) _) hgrow; have c6 : w6.cell? ⟨wr.heap.size, 1, none⟩ = some (.int .i64 hi) := cell_row (box_kept RG.out hgrow) (i := 1) rfl; clear hown' hgrow hblk)
          go_roundw
          case rel => exact ⟨k + 1, hi + 1, _, by omega, by go_num, rfl, A6.out, GO2.out, B6.out⟩
          case measure => simp [intOf]; omega
      · have E : Hid (gapG f lo G = G) := gapG_neg hf
        rw [E.out] at GO FU
        have RG2 : Hid (RR w.heap.size (wr.alloc (.cells #[.int .i64 lo, .int .i64 hi] 99)) (.slice qg G.length cg) G) := World.ownsRow.alloc RG.out _
        by_cases hm : hi = 9223372036854775807
        · have FU2 : Hid _ := FU.out hm
          have hd : (hi == 9223372036854775807) = true := by simp [hm]
          clear hm
          go_wp2
          go_ret
          exact ⟨_, _, rfl, RG2.out, FU2.out.1, FU2.out.2, BW.out⟩
        · have GO2 : Hid _ := GO.out hm
          have hd : (hi == 9223372036854775807) = false := by simp [hm]
          have whi : IntKind.wrap .i64 (hi + 1) = hi + 1 := by rw [IntKind.wrap_i64]; omega
          go_wp2
          go_roundw
          case rel => exact ⟨k + 1, hi + 1, _, by omega, by go_num, rfl, RG2.out, GO2.out, BW.out⟩
          case measure => simp [intOf]; omega
    · obtain rfl : k = C.length := by omega
      have i1 : ¬ (C.length : Int) < (C.length : Int) := by omega
      have LG : Hid (G.length ≤ C.length) := I.out.len
      go_wp2_with (at_builtin; refine wpList_append_own_at _ rfl _ _ 25 rfl w.heap.size 99 t0 (.agg #[.int .i64 0, .int .i64 0]) 2 16 und_ranges ti hz0 hz1 hz2 rfl (by decide) (.slice qg G.length cg) G.length (cellsR G) rfl (World.ownsRow.alloc RG.out (.cells #[.int .i64 f, .int .i64 9223372036854775807] 99)) ⟨wr.heap.size, 0, none⟩ 1 1 [.int .i64 f, .int .i64 9223372036854775807] rfl rfl (news2 _ _ _ _) (by simp [Value.oneCell']) (by unfold maxLen; omega) (by omega) (by simp; omega) ?_; intro v' w6 hown' hgrow _ hblk; obtain ⟨g6, cap6, rfl⟩ := ownsRow_some hown' (Nat.succ_pos _); have A6 : Hid (RR w.heap.size w6 (.slice (some ⟨g6, 0, none⟩) (G.length + 1) cap6) (G ++ [(f, 9223372036854775807)])) := rr_app hown'; have B6 : Hid (Below w.heap.size w w6) := below_grown (B.out.alloc hbs _) (World.ownsRow.alloc RG.out _) hgrow; clear hown' hgrow hblk)
      go_ret
      exact ⟨_, _, rfl, A6.out, I.out.all, by have := LG.out; simp; omega, B6.out⟩
end Go.Proofs.YtpfdapnfkghgkaaGreatDoor
namespace Go.Proofs
open Go.Shelf
def Tryz.growPl_ren : Go.Shelf.Ren := ⟨fun | 4 => 119 | n => n, fun | 22 => 25 | 25 => 99 | 3 => 3 | 4 => 4 | 9 => 9 | 20 => 20 | 0 => 0 | 2 => 3 | n => n, fun | n => n⟩
theorem Tryz.growPl : Go.Proofs.Lays8.n4 Tryz.prog Tryz.growPl_ren := {
  mixed := by kernel_rfl
  f4 := ⟨Tryz.f119.name, by decide, Tryz.func119.trans (congrArg some (by kernel_rfl))⟩
  t0 := Tryz.underlying0
  a0 := Tryz.isAgg0
  z0 := Tryz.sizeOf0
  v0 := Tryz.zeroValue0
  t3 := Tryz.underlying3
  a3 := Tryz.isAgg3
  z3 := Tryz.sizeOf3
  v3 := Tryz.zeroValue3
  t4 := Tryz.underlying4
  a4 := Tryz.isAgg4
  z4 := Tryz.sizeOf4
  v4 := Tryz.zeroValue4
  t9 := Tryz.underlying9
  a9 := Tryz.isAgg9
  z9 := Tryz.sizeOf9
  v9 := Tryz.zeroValue9
  t20 := Tryz.underlying20
  a20 := Tryz.isAgg20
  z20 := Tryz.sizeOf20
  v20 := Tryz.zeroValue20
  t22 := Tryz.underlying25
  a22 := Tryz.isAgg25
  z22 := Tryz.sizeOf25
  v22 := Tryz.zeroValue25 }
end Go.Proofs
namespace Go.Proofs.YtpfdapnfkghgkaaGreatDoor
open Go Go.RowKit

/-- Lists, one behind the other. -/
def flat (V : List (Value × List (Int × Int))) : List (Int × Int) := V.flatMap fun p => p.2
theorem flat_next {V : List (Value × List (Int × Int))} {k : Nat} {p : Value × List (Int × Int)} (h : V[k]? = some p) : flat (V.take (k + 1)) = flat (V.take k) ++ p.2 := by
  obtain ⟨hk, rfl⟩ := List.getElem?_eq_some_iff.1 h
  rw [take_next V k hk]
  unfold flat
  rw [List.flatMap_append]
  simp only [List.flatMap_cons, List.flatMap_nil, List.append_nil]
theorem flat_le (V : List (Value × List (Int × Int))) (k : Nat) : (flat (V.take k)).length ≤ (flat V).length := by
  have e : flat V = flat (V.take k) ++ flat (V.drop k) := by unfold flat; rw [← List.flatMap_append, List.take_append_drop]
  rw [e, List.length_append]
  omega
theorem rr_apps {base : Nat} {w : World} {n : Nat} {v : Value} {F L : List (Int × Int)} (h : w.ownsRow base 99 2 v n (cellsR F ++ cellsR L)) : RR base w v (F ++ L) := by
  have hn : n = (F ++ L).length := by have := h.1; simp [cellsR_length] at this; simp; omega
  subst hn
  unfold RR
  rw [cellsR_append]
  exact h
theorem grow_zero (w : World) : Calls Tryz.prog 119 #[.slice none 0 0, .int .i64 0] w fun e w' => e = .returned (.slice none 0 0) ∧ w' = w :=
  Any8.slices_Grow_room Tryz.growPl none 0 0 0 w (by omega) (by omega) (by omega) (by omega)
theorem grow_c (n : Nat) (w : World) (hn : n ≤ 8796093022208) : Calls Tryz.prog 119 #[.slice none 0 0, .int .i64 (n : Int)] w fun e w' => ∃ v, e = .returned v ∧ RR w.heap.size w' v [] ∧ Below w.heap.size w w' := by
  rcases Nat.eq_zero_or_pos n with rfl | hp
  · exact (grow_zero w).mono fun e w' ⟨h1, h2⟩ => ⟨_, h1, RR.nil _ _, by rw [h2]; exact Below.refl _ _⟩
  · obtain ⟨i0, hi, hz0, hz1, hz2⟩ := info_parts size_range
    have h := Any8.slices_Grow_grow Tryz.growPl i0 (.agg #[.int .i64 0, .int .i64 0]) hi hz0 (by rw [hz1]; decide) none 0 0 n [] w (by omega) (by omega) (by rw [hz2]; omega) (by omega) (by simp) (fun _ => rfl) (fun _ q => by cases q)
    refine Calls.mono (show Calls Tryz.prog 119 _ _ _ from h) ?_
    rintro e w' ⟨rfl, rfl⟩
    have hg := grownCap_ge w (0 + n) 0 99
    have hm := grownCap_le_maxLen w (0 + n) 0 99 (by unfold maxLen; omega)
    refine ⟨_, rfl, ?_, (Below.refl _ _).drew.alloc (by simp) _⟩
    have hz : ∀ k, (Builtin.zeroCells #[.int .i64 0, .int .i64 0] k).size = k * 2 := fun k => by simp [Builtin.zeroCells]
    refine World.ownsRow_made w.drew _ _ (Nat.le_refl _) hm ?_
    show (#[] ++ Builtin.zeroCells #[.int .i64 0, .int .i64 0] (0 + n - 0) ++ Builtin.zeroCells #[.int .i64 0, .int .i64 0] (grownCap w (0 + n) 0 99 - (0 + n))).size = grownCap w (0 + n) 0 99 * 2
    rw [Array.size_append, Array.size_append, hz, hz]
    generalize grownCap w (0 + n) 0 99 = G at *
    show 0 + (0 + n - 0) * 2 + (G - (0 + n)) * 2 = G * 2
    omega

set_option maxRecDepth 100000 in
set_option maxHeartbeats 2000000 in
theorem concat_c {w : World} {g m : Nat} {V : List (Value × List (Int × Int))} (hm : V.length = m) (hV : ∀ (i : Nat) (p : Value × List (Int × Int)), V[i]? = some p → w.cell? ⟨g, i, none⟩ = some p.1 ∧ ArgR w p.1 p.2) (hg : g < w.heap.size) (hml : m ≤ 1000) (hl : (flat V).length + 1 ≤ 8796093022208) :
    Calls Tryz.prog 92 #[.slice (some ⟨g, 0, none⟩) m m] w fun e w' => ∃ v, e = .returned v ∧ RR w.heap.size w' v (flat V) ∧ Below w.heap.size w w' := by
  have HV : Hid (∀ (i : Nat) (p : Value × List (Int × Int)), V[i]? = some p → w.cell? ⟨g, i, none⟩ = some p.1 ∧ ArgR w p.1 p.2) := hV
  have HM : Hid (V.length = m) := hm
  obtain ⟨t0, ti, hz0, hz1, hz2⟩ := info_parts size_range
  clear hV hm
  go_enter Tryz.func92, Tryz.ntmps92
  go_wp2
  go_loopw [3, 11] (fun s i wr => ∃ k : Nat, k ≤ m ∧ i = .int .i64 k ∧ s = .int .i64 ((flat (V.take k)).length : Nat) ∧ wr = w) (fun _ i _ => m - (intOf i).toNat)
  case atStart => exact ⟨0, Nat.zero_le _, rfl, rfl, rfl⟩
  case round =>
    obtain ⟨k, hk, rfl, rfl, hw⟩ := hrel
    subst wr
    by_cases hlt : k < m
    · obtain ⟨⟨v, L⟩, hp⟩ : ∃ p, V[k]? = some p := ⟨_, List.getElem?_eq_getElem (by have := HM.out; omega)⟩
      obtain ⟨d0, ha⟩ := HV.out k _ hp
      dsimp only at d0 ha
      obtain ⟨q, cap, rfl, -, -, -⟩ := ha.slice
      have NX : Hid ((flat (V.take (k + 1))).length = (flat (V.take k)).length + L.length) := hide (by rw [flat_next hp, List.length_append])
      have le1 := flat_le V (k + 1)
      rw [NX.out] at le1
      clear hp ha
      generalize (flat (V.take k)).length = n at *
      have i0 : (0 : Int) ≤ (k : Int) := by omega
      have i1 : (k : Int) < (m : Int) := by omega
      have wn : IntKind.wrap .i64 ((n : Int) + (L.length : Int)) = (n : Int) + (L.length : Int) := by rw [IntKind.wrap_i64]; omega
      have nn : ¬ ((n : Int) + (L.length : Int) < 0) := by omega
      go_wp2
      go_roundw
      case rel => exact ⟨k + 1, by omega, by go_num, by rw [NX.out]; rfl, by first | rfl | trivial⟩
      case measure => simp [intOf]; omega
    · have i1 : ¬ (k : Int) < (m : Int) := by omega
      have E : Hid (V.take k = V) := hide (List.take_of_length_le (by rw [HM.out]; omega))
      rw [E.out]
      have LB : Hid ((flat V).length ≤ 8796093022208) := hide (by omega)
      go_wp2_with (go_at_call 119; refine (grow_c _ _ LB.out).mono ?_; rintro e w5 ⟨v5, rfl, h1, h2⟩; have R5 : Hid (RR w.heap.size w5 v5 []) := h1; have B5 : Hid (Below w.heap.size w w5) := h2; clear h1 h2)
      rename World => W1
      go_loopw [6, 27] (fun s i wr => ∃ k : Nat, k ≤ m ∧ i = .int .i64 k ∧ RR w.heap.size wr s (flat (V.take k)) ∧ Below w.heap.size w wr) (fun _ i _ => m - (intOf i).toNat)
      case atStart => exact ⟨0, Nat.zero_le _, rfl, R5.out, B5.out⟩
      case round =>
        obtain ⟨j, hj, rfl, hrr, hb⟩ := hrel
        obtain ⟨qg, cg, rfl⟩ := hrr.shape
        have RG : Hid (RR w.heap.size wr (.slice qg (flat (V.take j)).length cg) (flat (V.take j))) := hrr
        have B : Hid (Below w.heap.size w wr) := hb
        have hbs : w.heap.size ≤ wr.heap.size := hb.size
        clear hrr hb
        by_cases hjlt : j < m
        · obtain ⟨⟨v, L⟩, hp⟩ : ∃ p, V[j]? = some p := ⟨_, List.getElem?_eq_getElem (by have := HM.out; omega)⟩
          obtain ⟨d0, ha⟩ := HV.out j _ hp
          dsimp only at d0 ha
          have d1 := (B.out.cell (p := ⟨g, j, none⟩) hg).trans d0
          have NX : Hid (flat (V.take (j + 1)) = flat (V.take j) ++ L) := flat_next hp
          have le1 := flat_le V (j + 1)
          rw [NX.out, List.length_append] at le1
          have hA := ha.kept B.out
          obtain ⟨q, cap, rfl, -, -, -⟩ := ha.slice
          have j0 : (0 : Int) ≤ (j : Int) := by omega
          have j1 : (j : Int) < (m : Int) := by omega
          clear hp d0
          generalize flat (V.take j) = F at *
          cases q with
          | none =>
            have e0 : Value.slice none L.length cap = .slice none 0 0 ∧ L = [] := by
              rcases ha with ⟨p, cap', e, e2, e3⟩ | ⟨g', off', cap', e, _⟩
              · subst e2
                cases e
                have := e3 rfl
                subst this
                exact ⟨rfl, rfl⟩
              · cases e
            rw [e0.1] at d1
            have EL : Hid (L = []) := e0.2
            clear ha hA e0
            go_wp2_with (at_builtin; refine wpList_append_own_none rfl _ _ 25 rfl w.heap.size 99 t0 2 und_ranges ti (.slice qg F.length cg) F.length (cellsR F) rfl RG.out rfl ?_)
            go_roundw
            case rel => exact ⟨j + 1, by omega, by go_num, by rw [NX.out, EL.out, List.append_nil]; exact RG.out, B.out⟩
            case measure => simp [intOf]; omega
          | some ad =>
            have NW : Hid (∀ j u, (cellsR L)[j]? = some u → wr.cell? (ad.add j) = some u) := hA.news
            clear ha hA
            go_wp2_with (at_builtin; refine wpList_append_own_at _ rfl _ _ 25 rfl w.heap.size 99 t0 (.agg #[.int .i64 0, .int .i64 0]) 2 16 und_ranges ti hz0 hz1 hz2 rfl (by decide) (.slice qg F.length cg) F.length (cellsR F) rfl RG.out ad L.length cap (cellsR L) rfl (cellsR_length L) NW.out (cellsR_one L) (by unfold maxLen; omega) (by omega) hbs ?_; intro v' w6 hown' hgrow _ hblk; have A6 : Hid (RR w.heap.size w6 v' (F ++ L)) := rr_apps hown'; have B6 : Hid (Below w.heap.size w w6) := below_grown B.out RG.out hgrow; clear hown' hgrow hblk)
            go_roundw
            case rel => exact ⟨j + 1, by omega, by go_num, by rw [NX.out]; exact A6.out, B6.out⟩
            case measure => simp [intOf]; omega
        · have j1 : ¬ (j : Int) < (m : Int) := by omega
          have E2 : Hid (V.take j = V) := hide (List.take_of_length_le (by rw [HM.out]; omega))
          rw [E2.out] at RG ⊢
          go_wp2
          go_ret
          exact ⟨_, rfl, RG.out, B.out⟩
end Go.Proofs.YtpfdapnfkghgkaaGreatDoor
namespace Go.Proofs.YtpfdapnfkghgkaaGreatDoor
open Go Go.RowKit

def num (c : Int) : Prop := -9223372036854775808 ≤ c ∧ c ≤ 9223372036854775807
set_option maxHeartbeats 1000000 in
theorem norm_c {w : World} {v : Value} {L : List (Int × Int)} {m : Bool} (h : ArgR w v L) (hF : Fit L) (hl : L.length + 3 ≤ 8796093022208) :
    Calls Tryz.prog 108 #[v, .bool m] w (Gets w (fun c => In L c ∧ isChar m c) (L.length + 2)) := by
  have H : Hid (ArgR w v L ∧ Fit L) := ⟨h, hF⟩
  have hl1 : L.length ≤ 8796093022208 := by omega
  clear h hF
  go_enter Tryz.func108, Tryz.ntmps108
  go_wp2_with first
    | (go_at_call 91; refine (classOf_c H.out.1 H.out.2 hl1).mono ?_; rintro e w5 ⟨v5, C5, rfl, h1, h2, h3, h4⟩; have X5 : Hid (RR w.heap.size w5 v5 C5 ∧ IsC C5 (In L) ∧ C5.length ≤ L.length ∧ Below w.heap.size w w5) := ⟨h1, h2, h3, h4⟩; clear h1 h2 h3 h4)
    | (go_at_call 129; refine (chars_c m _).mono ?_; rintro e w6 ⟨v6, rfl, h1, h2⟩; have X6 : Hid (RR w5.heap.size w6 v6 (charsL m) ∧ Below w5.heap.size w5 w6) := ⟨h1, h2⟩; clear h1 h2)
    | (go_at_call 128; refine (common_c (X5.out.1.kept X6.out.2).arg X6.out.1.arg X5.out.2.1.cls (charsL_is m).cls X5.out.2.1.fit (charsL_is m).fit (by have := X5.out.2.2.1; have := charsL_length m; omega)).mono ?_; rintro e w7 ⟨v7, C7, rfl, h1, h2, h3, h4⟩; have X7 : Hid (RR w6.heap.size w7 v7 C7 ∧ IsC C7 (fun c => In C5 c ∧ In (charsL m) c) ∧ C7.length ≤ C5.length + (charsL m).length ∧ Below w6.heap.size w6 w7) := ⟨h1, h2, h3, h4⟩; clear h1 h2 h3 h4)
  go_ret
  have B6 := chain X5.out.2.2.2 X6.out.2 (Nat.le_refl _)
  refine ⟨_, _, rfl, X7.out.1.mono B6.size, X7.out.2.1.to fun c => ?_, ?_, chain B6 X7.out.2.2.2 (Nat.le_refl _)⟩
  · rw [X5.out.2.1.mem, (charsL_is m).mem]
  · have := X7.out.2.2.1
    have := X5.out.2.2.1
    have := charsL_length m
    omega

set_option maxHeartbeats 1000000 in
theorem and_c {w : World} {va vb : Value} {A B : List (Int × Int)} (ha : ArgR w va A) (hb : ArgR w vb B) (fa : Fit A) (fb : Fit B) (hl : A.length + B.length + 1 ≤ 8796093022208) :
    Calls Tryz.prog 116 #[va, vb] w (Gets w (fun c => In A c ∧ In B c) (A.length + B.length)) := by
  have H : Hid (ArgR w va A ∧ Fit A) := ⟨ha, fa⟩
  have K : Hid (ArgR w vb B ∧ Fit B) := ⟨hb, fb⟩
  have hl1 : A.length ≤ 8796093022208 := by omega
  have hl2 : B.length ≤ 8796093022208 := by omega
  clear ha hb fa fb
  go_enter Tryz.func116, Tryz.ntmps116
  go_wp2_with first
    | (have hx := X5.out; clear hx; go_at_call 91; have hih := classOf_c (K.out.1.kept X5.out.2.2.2) K.out.2 hl2; refine hih.mono ?_; clear hih; rintro e w6 ⟨v6, C6, rfl, h1, h2, h3, h4⟩; have X6 : Hid (RR w5.heap.size w6 v6 C6 ∧ IsC C6 (In B) ∧ C6.length ≤ B.length ∧ Below w5.heap.size w5 w6) := ⟨h1, h2, h3, h4⟩; clear h1 h2 h3 h4)
    | (go_at_call 91; refine (classOf_c H.out.1 H.out.2 hl1).mono ?_; rintro e w5 ⟨v5, C5, rfl, h1, h2, h3, h4⟩; have X5 : Hid (RR w.heap.size w5 v5 C5 ∧ IsC C5 (In A) ∧ C5.length ≤ A.length ∧ Below w.heap.size w w5) := ⟨h1, h2, h3, h4⟩; clear h1 h2 h3 h4)
    | (go_at_call 128; refine (common_c (X5.out.1.kept X6.out.2.2.2).arg X6.out.1.arg X5.out.2.1.cls X6.out.2.1.cls X5.out.2.1.fit X6.out.2.1.fit (by have := X5.out.2.2.1; have := X6.out.2.2.1; omega)).mono ?_; rintro e w7 ⟨v7, C7, rfl, h1, h2, h3, h4⟩; have X7 : Hid (RR w6.heap.size w7 v7 C7 ∧ IsC C7 (fun c => In C5 c ∧ In C6 c) ∧ C7.length ≤ C5.length + C6.length ∧ Below w6.heap.size w6 w7) := ⟨h1, h2, h3, h4⟩; clear h1 h2 h3 h4)
  go_ret
  have B6 := chain X5.out.2.2.2 X6.out.2.2.2 (Nat.le_refl _)
  refine ⟨_, _, rfl, X7.out.1.mono B6.size, X7.out.2.1.to fun c => ?_, ?_, chain B6 X7.out.2.2.2 (Nat.le_refl _)⟩
  · rw [X5.out.2.1.mem, X6.out.2.1.mem]
  · have := X7.out.2.2.1
    have := X5.out.2.2.1
    have := X6.out.2.2.1
    omega

theorem char_num {m : Bool} {c : Int} (h : isChar m c) : -9223372036854775808 ≤ c ∧ c ≤ 9223372036854775807 := by
  obtain ⟨h1, h2, _⟩ := h
  unfold top at h2
  split at h2 <;> omega
set_option maxHeartbeats 1000000 in
theorem not_c {w : World} {v : Value} {L : List (Int × Int)} {m : Bool} (h : ArgR w v L) (hF : Fit L) (hl : L.length + 5 ≤ 8796093022208) :
    Calls Tryz.prog 107 #[v, .bool m] w (Gets w (fun c => isChar m c ∧ ¬ In L c) (L.length + 3)) := by
  have K : Hid (ArgR w v L ∧ Fit L) := ⟨h, hF⟩
  have hl2 : L.length ≤ 8796093022208 := by omega
  clear h hF
  go_enter Tryz.func107, Tryz.ntmps107
  go_wp2_with first
    | (go_at_call 129; refine (chars_c m _).mono ?_; rintro e w5 ⟨v5, rfl, h1, h2⟩; have X5 : Hid (RR w.heap.size w5 v5 (charsL m) ∧ Below w.heap.size w w5) := ⟨h1, h2⟩; clear h1 h2)
    | (go_at_call 91; refine (classOf_c (K.out.1.kept X5.out.2) K.out.2 hl2).mono ?_; rintro e w6 ⟨v6, C6, rfl, h1, h2, h3, h4⟩; have X6 : Hid (RR w5.heap.size w6 v6 C6 ∧ IsC C6 (In L) ∧ C6.length ≤ L.length ∧ Below w5.heap.size w5 w6) := ⟨h1, h2, h3, h4⟩; clear h1 h2 h3 h4)
    | (go_at_call 130; refine (rest_c X6.out.1.arg X6.out.2.1.cls X6.out.2.1.fit (by have := X6.out.2.2.1; omega)).mono ?_; rintro e w8 ⟨v8, C8, rfl, h1, h2, h3, h4⟩; have X8 : Hid (RR w6.heap.size w8 v8 C8 ∧ IsC C8 (fun c => (-9223372036854775808 ≤ c ∧ c ≤ 9223372036854775807) ∧ ¬ In C6 c) ∧ C8.length ≤ C6.length + 1 ∧ Below w6.heap.size w6 w8) := ⟨h1, h2, h3, h4⟩; clear h1 h2 h3 h4)
    | (go_at_call 128; refine (common_c ((X5.out.1.kept X6.out.2.2.2).kept X8.out.2.2.2).arg X8.out.1.arg (charsL_is m).cls X8.out.2.1.cls (charsL_is m).fit X8.out.2.1.fit (by have := charsL_length m; have := X6.out.2.2.1; have := X8.out.2.2.1; omega)).mono ?_; rintro e w7 ⟨v7, C7, rfl, h1, h2, h3, h4⟩; have X7 : Hid (RR w8.heap.size w7 v7 C7 ∧ IsC C7 (fun c => In (charsL m) c ∧ In C8 c) ∧ C7.length ≤ (charsL m).length + C8.length ∧ Below w8.heap.size w8 w7) := ⟨h1, h2, h3, h4⟩; clear h1 h2 h3 h4)
  go_ret
  have B8 := chain (chain X5.out.2 X6.out.2.2.2 (Nat.le_refl _)) X8.out.2.2.2 (Nat.le_refl _)
  refine ⟨_, _, rfl, X7.out.1.mono B8.size, X7.out.2.1.to fun c => ?_, ?_, chain B8 X7.out.2.2.2 (Nat.le_refl _)⟩
  · rw [(charsL_is m).mem, X8.out.2.1.mem, X6.out.2.1.mem]
    exact ⟨fun ⟨p, q⟩ => ⟨p, q.2⟩, fun ⟨p, q⟩ => ⟨p, char_num p, q⟩⟩
  · have := X7.out.2.2.1
    have := charsL_length m
    have := X6.out.2.2.1
    have := X8.out.2.2.1
    omega

theorem two_args {w : World} {va vb : Value} {A B : List (Int × Int)} (ha : ArgR w va A) (hb : ArgR w vb B) (t : TypeId) : ∀ (i : Nat) (p : Value × List (Int × Int)), [(va, A), (vb, B)][i]? = some p → (w.alloc (.cells #[va, vb] t)).cell? ⟨w.heap.size, i, none⟩ = some p.1 ∧ ArgR (w.alloc (.cells #[va, vb] t)) p.1 p.2 := by
  have B1 : Below w.heap.size w (w.alloc (.cells #[va, vb] t)) := (Below.refl _ _).alloc (Nat.le_refl _) _
  intro i p hp
  match i, hp with
  | 0, hp => simp at hp; subst hp; exact ⟨cell_row (alloc_new w _) (i := 0) rfl, ha.kept B1⟩
  | 1, hp => simp at hp; subst hp; exact ⟨cell_row (alloc_new w _) (i := 1) rfl, hb.kept B1⟩
end Go.Proofs.YtpfdapnfkghgkaaGreatDoor
namespace Go.Proofs.YtpfdapnfkghgkaaGreatDoor
open Go Go.RowKit

theorem rr_of {base : Nat} {w : World} {n : Nat} {v : Value} {L : List (Int × Int)} (h : w.ownsRow base 99 2 v n (cellsR L)) (hn : L.length = n) : RR base w v L := by subst hn; exact h
/-- The first k ranges are moved. -/
def shK (C : List (Int × Int)) (k : Nat) (d : Int) : List (Int × Int) := C.mapIdx fun i r => if i < k then (r.1 + d, r.2 + d) else r
theorem shK_zero (C : List (Int × Int)) (d : Int) : shK C 0 d = C := by
  unfold shK
  apply List.ext_getElem
  · simp
  · intro i h1 h2; simp
theorem shK_length (C : List (Int × Int)) (k : Nat) (d : Int) : (shK C k d).length = C.length := by simp [shK]
theorem shK_get {C : List (Int × Int)} {k : Nat} {r : Int × Int} (h : C[k]? = some r) (d : Int) : (shK C k d)[k]? = some r := by
  simp [shK, h]
theorem shK_set {C : List (Int × Int)} {k : Nat} {r : Int × Int} (h : C[k]? = some r) (d : Int) : (shK C k d).set k (r.1 + d, r.2 + d) = shK C (k + 1) d := by
  obtain ⟨hk, rfl⟩ := List.getElem?_eq_some_iff.1 h
  unfold shK
  apply List.ext_getElem
  · simp
  · intro i h1 h2
    rw [List.getElem_set]
    simp only [List.getElem_mapIdx]
    by_cases hik : k = i
    · subst hik; simp
    · rw [if_neg hik]
      by_cases q : i < k
      · rw [if_pos q, if_pos (by omega)]
      · rw [if_neg q, if_neg (by omega)]
theorem shK_all (C : List (Int × Int)) (d : Int) : shK C C.length d = C.map fun r => (r.1 + d, r.2 + d) := by
  unfold shK
  apply List.ext_getElem
  · simp
  · intro i h1 h2
    simp only [List.length_mapIdx] at h1
    simp [h1]
theorem in_map_shift (C : List (Int × Int)) (d c : Int) : In (C.map fun r => (r.1 + d, r.2 + d)) c ↔ In C (c - d) := by
  unfold In
  constructor
  · rintro ⟨r, hr, h1, h2⟩
    obtain ⟨x, hx, rfl⟩ := List.mem_map.1 hr
    exact ⟨x, hx, by simp only at h1 h2; omega, by simp only at h1 h2; omega⟩
  · rintro ⟨r, hr, h1, h2⟩
    exact ⟨_, List.mem_map.2 ⟨r, hr, rfl⟩, by simp only; omega, by simp only; omega⟩

set_option maxRecDepth 100000 in
set_option maxHeartbeats 1000000 in
theorem moved_c {w : World} {v : Value} {L : List (Int × Int)} {a b d : Int} (h : ArgR w v L) (hF : Fit L) (hl : L.length + 2 ≤ 8796093022208) (h0 : 65 ≤ a) (hab : a ≤ b) (h1 : b ≤ 122) (hd1 : -32 ≤ d) (hd2 : d ≤ 32) :
    Calls Tryz.prog 90 #[v, .agg #[.int .i64 a, .int .i64 b], .int .i64 d] w fun e w' => ∃ v' D, e = .returned v' ∧ RR w.heap.size w' v' D ∧ Fit D ∧ (∀ c, In D c ↔ In L (c - d) ∧ a ≤ c - d ∧ c - d ≤ b) ∧ D.length ≤ L.length + 1 ∧ Below w.heap.size w w' := by
  have H : Hid (ArgR w v L ∧ Fit L) := ⟨h, hF⟩
  have FB : Hid (Fit [(a, b)]) := fit_one (by omega)
  have B2 : Hid (Below w.heap.size w ((w.alloc (.cells #[.int .i64 a, .int .i64 b] 99)).alloc (.cells #[.int .i64 a, .int .i64 b] 99))) := ((Below.refl _ _).alloc (Nat.le_refl _) _).alloc (by simp) _
  have AB : Hid (ArgR ((w.alloc (.cells #[.int .i64 a, .int .i64 b] 99)).alloc (.cells #[.int .i64 a, .int .i64 b] 99)) (.slice (some ⟨w.heap.size + 1, 0, none⟩) 1 1) [(a, b)]) := hide <| by
    have : RR w.heap.size ((w.alloc (.cells #[.int .i64 a, .int .i64 b] 99)).alloc (.cells #[.int .i64 a, .int .i64 b] 99)) (.slice (some ⟨(w.alloc (.cells #[.int .i64 a, .int .i64 b] 99)).heap.size, 0, none⟩) 1 1) [(a, b)] := World.ownsRow_lit _ #[.int .i64 a, .int .i64 b] 1 (by simp) (by unfold maxLen; omega) rfl
    simpa using this.arg
  clear h hF
  go_enter Tryz.func90, Tryz.ntmps90
  go_wp2_with (go_at_call 116; refine (and_c (H.out.1.kept B2.out) AB.out H.out.2 FB.out (by simp; omega)).mono ?_; rintro e w5 ⟨v5, C, rfl, p1, p2, p3, p4⟩; obtain ⟨q5, c5, rfl⟩ := p1.shape; have X5 : Hid (RR w.heap.size w5 (.slice q5 C.length c5) C ∧ IsC C (fun c => In L c ∧ In [(a, b)] c) ∧ C.length ≤ L.length + 1 ∧ Below w.heap.size w w5) := ⟨p1.mono B2.out.size, p2, p3, chain B2.out p4 (Nat.le_refl _)⟩; clear p1 p2 p3 p4)
  have hcl := X5.out.2.2.1
  have BD : Hid (∀ (i : Nat) (r : Int × Int), C[i]? = some r → (a ≤ r.1 ∧ r.1 ≤ b) ∧ (a ≤ r.2 ∧ r.2 ≤ b)) := fun i r hr => by
    have hm := List.mem_of_getElem? hr
    have hs := X5.out.2.1.cls.some r hm
    have p := ((X5.out.2.1.mem r.1).1 ⟨r, hm, Int.le_refl _, hs⟩).2
    have q := ((X5.out.2.1.mem r.2).1 ⟨r, hm, hs, Int.le_refl _⟩).2
    rw [in_one] at p q
    exact ⟨p, q⟩
  go_loopw [15] (fun i wr => ∃ k : Nat, k ≤ C.length ∧ i = .int .i64 k ∧ RR w.heap.size wr (.slice q5 C.length c5) (shK C k d) ∧ Below w.heap.size w wr) (fun i _ => C.length - (intOf i).toNat)
  case atStart => exact ⟨0, Nat.zero_le _, rfl, by rw [shK_zero]; exact X5.out.1, X5.out.2.2.2⟩
  case round =>
    obtain ⟨k, hk, rfl, hrr, hb⟩ := hrel
    have RK : Hid (RR w.heap.size wr (.slice q5 C.length c5) (shK C k d)) := hrr
    have B : Hid (Below w.heap.size w wr) := hb
    clear hrr hb
    by_cases hlt : k < C.length
    · obtain ⟨r, hr⟩ : ∃ r, C[k]? = some r := ⟨_, List.getElem?_eq_getElem hlt⟩
      have hbd := BD.out k r hr
      have OW : Hid (wr.ownsRow w.heap.size 99 2 (.slice q5 C.length c5) C.length (cellsR (shK C k d))) := hide (by have := RK.out; unfold RR at this; rwa [shK_length] at this)
      obtain ⟨g, c', e⟩ := ownsRow_some OW.out (by omega)
      cases e
      obtain ⟨z1, z2⟩ := cellsR_get _ k r (shK_get hr d)
      have d1 := ownsRow_cell OW.out z1
      have d2 := ownsRow_cell OW.out z2
      rw [Nat.mul_comm] at d1 d2
      have f1 := OW.out.frozenAt (k * 2)
      have f2 := OW.out.frozenAt (k * 2 + 1)
      have O2 : Hid ((((wr.setCell ⟨g, k * 2, none⟩ (.int .i64 (r.1 + d))).setCell ⟨g, k * 2 + 1, none⟩ (.int .i64 (r.2 + d)))).ownsRow w.heap.size 99 2 (.slice (some ⟨g, 0, none⟩) C.length c5) C.length (cellsR (shK C (k + 1) d))) := hide (by
        have := ((OW.out.stored (k * 2) (.int .i64 (r.1 + d))).1.stored (k * 2 + 1) (.int .i64 (r.2 + d))).1
        rwa [cellsR_set, shK_set hr] at this)
      have hgb := (ownsRow_at OW.out rfl).1
      have hgs := (ownsRow_at OW.out rfl).2.1
      have FB2 : Hid (Below w.heap.size w ((wr.setCell ⟨g, k * 2, none⟩ (.int .i64 (r.1 + d))).setCell ⟨g, k * 2 + 1, none⟩ (.int .i64 (r.2 + d)))) := (B.out.setCell (p := ⟨g, k * 2, none⟩) hgb _).setCell (p := ⟨g, k * 2 + 1, none⟩) hgb _
      obtain ⟨r1, r2⟩ := r
      dsimp only at d1 d2 hbd
      have w1 : IntKind.wrap .i64 (r1 + d) = r1 + d := by rw [IntKind.wrap_i64]; omega
      have w2 : IntKind.wrap .i64 (r2 + d) = r2 + d := by rw [IntKind.wrap_i64]; omega
      have i0 : (0 : Int) ≤ (k : Int) := by omega
      have i1 : (k : Int) < (C.length : Int) := by omega
      clear z1 z2 hr hbd
      go_wp2
      go_roundw
      case rel => exact ⟨k + 1, by omega, by go_num, rr_of O2.out (shK_length C (k + 1) d), FB2.out⟩
      case measure => simp [intOf]; omega
    · have i1 : ¬ (k : Int) < (C.length : Int) := by omega
      obtain rfl : k = C.length := by omega
      rw [shK_all] at RK
      go_wp2
      go_ret
      refine ⟨_, rfl, _, RK.out, fun r hr => ?_, fun c => ?_, by simp; omega, B.out⟩
      · obtain ⟨x, hx, e⟩ := List.mem_map.1 hr
        subst e
        obtain ⟨i, hi⟩ := List.getElem?_of_mem hx
        have := BD.out i x hi
        simp only
        omega
      · rw [in_map_shift, X5.out.2.1.mem, in_one]
end Go.Proofs.YtpfdapnfkghgkaaGreatDoor
namespace Go.Proofs.YtpfdapnfkghgkaaGreatDoor
open Go Go.RowKit
attribute [local go_sem] ext_cell

theorem take_eq_next {A B : List (Int × Int)} {k : Nat} {a b : Int × Int} (ha : A[k]? = some a) (hb : B[k]? = some b) (h : A.take k = B.take k) : A.take (k + 1) = B.take (k + 1) ↔ a = b := by
  obtain ⟨h1, rfl⟩ := List.getElem?_eq_some_iff.1 ha
  obtain ⟨h2, rfl⟩ := List.getElem?_eq_some_iff.1 hb
  rw [take_next A k h1, take_next B k h2, h]
  simp only [List.append_cancel_left_eq, List.cons.injEq, and_true]

set_option maxRecDepth 100000 in
set_option maxHeartbeats 2000000 in
theorem equal_c {w : World} {va vb : Value} {A B : List (Int × Int)} (ha : ArgR w va A) (hb : ArgR w vb B) :
    Calls Tryz.prog 65 #[va, vb] w fun e w' => e = .returned (.bool (decide (A = B))) ∧ Below w.heap.size w w' := by
  obtain ⟨q1, cap1, rfl, hl1, -, hc1⟩ := ha.slice
  obtain ⟨q2, cap2, rfl, hl2, -, hc2⟩ := hb.slice
  have HC1 : Hid (∀ (i : Nat) (r : Int × Int), A[i]? = some r → ∃ g off, q1 = some ⟨g, off, none⟩ ∧ g < w.heap.size ∧ w.cell? ⟨g, off + 2 * i, none⟩ = some (.int .i64 r.1) ∧ w.cell? ⟨g, off + 2 * i + 1, none⟩ = some (.int .i64 r.2)) := hc1
  have HC2 : Hid (∀ (i : Nat) (r : Int × Int), B[i]? = some r → ∃ g off, q2 = some ⟨g, off, none⟩ ∧ g < w.heap.size ∧ w.cell? ⟨g, off + 2 * i, none⟩ = some (.int .i64 r.1) ∧ w.cell? ⟨g, off + 2 * i + 1, none⟩ = some (.int .i64 r.2)) := hc2
  clear hc1 hc2 ha hb
  unfold maxLen at hl1 hl2
  by_cases hne : A.length = B.length
  · have HNE : Hid (A.length = B.length) := hne
    rw [← hne]
    have b1 : (((A.length : Nat) : Int) != ((A.length : Nat) : Int)) = false := by simp
    clear hne hl2
    go_enter Tryz.func65, Tryz.ntmps65
    go_wp2
    go_loopw [13] (fun i wr => ∃ k : Nat, k ≤ A.length ∧ i = .int .i64 k ∧ A.take k = B.take k ∧ Below w.heap.size w wr) (fun i _ => A.length - (intOf i).toNat)
    case atStart => exact ⟨0, Nat.zero_le _, rfl, by simp, Below.refl _ _⟩
    case round =>
      obtain ⟨k, hk, rfl, ht, hbl⟩ := hrel
      have HT : Hid (A.take k = B.take k) := ht
      have BW : Hid (Below w.heap.size w wr) := hbl
      clear ht hbl
      by_cases hlt : k < A.length
      · obtain ⟨a, ea⟩ : ∃ r, A[k]? = some r := ⟨_, List.getElem?_eq_getElem hlt⟩
        obtain ⟨b, eb⟩ : ∃ r, B[k]? = some r := ⟨_, List.getElem?_eq_getElem (by have := HNE.out; omega)⟩
        obtain ⟨g1, o1, rfl, hg1, x1, x2⟩ := HC1.out k _ ea
        obtain ⟨g2, o2, rfl, hg2, y1, y2⟩ := HC2.out k _ eb
        have d1 := (BW.out.cell (p := ⟨g1, o1 + 2 * k, none⟩) hg1).trans x1
        have d2 := (BW.out.cell (p := ⟨g1, o1 + 2 * k + 1, none⟩) hg1).trans x2
        have d3 := (BW.out.cell (p := ⟨g2, o2 + 2 * k, none⟩) hg2).trans y1
        have d4 := (BW.out.cell (p := ⟨g2, o2 + 2 * k + 1, none⟩) hg2).trans y2
        rw [Nat.mul_comm] at d1 d2 d3 d4
        have s1 : g1 < wr.heap.size := Nat.lt_of_lt_of_le hg1 BW.out.size
        have s2 : g2 < wr.heap.size := Nat.lt_of_lt_of_le hg2 BW.out.size
        have NX : Hid (A.take (k + 1) = B.take (k + 1) ↔ a = b) := take_eq_next ea eb HT.out
        have NE : Hid (a ≠ b → ¬ A = B) := fun q e => by subst e; rw [ea] at eb; exact q (Option.some.inj eb)
        have i0 : (0 : Int) ≤ (k : Int) := by omega
        have i1 : (k : Int) < (A.length : Int) := by omega
        obtain ⟨a1, a2⟩ := a
        obtain ⟨b1', b2⟩ := b
        dsimp only at d1 d2 d3 d4
        clear x1 x2 y1 y2 ea eb
        by_cases e1 : a1 = b1'
        · by_cases e2 : a2 = b2
          · subst e1 e2
            have f1 : (a1 == a1) = true := by simp
            have f2 : (a2 == a2) = true := by simp
            have NX2 : Hid (A.take (k + 1) = B.take (k + 1)) := NX.out.2 rfl
            clear NX NE
            go_wp2
            refine wp_region_ext (by kernel_rfl) (by kernel_rfl) ?_
            repeat (go_big_quiet_step (first | exact rfl))
            refine wpQuiet_nil ?_
            intro w7 hw7
            have B7 : Hid (Below wr.heap.size wr w7) := ext_of hw7
            clear hw7
            go_wp2
            go_roundw
            case rel => exact ⟨k + 1, by omega, by go_num, NX2.out, chain BW.out B7.out (Nat.le_refl _)⟩
            case measure => simp [intOf]; omega
          · subst e1
            have f1 : (a1 == a1) = true := by simp
            have f2 : (a2 == b2) = false := by simp [e2]
            have N2 : Hid (decide (A = B) = false) := decide_eq_false (NE.out (fun q => e2 (Prod.mk.inj q).2))
            clear NX NE
            go_wp2
            refine wp_region_ext (by kernel_rfl) (by kernel_rfl) ?_
            repeat (go_big_quiet_step (first | exact rfl))
            refine wpQuiet_nil ?_
            intro w7 hw7
            have B7 : Hid (Below wr.heap.size wr w7) := ext_of hw7
            clear hw7
            go_wp2
            go_ret
            exact ⟨by rw [N2.out]; rfl, chain BW.out B7.out (Nat.le_refl _)⟩
        · have f1 : (a1 == b1') = false := by simp [e1]
          have N2 : Hid (decide (A = B) = false) := decide_eq_false (NE.out (fun q => e1 (Prod.mk.inj q).1))
          clear NX NE
          go_wp2
          refine wp_region_ext (by kernel_rfl) (by kernel_rfl) ?_
          repeat (go_big_quiet_step (first | exact rfl))
          refine wpQuiet_nil ?_
          intro w7 hw7
          have B7 : Hid (Below wr.heap.size wr w7) := ext_of hw7
          clear hw7
          go_wp2
          go_ret
          exact ⟨by rw [N2.out]; rfl, chain BW.out B7.out (Nat.le_refl _)⟩
      · have i1 : ¬ (k : Int) < (A.length : Int) := by omega
        have EE : Hid (decide (A = B) = true) := decide_eq_true (by
          have e := HT.out
          rw [List.take_of_length_le (by omega), List.take_of_length_le (by have := HNE.out; omega)] at e
          exact e)
        go_wp2
        go_ret
        exact ⟨by rw [EE.out]; rfl, BW.out⟩
  · have EE : Hid (decide (A = B) = false) := decide_eq_false (fun e => hne (by rw [e]))
    have b1 : (((A.length : Nat) : Int) != ((B.length : Nat) : Int)) = true := by simp; omega
    go_enter Tryz.func65, Tryz.ntmps65
    go_wp2
    go_ret
    exact ⟨by rw [EE.out]; rfl, Below.refl _ _⟩
end Go.Proofs.YtpfdapnfkghgkaaGreatDoor
namespace Go.Proofs.YtpfdapnfkghgkaaGreatDoor
open Go Go.RowKit

/-- What Fold tells. -/
def foldP (L : List (Int × Int)) (c : Int) : Prop := In L c ∨ (In L (c - 32) ∧ 65 ≤ c - 32 ∧ c - 32 ≤ 90) ∨ (In L (c + 32) ∧ 97 ≤ c + 32 ∧ c + 32 ≤ 122)
theorem three_args {w : World} {va vb vc : Value} {A B C : List (Int × Int)} (ha : ArgR w va A) (hb : ArgR w vb B) (hc : ArgR w vc C) (t : TypeId) : ∀ (i : Nat) (p : Value × List (Int × Int)), [(va, A), (vb, B), (vc, C)][i]? = some p → (w.alloc (.cells #[va, vb, vc] t)).cell? ⟨w.heap.size, i, none⟩ = some p.1 ∧ ArgR (w.alloc (.cells #[va, vb, vc] t)) p.1 p.2 := by
  have B1 : Below w.heap.size w (w.alloc (.cells #[va, vb, vc] t)) := (Below.refl _ _).alloc (Nat.le_refl _) _
  intro i p hp
  match i, hp with
  | 0, hp => simp at hp; subst hp; exact ⟨cell_row (alloc_new w _) (i := 0) rfl, ha.kept B1⟩
  | 1, hp => simp at hp; subst hp; exact ⟨cell_row (alloc_new w _) (i := 1) rfl, hb.kept B1⟩
  | 2, hp => simp at hp; subst hp; exact ⟨cell_row (alloc_new w _) (i := 2) rfl, hc.kept B1⟩
theorem concat3 {w : World} {va vb vc : Value} {A B C : List (Int × Int)} (ha : ArgR w va A) (hb : ArgR w vb B) (hc : ArgR w vc C) (hl : A.length + B.length + C.length + 1 ≤ 8796093022208) :
    Calls Tryz.prog 92 #[.slice (some ⟨w.heap.size, 0, none⟩) 3 3] (w.alloc (.cells #[va, vb, vc] 25)) fun e w' => ∃ v, e = .returned v ∧ RR w.heap.size w' v (A ++ (B ++ C)) ∧ Below w.heap.size w w' :=
  (concat_c (V := [(va, A), (vb, B), (vc, C)]) (m := 3) rfl (three_args ha hb hc 25) (by simp) (by omega) (by simp [flat]; omega)).mono fun e w' ⟨v, h1, h2, h3⟩ => ⟨v, h1, by have := h2.mono (base' := w.heap.size) (by simp); simpa [flat] using this, chain ((Below.refl _ _).alloc (Nat.le_refl _) _) h3 (Nat.le_refl _)⟩

set_option maxHeartbeats 1000000 in
theorem fold_c {w : World} {v : Value} {L : List (Int × Int)} (h : ArgR w v L) (hF : Fit L) (hl : 3 * L.length + 9 ≤ 8796093022208) :
    Calls Tryz.prog 70 #[v] w (Gets w (foldP L) (3 * L.length + 2)) := by
  obtain ⟨q1, k1, e1, -, -, -⟩ := h.slice
  subst e1
  have H : Hid (ArgR w (.slice q1 L.length k1) L ∧ Fit L) := ⟨h, hF⟩
  have hl1 : L.length + 2 ≤ 8796093022208 := by omega
  clear h hF
  go_enter Tryz.func70, Tryz.ntmps70
  go_wp2_with first
    | (have hx := X5.out; clear hx; go_at_call 90; have hih := moved_c (a := 97) (b := 122) (d := -32) (H.out.1.kept X5.out.2.2.2.2) H.out.2 hl1 (by omega) (by omega) (by omega) (by omega) (by omega); refine hih.mono ?_; clear hih; rintro e w6 ⟨v6, D6, rfl, h1, h2, h3, h4, h5⟩; obtain ⟨q6, c6, rfl⟩ := h1.shape; have X6 : Hid (RR w5.heap.size w6 (.slice q6 D6.length c6) D6 ∧ Fit D6 ∧ (∀ c, In D6 c ↔ In L (c - -32) ∧ 97 ≤ c - -32 ∧ c - -32 ≤ 122) ∧ D6.length ≤ L.length + 1 ∧ Below w5.heap.size w5 w6) := ⟨h1, h2, h3, h4, h5⟩; clear h1 h2 h3 h4 h5)
    | (go_at_call 90; have hih := moved_c (a := 65) (b := 90) (d := 32) H.out.1 H.out.2 hl1 (by omega) (by omega) (by omega) (by omega) (by omega); refine hih.mono ?_; clear hih; rintro e w5 ⟨v5, D5, rfl, h1, h2, h3, h4, h5⟩; obtain ⟨q5, c5, rfl⟩ := h1.shape; have X5 : Hid (RR w.heap.size w5 (.slice q5 D5.length c5) D5 ∧ Fit D5 ∧ (∀ c, In D5 c ↔ In L (c - 32) ∧ 65 ≤ c - 32 ∧ c - 32 ≤ 90) ∧ D5.length ≤ L.length + 1 ∧ Below w.heap.size w w5) := ⟨h1, h2, h3, h4, h5⟩; clear h1 h2 h3 h4 h5)
    | (go_at_call 92; refine (concat3 ((H.out.1.kept X5.out.2.2.2.2).kept X6.out.2.2.2.2) (X5.out.1.kept X6.out.2.2.2.2).arg X6.out.1.arg (by have := X5.out.2.2.2.1; have := X6.out.2.2.2.1; omega)).mono ?_; rintro e w7 ⟨v7, rfl, h1, h2⟩; have X7 : Hid (RR w6.heap.size w7 v7 (L ++ (D5 ++ D6)) ∧ Below w6.heap.size w6 w7) := ⟨h1, h2⟩; clear h1 h2)
    | (go_at_call 91; refine (classOf_c X7.out.1.arg (fit_append H.out.2 (fit_append X5.out.2.1 X6.out.2.1)) (by have := X5.out.2.2.2.1; have := X6.out.2.2.2.1; simp; omega)).mono ?_; rintro e w8 ⟨v8, C8, rfl, h1, h2, h3, h4⟩; have X8 : Hid (RR w7.heap.size w8 v8 C8 ∧ IsC C8 (In (L ++ (D5 ++ D6))) ∧ C8.length ≤ (L ++ (D5 ++ D6)).length ∧ Below w7.heap.size w7 w8) := ⟨h1, h2, h3, h4⟩; clear h1 h2 h3 h4)
  go_ret
  have B7 := chain (chain X5.out.2.2.2.2 X6.out.2.2.2.2 (Nat.le_refl _)) X7.out.2 (Nat.le_refl _)
  refine ⟨_, _, rfl, X8.out.1.mono B7.size, X8.out.2.1.to fun c => ?_, ?_, chain B7 X8.out.2.2.2 (Nat.le_refl _)⟩
  · rw [in_append, in_append, X5.out.2.2.1, X6.out.2.2.1]
    unfold foldP
    rw [show c - -32 = c + 32 by omega]
  · have := X8.out.2.2.1
    have := X5.out.2.2.2.1
    have := X6.out.2.2.2.1
    simp at *
    omega

set_option maxHeartbeats 1000000 in
/-- Same, by the two classes. -/
theorem same_c {w : World} {va vb : Value} {A B : List (Int × Int)} (ha : ArgR w va A) (hb : ArgR w vb B) (fa : Fit A) (fb : Fit B) (hl1 : A.length ≤ 8796093022208) (hl2 : B.length ≤ 8796093022208) :
    Calls Tryz.prog 115 #[va, vb] w fun e w' => ∃ b : Bool, e = .returned (.bool b) ∧ (b = true ↔ ∀ c, In A c ↔ In B c) ∧ Below w.heap.size w w' := by
  have H : Hid (ArgR w va A ∧ Fit A) := ⟨ha, fa⟩
  have K : Hid (ArgR w vb B ∧ Fit B) := ⟨hb, fb⟩
  clear ha hb fa fb
  go_enter Tryz.func115, Tryz.ntmps115
  go_wp2_with first
    | (have hx := X5.out; clear hx; go_at_call 91; have hih := classOf_c (K.out.1.kept X5.out.2.2.2) K.out.2 hl2; refine hih.mono ?_; clear hih; rintro e w6 ⟨v6, C6, rfl, h1, h2, h3, h4⟩; have X6 : Hid (RR w5.heap.size w6 v6 C6 ∧ IsC C6 (In B) ∧ C6.length ≤ B.length ∧ Below w5.heap.size w5 w6) := ⟨h1, h2, h3, h4⟩; clear h1 h2 h3 h4)
    | (go_at_call 91; refine (classOf_c H.out.1 H.out.2 hl1).mono ?_; rintro e w5 ⟨v5, C5, rfl, h1, h2, h3, h4⟩; have X5 : Hid (RR w.heap.size w5 v5 C5 ∧ IsC C5 (In A) ∧ C5.length ≤ A.length ∧ Below w.heap.size w w5) := ⟨h1, h2, h3, h4⟩; clear h1 h2 h3 h4)
    | (go_at_call 65; refine (equal_c (X5.out.1.kept X6.out.2.2.2).arg X6.out.1.arg).mono ?_; obtain ⟨bb, hbb⟩ : ∃ bb, decide (C5 = C6) = bb := ⟨_, rfl⟩; rw [hbb]; have EB : Hid (decide (C5 = C6) = bb) := hbb; clear hbb; rintro e w7 ⟨rfl, h1⟩; have X7 : Hid (Below w6.heap.size w6 w7) := h1; clear h1)
  go_ret
  refine ⟨bb, rfl, ?_, chain (chain X5.out.2.2.2 X6.out.2.2.2 (Nat.le_refl _)) X7.out (Nat.le_refl _)⟩
  rw [← EB.out, decide_eq_true_iff]
  constructor
  · intro e c
    rw [← X5.out.2.1.mem, ← X6.out.2.1.mem, e]
  · intro e
    exact X5.out.2.1.one X6.out.2.1 e
set_option maxHeartbeats 1000000 in
/-- Right: are they the class of their own characters? -/
theorem right_c {w : World} {v : Value} {L : List (Int × Int)} {m : Bool} (h : ArgR w v L) (hF : Fit L) (hl : L.length + 3 ≤ 8796093022208) :
    Calls Tryz.prog 114 #[v, .bool m] w fun e w' => ∃ b : Bool, e = .returned (.bool b) ∧ (b = true ↔ IsC L (fun c => In L c ∧ isChar m c)) ∧ Below w.heap.size w w' := by
  have H : Hid (ArgR w v L ∧ Fit L) := ⟨h, hF⟩
  clear h hF
  go_enter Tryz.func114, Tryz.ntmps114
  go_wp2_with first
    | (go_at_call 108; refine (norm_c H.out.1 H.out.2 hl).mono ?_; rintro e w5 ⟨v5, C5, rfl, h1, h2, h3, h4⟩; have X5 : Hid (RR w.heap.size w5 v5 C5 ∧ IsC C5 (fun c => In L c ∧ isChar m c) ∧ C5.length ≤ L.length + 2 ∧ Below w.heap.size w w5) := ⟨h1, h2, h3, h4⟩; clear h1 h2 h3 h4)
    | (go_at_call 65; refine (equal_c (H.out.1.kept X5.out.2.2.2) X5.out.1.arg).mono ?_; obtain ⟨bb, hbb⟩ : ∃ bb, decide (L = C5) = bb := ⟨_, rfl⟩; rw [hbb]; have EB : Hid (decide (L = C5) = bb) := hbb; clear hbb; rintro e w7 ⟨rfl, h1⟩; have X7 : Hid (Below w5.heap.size w5 w7) := h1; clear h1)
  go_ret
  refine ⟨bb, rfl, ?_, chain X5.out.2.2.2 X7.out (Nat.le_refl _)⟩
  rw [← EB.out, decide_eq_true_iff]
  constructor
  · intro e
    have h2 := X5.out.2.1
    rw [← e] at h2
    exact h2
  · intro e
    exact e.one X5.out.2.1 fun _ => Iff.rfl
end Go.Proofs.YtpfdapnfkghgkaaGreatDoor
namespace Go.Proofs.YtpfdapnfkghgkaaGreatDoor
open Go Go.RowKit

def cntR (C : List (Int × Int)) : Int := (C.map fun r => r.2 - r.1 + 1).sum
/-- As many as can be told. -/
def cntM (C : List (Int × Int)) : Int := min (cntR C) 4611686018427387903
theorem cntR_append (A B : List (Int × Int)) : cntR (A ++ B) = cntR A + cntR B := by simp [cntR]
theorem cntR_nonneg {C : List (Int × Int)} (h : ∀ r ∈ C, r.1 ≤ r.2) : 0 ≤ cntR C := by
  induction C with
  | nil => simp [cntR]
  | cons r C ih =>
    have := ih fun x hx => h x (List.mem_cons_of_mem _ hx)
    have := h r List.mem_cons_self
    simp only [cntR, List.map_cons, List.sum_cons] at *
    omega
theorem cntR_next {C : List (Int × Int)} {k : Nat} {r : Int × Int} (h : C[k]? = some r) : cntR (C.take (k + 1)) = cntR (C.take k) + (r.2 - r.1 + 1) := by
  obtain ⟨hk, rfl⟩ := List.getElem?_eq_some_iff.1 h
  rw [take_next C k hk, cntR_append]
  simp [cntR]
theorem cntR_take {C : List (Int × Int)} (hC : Cls C) (k : Nat) : 0 ≤ cntR (C.take k) ∧ cntR (C.take k) ≤ cntR C := by
  have e : cntR C = cntR (C.take k) + cntR (C.drop k) := by rw [← cntR_append, List.take_append_drop]
  have h1 := cntR_nonneg (C := C.take k) fun r hr => hC.some r (List.mem_of_mem_take hr)
  have h2 := cntR_nonneg (C := C.drop k) fun r hr => hC.some r (List.mem_of_mem_drop hr)
  omega

theorem wrap_u (x : Int) : IntKind.wrap .u64 x = x % 18446744073709551616 := by
  simp [IntKind.wrap, IntKind.bits, IntKind.signed]

end Go.Proofs.YtpfdapnfkghgkaaGreatDoor
namespace Go.Proofs.YtpfdapnfkghgkaaGreatDoor
open Go Go.RowKit
attribute [local go_sem] ext_cell

def hasB (L : List (Int × Int)) (c : Int) : Bool := L.any fun r => decide (r.1 ≤ c) && decide (c ≤ r.2)
theorem hasB_iff (L : List (Int × Int)) (c : Int) : hasB L c = true ↔ In L c := by
  simp [hasB, In]
theorem hasB_next {L : List (Int × Int)} {k : Nat} {r : Int × Int} (h : L[k]? = some r) (c : Int) : hasB (L.take (k + 1)) c = (hasB (L.take k) c || (decide (r.1 ≤ c) && decide (c ≤ r.2))) := by
  obtain ⟨hk, rfl⟩ := List.getElem?_eq_some_iff.1 h
  rw [take_next L k hk]
  unfold hasB
  rw [List.any_append]
  simp only [List.any_cons, List.any_nil, Bool.or_false]
theorem hasB_found {L : List (Int × Int)} {k : Nat} {r : Int × Int} {c : Int} (h : L[k]? = some r) (h1 : r.1 ≤ c) (h2 : c ≤ r.2) : hasB L c = true := (hasB_iff L c).2 ⟨r, List.mem_of_getElem? h, h1, h2⟩

end Go.Proofs.YtpfdapnfkghgkaaGreatDoor
namespace Go.Proofs.YtpfdapnfkghgkaaGreatDoor
open Go Go.RowKit
attribute [local go_sem] ext_cell

theorem right_true {w : World} {v : Value} {L : List (Int × Int)} {m : Bool} {p : Int → Prop} (h : ArgR w v L) (hp : IsC L p) (hc : ∀ c, p c → isChar m c) (hl : L.length + 3 ≤ 8796093022208) :
    Calls Tryz.prog 114 #[v, .bool m] w fun e w' => e = .returned (.bool true) ∧ Below w.heap.size w w' :=
  (right_c (m := m) h hp.fit hl).mono fun e w' ⟨b, h1, h2, h3⟩ => ⟨by
    rw [h1, h2.2 ⟨hp.cls, hp.fit, fun c => ⟨fun q => ⟨q, hc c ((hp.mem c).1 q)⟩, fun q => q.1⟩⟩], h3⟩
theorem same_true {w : World} {va vb : Value} {A B : List (Int × Int)} (ha : ArgR w va A) (hb : ArgR w vb B) (fa : Fit A) (fb : Fit B) (hl1 : A.length ≤ 8796093022208) (hl2 : B.length ≤ 8796093022208) (hs : ∀ c, In A c ↔ In B c) :
    Calls Tryz.prog 115 #[va, vb] w fun e w' => e = .returned (.bool true) ∧ Below w.heap.size w w' :=
  (same_c ha hb fa fb hl1 hl2).mono fun e w' ⟨b, h1, h2, h3⟩ => ⟨by rw [h1, h2.2 hs], h3⟩
theorem same_false {w : World} {va vb : Value} {A B : List (Int × Int)} (ha : ArgR w va A) (hb : ArgR w vb B) (fa : Fit A) (fb : Fit B) (hl1 : A.length ≤ 8796093022208) (hl2 : B.length ≤ 8796093022208) (hs : ¬ ∀ c, In A c ↔ In B c) :
    Calls Tryz.prog 115 #[va, vb] w fun e w' => e = .returned (.bool false) ∧ Below w.heap.size w w' :=
  (same_c ha hb fa fb hl1 hl2).mono fun e w' ⟨b, h1, h2, h3⟩ => ⟨by
    cases b with
    | false => exact h1
    | true => exact absurd (h2.1 rfl) hs, h3⟩

end Go.Proofs.YtpfdapnfkghgkaaGreatDoor
namespace Go.Proofs.YtpfdapnfkghgkaaGreatDoor
open Go Go.RowKit

theorem countP_both {α : Type} (l : List α) (p q : α → Bool) : l.countP (fun x => p x || q x) + l.countP (fun x => p x && q x) = l.countP p + l.countP q := by
  induction l with
  | nil => rfl
  | cons a l ih =>
    simp only [List.countP_cons]
    cases hp : p a <;> cases hq : q a <;> simp <;> omega
theorem countP_iv (lo hi : Int) (h0 : 0 ≤ lo) : ∀ N : Nat, (((List.range N).countP fun n : Nat => decide (lo ≤ (n : Int)) && decide ((n : Int) ≤ hi) : Nat) : Int) = max 0 (min (hi + 1) N - lo)
  | 0 => by simp; omega
  | N + 1 => by
    have ih := countP_iv lo hi h0 N
    rw [List.range_succ, List.countP_append]
    simp only [List.countP_cons, List.countP_nil]
    by_cases h1 : lo ≤ (N : Int)
    · by_cases h2 : (N : Int) ≤ hi
      · simp [h1, h2]; omega
      · simp [h1, h2]; omega
    · simp [h1]; omega
theorem cntR_count : ∀ (C : List (Int × Int)), Cls C → (∀ c, In C c → 0 ≤ c ∧ c < 1114112) → cntR C = ((List.range 1114112).countP fun n : Nat => hasB C (n : Int) : Nat)
  | [], _, _ => by
    rw [List.countP_eq_zero.2 (by simp [hasB])]
    rfl
  | r :: C, h, hb => by
    have ih := cntR_count C (cls_tail h) fun c hc => hb c ((in_cons ..).2 (.inr hc))
    have hr := cls_head h
    have b1 := hb r.1 ((in_cons ..).2 (.inl ⟨Int.le_refl _, hr⟩))
    have b2 := hb r.2 ((in_cons ..).2 (.inl ⟨hr, Int.le_refl _⟩))
    have e := countP_both (List.range 1114112) (fun n : Nat => decide (r.1 ≤ (n : Int)) && decide ((n : Int) ≤ r.2)) (fun n : Nat => hasB C (n : Int))
    have z : (List.range 1114112).countP (fun n : Nat => (decide (r.1 ≤ (n : Int)) && decide ((n : Int) ≤ r.2)) && hasB C (n : Int)) = 0 := by
      rw [List.countP_eq_zero]
      intro n _ hn
      rw [Bool.and_eq_true, hasB_iff] at hn
      have := cls_above h hn.2
      have h3 := hn.1
      simp at h3
      omega
    have iv := countP_iv r.1 r.2 b1.1 1114112
    have ec : (List.range 1114112).countP (fun n : Nat => hasB (r :: C) (n : Int)) = (List.range 1114112).countP (fun n : Nat => (decide (r.1 ≤ (n : Int)) && decide ((n : Int) ≤ r.2)) || hasB C (n : Int)) := by
      simp only [hasB, List.any_cons]
    have ecn : cntR (r :: C) = (r.2 - r.1 + 1) + cntR C := by simp [cntR]
    rw [ec, ecn, ih]
    generalize (List.range 1114112).countP (fun n : Nat => (decide (r.1 ≤ (n : Int)) && decide ((n : Int) ≤ r.2)) || hasB C (n : Int)) = a at *
    generalize (List.range 1114112).countP (fun n : Nat => hasB C (n : Int)) = b at *
    generalize (List.range 1114112).countP (fun n : Nat => (decide (r.1 ≤ (n : Int)) && decide ((n : Int) ≤ r.2)) && hasB C (n : Int)) = d at *
    generalize (List.range 1114112).countP (fun n : Nat => decide (r.1 ≤ (n : Int)) && decide ((n : Int) ≤ r.2)) = f at *
    omega
theorem char_num' {m : Bool} {c : Int} (h : isChar m c) : 0 ≤ c ∧ c < 1114112 := by
  obtain ⟨h1, h2, _⟩ := h
  unfold top at h2
  split at h2 <;> omega
theorem cnt_is {C : List (Int × Int)} {p : Int → Prop} {m : Bool} (h : IsC C p) (hc : ∀ c, p c → isChar m c) : cntR C = ((List.range 1114112).countP fun n : Nat => hasB C (n : Int) : Nat) :=
  cntR_count C h.cls fun c q => char_num' (hc c ((h.mem c).1 q))
theorem cnt_le {C : List (Int × Int)} {p : Int → Prop} {m : Bool} (h : IsC C p) (hc : ∀ c, p c → isChar m c) : 0 ≤ cntR C ∧ cntR C ≤ 1114112 := by
  rw [cnt_is h hc]
  have := List.countP_le_length (p := fun n : Nat => hasB C (n : Int)) (l := List.range 1114112)
  rw [List.length_range] at this
  omega
theorem cnt_or_and {X Y O D : List (Int × Int)} {m : Bool} {p q : Int → Prop} (hX : IsC X p) (hY : IsC Y q) (hO : IsC O (fun c => In X c ∨ In Y c)) (hD : IsC D (fun c => In X c ∧ In Y c)) (hp : ∀ c, p c → isChar m c) (hq : ∀ c, q c → isChar m c) : cntR O + cntR D = cntR X + cntR Y := by
  rw [cnt_is hX hp, cnt_is hY hq, cnt_is hO (fun c h => h.elim (fun h => hp c ((hX.mem c).1 h)) (fun h => hq c ((hY.mem c).1 h))), cnt_is hD (fun c h => hp c ((hX.mem c).1 h.1))]
  have e := countP_both (List.range 1114112) (fun n : Nat => hasB X (n : Int)) (fun n : Nat => hasB Y (n : Int))
  have e1 : (fun n : Nat => hasB O (n : Int)) = fun n : Nat => hasB X (n : Int) || hasB Y (n : Int) := funext fun n : Nat => by
    rw [Bool.eq_iff_iff, Bool.or_eq_true, hasB_iff, hasB_iff, hasB_iff, hO.mem]
  have e2 : (fun n : Nat => hasB D (n : Int)) = fun n : Nat => hasB X (n : Int) && hasB Y (n : Int) := funext fun n : Nat => by
    rw [Bool.eq_iff_iff, Bool.and_eq_true, hasB_iff, hasB_iff, hasB_iff, hD.mem]
  rw [e1, e2]
  omega
theorem cnt_rest {X M A : List (Int × Int)} {m : Bool} {p : Int → Prop} (hX : IsC X p) (hp : ∀ c, p c → isChar m c) (hM : IsC M (fun c => isChar m c ∧ ¬ In X c)) (hA : IsC A (fun c => isChar m c ∧ ¬ In [] c)) : cntR X + cntR M = cntR A := by
  rw [cnt_is hX hp, cnt_is hM (fun c h => h.1), cnt_is hA (fun c h => h.1)]
  have e := countP_both (List.range 1114112) (fun n : Nat => hasB X (n : Int)) (fun n : Nat => hasB M (n : Int))
  have e1 : (fun n : Nat => hasB A (n : Int)) = fun n : Nat => hasB X (n : Int) || hasB M (n : Int) := funext fun n : Nat => by
    rw [Bool.eq_iff_iff, Bool.or_eq_true, hasB_iff, hasB_iff, hasB_iff, hA.mem, hM.mem]
    constructor
    · rintro ⟨q, _⟩
      rcases Classical.em (In X (n : Int)) with h | h
      · exact .inl h
      · exact .inr ⟨q, h⟩
    · rintro (q | ⟨q, _⟩)
      · exact ⟨hp _ ((hX.mem _).1 q), in_nil _⟩
      · exact ⟨q, in_nil _⟩
  have z : (List.range 1114112).countP (fun n : Nat => hasB X (n : Int) && hasB M (n : Int)) = 0 := by
    rw [List.countP_eq_zero]
    intro n _ hn
    rw [Bool.and_eq_true, hasB_iff, hasB_iff, hM.mem] at hn
    exact hn.2.2 hn.1
  rw [z] at e
  rw [e1]
  omega
theorem cls_len : ∀ (C : List (Int × Int)) (lo hi : Int), Cls C → (∀ c, In C c → lo ≤ c ∧ c ≤ hi) → C = [] ∨ 2 * (C.length : Int) ≤ hi - lo + 2
  | [], _, _, _, _ => .inl rfl
  | r :: C, lo, hi, h, hb => by
    have hr := cls_head h
    have b1 := hb r.1 ((in_cons ..).2 (.inl ⟨Int.le_refl _, hr⟩))
    have b2 := hb r.2 ((in_cons ..).2 (.inl ⟨hr, Int.le_refl _⟩))
    refine .inr ?_
    rcases cls_len C (r.2 + 2) hi (cls_tail h) (fun c hc => ⟨by have := cls_above h hc; omega, (hb c ((in_cons ..).2 (.inr hc))).2⟩) with rfl | q
    · simp; omega
    · simp; omega
theorem char_len {C : List (Int × Int)} {p : Int → Prop} {m : Bool} (h : IsC C p) (hc : ∀ c, p c → isChar m c) : C.length ≤ 600000 := by
  rcases cls_len C 0 1114111 h.cls (fun c q => by have := char_num' (hc c ((h.mem c).1 q)); omega) with rfl | q
  · simp
  · omega
theorem fold_twice {X F : List (Int × Int)} (hF : IsC F (foldP X)) (c : Int) : foldP F c ↔ In F c := by
  constructor
  · rintro (q | ⟨q, h1, h2⟩ | ⟨q, h1, h2⟩)
    · exact q
    · rw [hF.mem] at q ⊢
      rcases q with q | ⟨q, h3, h4⟩ | ⟨q, h3, h4⟩
      · exact .inr (.inl ⟨q, h1, h2⟩)
      · omega
      · rw [show c - 32 + 32 = c by omega] at q
        exact .inl q
    · rw [hF.mem] at q ⊢
      rcases q with q | ⟨q, h3, h4⟩ | ⟨q, h3, h4⟩
      · exact .inr (.inr ⟨q, h1, h2⟩)
      · rw [show c + 32 - 32 = c by omega] at q
        exact .inl q
      · omega
  · exact .inl
end Go.Proofs.YtpfdapnfkghgkaaGreatDoor
