/-
  The library's sort by a comparison, as it lies in this program (laid by program). order: where the ranges stand, by where they begin. add: a class with one range more.
-/
import Derived.Shelf.SlGeneric
import Derived.Ground.SlsfProg
import Derived.Shelf.SlSortCmp.Whole1
import Derived.Test.YtlodjinejeajcaaProg
import Derived.Test.YtlodjinejeajcaaC0
import Derived.Shelf.SlSortCmp.NoneTotal
import Derived.Deep.QuietTactic
import Derived.BigQuiet
namespace Go.Proofs
open Go.Shelf
def Try.sortPl_ren : Go.Shelf.Ren := ⟨fun | 6 => 88 | 15 => 93 | 14 => 92 | 28 => 104 | 29 => 105 | 20 => 96 | 21 => 97 | 22 => 98 | 23 => 99 | 24 => 100 | 25 => 101 | 26 => 102 | 27 => 103 | 46 => 106 | 47 => 107 | 48 => 108 | 49 => 109 | 50 => 110 | 57 => 111 | n => n, fun | 22 => 59 | 24 => 3 | 25 => 99 | 3 => 3 | 39 => 102 | 0 => 0 | 53 => 113 | 55 => 115 | 4 => 4 | 46 => 106 | 45 => 105 | 50 => 110 | 5 => 5 | 9 => 9 | 66 => 116 | 70 => 120 | 76 => 122 | 77 => 123 | n => n, fun | n => n⟩
theorem Try.sortPl : Go.Proofs.SlLaysF.n6 Try.prog Try.sortPl_ren := {
  mixed := by kernel_rfl
  f6 := ⟨Try.f88.name, by decide, Try.func88.trans (congrArg some (by kernel_rfl))⟩
  f14 := ⟨Try.f92.name, by decide, Try.func92.trans (congrArg some (by kernel_rfl))⟩
  f15 := Try.func93.trans (congrArg some (by kernel_rfl))
  f20 := ⟨Try.f96.name, by decide, Try.func96.trans (congrArg some (by kernel_rfl))⟩
  f21 := ⟨Try.f97.name, by decide, Try.func97.trans (congrArg some (by kernel_rfl))⟩
  f22 := ⟨Try.f98.name, by decide, Try.func98.trans (congrArg some (by kernel_rfl))⟩
  f23 := ⟨Try.f99.name, by decide, Try.func99.trans (congrArg some (by kernel_rfl))⟩
  f24 := ⟨Try.f100.name, by decide, Try.func100.trans (congrArg some (by kernel_rfl))⟩
  f25 := ⟨Try.f101.name, by decide, Try.func101.trans (congrArg some (by kernel_rfl))⟩
  f26 := ⟨Try.f102.name, by decide, Try.func102.trans (congrArg some (by kernel_rfl))⟩
  f27 := ⟨Try.f103.name, by decide, Try.func103.trans (congrArg some (by kernel_rfl))⟩
  f28 := Try.func104.trans (congrArg some (by kernel_rfl))
  f29 := Try.func105.trans (congrArg some (by kernel_rfl))
  f46 := ⟨Try.f106.name, by decide, Try.func106.trans (congrArg some (by kernel_rfl))⟩
  f47 := Try.func107.trans (congrArg some (by kernel_rfl))
  f48 := Try.func108.trans (congrArg some (by kernel_rfl))
  f49 := ⟨Try.f109.name, by decide, Try.func109.trans (congrArg some (by kernel_rfl))⟩
  f50 := ⟨Try.f110.name, by decide, Try.func110.trans (congrArg some (by kernel_rfl))⟩
  f57 := ⟨Try.f111.name, by decide, Try.func111.trans (congrArg some (by kernel_rfl))⟩
  t0 := Try.underlying0
  a0 := Try.isAgg0
  z0 := Try.sizeOf0
  v0 := Try.zeroValue0
  t3 := Try.underlying3
  a3 := Try.isAgg3
  z3 := Try.sizeOf3
  v3 := Try.zeroValue3
  t4 := Try.underlying4
  a4 := Try.isAgg4
  z4 := Try.sizeOf4
  v4 := Try.zeroValue4
  t5 := Try.underlying5
  a5 := Try.isAgg5
  z5 := Try.sizeOf5
  v5 := Try.zeroValue5
  t9 := Try.underlying9
  a9 := Try.isAgg9
  z9 := Try.sizeOf9
  v9 := Try.zeroValue9
  t22 := Try.underlying59
  a22 := Try.isAgg59
  z22 := Try.sizeOf59
  v22 := Try.zeroValue59
  a24 := Try.isAgg3
  z24 := Try.sizeOf3
  t25 := Try.underlying99
  a25 := Try.isAgg99
  z25 := Try.sizeOf99
  v25 := Try.zeroValue99
  t39 := Try.underlying102
  a39 := Try.isAgg102
  z39 := Try.sizeOf102
  v39 := Try.zeroValue102
  t45 := Try.underlying105
  a45 := Try.isAgg105
  z45 := Try.sizeOf105
  v45 := Try.zeroValue105
  t46 := Try.underlying106
  a46 := Try.isAgg106
  z46 := Try.sizeOf106
  v46 := Try.zeroValue106
  t50 := Try.underlying110
  a50 := Try.isAgg110
  z50 := Try.sizeOf110
  v50 := Try.zeroValue110
  t53 := Try.underlying113
  a53 := Try.isAgg113
  z53 := Try.sizeOf113
  v53 := Try.zeroValue113
  t55 := Try.underlying115
  a55 := Try.isAgg115
  z55 := Try.sizeOf115
  v55 := Try.zeroValue115
  t66 := Try.underlying116
  a66 := Try.isAgg116
  z66 := Try.sizeOf116
  v66 := Try.zeroValue116
  t70 := Try.underlying120
  a70 := Try.isAgg120
  z70 := Try.sizeOf120
  v70 := Try.zeroValue120
  t76 := Try.underlying122
  a76 := Try.isAgg122
  z76 := Try.sizeOf122
  v76 := Try.zeroValue122
  t77 := Try.underlying123
  a77 := Try.isAgg123
  z77 := Try.sizeOf123
  v77 := Try.zeroValue123 }
end Go.Proofs
namespace Go.Proofs.Ytlodjinejeajcaa
open Go Go.RowKit Go.Shelf
attribute [local go_sem] ext_cell

set_option maxHeartbeats 1000000 in
theorem nan_c (x : Int) (w : World) : Calls Try.prog 94 #[.int .i64 x] w fun e w' => e = .returned (.bool false) ∧ w' = w := by
  have h : (x != x) = false := by simp
  go_enter Try.func94, Try.ntmps94
  go_wp2
  go_ret
  exact ⟨rfl, rfl⟩
def cmpI (x y : Int) : Int := if x < y then -1 else if y < x then 1 else 0
set_option maxHeartbeats 1000000 in
theorem cmpi_c (x y : Int) (w : World) : Calls Try.prog 90 #[.int .i64 x, .int .i64 y] w fun e w' => e = .returned (.int .i64 (cmpI x y)) ∧ w' = w := by
  by_cases h1 : x < y
  · have HE : Hid (cmpI x y = -1) := if_pos h1
    go_enter Try.func90, Try.ntmps90
    go_wp2_with (go_at_call 94; refine (nan_c _ _).mono ?_; rintro e w5 ⟨rfl, h5⟩; subst w5)
    go_ret
    exact ⟨by rw [HE.out]; rfl, rfl⟩
  · by_cases h2 : y < x
    · have HE : Hid (cmpI x y = 1) := hide (by unfold cmpI; rw [if_neg h1, if_pos h2])
      go_enter Try.func90, Try.ntmps90
      go_wp2_with (go_at_call 94; refine (nan_c _ _).mono ?_; rintro e w5 ⟨rfl, h5⟩; subst w5)
      go_ret
      exact ⟨by rw [HE.out]; rfl, rfl⟩
    · have HE : Hid (cmpI x y = 0) := hide (by unfold cmpI; rw [if_neg h1, if_neg h2])
      go_enter Try.func90, Try.ntmps90
      go_wp2_with (go_at_call 94; refine (nan_c _ _).mono ?_; rintro e w5 ⟨rfl, h5⟩; subst w5)
      go_ret
      exact ⟨by rw [HE.out]; rfl, rfl⟩

set_option maxHeartbeats 1000000 in
theorem order1_c {W : World} {bb g off cap n : Nat} {i j : Nat} {x y : Int} (hc : W.cell? ⟨bb, 0, none⟩ = some (.slice (some ⟨g, off, none⟩) n cap)) (hx : W.cell? ⟨g, off + i * 2, none⟩ = some (.int .i64 x)) (hy : W.cell? ⟨g, off + j * 2, none⟩ = some (.int .i64 y)) (hi : i < n) (hj : j < n) :
    Calls Try.prog 89 #[.int .i64 (i : Int), .int .i64 (j : Int), .pointer (some ⟨bb, 0, none⟩)] W fun e w' => e = .returned (.int .i64 (cmpI x y)) ∧ ∃ q os', w' = Go.Sort.grow (W.drewN q) os' := by
  have i0 : (0 : Int) ≤ (i : Int) := by omega
  have j0 : (0 : Int) ≤ (j : Int) := by omega
  have i1 : (i : Int) < (n : Int) := by omega
  have j1 : (j : Int) < (n : Int) := by omega
  go_enter Try.func89, Try.ntmps89
  go_wp2
  go_quiet (first | (go_at_call 90; exact Calls.quiet_of_same (cmpi_c _ _ _)))
  go_wp2
  go_ret
  exact ⟨rfl, _, #[], by rw [Go.Sort.grow_empty]⟩

theorem swBlock {α : Type} [Inhabited α] (enc : α → Value) (w : World) (blk off m : Nat) (dk : Array α) (os : Array Obj) {j : Nat} (h1 : j ≠ blk) (h2 : j < w.heap.size) : (sortWorld enc w blk off m dk os).heap[j]? = w.heap[j]? := by
  unfold sortWorld Go.Sort.grow Go.Sort.putRow Go.Sort.mapBlock Go.Sort.ahead
  simp only
  rw [Array.getElem?_append_left (by simpa using h2), Array.getElem?_modify, if_neg (Ne.symm h1)]
theorem swSelf {α : Type} [Inhabited α] (enc : α → Value) (w : World) (blk off m : Nat) (dk : Array α) (os : Array Obj) {cur : Array Value} {t : TypeId} {fr : Nat × Nat} (h : w.heap[blk]? = some (.cells cur t fr)) : ∃ cur', (sortWorld enc w blk off m dk os).heap[blk]? = some (.cells cur' t fr) := by
  have hlt := lt_of_heap h
  unfold sortWorld Go.Sort.grow Go.Sort.putRow Go.Sort.mapBlock Go.Sort.ahead
  simp only
  rw [Array.getElem?_append_left (by simpa using hlt), Array.getElem?_modify, if_pos rfl, h]
  exact ⟨_, rfl⟩
theorem swSize {α : Type} [Inhabited α] (enc : α → Value) (w : World) (blk off m : Nat) (dk : Array α) (os : Array Obj) : w.heap.size ≤ (sortWorld enc w blk off m dk os).heap.size := by
  unfold sortWorld Go.Sort.grow Go.Sort.putRow Go.Sort.mapBlock Go.Sort.ahead
  simp
theorem swCell {α : Type} [Inhabited α] (enc : α → Value) (w : World) (blk off m : Nat) (dk : Array α) (os : Array Obj) {j o : Nat} (h1 : j ≠ blk) (h2 : j < w.heap.size) : (sortWorld enc w blk off m dk os).cell? ⟨j, o, none⟩ = w.cell? ⟨j, o, none⟩ := by
  unfold World.cell?
  simp only [swBlock enc w blk off m dk os h1 h2]

/-- Places, in a block. -/
def IdxAt (w : World) (g : Nat) (I : List Nat) : Prop := ∃ cur, w.heap[g]? = some (.cells cur 3 (0, 0)) ∧ ∀ (i x : Nat), I[i]? = some x → cur[i]? = some (.int .i64 (x : Int))
def loAt (L : List (Int × Int)) (i : Nat) : Int := ((L[i]?).getD (0, 0)).1
theorem loAt_get {L : List (Int × Int)} {i : Nat} {r : Int × Int} (h : L[i]? = some r) : loAt L i = r.1 := by unfold loAt; rw [h]; rfl
theorem ltI (x y : Int) : decide (cmpI x y < 0) = decide (x < y) := by
  unfold cmpI
  by_cases h1 : x < y
  · simp [h1]
  · by_cases h2 : y < x <;> simp [h1, h2]
theorem hbang {α : Type} [Inhabited α] (X : List α) (i : Nat) (h : i < X.length) : X.toArray[i]! = X[i] := by simp [h]

theorem range_sub (n : Nat) : ∃ D : List { x : Nat // x < n }, D.map (fun x => x.1) = List.range n :=
  ⟨(List.range n).attachWith (fun x => x < n) (fun _ hx => List.mem_range.1 hx), (List.attachWith_map_val (f := id) (fun _ hx => List.mem_range.1 hx)).trans (List.map_id _)⟩
theorem sort_idx {w : World} {bb g off cap cap2 g2 : Nat} {L : List (Int × Int)} (hne : 0 < L.length) (hlen : L.length ≤ 8796093022208) (hc : w.cell? ⟨bb, 0, none⟩ = some (.slice (some ⟨g, off, none⟩) L.length cap)) (hL : ∀ (i : Nat) (r : Int × Int), L[i]? = some r → w.cell? ⟨g, off + i * 2, none⟩ = some (.int .i64 r.1))
    (hb : bb ≠ g2) (hg : g ≠ g2) (lb : bb < w.heap.size) (lg : g < w.heap.size) (hI : IdxAt w g2 (List.range L.length)) :
    Calls Try.prog 88 #[.slice (some ⟨g2, 0, none⟩) L.length cap2, .func (.func 89) #[] #[.pointer (some ⟨bb, 0, none⟩)]] w fun e w' => e = .returned (.tuple #[]) ∧ ∃ I : List Nat, IdxAt w' g2 I ∧ I.Perm (List.range L.length) ∧ (I.map (loAt L)).Pairwise (· ≤ ·) ∧ Fr (fun k => k = g2) w w' := by
  let α := { x : Nat // x < L.length }
  have : Inhabited α := ⟨⟨0, hne⟩⟩
  let enc : α → Value := fun x => .int .i64 (x.1 : Int)
  let cf : α → α → Int := fun x y => cmpI (loAt L x.1) (loAt L y.1)
  obtain ⟨cur, hcur, hcv⟩ := hI
  obtain ⟨D, hD⟩ : ∃ D : List α, D.map (fun x => x.1) = List.range L.length := range_sub L.length
  have hDl : D.length = L.length := by have := congrArg List.length hD; simpa using this
  have hDi : ∀ i (h : i < D.length), (D[i]).1 = i := fun i h => by
    have e : (D.map (fun x => x.1))[i]? = (List.range L.length)[i]? := by rw [hD]
    rw [List.getElem?_map, List.getElem?_eq_getElem h, List.getElem?_eq_getElem (by simpa using hDl ▸ h)] at e
    simpa using e
  have hgl := lt_of_heap hcur
  have hH : Go.Sort.Holds enc w g2 0 D.toArray := fun j hj => by
    have hj' : j < D.length := by simpa using hj
    rw [Nat.zero_add, hbang D j hj']
    refine ⟨cell_row hcur ?_, frz_row hcur j⟩
    rw [hcv j j (by rw [List.getElem?_eq_getElem (by simpa using hDl ▸ hj')]; simp)]
    show _ = some (Value.int .i64 ((D[j]).1 : Int))
    rw [hDi j hj']
  have hO : Go.Sort.SWO (ltOf cf) := by
    have hlt : ∀ x y : α, ltOf cf x y = decide (loAt L x.1 < loAt L y.1) := fun x y => ltI _ _
    exact ⟨fun x => by rw [hlt]; simp, fun x y z h1 h2 => by rw [hlt] at *; simp at *; omega, fun x y z h1 h2 => by rw [hlt] at *; simp at *; omega⟩
  have hcmp : CmpLays1 Try.prog 89 #[.pointer (some ⟨bb, 0, none⟩)] enc cf g2 0 D.toArray.size w := fun m os dk _ x y => by
    have h1 := (swCell enc w g2 0 m dk os (o := 0) hb lb).trans hc
    have h2 := (swCell enc w g2 0 m dk os (o := off + x.1 * 2) hg lg).trans (hL x.1 _ (List.getElem?_eq_getElem x.2))
    have h3 := (swCell enc w g2 0 m dk os (o := off + y.1 * 2) hg lg).trans (hL y.1 _ (List.getElem?_eq_getElem y.2))
    rw [← loAt_get (List.getElem?_eq_getElem x.2)] at h2
    rw [← loAt_get (List.getElem?_eq_getElem y.2)] at h3
    exact order1_c h1 h2 h3 x.2 y.2
  have eg : ∀ args w, (callFunc 89 args).run Try.prog w = .ok (.enter 89 args) w := enters_of Try.func89 (by kernel_rfl) rfl
  have hcon := Any.slices_SortFunc Try.sortPl enc (fun _ => rfl) cf hO 89 #[.pointer (some ⟨bb, 0, none⟩)] g2 0 cap2 D.toArray w eg hcmp hH hgl (by rw [List.size_toArray]; omega)
  rw [List.size_toArray, hDl] at hcon
  refine Calls.mono (show Calls Try.prog 88 _ _ _ from hcon) ?_
  rintro e w' ⟨rfl, d', n, os, hp, hs, rfl⟩
  obtain ⟨X, rfl⟩ : ∃ X : List α, d' = X.toArray := ⟨d'.toList, by simp⟩
  have hXl : X.length = L.length := by have := hp.1; simpa [hDl] using this
  have hperm : X.Perm D := by
    have := hp.2.2
    simpa [List.take_of_length_le (show X.length ≤ L.length by omega), List.take_of_length_le (show D.length ≤ L.length by omega)] using this
  have hH' := holds_sortWorld enc w g2 0 n D.toArray X.toArray os hgl hH (by simp [hXl, hDl])
  obtain ⟨cur', hcur'⟩ := swSelf enc w g2 0 n X.toArray os hcur
  refine ⟨rfl, X.map (fun x => x.1), ⟨cur', hcur', fun i x hx => ?_⟩, by rw [← hD]; exact hperm.map _, ?_, rfl, rfl, rfl, swSize enc w g2 0 n X.toArray os, fun k hk hs => swBlock enc w g2 0 n X.toArray os hs hk⟩
  · rw [List.getElem?_map] at hx
    cases hy : X[i]? with
    | none => rw [hy] at hx; cases hx
    | some y =>
      rw [hy] at hx
      obtain ⟨hi, e2⟩ := List.getElem?_eq_some_iff.1 hy
      have h1 := (hH' i (by simpa using hi)).1
      rw [Nat.zero_add, hbang X i hi, e2] at h1
      unfold World.cell? at h1
      simp only [hcur'] at h1
      rw [← Option.some.inj hx]
      exact h1
  · rw [List.pairwise_iff_getElem]
    intro i j hi hj hij
    simp only [List.length_map] at hi hj
    have := hs i j (Nat.zero_le _) hij (by omega)
    rw [hbang X i hi, hbang X j hj] at this
    have h2 : decide (loAt L X[j].1 < loAt L X[i].1) = false := (ltI _ _).symm.trans this
    simp only [List.getElem_map]
    have := of_decide_eq_false h2
    omega
end Go.Proofs.Ytlodjinejeajcaa
namespace Go.Proofs.Ytlodjinejeajcaa
open Go Go.RowKit
attribute [local go_sem] ext_cell

/-- What may have changed in the list that came. -/
def blk (v : Value) (k : Nat) : Prop := v.ownBlock = some k
theorem appended {base : Nat} {w w1 w6 : World} {q : Option Addr} {c g6 cap6 : Nat} {C : List (Int × Int)} {r : Int × Int} (B1 : Below w.heap.size w w1) (hg : w1.grownBy w6 (Value.slice q C.length c).ownBlock)
    (ho : w6.ownsRow base 72 2 (.slice (some ⟨g6, 0, none⟩) (C.length + 1) cap6) (C.length + 1) (cellsR C ++ [.int .i64 r.1, .int .i64 r.2]))
    (hb : (Value.slice (some ⟨g6, 0, none⟩) (C.length + 1) cap6).ownBlock = (Value.slice q C.length c).ownBlock ∨ (Value.slice (some ⟨g6, 0, none⟩) (C.length + 1) cap6).ownBlock = some w1.heap.size) :
    RR base w6 (.slice (some ⟨g6, 0, none⟩) (C.length + 1) cap6) (C ++ [r]) ∧ moved (.slice q C.length c) (.slice (some ⟨g6, 0, none⟩) (C.length + 1) cap6) w.heap.size ∧ Fr (blk (.slice q C.length c)) w w6 := by
  refine ⟨?_, ?_, (Fr.of_below B1).grown hg fun k hk => hk⟩
  · unfold RR
    rw [List.length_append, List.length_singleton, cellsR_append]
    exact ho
  · rcases hb with hb | hb
    · exact .inl hb
    · exact .inr (.inr ⟨_, B1.size, hb⟩)

theorem appendedN {base : Nat} {w w1 w6 : World} {q : Option Addr} {n c g6 cap6 : Nat} {C : List (Int × Int)} {r : Int × Int} (hn : C.length = n) (B1 : Below w.heap.size w w1) (hg : w1.grownBy w6 (Value.slice q n c).ownBlock)
    (ho : w6.ownsRow base 72 2 (.slice (some ⟨g6, 0, none⟩) (n + 1) cap6) (n + 1) (cellsR C ++ [.int .i64 r.1, .int .i64 r.2]))
    (hb : (Value.slice (some ⟨g6, 0, none⟩) (n + 1) cap6).ownBlock = (Value.slice q n c).ownBlock ∨ (Value.slice (some ⟨g6, 0, none⟩) (n + 1) cap6).ownBlock = some w1.heap.size) :
    RR base w6 (.slice (some ⟨g6, 0, none⟩) (n + 1) cap6) (C ++ [r]) ∧ moved (.slice q n c) (.slice (some ⟨g6, 0, none⟩) (n + 1) cap6) w.heap.size ∧ Fr (blk (.slice q n c)) w w6 := by
  subst hn
  exact appended B1 hg ho hb

set_option maxHeartbeats 1000000 in
theorem add_empty {w : World} {v : Value} {r : Int × Int} (hr : r.2 < r.1) :
    Calls Try.prog 81 #[v, .agg #[.int .i64 r.1, .int .i64 r.2]] w fun e w' => e = .returned v ∧ Below w.heap.size w w' := by
  go_enter Try.func81, Try.ntmps81
  go_wp2
  go_ret
  exact ⟨rfl, (Below.refl _ _).alloc (Nat.le_refl _) _⟩

set_option maxRecDepth 100000 in
set_option maxHeartbeats 1000000 in
theorem add_nil {base : Nat} {w : World} {q : Option Addr} {c : Nat} {r : Int × Int} (h : RR base w (.slice q 0 c) []) (hr : ¬ r.2 < r.1) (hbase : base ≤ w.heap.size) :
    Calls Try.prog 81 #[.slice q 0 c, .agg #[.int .i64 r.1, .int .i64 r.2]] w fun e w' => ∃ v', e = .returned v' ∧ RR base w' v' [r] ∧ moved (.slice q 0 c) v' w.heap.size ∧ Fr (blk (.slice q 0 c)) w w' := by
  obtain ⟨t0, hi, hz0, hz1, hz2⟩ := info_parts size_range
  have H : Hid (RR base w (.slice q 0 c) []) := h
  clear h
  go_enter Try.func81, Try.ntmps81
  go_wp2
  refine wp_region_ext (by kernel_rfl) (by kernel_rfl) ?_
  repeat (go_big_quiet_step (first | exact rfl))
  refine wpQuiet_nil ?_
  intro w1 hw
  have B1 : Hid (Below w.heap.size w w1) := chain ((Below.refl _ _).alloc (Nat.le_refl _) _) (ext_of hw) (by simp)
  have hb1 := ext_of hw
  have m0 : w1.cell? ⟨w.heap.size, 0, none⟩ = some (.int .i64 r.1) := (hb1.cell (p := ⟨w.heap.size, 0, none⟩) (by simp)).trans (cell_row (alloc_new w _) (i := 0) rfl)
  have m1 : w1.cell? ⟨w.heap.size, 1, none⟩ = some (.int .i64 r.2) := (hb1.cell (p := ⟨w.heap.size, 1, none⟩) (by simp)).trans (cell_row (alloc_new w _) (i := 1) rfl)
  have hsz : w.heap.size ≤ w1.heap.size := B1.out.size
  have O1 : Hid (RR base w1 (.slice q 0 c) []) := H.out.kept B1.out
  clear hb1 hw
  go_wp2_with (at_builtin; refine wpList_append_own_at _ rfl _ _ 22 rfl base 72 t0 (.agg #[.int .i64 0, .int .i64 0]) 2 16 und_ranges hi hz0 hz1 hz2 rfl (by decide) (.slice q 0 c) 0 [] rfl (World.ownsRow.alloc O1.out (.cells #[.int .i64 r.1, .int .i64 r.2] 72)) ⟨w1.heap.size, 0, none⟩ 1 1 [.int .i64 r.1, .int .i64 r.2] rfl rfl (news2 _ _ _ _) (by simp [Value.oneCell']) (by unfold maxLen; omega) (by omega) (by simp; omega) ?_; intro v' w6 hown' hgrow _ hblk; obtain ⟨g6, cap6, rfl⟩ := ownsRow_some hown' (Nat.succ_pos _); have A6 : Hid _ := appended (C := []) (r := r) (B1.out.alloc B1.out.size _) hgrow hown' hblk; clear hown' hgrow hblk)
  go_ret
  exact ⟨_, rfl, A6.out.1, A6.out.2.1, A6.out.2.2⟩

theorem last_cell {base : Nat} {w : World} {g n c : Nat} {D : List (Int × Int)} {x : Int × Int} (h : w.ownsRow base 72 2 (.slice (some ⟨g, 0, none⟩) (n + 1) c) (n + 1) (cellsR (D ++ [x]))) (hn : D.length = n) : w.cell? ⟨g, n * 2, none⟩ = some (.int .i64 x.1) ∧ w.cell? ⟨g, n * 2 + 1, none⟩ = some (.int .i64 x.2) := by
  have hx : (D ++ [x])[n]? = some x := by subst hn; simp
  obtain ⟨p1, p2⟩ := cellsR_get (D ++ [x]) n x hx
  rw [Nat.mul_comm] at p1 p2
  exact ⟨ownsRow_cell h p1, ownsRow_cell h p2⟩

set_option maxRecDepth 100000 in
set_option maxHeartbeats 1000000 in
theorem add_far {base : Nat} {w : World} {g n c : Nat} {D : List (Int × Int)} {x r : Int × Int} (h : w.ownsRow base 72 2 (.slice (some ⟨g, 0, none⟩) (n + 1) c) (n + 1) (cellsR (D ++ [x]))) (hn : D.length = n) (hr : ¬ r.2 < r.1) (hbase : base ≤ w.heap.size) (hf : x.2 + 1 < r.1)
    (hlo : -9223372036854775808 ≤ x.2) (hm : r.1 ≤ 9223372036854775807) (hl : n + 2 ≤ 8796093022208) :
    Calls Try.prog 81 #[.slice (some ⟨g, 0, none⟩) (n + 1) c, .agg #[.int .i64 r.1, .int .i64 r.2]] w fun e w' => ∃ v', e = .returned v' ∧ RR base w' v' (D ++ [x] ++ [r]) ∧ moved (.slice (some ⟨g, 0, none⟩) (n + 1) c) v' w.heap.size ∧ Fr (blk (.slice (some ⟨g, 0, none⟩) (n + 1) c)) w w' := by
  obtain ⟨t0, hi, hz0, hz1, hz2⟩ := info_parts size_range
  have H : Hid (w.ownsRow base 72 2 (.slice (some ⟨g, 0, none⟩) (n + 1) c) (n + 1) (cellsR (D ++ [x]))) := h
  have HN : Hid (D.length = n) := hn
  have glt : g < w.heap.size := (ownsRow_at h rfl).2.1
  have hcell := (last_cell h hn).2
  clear h hn
  have e1 : IntKind.wrap .i64 ((n : Int) + 1 - 1) = (n : Int) := by rw [IntKind.wrap_i64]; omega
  have e2 : IntKind.wrap .i64 (x.2 + 1) = x.2 + 1 := by rw [IntKind.wrap_i64]; omega
  have hx := hcell
  generalize x.2 = y at *
  have i0 : ¬ (n : Int) < 0 := by omega
  have i1 : (0 : Int) ≤ (n : Int) := by omega
  have i2 : (n : Int) < (n : Int) + 1 := by omega
  have d0 : decide ((n : Int) < 0) = false := decide_eq_false i0
  have d1 : decide (y < r.1) = true := decide_eq_true (by omega)
  have d2 : decide (y + 1 < r.1) = true := decide_eq_true hf
  go_enter Try.func81, Try.ntmps81
  go_wp2
  refine wp_region_ext (by kernel_rfl) (by kernel_rfl) ?_
  repeat (go_big_quiet_step (first | exact rfl))
  refine wpQuiet_nil ?_
  intro w1 hw
  have B1 : Hid (Below w.heap.size w w1) := chain ((Below.refl _ _).alloc (Nat.le_refl _) _) (ext_of hw) (by simp)
  have hb1 := ext_of hw
  have m0 : w1.cell? ⟨w.heap.size, 0, none⟩ = some (.int .i64 r.1) := (hb1.cell (p := ⟨w.heap.size, 0, none⟩) (by simp)).trans (cell_row (alloc_new w _) (i := 0) rfl)
  have m1 : w1.cell? ⟨w.heap.size, 1, none⟩ = some (.int .i64 r.2) := (hb1.cell (p := ⟨w.heap.size, 1, none⟩) (by simp)).trans (cell_row (alloc_new w _) (i := 1) rfl)
  have hsz : w.heap.size ≤ w1.heap.size := B1.out.size
  have O1 : Hid (w1.ownsRow base 72 2 (.slice (some ⟨g, 0, none⟩) (n + 1) c) (n + 1) (cellsR (D ++ [x]))) := ownsRow_fr (S := fun _ => False) H.out (Fr.of_below B1.out) (fun _ _ q => q)
  clear hb1 hw
  go_wp2_with (at_builtin; refine wpList_append_own_at _ rfl _ _ 22 rfl base 72 t0 (.agg #[.int .i64 0, .int .i64 0]) 2 16 und_ranges hi hz0 hz1 hz2 rfl (by decide) (.slice (some ⟨g, 0, none⟩) (n + 1) c) (n + 1) (cellsR (D ++ [x])) rfl (World.ownsRow.alloc O1.out (.cells #[.int .i64 r.1, .int .i64 r.2] 72)) ⟨w1.heap.size, 0, none⟩ 1 1 [.int .i64 r.1, .int .i64 r.2] rfl rfl (news2 _ _ _ _) (by simp [Value.oneCell']) (by unfold maxLen; omega) (by omega) (by simp; omega) ?_; intro v' w6 hown' hgrow _ hblk; obtain ⟨g6, cap6, rfl⟩ := ownsRow_some hown' (Nat.succ_pos _); have A6 : Hid _ := appendedN (n := n + 1) (C := D ++ [x]) (r := r) (by have := HN.out; simp; omega) (B1.out.alloc B1.out.size _) hgrow hown' hblk; clear hown' hgrow hblk)
  go_ret
  exact ⟨_, rfl, A6.out.1, A6.out.2.1, A6.out.2.2⟩
end Go.Proofs.Ytlodjinejeajcaa
