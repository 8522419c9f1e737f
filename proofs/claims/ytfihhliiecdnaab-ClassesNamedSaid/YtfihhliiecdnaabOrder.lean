/-
  order: where the ranges stand, by where they begin.
-/
import Derived.Test.YtfihhliiecdnaabMem6
import Derived.Test.YtfihhliiecdnaabSort
import Derived.Test.YtfihhliiecdnaabExt
import Derived.Shelf.SlSortCmp.NoneTotal
import Derived.Deep.QuietTactic
import Derived.BigQuiet
namespace Go.Proofs.Ytfihhliiecdnaab
open Go Go.RowKit Go.Shelf
attribute [local go_sem] ext_cell

set_option maxHeartbeats 1000000 in
theorem nan_c (x : Int) (w : World) : Calls Try.prog 35 #[.int .i64 x] w fun e w' => e = .returned (.bool false) ∧ w' = w := by
  have h : (x != x) = false := by simp
  go_enter Try.func35, Try.ntmps35
  go_wp2
  go_ret
  exact ⟨rfl, rfl⟩
def cmpI (x y : Int) : Int := if x < y then -1 else if y < x then 1 else 0
set_option maxHeartbeats 1000000 in
theorem cmpi_c (x y : Int) (w : World) : Calls Try.prog 32 #[.int .i64 x, .int .i64 y] w fun e w' => e = .returned (.int .i64 (cmpI x y)) ∧ w' = w := by
  by_cases h1 : x < y
  · have HE : Hid (cmpI x y = -1) := if_pos h1
    go_enter Try.func32, Try.ntmps32
    go_wp2_with (go_at_call 35; refine (nan_c _ _).mono ?_; rintro e w5 ⟨rfl, h5⟩; subst w5)
    go_ret
    exact ⟨by rw [HE.out]; rfl, rfl⟩
  · by_cases h2 : y < x
    · have HE : Hid (cmpI x y = 1) := hide (by unfold cmpI; rw [if_neg h1, if_pos h2])
      go_enter Try.func32, Try.ntmps32
      go_wp2_with (go_at_call 35; refine (nan_c _ _).mono ?_; rintro e w5 ⟨rfl, h5⟩; subst w5)
      go_ret
      exact ⟨by rw [HE.out]; rfl, rfl⟩
    · have HE : Hid (cmpI x y = 0) := hide (by unfold cmpI; rw [if_neg h1, if_neg h2])
      go_enter Try.func32, Try.ntmps32
      go_wp2_with (go_at_call 35; refine (nan_c _ _).mono ?_; rintro e w5 ⟨rfl, h5⟩; subst w5)
      go_ret
      exact ⟨by rw [HE.out]; rfl, rfl⟩

set_option maxHeartbeats 1000000 in
theorem order1_c {W : World} {bb g off cap n : Nat} {i j : Nat} {x y : Int} (hc : W.cell? ⟨bb, 0, none⟩ = some (.slice (some ⟨g, off, none⟩) n cap)) (hx : W.cell? ⟨g, off + i * 2, none⟩ = some (.int .i64 x)) (hy : W.cell? ⟨g, off + j * 2, none⟩ = some (.int .i64 y)) (hi : i < n) (hj : j < n) :
    Calls Try.prog 31 #[.int .i64 (i : Int), .int .i64 (j : Int), .pointer (some ⟨bb, 0, none⟩)] W fun e w' => e = .returned (.int .i64 (cmpI x y)) ∧ ∃ q os', w' = Go.Sort.grow (W.drewN q) os' := by
  have i0 : (0 : Int) ≤ (i : Int) := by omega
  have j0 : (0 : Int) ≤ (j : Int) := by omega
  have i1 : (i : Int) < (n : Int) := by omega
  have j1 : (j : Int) < (n : Int) := by omega
  go_enter Try.func31, Try.ntmps31
  go_wp2
  go_quiet (first | (go_at_call 32; exact Calls.quiet_of_same (cmpi_c _ _ _)))
  go_wp2
  go_ret
  exact ⟨rfl, _, #[], by rw [Go.Sort.grow_empty]⟩

theorem swBlock {α : Type} [Inhabited α] (enc : α → Value) (w : World) (blk off m : Nat) (dk : Array α) (os : Array Obj) {j : Nat} (h1 : j ≠ blk) (h2 : j < w.heap.size) : (sortWorld enc w blk off m dk os).heap[j]? = w.heap[j]? := by
  unfold sortWorld Go.Sort.grow Go.Sort.putRow Go.Sort.mapBlock Go.Sort.ahead
  simp only
  rw [Array.getElem?_append_left (by simpa using h2), Array.getElem?_modify, if_neg (Ne.symm h1)]
theorem swSelf {α : Type} [Inhabited α] (enc : α → Value) (w : World) (blk off m : Nat) (dk : Array α) (os : Array Obj) {cur : Array Value} {t : TypeId} {fr : Nat × Nat} (h : w.heap[blk]? = some (.cells cur t fr)) : ∃ cur', (sortWorld enc w blk off m dk os).heap[blk]? = some (.cells cur' t fr) := by
  have hlt := lt_of_heap h
  unfold sortWorld Go.Sort.grow Go.Sort.putRow Go.Sort.mapBlock Go.Sort.ahead
  simp only
  rw [Array.getElem?_append_left (by simpa using hlt), Array.getElem?_modify, if_pos rfl, h]
  exact ⟨_, rfl⟩
theorem swSize {α : Type} [Inhabited α] (enc : α → Value) (w : World) (blk off m : Nat) (dk : Array α) (os : Array Obj) : w.heap.size ≤ (sortWorld enc w blk off m dk os).heap.size := by
  unfold sortWorld Go.Sort.grow Go.Sort.putRow Go.Sort.mapBlock Go.Sort.ahead
  simp
theorem swCell {α : Type} [Inhabited α] (enc : α → Value) (w : World) (blk off m : Nat) (dk : Array α) (os : Array Obj) {j o : Nat} (h1 : j ≠ blk) (h2 : j < w.heap.size) : (sortWorld enc w blk off m dk os).cell? ⟨j, o, none⟩ = w.cell? ⟨j, o, none⟩ := by
  unfold World.cell?
  simp only [swBlock enc w blk off m dk os h1 h2]

/-- Places, in a block. -/
def IdxAt (w : World) (g : Nat) (I : List Nat) : Prop := ∃ cur, w.heap[g]? = some (.cells cur 3 (0, 0)) ∧ ∀ (i x : Nat), I[i]? = some x → cur[i]? = some (.int .i64 (x : Int))
def loAt (L : List (Int × Int)) (i : Nat) : Int := ((L[i]?).getD (0, 0)).1
theorem loAt_get {L : List (Int × Int)} {i : Nat} {r : Int × Int} (h : L[i]? = some r) : loAt L i = r.1 := by unfold loAt; rw [h]; rfl
theorem ltI (x y : Int) : decide (cmpI x y < 0) = decide (x < y) := by
  unfold cmpI
  by_cases h1 : x < y
  · simp [h1]
  · by_cases h2 : y < x <;> simp [h1, h2]
theorem hbang {α : Type} [Inhabited α] (X : List α) (i : Nat) (h : i < X.length) : X.toArray[i]! = X[i] := by simp [h]

theorem range_sub (n : Nat) : ∃ D : List { x : Nat // x < n }, D.map (fun x => x.1) = List.range n :=
  ⟨(List.range n).attachWith (fun x => x < n) (fun _ hx => List.mem_range.1 hx), (List.attachWith_map_val (f := id) (fun _ hx => List.mem_range.1 hx)).trans (List.map_id _)⟩
theorem sort_idx {w : World} {bb g off cap cap2 g2 : Nat} {L : List (Int × Int)} (hne : 0 < L.length) (hlen : L.length ≤ 8796093022208) (hc : w.cell? ⟨bb, 0, none⟩ = some (.slice (some ⟨g, off, none⟩) L.length cap)) (hL : ∀ (i : Nat) (r : Int × Int), L[i]? = some r → w.cell? ⟨g, off + i * 2, none⟩ = some (.int .i64 r.1))
    (hb : bb ≠ g2) (hg : g ≠ g2) (lb : bb < w.heap.size) (lg : g < w.heap.size) (hI : IdxAt w g2 (List.range L.length)) :
    Calls Try.prog 30 #[.slice (some ⟨g2, 0, none⟩) L.length cap2, .func (.func 31) #[] #[.pointer (some ⟨bb, 0, none⟩)]] w fun e w' => e = .returned (.tuple #[]) ∧ ∃ I : List Nat, IdxAt w' g2 I ∧ I.Perm (List.range L.length) ∧ (I.map (loAt L)).Pairwise (· ≤ ·) ∧ Fr (fun k => k = g2) w w' := by
  let α := { x : Nat // x < L.length }
  have : Inhabited α := ⟨⟨0, hne⟩⟩
  let enc : α → Value := fun x => .int .i64 (x.1 : Int)
  let cf : α → α → Int := fun x y => cmpI (loAt L x.1) (loAt L y.1)
  obtain ⟨cur, hcur, hcv⟩ := hI
  obtain ⟨D, hD⟩ : ∃ D : List α, D.map (fun x => x.1) = List.range L.length := range_sub L.length
  have hDl : D.length = L.length := by have := congrArg List.length hD; simpa using this
  have hDi : ∀ i (h : i < D.length), (D[i]).1 = i := fun i h => by
    have e : (D.map (fun x => x.1))[i]? = (List.range L.length)[i]? := by rw [hD]
    rw [List.getElem?_map, List.getElem?_eq_getElem h, List.getElem?_eq_getElem (by simpa using hDl ▸ h)] at e
    simpa using e
  have hgl := lt_of_heap hcur
  have hH : Go.Sort.Holds enc w g2 0 D.toArray := fun j hj => by
    have hj' : j < D.length := by simpa using hj
    rw [Nat.zero_add, hbang D j hj']
    refine ⟨cell_row hcur ?_, frz_row hcur j⟩
    rw [hcv j j (by rw [List.getElem?_eq_getElem (by simpa using hDl ▸ hj')]; simp)]
    show _ = some (Value.int .i64 ((D[j]).1 : Int))
    rw [hDi j hj']
  have hO : Go.Sort.SWO (ltOf cf) := by
    have hlt : ∀ x y : α, ltOf cf x y = decide (loAt L x.1 < loAt L y.1) := fun x y => ltI _ _
    exact ⟨fun x => by rw [hlt]; simp, fun x y z h1 h2 => by rw [hlt] at *; simp at *; omega, fun x y z h1 h2 => by rw [hlt] at *; simp at *; omega⟩
  have hcmp : CmpLays1 Try.prog 31 #[.pointer (some ⟨bb, 0, none⟩)] enc cf g2 0 D.toArray.size w := fun m os dk _ x y => by
    have h1 := (swCell enc w g2 0 m dk os (o := 0) hb lb).trans hc
    have h2 := (swCell enc w g2 0 m dk os (o := off + x.1 * 2) hg lg).trans (hL x.1 _ (List.getElem?_eq_getElem x.2))
    have h3 := (swCell enc w g2 0 m dk os (o := off + y.1 * 2) hg lg).trans (hL y.1 _ (List.getElem?_eq_getElem y.2))
    rw [← loAt_get (List.getElem?_eq_getElem x.2)] at h2
    rw [← loAt_get (List.getElem?_eq_getElem y.2)] at h3
    exact order1_c h1 h2 h3 x.2 y.2
  have eg : ∀ args w, (callFunc 31 args).run Try.prog w = .ok (.enter 31 args) w := enters_of Try.func31 (by kernel_rfl) rfl
  have hcon := Any.slices_SortFunc Try.sortPl enc (fun _ => rfl) cf hO 31 #[.pointer (some ⟨bb, 0, none⟩)] g2 0 cap2 D.toArray w eg hcmp hH hgl (by rw [List.size_toArray]; omega)
  rw [List.size_toArray, hDl] at hcon
  refine Calls.mono (show Calls Try.prog 30 _ _ _ from hcon) ?_
  rintro e w' ⟨rfl, d', n, os, hp, hs, rfl⟩
  obtain ⟨X, rfl⟩ : ∃ X : List α, d' = X.toArray := ⟨d'.toList, by simp⟩
  have hXl : X.length = L.length := by have := hp.1; simpa [hDl] using this
  have hperm : X.Perm D := by
    have := hp.2.2
    simpa [List.take_of_length_le (show X.length ≤ L.length by omega), List.take_of_length_le (show D.length ≤ L.length by omega)] using this
  have hH' := holds_sortWorld enc w g2 0 n D.toArray X.toArray os hgl hH (by simp [hXl, hDl])
  obtain ⟨cur', hcur'⟩ := swSelf enc w g2 0 n X.toArray os hcur
  refine ⟨rfl, X.map (fun x => x.1), ⟨cur', hcur', fun i x hx => ?_⟩, by rw [← hD]; exact hperm.map _, ?_, rfl, rfl, rfl, swSize enc w g2 0 n X.toArray os, fun k hk hs => swBlock enc w g2 0 n X.toArray os hs hk⟩
  · rw [List.getElem?_map] at hx
    cases hy : X[i]? with
    | none => rw [hy] at hx; cases hx
    | some y =>
      rw [hy] at hx
      obtain ⟨hi, e2⟩ := List.getElem?_eq_some_iff.1 hy
      have h1 := (hH' i (by simpa using hi)).1
      rw [Nat.zero_add, hbang X i hi, e2] at h1
      unfold World.cell? at h1
      simp only [hcur'] at h1
      rw [← Option.some.inj hx]
      exact h1
  · rw [List.pairwise_iff_getElem]
    intro i j hi hj hij
    simp only [List.length_map] at hi hj
    have := hs i j (Nat.zero_le _) hij (by omega)
    rw [hbang X i hi, hbang X j hj] at this
    have h2 : decide (loAt L X[j].1 < loAt L X[i].1) = false := (ltI _ _).symm.trans this
    simp only [List.getElem_map]
    have := of_decide_eq_false h2
    omega
end Go.Proofs.Ytfihhliiecdnaab
