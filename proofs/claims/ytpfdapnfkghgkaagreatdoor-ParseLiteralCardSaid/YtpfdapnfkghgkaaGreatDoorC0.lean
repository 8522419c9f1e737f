/-
  What a call may change: the ground of stage 3's texts. Regions that draw their order and hold calls that make memory: one walk in the text's order serves every order, in the class of the worlds that hold all that lay when the region began. A region that draws its order and whose last operation waits for all the others: the others are walked in the text's order, in a class of worlds; behind them the last one is walked by itself. A loop whose rounds are walked one by one: if the body, walked n times at most, leaves the loop, then the loop's own rule holds. What each law's row leans on: numbers and lists of numbers that came in. Rows of cells that their owner alone has: what may move, what stays, how they are cut and cleared. Classes as mathematics: ranges that rise, are apart, have numbers; one list for each set. Lists of ranges in memory: lists that can be read, lists of one's own. Trees as mathematics: a node's fields, its Kids; the nodes in the tree's order, each with the way to it. A range over a function whose body is told what it is handed: what the iterator knows of each element when it hands it over.
-/
import Derived.Test.YtpfdapnfkghgkaaGreatDoorRows
import Derived.WalkKit
import Derived.WalkSpells
import Derived.WalkLawsBesides
import Derived.Below
import Derived.Laws.AppendOwn
import Derived.Laws.MakeOwn
import Derived.Laws.CopyOwn
import Derived.BigQuiet
import Derived.ProofKit
import Derived.OpenShut
import Derived.Stop.Joined
import Derived.ChangeOld
import Derived.ChangeSlices
import Derived.Carry
import Derived.Maps.AppendAt
import Derived.OwnWalk
import Derived.Deep.RegionLaw
import Derived.Deep.RegionWith
import Derived.Deep.DeepCutAuto
import Derived.Laws.OwnMore
import Derived.RangeFuncNested
import Derived.RangeFuncBound
import Derived.RangeFuncCalls
import Derived.RangeFuncLeaves
import Derived.RangeFuncBox
import Derived.Shelf.Abstract
import Derived.Shelf.RegionOpen
import Derived.OwnWalkIn
import Derived.TacticsInMore
import Derived.LoopNIn
import Derived.LoopIn
namespace Go.Proofs.YtpfdapnfkghgkaaGreatDoor
open Go Go.RowKit

/-- Numbers as values. -/
def ints (l : List Int) : List Value := l.map (Value.int .i64)
theorem ints_length (l : List Int) : (ints l).length = l.length := by simp [ints]
theorem ints_get {l : List Int} {i : Nat} {x : Int} (h : l[i]? = some x) : (ints l)[i]? = some (.int .i64 x) := by simp [ints, h]
theorem ints_append (a b : List Int) : ints (a ++ b) = ints a ++ ints b := by simp [ints]
theorem ints_one (l : List Int) : ∀ v ∈ ints l, v.oneCell' = true := fun v hv => by
  obtain ⟨x, _, rfl⟩ := List.mem_map.1 hv
  rfl

/-- What may have changed: the blocks of S, and new ones. -/
structure Fr (S : Nat → Prop) (w w' : World) : Prop where
  os : w'.os = w.os
  tape : w'.tape = w.tape
  output : w'.output = w.output
  size : w.heap.size ≤ w'.heap.size
  block : ∀ k, k < w.heap.size → ¬ S k → w'.heap[k]? = w.heap[k]?
theorem Fr.refl (S : Nat → Prop) (w : World) : Fr S w w := ⟨rfl, rfl, rfl, Nat.le_refl _, fun _ _ _ => rfl⟩
theorem Fr.trans {S : Nat → Prop} {a b c : World} (h : Fr S a b) (k : Fr S b c) : Fr S a c :=
  ⟨k.os.trans h.os, k.tape.trans h.tape, k.output.trans h.output, Nat.le_trans h.size k.size, fun i hi hs => (k.block i (Nat.lt_of_lt_of_le hi h.size) hs).trans (h.block i hi hs)⟩
theorem Fr.mono {S T : Nat → Prop} {a b : World} (h : Fr S a b) (hst : ∀ k, S k → T k) : Fr T a b := ⟨h.os, h.tape, h.output, h.size, fun i hi hs => h.block i hi (fun q => hs (hst i q))⟩
theorem Fr.below {S : Nat → Prop} {a b : World} {n : Nat} (h : Fr S a b) (hn : n ≤ a.heap.size) (hs : ∀ k, S k → n ≤ k) : Below n a b :=
  ⟨h.os, h.tape, h.output, h.size, fun i hi => h.block i (Nat.lt_of_lt_of_le hi hn) (fun q => by have := hs i q; omega)⟩
theorem Fr.of_below {S : Nat → Prop} {a b : World} (h : Below a.heap.size a b) : Fr S a b := ⟨h.os, h.tape, h.output, h.size, fun i hi _ => h.block i hi⟩
theorem Fr.alloc {S : Nat → Prop} {a w : World} (h : Fr S a w) (o : Obj) : Fr S a (w.alloc o) := h.trans (Fr.of_below ((Below.refl _ _).alloc (Nat.le_refl _) o))
theorem Fr.drew {S : Nat → Prop} {a w : World} (h : Fr S a w) : Fr S a w.drew := h.trans (Fr.of_below (Below.refl _ _).drew)
theorem Fr.setCell {S : Nat → Prop} {a w : World} (h : Fr S a w) {p : Addr} (hp : S p.block) (u : Value) : Fr S a (w.setCell p u) :=
  h.trans ⟨rfl, rfl, rfl, by simp [World.setCell], fun k _ hk => Below.heap_setCell _ _ _ _ (fun e => hk (e ▸ hp))⟩
theorem Fr.setNew {S : Nat → Prop} {a w : World} (h : Fr S a w) {p : Addr} (hp : a.heap.size ≤ p.block) (u : Value) : Fr S a (w.setCell p u) :=
  ⟨h.os, h.tape, h.output, by have := h.size; simp [World.setCell]; exact this, fun k hk hs => (Below.heap_setCell _ _ _ _ (by omega)).trans (h.block k hk hs)⟩
theorem Fr.then {S : Nat → Prop} {a b c : World} (h : Fr S a b) (k : Below b.heap.size b c) : Fr S a c := h.trans (Fr.of_below k)
theorem Fr.setRow {S : Nat → Prop} {a w : World} (h : Fr S a w) {g : Nat} (hp : S g) (cs : Array Value) : Fr S a (w.setRow g cs) :=
  h.trans ⟨rfl, rfl, rfl, by simp, fun k _ hk => setRow_other _ _ _ _ (fun e => hk (e ▸ hp))⟩
theorem Fr.grown {S : Nat → Prop} {a w w' : World} {row : Option Nat} (h : Fr S a w) (hg : w.grownBy w' row) (hr : ∀ k, row = some k → S k) : Fr S a w' :=
  h.trans ⟨hg.os, hg.tape, hg.output, hg.size, fun k hk hs => hg.block k hk (fun e => hs (hr k e.symm))⟩

theorem lt_of_heap {w : World} {k : Nat} {o : Obj} (h : w.heap[k]? = some o) : k < w.heap.size := (Array.getElem?_eq_some_iff.1 h).1
theorem heap_set_in {w : World} {k : Nat} {cur : Array Value} {t : TypeId} {fr : Nat × Nat} (h : w.heap[k]? = some (.cells cur t fr)) (j : Nat) (v : Value) : (w.setCell ⟨k, j, none⟩ v).heap[k]? = some (.cells (cur.setIfInBounds j v) t fr) := by
  simp [World.setCell, Array.getElem?_modify, h]
theorem ne_type {W : World} {x y : Nat} {c c' : Array Value} {t t' : TypeId} {f f' : Nat × Nat} (h : W.heap[x]? = some (.cells c t f)) (h' : W.heap[y]? = some (.cells c' t' f')) (ht : t ≠ t') : x ≠ y := fun e => by
  rw [e, h'] at h
  injection h with h
  injection h with _ h _
  exact ht h.symm
theorem cell_row {W : World} {wb : Nat} {c : Array Value} {t : TypeId} (h : W.heap[wb]? = some (.cells c t (0, 0))) {i : Nat} {v : Value} (hi : c[i]? = some v) : W.cell? ⟨wb, i, none⟩ = some v := by simp [World.cell?, h, hi]
theorem frz_row {W : World} {wb : Nat} {c : Array Value} {t : TypeId} (h : W.heap[wb]? = some (.cells c t (0, 0))) (i : Nat) : W.frozen? ⟨wb, i, none⟩ = false := by simp [World.frozen?, h]
theorem chain {n : Nat} {a b c : World} (h : Below n a b) (k : Below b.heap.size b c) (hn : n ≤ a.heap.size) : Below n a c := h.trans (k.mono (Nat.le_trans hn h.size))
theorem chainF {n : Nat} {a b c : World} {S : Nat → Prop} (h : Below n a b) (k : Fr S b c) (hn : n ≤ a.heap.size) (hs : ∀ k, S k → n ≤ k) : Below n a c := h.trans (k.below (Nat.le_trans hn h.size) hs)
theorem take_next {α : Type} (l : List α) (k : Nat) (h : k < l.length) : l.take (k + 1) = l.take k ++ [l[k]] := by simp
end Go.Proofs.YtpfdapnfkghgkaaGreatDoor
namespace Go.Proofs.YtpfdapnfkghgkaaGreatDoor
open Go Go.RowKit

/-- The worlds that hold all that W held. -/
def Ext (W : World) : Type := { w : World // Below W.heap.size W w }

theorem wp_region_ext {P : Program} {id : Nat} {Q : Exit → Act → World → Prop} {a : Act} {w : World} {l : List Oper} (hm : P.follows .mixedOrders = true) (hB : Region.lexB .any l.toArray = true)
    (h : wpQuiet P l.toArray (fun w' => ∃ x : Ext w, w' = x.val) (fun a' => ∀ w', (∃ x : Ext w, w' = x.val) → Q .normal a' w') l a) : (Code.region id l.toArray true).wp P Q a w :=
  wp_region_quiet (C := fun w' => ∃ x : Ext w, w' = x.val) hm hB ⟨⟨w.drew, (Below.refl _ _).drew⟩, rfl⟩ (by simpa using h)

theorem ext_call {P : Program} {f : FuncId} {args : Array Value} {W : World} {x : Ext W} {v : Value}
    (h : Calls P f args x.val fun e w' => e = .returned v ∧ Below x.val.heap.size x.val w') : Calls P f args x.val fun e w'' => e = .returned v ∧ ∃ y : Ext W, w'' = y.val :=
  h.mono fun _ w' ⟨he, hb⟩ => ⟨he, ⟨w', x.2.trans (hb.mono x.2.size)⟩, rfl⟩

theorem ext_call_same {P : Program} {f : FuncId} {args : Array Value} {W : World} {x : Ext W} {v : Value}
    (h : Calls P f args x.val fun e w' => e = .returned v ∧ w' = x.val) : Calls P f args x.val fun e w'' => e = .returned v ∧ ∃ y : Ext W, w'' = y.val :=
  h.mono fun _ _ ⟨he, hb⟩ => ⟨he, x, hb⟩

theorem ext_cell {W : World} (x : Ext W) (b o : Nat) (h : b < W.heap.size) : x.val.cell? ⟨b, o, none⟩ = W.cell? ⟨b, o, none⟩ := x.2.cell (p := ⟨b, o, none⟩) h
theorem ext_frozen {W : World} (x : Ext W) (b o : Nat) (h : b < W.heap.size) : x.val.frozen? ⟨b, o, none⟩ = W.frozen? ⟨b, o, none⟩ := x.2.frozen (p := ⟨b, o, none⟩) h
theorem ext_below {W : World} (x : Ext W) : Below W.heap.size W x.val := x.2
theorem ext_size {W : World} (x : Ext W) : W.heap.size ≤ x.val.heap.size := x.2.size
theorem ext_of {W w1 : World} (h : ∃ x : Ext W, w1 = x.val) : Below W.heap.size W w1 := by
  obtain ⟨x, rfl⟩ := h
  exact x.2
/-- All old cells and marks read as before. -/
theorem bcell {W w1 : World} (hb : Below W.heap.size W w1) : (∀ b o, b < W.heap.size → w1.cell? ⟨b, o, none⟩ = W.cell? ⟨b, o, none⟩) ∧ (∀ b o, b < W.heap.size → w1.frozen? ⟨b, o, none⟩ = W.frozen? ⟨b, o, none⟩) :=
  ⟨fun b o h => hb.cell (p := ⟨b, o, none⟩) h, fun b o h => hb.frozen (p := ⟨b, o, none⟩) h⟩
end Go.Proofs.YtpfdapnfkghgkaaGreatDoor
namespace Go.Proofs.YtpfdapnfkghgkaaGreatDoor
open Go Go.RowKit

/-- Every operation waits for earlier ones alone; the last one waits for all. -/
def lastB (l : List Oper) (o : Oper) : Bool :=
  (l.zipIdx.all fun x => x.1.after.all (fun e => decide (e.on < x.2)) && (match x.1.guard with | none => true | some g => decide (g.1 < l.length))) &&
  o.guard.isNone && o.after.all (fun e => decide (e.on < l.length)) && (List.range l.length).all fun j => o.after.any fun e => Region.binds .any e && e.on == j

section
variable {P : Program} {l : List Oper} {o : Oper} {Q : Exit → Act → World → Prop}

/-- Where the others are through the last one is walked; other ways out are as they were. -/
def Q1 (P : Program) (l : List Oper) (o : Oper) (Q : Exit → Act → World → Prop) : Exit → Act → World → Prop
  | .normal, a, w => wpList P (l ++ [o]).toArray Q [o] a w
  | e, a, w => Q e a w

theorem ops_lt {j : Nat} (h : j < l.length) : (l ++ [o]).toArray[j]? = l.toArray[j]? := by
  simp [List.getElem?_append_left h]
theorem ops_last : (l ++ [o]).toArray[l.length]? = some o := by simp

theorem lastB_edge (h : lastB l o = true) {j : Nat} {x : Oper} (hx : l.toArray[j]? = some x) : (∀ e ∈ x.after, e.on < j) ∧ ∀ g b, x.guard = some (g, b) → g < l.length := by
  unfold lastB at h
  simp only [Bool.and_eq_true, List.all_eq_true] at h
  have hm : (x, j) ∈ l.zipIdx := by
    rw [List.mem_zipIdx_iff_getElem?]; simpa using hx
  have := h.1.1.1 (x, j) hm
  refine ⟨fun e he => ?_, fun g b hg => ?_⟩
  · have h1 := this.1
    rw [Array.all_eq_true_iff_forall_mem] at h1
    simpa using h1 e he
  · have h2 := this.2
    simp only [hg] at h2
    simpa using h2
theorem lastB_guard (h : lastB l o = true) : o.guard = none := by
  unfold lastB at h
  simp only [Bool.and_eq_true] at h
  simpa using h.1.1.2
theorem lastB_on (h : lastB l o = true) : ∀ e ∈ o.after, e.on < l.length := by
  unfold lastB at h
  simp only [Bool.and_eq_true] at h
  have h1 := h.1.2
  rw [Array.all_eq_true_iff_forall_mem] at h1
  intro e he
  simpa using h1 e he
theorem lastB_all (h : lastB l o = true) {j : Nat} (hj : j < l.length) : ∃ e ∈ o.after, Region.binds .any e = true ∧ e.on = j := by
  unfold lastB at h
  simp only [Bool.and_eq_true, List.all_eq_true] at h
  have := h.2 j (by simpa using hj)
  rw [← Array.any_toList, List.any_eq_true] at this
  obtain ⟨e, he, hb⟩ := this
  simp at hb
  exact ⟨e, by simpa using he, hb.1, hb.2⟩

theorem getD_push_lt {listed : Array Bool} {j : Nat} (d : Bool) (hj : j < listed.size) : (listed.push false).getD j d = listed.getD j d := by
  simp [Array.getD_eq_getD_getElem?, Array.getElem?_push, Nat.ne_of_lt hj]
theorem getD_push_eq {listed : Array Bool} (d : Bool) : (listed.push false).getD listed.size d = false := by
  simp [Array.getD_eq_getD_getElem?]

theorem ready_lt (h : lastB l o = true) {listed : Array Bool} (hs : listed.size = l.length) {j : Nat} (hj : j < l.length) :
    j ∈ Region.ready .any (l ++ [o]).toArray (listed.push false) ↔ j ∈ Region.ready .any l.toArray listed := by
  rw [mem_ready, mem_ready, ops_lt hj, getD_push_lt _ (by omega)]
  refine and_congr_right fun _ => exists_congr fun x => and_congr_right fun hx => ?_
  have he := (lastB_edge h hx).1
  refine forall_congr' fun e => forall_congr' fun hm => forall_congr' fun _ => ?_
  have := he e hm
  rw [getD_push_lt _ (by omega)]

/-- If nothing of the others may come up, all have. -/
theorem all_listed (h : lastB l o = true) {listed : Array Bool} (hs : listed.size = l.length) (hr : Region.ready .any l.toArray listed = []) :
    ∀ j, j < l.length → listed.getD j false = true := by
  intro j
  induction j using Nat.strongRecOn with
  | _ j ih =>
    intro hj
    have hx : l.toArray[j]? = some l[j] := by simp [hj]
    have hn : ¬ j ∈ Region.ready .any l.toArray listed := by rw [hr]; simp
    rw [mem_ready] at hn
    have hge : listed.getD j true = true := by
      rcases hb : listed.getD j true with _ | _
      · exact absurd ⟨hb, _, hx, fun e he _ => ih e.on ((lastB_edge h hx).1 e he) (by have := (lastB_edge h hx).1 e he; omega)⟩ hn
      · rfl
    have hlt : j < listed.size := by omega
    simpa [Array.getD_eq_getD_getElem?, hlt] using hge

theorem last_ready (h : lastB l o = true) {listed : Array Bool} (hs : listed.size = l.length) (hr : Region.ready .any l.toArray listed = []) :
    l.length ∈ Region.ready .any (l ++ [o]).toArray (listed.push false) := by
  rw [mem_ready]
  refine ⟨by rw [← hs]; exact getD_push_eq _, o, ops_last, fun e he _ => ?_⟩
  have := lastB_on h e he
  rw [getD_push_lt _ (by omega)]
  exact all_listed h hs hr _ this
theorem ready_of_last (h : lastB l o = true) {listed : Array Bool} (hs : listed.size = l.length)
    (hl : l.length ∈ Region.ready .any (l ++ [o]).toArray (listed.push false)) : Region.ready .any l.toArray listed = [] := by
  rw [mem_ready] at hl
  obtain ⟨_, x, hx, ha⟩ := hl
  rw [ops_last] at hx
  cases hx
  rw [List.eq_nil_iff_forall_not_mem]
  intro j hj
  rw [mem_ready] at hj
  obtain ⟨hu, x, hx, _⟩ := hj
  have hlt : j < l.length := by
    have := (Array.getElem?_eq_some_iff.1 hx).1
    simpa using this
  obtain ⟨e, he, hb, rfl⟩ := lastB_all h hlt
  have := ha e he hb
  rw [getD_push_lt _ (by omega)] at this
  have hlt' : e.on < listed.size := by omega
  simp [Array.getD_eq_getD_getElem?, hlt'] at this hu
  rw [this] at hu
  cases hu
theorem none_left (h : lastB l o = true) {listed : Array Bool} (hs : listed.size = l.length) (hr : Region.ready .any l.toArray listed = []) :
    Region.ready .any (l ++ [o]).toArray ((listed.push false).setIfInBounds l.length true) = [] := by
  rw [List.eq_nil_iff_forall_not_mem]
  intro j hj
  rw [mem_ready] at hj
  obtain ⟨hu, x, hx, _⟩ := hj
  have hlt : j < l.length + 1 := by
    have := (Array.getElem?_eq_some_iff.1 hx).1
    simpa using this
  by_cases e : j = l.length
  · subst e
    simp [Array.getD_eq_getD_getElem?, hs] at hu
  · have hj' : j < l.length := by omega
    have := all_listed h hs hr j hj'
    have hlt' : j < listed.size := by omega
    have hne : ¬ l.length = j := fun h => e h.symm
    simp [Array.getD_eq_getD_getElem?, hne, Array.getElem?_push, Nat.ne_of_lt hlt', hlt'] at this hu
    rw [this] at hu
    cases hu

theorem wanted_lt (h : lastB l o = true) {j : Nat} {x : Oper} (hx : l.toArray[j]? = some x) (tmps : Array Value) :
    Region.wanted x (yielded (l ++ [o]).toArray tmps) = Region.wanted x (yielded l.toArray tmps) := by
  unfold Region.wanted
  cases hg : x.guard with
  | none => rfl
  | some g =>
    obtain ⟨g, b⟩ := g
    have := (lastB_edge h hx).2 g b hg
    simp only [yielded, ops_lt this]

theorem Oper.wp_q1 {x : Oper} {a : Act} {w : World} {K K' : Act → World → Prop} (hK : ∀ a w, K a w → K' a w) (hh : x.wp P a w K (Q1 P l o Q)) : x.wp P a w K' Q := by
  unfold Oper.wp at *
  generalize (execOp a.eval x).run P w = r at *
  cases r with
  | ok n w' =>
    cases n <;> simp only [Oper.upon] at hh ⊢ <;>
      first
        | exact hK _ _ hh
        | exact Calls.mono hh (fun e w'' he => by cases e <;> first | exact hK _ _ he | exact he)
        | exact Rows.mono hh (fun _ _ he => hK _ _ he)
  | halt x w' => cases x <;> simp only [Oper.upon] at hh ⊢ <;> exact hh

theorem wpOp_q1 (h : lastB l o = true) {i : Nat} (hi : i < l.length) {a : Act} {w : World} {K K' : Act → World → Prop} (hK : ∀ a w, K a w → K' a w)
    (hh : wpOp P l.toArray (Q1 P l o Q) i K a w) : wpOp P (l ++ [o]).toArray Q i K' a w := by
  unfold wpOp at *
  rw [ops_lt hi]
  have hx : l.toArray[i]? = some l[i] := by simp [hi]
  simp only [hx] at hh ⊢
  rw [wanted_lt h hx]
  split
  · rename_i hw
    rw [if_pos hw] at hh
    exact hh.imp (Oper.wp_q1 hK) (fun g => ⟨g.1, g.2⟩)
  · rename_i hw
    rw [if_neg hw] at hh
    exact hK _ _ hh

theorem wpOp_last (h : lastB l o = true) {a : Act} {w : World} {K : Act → World → Prop} (hK : ∀ a w, Q .normal a w → K a w) (hh : Q1 P l o Q .normal a w) :
    wpOp P (l ++ [o]).toArray Q l.length K a w := by
  unfold wpOp
  rw [ops_last]
  have hw : ∀ y, Region.wanted o y = true := fun y => by unfold Region.wanted; rw [lastB_guard h]
  have hh' : wpList P (l ++ [o]).toArray Q [o] a w := hh
  unfold wpList at hh'
  rw [if_pos (hw _)] at hh'
  simp only [hw, if_true]
  exact hh'.imp (Oper.wp_mono hK) id

theorem push_set {listed : Array Bool} {i : Nat} (hi : i < listed.size) : (listed.setIfInBounds i true).push false = (listed.push false).setIfInBounds i true := by
  apply Array.ext'
  simp [List.set_append_left _ _ (show i < listed.toList.length by simpa using hi)]

theorem wpAny_last (h : lastB l o = true) : ∀ (fuel : Nat) (listed : Array Bool) (a : Act) (w : World), listed.size = l.length →
    wpAny P .any l.toArray (Q1 P l o Q) fuel listed a w → wpAny P .any (l ++ [o]).toArray Q (fuel + 1) (listed.push false) a w := by
  intro fuel
  induction fuel with
  | zero =>
    rintro listed a w hs ⟨hr, hq⟩
    refine ⟨fun h0 => ?_, fun i hi => ?_⟩
    · have := last_ready h hs hr; rw [h0] at this; cases this
    · by_cases e : i = l.length
      · subst e; exact wpOp_last h (fun a w hq => ⟨none_left h hs hr, hq⟩) hq
      · have hlt : i < l.length := by
          rw [mem_ready] at hi
          obtain ⟨_, x, hx, _⟩ := hi
          have := (Array.getElem?_eq_some_iff.1 hx).1
          simp at this; omega
        rw [ready_lt h hs hlt, hr] at hi; cases hi
  | succ fuel ih =>
    rintro listed a w hs ⟨hq, hall⟩
    refine ⟨fun h0 => ?_, fun i hi => ?_⟩
    · by_cases hr : Region.ready .any l.toArray listed = []
      · have := last_ready h hs hr; rw [h0] at this; cases this
      · obtain ⟨j, hj⟩ := List.exists_mem_of_ne_nil _ hr
        have hlt : j < l.length := by
          rw [mem_ready] at hj
          obtain ⟨_, x, hx, _⟩ := hj
          have := (Array.getElem?_eq_some_iff.1 hx).1
          simpa using this
        rw [← ready_lt h hs hlt, h0] at hj; cases hj
    · by_cases e : i = l.length
      · subst e
        have hr := ready_of_last h hs hi
        exact wpOp_last h (fun a w hq => ⟨fun _ => hq, fun j hj => by rw [none_left h hs hr] at hj; cases hj⟩) (hq hr)
      · have hlt : i < l.length := by
          rw [mem_ready] at hi
          obtain ⟨_, x, hx, _⟩ := hi
          have := (Array.getElem?_eq_some_iff.1 hx).1
          simp at this; omega
        have hi' := (ready_lt h hs hlt).1 hi
        refine wpOp_q1 h hlt (fun a' w' hw => ?_) (hall i hi')
        have := ih (listed.setIfInBounds i true) a' w' (by simpa using hs) hw
        rwa [push_set (by omega)] at this

/-- The others in the text's order, in the class of the worlds that hold all that lay; then the last one. -/
theorem wp_region_last {id : Nat} {a : Act} {w : World} (hm : P.follows .mixedOrders = true) (hB : Region.lexB .any l.toArray = true) (hl : lastB l o = true)
    (h : wpQuiet P l.toArray (fun w' => ∃ x : Ext w, w' = x.val) (fun a' => ∀ w', (∃ x : Ext w, w' = x.val) → wpList P (l ++ [o]).toArray Q [o] a' w') l a) : (Code.region id (l ++ [o]).toArray true).wp P Q a w := by
  simp only [Region.lexB, Bool.and_eq_true] at hB
  refine wp_region_any hm ?_
  have h1 := wpAnyQ_lex (C := fun w' => ∃ x : Ext w, w' = x.val) (md := .any) hB.1 l 0 (Array.replicate l.length false) a (by simp) (by simpa using hB.2) h
  have h2 := wpAny_of_quiet (Q' := Q1 P l o Q) (fun _ w' hw' h => h w' hw') _ _ _ { w with drawn := w.drawn + 1 } ⟨⟨w.drew, (Below.refl _ _).drew⟩, rfl⟩ h1
  have h3 := wpAny_last hl _ _ _ _ (by simp) h2
  have e : (Array.replicate l.length false).push false = Array.replicate (l ++ [o]).toArray.size false := by simp [Array.replicate_succ]
  rw [e] at h3
  simpa using h3
end
theorem wp_region_last_lit {P : Program} {Q : Exit → Act → World → Prop} {id : Nat} {a : Act} {w : World} {L : List Oper} (hne : L ≠ []) (hm : P.follows .mixedOrders = true) (hB : Region.lexB .any L.dropLast.toArray = true) (hl : lastB L.dropLast (L.getLast hne) = true)
    (h : wpQuiet P L.dropLast.toArray (fun w' => ∃ x : Ext w, w' = x.val) (fun a' => ∀ w', (∃ x : Ext w, w' = x.val) → wpList P L.toArray Q [L.getLast hne] a' w') L.dropLast a) : (Code.region id L.toArray true).wp P Q a w := by
  have e : L.dropLast ++ [L.getLast hne] = L := List.dropLast_concat_getLast hne
  have := wp_region_last (P := P) (Q := Q) (id := id) (a := a) (w := w) (l := L.dropLast) (o := L.getLast hne) hm hB hl (by rw [e]; exact h)
  rwa [e] at this
end Go.Proofs.YtpfdapnfkghgkaaGreatDoor
namespace Go.Proofs.YtpfdapnfkghgkaaGreatDoor
open Go

/-- The body walked at most n times more. -/
def unr (P : Program) (c : Code) (Q : Exit → Act → World → Prop) : Nat → Act → World → Prop
  | 0, _, _ => False
  | n + 1, a, w => c.wp P (Exit.then (unr P c Q n) Q) a w

theorem unr_succ {P : Program} {c : Code} {Q : Exit → Act → World → Prop} {n : Nat} {a : Act} {w : World}
    (h : c.wp P (Exit.then (unr P c Q n) Q) a w) : unr P c Q (n + 1) a w := h

theorem least_of {p : Nat → Prop} : ∀ n, p n → ∃ m, p m ∧ ∀ k, p k → m ≤ k := by
  intro n
  induction n using Nat.strongRecOn with
  | _ n ih =>
    intro h
    by_cases g : ∃ k, k < n ∧ p k
    · obtain ⟨k, hk, hp⟩ := g
      exact ih k hk hp
    · exact ⟨n, h, fun k hk => Nat.le_of_not_lt fun hlt => g ⟨k, hlt, hk⟩⟩

open Classical in
/-- The least round count. -/
noncomputable def leastOf (p : Nat → Prop) : Nat := if h : ∃ m, p m ∧ ∀ k, p k → m ≤ k then Classical.choose h else 0

theorem leastOf_spec {p : Nat → Prop} {n : Nat} (h : p n) : p (leastOf p) ∧ ∀ k, p k → leastOf p ≤ k := by
  have g := least_of n h
  unfold leastOf
  rw [dif_pos g]
  exact Classical.choose_spec g

theorem wp_loop_unr {P : Program} {c : Code} {Q : Exit → Act → World → Prop} (n : Nat) {a : Act} {w : World}
    (h : unr P c Q n a w) : (Code.loop c).wp P Q a w := by
  refine wp_loop (fun a w => ∃ n, unr P c Q n a w) (fun a w => leastOf fun n => unr P c Q n a w) ⟨n, h⟩ ?_
  rintro a w ⟨n, hn⟩
  obtain ⟨hs, -⟩ := leastOf_spec (p := fun n => unr P c Q n a w) hn
  generalize leastOf (fun n => unr P c Q n a w) = m at hs
  cases m with
  | zero => exact hs.elim
  | succ m =>
    refine wp_mono (show c.wp P (Exit.then (unr P c Q m) Q) a w from hs) ?_
    intro e a' w' he
    cases e with
    | normal => exact ⟨⟨m, he⟩, Nat.lt_succ_of_le ((leastOf_spec (p := fun n => unr P c Q n a' w') (n := m) he).2 m he)⟩
    | exit id => exact he
    | goto l => exact he
    | ret => exact he
    | panic ch => exact he
    | outgrown => exact he
end Go.Proofs.YtpfdapnfkghgkaaGreatDoor
namespace Go.Proofs.YtpfdapnfkghgkaaGreatDoor
open Go Go.ChangeShapes Go.WideShapes Go.ChangeAt Go.RowKit

theorem own : ownKnob Tryz.prog.godebug = none := by kernel_rfl
theorem laidOut : laidOutB Tryz.prog = true := by kernel_rfl
theorem cells_int : Tryz.prog.cellsOf 3 = 1 := by kernel_rfl

/-- A list of numbers that came in. -/
def ArgI (W : World) (v : Value) (zs : List Int) : Prop :=
  (∃ p cap, v = .slice p 0 cap ∧ zs = []) ∨ ∃ g off cap, v = .slice (some ⟨g, off, none⟩) zs.length cap ∧ g < W.heap.size ∧ zs.length ≤ cap ∧ cap ≤ maxLen ∧ ∀ (i : Nat) (x : Int), zs[i]? = some x → W.cell? ⟨g, off + i, none⟩ = some (.int .i64 x)

theorem ArgI.below {W W' : World} {v : Value} {zs : List Int} {n : Nat} (h : ArgI W v zs) (hb : Below n W W') (hn : n = W.heap.size) : ArgI W' v zs := by
  rcases h with h | ⟨g, off, cap, h1, h2, h3, h4, h5⟩
  · exact .inl h
  · subst hn
    exact .inr ⟨g, off, cap, h1, Nat.lt_of_lt_of_le h2 hb.size, h3, h4, fun i x hx => (hb.cell (p := ⟨g, off + i, none⟩) h2).trans (h5 i x hx)⟩

set_option maxRecDepth 100000 in
theorem open_intsA {H : Type} {enc : TypeId × Value → H} {W : World} {base : Nat} {v : Value} {d : DataW H} {p : List MemPlace} (hok : Value.okWide Tryz.prog W .any base 80 v)
    (h : DataW.Trod enc Tryz.prog W 0 (fun _ => true) true 80 v d p) : ∃ zs : List Int, ArgI W v zs := by
  obtain ⟨a', len', cap', rfl⟩ := okWide_slice Tryz.underlying80 hok
  obtain ⟨fuel, hf⟩ := h
  rcases open_ints Tryz.underlying80 Tryz.underlying3 cells_int hf with ⟨h1, h2⟩ | ⟨a, len, cap, zs, h1, _, hlc, hcap, hm, h2, hx, _⟩
  · have h1' : Value.slice a' len' cap' = .slice none 0 0 := by simpa [Value.cells] using h1
    cases h1'
    exact ⟨[], .inl ⟨none, 0, rfl, rfl⟩⟩
  · have h1' : Value.slice a' len' cap' = .slice (some a) len cap := by simpa [Value.cells] using h1
    cases h1'
    rw [if_pos rfl] at hm
    by_cases hl : len' = 0
    · subst hl
      exact ⟨[], .inl ⟨some a, _, rfl, rfl⟩⟩
    · obtain ⟨b, off, spot⟩ := a
      have c0 := hx 0 (by omega)
      have hs : spot = none := by
        cases spot with
        | none => rfl
        | some k =>
          exfalso
          unfold Addr.add World.cell? at c0
          simp at c0
          split at c0 <;> simp_all
      subst hs
      have hadd : ∀ j, (⟨b, off, none⟩ : Addr).add j = ⟨b, off + j, none⟩ := fun j => by unfold Addr.add; split <;> simp_all
      have hb : b < W.heap.size := by
        rw [hadd] at c0
        rcases Nat.lt_or_ge b W.heap.size with h | h
        · exact h
        · have : W.heap[b]? = none := Array.getElem?_eq_none h
          simp [World.cell?, this] at c0
      have hlen : (zs.take len').length = len' := by simp; omega
      refine ⟨zs.take len', .inr ⟨b, off, cap', by rw [hlen], hb, by omega, hcap, fun i x hi => ?_⟩⟩
      have hil : i < len' := by have := (List.getElem?_eq_some_iff.1 hi).1; omega
      rw [List.getElem?_take_of_lt hil] at hi
      have hxi := hx i (by omega)
      rw [hadd] at hxi
      rw [hxi]
      simp [List.getD, hi]
end Go.Proofs.YtpfdapnfkghgkaaGreatDoor
namespace Go.Proofs.YtpfdapnfkghgkaaGreatDoor
open Go Go.RowKit

theorem size_int : (Tryz.prog.info? 3).map (fun i => (i.zero, i.size, i.bytes)) = some (some (.int .i64 0), 1, 8) := by kernel_rfl
theorem size_one : (Tryz.prog.info? 3).map (·.size) = some 1 := by kernel_rfl
theorem und_ints : Tryz.prog.underlying 80 = some (.slice 3) := by kernel_rfl
theorem info_parts {P : Program} {t : TypeId} {z : Value} {s b : Nat} (h : (P.info? t).map (fun i => (i.zero, i.size, i.bytes)) = some (some z, s, b)) : ∃ i, P.info? t = some i ∧ i.zero = some z ∧ i.size = s ∧ i.bytes = b := by
  cases hi : P.info? t with
  | none => rw [hi] at h; cases h
  | some i =>
    rw [hi] at h
    simp at h
    exact ⟨i, rfl, h.1, h.2.1, h.2.2⟩

theorem ownsRow_fr {S : Nat → Prop} {w w' : World} {base : Nat} {t : TypeId} {size n : Nat} {v : Value} {xs : List Value} (h : w.ownsRow base t size v n xs) (hf : Fr S w w') (hs : ∀ k, v.ownBlock = some k → ¬ S k) : w'.ownsRow base t size v n xs := by
  obtain ⟨h1, h2 | ⟨g, cap, cur, q1, q2, q3, q4⟩⟩ := h
  · exact ⟨h1, .inl h2⟩
  · exact ⟨h1, .inr ⟨g, cap, cur, q1, q2, (hf.block _ (lt_of_heap q3) (hs g (by rw [q1]; rfl))).trans q3, q4⟩⟩
theorem ownsRow_mono {w : World} {base base' : Nat} {t : TypeId} {size n : Nat} {v : Value} {xs : List Value} (h : w.ownsRow base t size v n xs) (hb : base' ≤ base) : w.ownsRow base' t size v n xs := by
  obtain ⟨h1, h2 | ⟨g', cap', cur, q1, q2, q4⟩⟩ := h
  · exact ⟨h1, .inl h2⟩
  · exact ⟨h1, .inr ⟨g', cap', cur, q1, Nat.le_trans hb q2, q4⟩⟩
theorem ownsRow_shape {w : World} {base : Nat} {e : TypeId} {size n : Nat} {v : Value} {xs : List Value} (h : w.ownsRow base e size v n xs) : ∃ q c, v = .slice q n c := by
  rcases h.2 with ⟨rfl, rfl⟩ | ⟨g, cap, cur, rfl, _⟩
  · exact ⟨_, _, rfl⟩
  · exact ⟨_, _, rfl⟩
/-- Where a row's block lies, and of what type it is. -/
theorem ownsRow_at {w : World} {base : Nat} {e : TypeId} {size n : Nat} {v : Value} {xs : List Value} (h : w.ownsRow base e size v n xs) {g : Nat} (hg : v.ownBlock = some g) : base ≤ g ∧ g < w.heap.size ∧ ∃ cur, w.heap[g]? = some (.cells cur e (0, 0)) := by
  rcases h.2 with ⟨rfl, rfl⟩ | ⟨g', cap, cur, rfl, h1, h2, _⟩
  · cases hg
  · cases hg; exact ⟨h1, lt_of_heap h2, cur, h2⟩
theorem ownsRow_not {w : World} {base : Nat} {e t : TypeId} {size n : Nat} {v : Value} {xs : List Value} (h : w.ownsRow base e size v n xs) {b : Nat} {cs : Array Value} (hb : w.heap[b]? = some (.cells cs t (0, 0))) (ht : t ≠ e) : v.ownBlock ≠ some b := fun q => by
  obtain ⟨_, _, cur, hc⟩ := ownsRow_at h q
  exact ne_type hb hc ht rfl
theorem ownsRow_cell {w : World} {base : Nat} {e : TypeId} {size n g c : Nat} {xs : List Value} (h : w.ownsRow base e size (.slice (some ⟨g, 0, none⟩) n c) n xs) {j : Nat} {u : Value} (hj : xs[j]? = some u) : w.cell? ⟨g, j, none⟩ = some u := by
  rcases h.2 with ⟨q, _⟩ | ⟨g', cap, cur, q1, _, q3, _, _, q6, q7⟩
  · cases q
  · cases q1
    have : cur[j]? = some u := by
      rw [← q7, List.getElem?_take] at hj
      split at hj
      · simpa using hj
      · cases hj
    simp [World.cell?, q3, this]
theorem ownsRow_cap {w : World} {base : Nat} {e : TypeId} {size n g c : Nat} {xs : List Value} (h : w.ownsRow base e size (.slice (some ⟨g, 0, none⟩) n c) n xs) : n ≤ c ∧ c ≤ maxLen := by
  rcases h.2 with ⟨q, _⟩ | ⟨g, cap, cur, q, _, _, hc, hm, _⟩
  · cases q
  · cases q; exact ⟨hc, hm⟩
theorem ownsRow_len {w : World} {base : Nat} {e : TypeId} {size n : Nat} {v : Value} {xs : List Value} (h : w.ownsRow base e size v n xs) : n ≤ maxLen := by
  rcases h.2 with ⟨_, q⟩ | ⟨g, cap, cur, q, _, _, hc, hm, _⟩
  · omega
  · omega
theorem ownsRow_some {w : World} {base : Nat} {e : TypeId} {size n : Nat} {v : Value} {xs : List Value} (h : w.ownsRow base e size v n xs) (hn : 0 < n) : ∃ g c, v = .slice (some ⟨g, 0, none⟩) n c := by
  rcases h.2 with ⟨_, q⟩ | ⟨g, cap, cur, rfl, _⟩
  · omega
  · exact ⟨_, _, rfl⟩
/-- The first k things of a row. -/
theorem ownsRow_take {w : World} {base : Nat} {e : TypeId} {size n g c : Nat} {xs : List Value} (h : w.ownsRow base e size (.slice (some ⟨g, 0, none⟩) n c) n xs) {k : Nat} (hk : k ≤ n) : w.ownsRow base e size (.slice (some ⟨g, 0, none⟩) k c) k (xs.take (k * size)) := by
  have hm : k * size ≤ n * size := Nat.mul_le_mul_right _ hk
  refine ⟨by rw [List.length_take, h.1]; omega, .inr ?_⟩
  rcases h.2 with ⟨q, _⟩ | ⟨g', cap, cur, q1, q2, q3, q4, q5, q6, q7⟩
  · cases q
  · cases q1
    exact ⟨g, c, cur, rfl, q2, q3, by omega, q5, q6, by rw [← q7, List.take_take, Nat.min_eq_left hm]⟩
/-- A row whose cells behind the first k are written over. -/
theorem ownsRow_cut {w : World} {base : Nat} {e : TypeId} {size n g c : Nat} {xs : List Value} (h : w.ownsRow base e size (.slice (some ⟨g, 0, none⟩) n c) n xs) {k : Nat} (hk : k ≤ n) {cs : Array Value} (hs : ∀ cur : Array Value, w.heap[g]? = some (.cells cur e (0, 0)) → cs.size = cur.size ∧ cs.toList.take (k * size) = cur.toList.take (k * size)) :
    (w.setRow g cs).ownsRow base e size (.slice (some ⟨g, 0, none⟩) k c) k (xs.take (k * size)) := by
  have hm : k * size ≤ n * size := Nat.mul_le_mul_right _ hk
  refine ⟨by rw [List.length_take, h.1]; omega, .inr ?_⟩
  rcases h.2 with ⟨q, _⟩ | ⟨g', cap, cur, q1, q2, q3, q4, q5, q6, q7⟩
  · cases q
  · cases q1
    obtain ⟨s1, s2⟩ := hs cur q3
    exact ⟨g, c, cs, rfl, q2, setRow_heap _ _ _ _ _ _ q3, by omega, q5, s1.trans q6, by rw [s2, ← q7, List.take_take, Nat.min_eq_left hm]⟩

/-- A list may move into a new block. -/
def moved (v v' : Value) (n : Nat) : Prop := v'.ownBlock = v.ownBlock ∨ v'.ownBlock = none ∨ ∃ g, n ≤ g ∧ v'.ownBlock = some g
theorem moved.refl (v : Value) (n : Nat) : moved v v n := .inl rfl
theorem moved_le {v v' : Value} {n m : Nat} (h : moved v v' n) (hm : m ≤ n) : moved v v' m := by
  rcases h with h | h | ⟨g, h1, h2⟩
  · exact .inl h
  · exact .inr (.inl h)
  · exact .inr (.inr ⟨g, by omega, h2⟩)
theorem moved.trans {v v' v'' : Value} {n m : Nat} (h : moved v v' n) (k : moved v' v'' m) (hm : n ≤ m) : moved v v'' n := by
  rcases k with k | k | ⟨g, k1, k2⟩
  · rcases h with h | h | ⟨g, h1, h2⟩
    · exact .inl (k.trans h)
    · exact .inr (.inl (k.trans h))
    · exact .inr (.inr ⟨g, h1, k.trans h2⟩)
  · exact .inr (.inl k)
  · exact .inr (.inr ⟨g, by omega, k2⟩)
theorem moved_in {v v' : Value} {n k : Nat} (h : moved v v' n) (hk : k < n) (hv : v'.ownBlock = some k) : v.ownBlock = some k := by
  rcases h with h | h | ⟨g, h1, h2⟩
  · exact h ▸ hv
  · rw [h] at hv; cases hv
  · rw [h2] at hv; cases hv; omega
/-- What a pile, or what has a list, may change. -/
def foot (b : Nat) (v : Value) (k : Nat) : Prop := k = b ∨ v.ownBlock = some k
theorem foot_lo {w : World} {base b : Nat} {t : TypeId} {size n : Nat} {v : Value} {xs : List Value} (h : w.ownsRow base t size v n xs) (hb : base ≤ b) : ∀ k, foot b v k → base ≤ k := fun k hk => by
  rcases hk with rfl | q
  · exact hb
  · exact (ownsRow_at h q).1

theorem run_clear_none (P : Program) (t ty e : TypeId) (q : Option Addr) (c : Nat) (w : World) (hu : P.underlying t = some (.slice e)) :
    (Builtin.clear_ #[t] ty #[.slice q 0 c]).run P w = .ok (.tuple #[]) w := by
  cases q <;> simp [Builtin.clear_, run_underlying hu]

theorem run_clear_own (P : Program) (t ty e : TypeId) (i : TypeInfo) (z : Value) (w : World) (g off n c : Nat) (cur : Array Value) (hu : P.underlying t = some (.slice e)) (hi : P.info? e = some i) (hz : i.zero = some z) (hg : w.heap[g]? = some (.cells cur e (0, 0)))
    (hs : off + (Builtin.zeroCells z.cells n).size ≤ cur.size) (h1 : ∀ u ∈ (Builtin.zeroCells z.cells n).toList, u.oneCell' = true) (hn : 0 < n) :
    (Builtin.clear_ #[t] ty #[.slice (some ⟨g, off, none⟩) n c]).run P w = .ok (.tuple #[]) (w.setRow g (cur.toList.take off ++ (Builtin.zeroCells z.cells n).toList ++ cur.toList.drop (off + (Builtin.zeroCells z.cells n).size)).toArray) := by
  have hzv : (zeroValue e).run P w = .ok z w := by
    simp [zeroValue, typeInfo, hi, hz]
  have hst := run_storeCells_at P g off e (Builtin.zeroCells z.cells n).toList 0 cur w hg (by simpa using hs) h1
  obtain ⟨q, rfl⟩ : ∃ q, n = q + 1 := ⟨n - 1, by omega⟩
  simp at hst
  simp [Builtin.clear_, run_underlying hu, hzv, hst]
theorem step_append_at {P : Program} {ops : Array Oper} {o : Oper} {a : Act} {w : World} {K : Act → World → Prop} {Q : Exit → Act → World → Prop} {E : Prop} (hgd : o.guard = none) (s x : Operand) (t : TypeId)
    (ho : o.op = .call { callee := .builtin .append, args := #[s, x], argTypes := #[t, t] })
    (base : Nat) (e : TypeId) (i : TypeInfo) (z : Value) (size bytes : Nat) (ht : P.underlying t = some (.slice e)) (hi : P.info? e = some i) (hz : i.zero = some z)
    (hsize : i.size = size) (hby : i.bytes = bytes) (hzs : z.cells.size = size) (hsz : 0 < size)
    (v : Value) (n : Nat) (xs : List Value) (hs : a.eval s = v) (hown : w.ownsRow base e size v n xs)
    (ad : Addr) (m c : Nat) (news : List Value) (hx : a.eval x = .slice (some ad) m c) (hl : news.length = m * size) (hnews : ∀ j u, news[j]? = some u → w.cell? (ad.add j) = some u) (h1 : ∀ u ∈ news, u.oneCell' = true)
    (h63 : n + m ≤ maxLen) (hbytes : (n + m) * bytes ≤ 140737488355328) (hbase : base ≤ w.heap.size)
    (h : ∀ v' w', w'.ownsRow base e size v' (n + m) (xs ++ news) → w.grownBy w' v.ownBlock → (v'.ownBlock = v.ownBlock ∨ v'.ownBlock = some w.heap.size) → K (a.put o.dst v') w') :
    if Region.wanted o (yielded ops a.tmps) = true then Oper.wp P o a w K Q else E := by
  have hw : Region.wanted o (yielded ops a.tmps) = true := by simp [Region.wanted, hgd]
  rw [if_pos hw]
  obtain ⟨v', w', hrun, h2, h3, _, h5⟩ := run_append_own_at (P := P) w base t o.type e i z size bytes ht hi hz hsize hby hzs hsz v n xs hown ad m c news hl hnews h1 h63 hbytes hbase
  unfold Oper.wp
  simp [execOp, ho, resolve, invoke, builtin, hs, hx, hrun, Result.andThen]
  exact h v' w' h2 h3 h5
theorem news2 (W : World) (a b : Value) (t : TypeId) : ∀ (j : Nat) (u : Value), [a, b][j]? = some u → (W.alloc (.cells #[a, b] t)).cell? ((⟨W.heap.size, 0, none⟩ : Addr).add j) = some u := by
  intro j u h
  match j, h with
  | 0, h => simp at h; subst h; simp [Addr.add]
  | 1, h => simp at h; subst h; simp [Addr.add]
theorem alloc_new (w : World) (o : Obj) : (w.alloc o).heap[w.heap.size]? = some o := by unfold World.alloc; simp
/-- A struct of two cells that is written over. -/
theorem set2_cells {W : World} {n : Nat} {a0 a1 : Value} {t : TypeId} (h : W.heap[n]? = some (.cells #[a0, a1] t (0, 0))) (x y : Value) :
    (W.setCell ⟨n, 0, none⟩ x).cell? ⟨n, 0, none⟩ = some x ∧ ((W.setCell ⟨n, 0, none⟩ x).setCell ⟨n, 1, none⟩ y).cell? ⟨n, 1, none⟩ = some y ∧ ((W.setCell ⟨n, 0, none⟩ x).setCell ⟨n, 1, none⟩ y).heap[n]? = some (.cells #[x, y] t (0, 0)) := by
  have h1 := heap_set_in h 0 x
  have h2 := heap_set_in h1 1 y
  exact ⟨cell_row h1 (i := 0) rfl, cell_row h2 (i := 1) rfl, h2⟩
theorem below_set2 {w w1 : World} (h : Below w.heap.size w w1) (x y : Value) : Below w.heap.size w ((w1.setCell ⟨w.heap.size, 0, none⟩ x).setCell ⟨w.heap.size, 1, none⟩ y) :=
  (((Fr.of_below (S := fun _ => False) h).setNew (p := ⟨w.heap.size, 0, none⟩) (Nat.le_refl _) x).setNew (p := ⟨w.heap.size, 1, none⟩) (Nat.le_refl _) y).below (Nat.le_refl _) (fun _ q => q.elim)
end Go.Proofs.YtpfdapnfkghgkaaGreatDoor
namespace Go.Proofs.YtpfdapnfkghgkaaGreatDoor

/-- Is a number in one of some ranges? -/
def In (L : List (Int × Int)) (c : Int) : Prop := ∃ r ∈ L, r.1 ≤ c ∧ c ≤ r.2
structure Cls (L : List (Int × Int)) : Prop where
  some : ∀ r ∈ L, r.1 ≤ r.2
  apart : L.Pairwise (fun a b => a.2 + 1 < b.1)

theorem in_nil (c : Int) : ¬ In [] c := fun ⟨_, h, _⟩ => by cases h
theorem in_cons (r : Int × Int) (L : List (Int × Int)) (c : Int) : In (r :: L) c ↔ (r.1 ≤ c ∧ c ≤ r.2) ∨ In L c := by
  simp [In]
theorem in_append (A B : List (Int × Int)) (c : Int) : In (A ++ B) c ↔ In A c ∨ In B c := by
  constructor
  · rintro ⟨r, h, q⟩
    rcases List.mem_append.1 h with h | h
    · exact .inl ⟨r, h, q⟩
    · exact .inr ⟨r, h, q⟩
  · rintro (⟨r, h, q⟩ | ⟨r, h, q⟩)
    · exact ⟨r, List.mem_append.2 (.inl h), q⟩
    · exact ⟨r, List.mem_append.2 (.inr h), q⟩
theorem in_one (r : Int × Int) (c : Int) : In [r] c ↔ r.1 ≤ c ∧ c ≤ r.2 := by simp [In]
theorem cls_nil : Cls [] := ⟨fun _ h => (by cases h), List.Pairwise.nil⟩
theorem cls_tail {r : Int × Int} {L : List (Int × Int)} (h : Cls (r :: L)) : Cls L := ⟨fun x hx => h.some x (List.mem_cons_of_mem _ hx), (List.pairwise_cons.1 h.apart).2⟩
theorem cls_head {r : Int × Int} {L : List (Int × Int)} (h : Cls (r :: L)) : r.1 ≤ r.2 := h.some r List.mem_cons_self
theorem cls_next {r x : Int × Int} {L : List (Int × Int)} (h : Cls (r :: L)) (hx : x ∈ L) : r.2 + 1 < x.1 := (List.pairwise_cons.1 h.apart).1 x hx
theorem cls_above {r : Int × Int} {L : List (Int × Int)} (h : Cls (r :: L)) {c : Int} (hc : In L c) : r.2 + 1 < c := by
  obtain ⟨x, hx, h1, h2⟩ := hc
  have := cls_next h hx
  omega
theorem cls_unique : ∀ (A B : List (Int × Int)), Cls A → Cls B → (∀ c, In A c ↔ In B c) → A = B
  | [], [], _, _, _ => rfl
  | [], b :: B, _, hB, h => absurd ((h b.1).2 ⟨b, List.mem_cons_self, Int.le_refl _, cls_head hB⟩) (in_nil _)
  | a :: A, [], hA, _, h => absurd ((h a.1).1 ⟨a, List.mem_cons_self, Int.le_refl _, cls_head hA⟩) (in_nil _)
  | a :: A, b :: B, hA, hB, h => by
    have ha := cls_head hA
    have hb := cls_head hB
    have h1 : a.1 = b.1 := by
      have p := (h a.1).1 ((in_cons ..).2 (.inl ⟨Int.le_refl _, ha⟩))
      have q := (h b.1).2 ((in_cons ..).2 (.inl ⟨Int.le_refl _, hb⟩))
      rcases (in_cons ..).1 p with p | p
      · rcases (in_cons ..).1 q with q | q
        · omega
        · have := cls_above hA q; omega
      · have := cls_above hB p
        rcases (in_cons ..).1 q with q | q
        · omega
        · have := cls_above hA q; omega
    have h2 : a.2 = b.2 := by
      rcases Int.lt_trichotomy a.2 b.2 with q | q | q
      · have p := (h (a.2 + 1)).2 ((in_cons ..).2 (.inl ⟨by omega, by omega⟩))
        rcases (in_cons ..).1 p with p | p
        · omega
        · have := cls_above hA p; omega
      · exact q
      · have p := (h (b.2 + 1)).1 ((in_cons ..).2 (.inl ⟨by omega, by omega⟩))
        rcases (in_cons ..).1 p with p | p
        · omega
        · have := cls_above hB p; omega
    have e : a = b := Prod.ext h1 h2
    subst e
    rw [cls_unique A B (cls_tail hA) (cls_tail hB) fun c => ?_]
    constructor
    · intro p
      have := cls_above hA p
      rcases (in_cons ..).1 ((h c).1 ((in_cons ..).2 (.inr p))) with q | q
      · omega
      · exact q
    · intro p
      have := cls_above hB p
      rcases (in_cons ..).1 ((h c).2 ((in_cons ..).2 (.inr p))) with q | q
      · omega
      · exact q

/-- A class with a range that begins nowhere ahead of the class's last one. -/
def addM (C : List (Int × Int)) (r : Int × Int) : List (Int × Int) :=
  if r.2 < r.1 then C else
    match C.getLast? with
    | none => [r]
    | some x => if x.2 + 1 < r.1 then C ++ [r] else C.dropLast ++ [(x.1, max x.2 r.2)]
theorem addM_empty {C : List (Int × Int)} {r : Int × Int} (h : r.2 < r.1) : addM C r = C := if_pos h
theorem addM_nil {r : Int × Int} (h : ¬ r.2 < r.1) : addM [] r = [r] := by unfold addM; rw [if_neg h]; rfl
theorem addM_far {C : List (Int × Int)} {x r : Int × Int} (h : ¬ r.2 < r.1) (hf : x.2 + 1 < r.1) : addM (C ++ [x]) r = C ++ [x] ++ [r] := by
  unfold addM
  rw [if_neg h]
  simp [hf]
theorem addM_near {C : List (Int × Int)} {x r : Int × Int} (h : ¬ r.2 < r.1) (hf : ¬ x.2 + 1 < r.1) : addM (C ++ [x]) r = C ++ [(x.1, max x.2 r.2)] := by
  unfold addM
  rw [if_neg h]
  simp [hf]
theorem last_cases {α : Type} (C : List α) : C = [] ∨ ∃ D x, C = D ++ [x] := by
  rcases List.eq_nil_or_concat C with h | ⟨D, x, h⟩
  · exact .inl h
  · exact .inr ⟨D, x, by rw [h, List.concat_eq_append]⟩
theorem cls_append {A : List (Int × Int)} {r : Int × Int} (hA : Cls A) (hr : r.1 ≤ r.2) (h : ∀ x ∈ A, x.2 + 1 < r.1) : Cls (A ++ [r]) :=
  ⟨fun x hx => by
    rcases List.mem_append.1 hx with q | q
    · exact hA.some x q
    · simp at q; subst q; exact hr,
   List.pairwise_append.2 ⟨hA.apart, List.pairwise_singleton _ _, fun x hx y hy => by simp at hy; subst hy; exact h x hx⟩⟩
theorem cls_init {A : List (Int × Int)} {x : Int × Int} (h : Cls (A ++ [x])) : Cls A ∧ x.1 ≤ x.2 ∧ ∀ y ∈ A, y.2 + 1 < x.1 :=
  ⟨⟨fun y hy => h.some y (List.mem_append.2 (.inl hy)), (List.pairwise_append.1 h.apart).1⟩, h.some x (by simp), fun y hy => (List.pairwise_append.1 h.apart).2.2 y hy x (by simp)⟩
/-- What add answers. -/
theorem addM_spec {C : List (Int × Int)} {r : Int × Int} (hC : Cls C) (hl : r.1 ≤ r.2 → ∀ x ∈ C, x.1 ≤ r.1) :
    Cls (addM C r) ∧ (∀ c, In (addM C r) c ↔ In C c ∨ (r.1 ≤ c ∧ c ≤ r.2)) ∧ (∀ m, (r.1 ≤ r.2 → r.1 ≤ m) → (∀ x ∈ C, x.1 ≤ m) → ∀ x ∈ addM C r, x.1 ≤ m) := by
  by_cases h : r.2 < r.1
  · rw [addM_empty h]
    exact ⟨hC, fun c => ⟨.inl, fun q => q.elim id fun q => by omega⟩, fun m _ q => q⟩
  · have hr : r.1 ≤ r.2 := by omega
    have hl := hl hr
    rcases last_cases C with rfl | ⟨D, x, rfl⟩
    · rw [addM_nil h]
      refine ⟨⟨fun y hy => by simp at hy; subst hy; exact hr, List.pairwise_singleton _ _⟩, fun c => ?_, fun m hm _ y hy => by simp at hy; subst hy; exact hm hr⟩
      rw [in_one]
      exact ⟨.inr, fun q => q.elim (fun q => absurd q (in_nil _)) id⟩
    · obtain ⟨hD, hx, hDx⟩ := cls_init hC
      have hxr := hl x (by simp)
      by_cases hf : x.2 + 1 < r.1
      · rw [addM_far h hf]
        refine ⟨cls_append hC hr fun y hy => ?_, fun c => by rw [in_append, in_one], fun m hm q y hy => ?_⟩
        · rcases List.mem_append.1 hy with q | q
          · have := hDx y q; omega
          · simp at q; subst q; exact hf
        · rcases List.mem_append.1 hy with p | p
          · exact q y p
          · simp at p; subst p; exact hm hr
      · rw [addM_near h hf]
        refine ⟨cls_append hD (by simp only; omega) hDx, fun c => ?_, fun m hm q y hy => ?_⟩
        · rw [in_append, in_append, in_one, in_one]
          constructor
          · rintro (p | ⟨p1, p2⟩)
            · exact .inl (.inl p)
            · simp only at p1 p2
              by_cases hc : c ≤ x.2
              · exact .inl (.inr ⟨p1, hc⟩)
              · exact .inr ⟨by omega, by omega⟩
          · rintro ((p | ⟨p1, p2⟩) | ⟨p1, p2⟩)
            · exact .inl p
            · exact .inr ⟨p1, by simp only; omega⟩
            · exact .inr ⟨by simp only; omega, by simp only; omega⟩
        · rcases List.mem_append.1 hy with p | p
          · exact q y (List.mem_append.2 (.inl p))
          · simp at p; subst p; exact q x (by simp)

/-- Numbers of a machine. -/
def Fit (L : List (Int × Int)) : Prop := ∀ r ∈ L, (-9223372036854775808 ≤ r.1 ∧ r.1 ≤ 9223372036854775807) ∧ (-9223372036854775808 ≤ r.2 ∧ r.2 ≤ 9223372036854775807)
theorem fit_nil : Fit [] := fun _ h => by cases h
theorem fit_append {A B : List (Int × Int)} (hA : Fit A) (hB : Fit B) : Fit (A ++ B) := fun r hr => (List.mem_append.1 hr).elim (hA r) (hB r)
theorem fit_one {a b : Int} (h : (-9223372036854775808 ≤ a ∧ a ≤ 9223372036854775807) ∧ (-9223372036854775808 ≤ b ∧ b ≤ 9223372036854775807)) : Fit [(a, b)] := fun r hr => by simp at hr; subst hr; exact h
theorem fit_sub {A B : List (Int × Int)} (hA : Fit A) (h : ∀ x ∈ B, x ∈ A) : Fit B := fun r hr => hA r (h r hr)
theorem fit_addM {C : List (Int × Int)} {r : Int × Int} (hC : Fit C) (hr : Fit [r]) : Fit (addM C r) := by
  have q := hr r (by simp)
  by_cases h : r.2 < r.1
  · rw [addM_empty h]; exact hC
  · rcases last_cases C with rfl | ⟨D, x, rfl⟩
    · rw [addM_nil h]; exact hr
    · have hx := hC x (by simp)
      by_cases hf : x.2 + 1 < r.1
      · rw [addM_far h hf]; exact fit_append hC hr
      · rw [addM_near h hf]
        exact fit_append (fit_sub hC fun y hy => List.mem_append.2 (.inl hy)) (fit_one ⟨hx.1, by omega, by omega⟩)
theorem addM_length (C : List (Int × Int)) (r : Int × Int) : (addM C r).length ≤ C.length + 1 := by
  by_cases h : r.2 < r.1
  · rw [addM_empty h]; omega
  · rcases last_cases C with rfl | ⟨D, x, rfl⟩
    · rw [addM_nil h]; simp
    · by_cases hf : x.2 + 1 < r.1
      · rw [addM_far h hf]; simp
      · rw [addM_near h hf]; simp
theorem in_perm {A B : List (Int × Int)} (h : A.Perm B) (c : Int) : In A c ↔ In B c :=
  ⟨fun ⟨r, q, p⟩ => ⟨r, h.mem_iff.1 q, p⟩, fun ⟨r, q, p⟩ => ⟨r, h.mem_iff.2 q, p⟩⟩
theorem in_fit {L : List (Int × Int)} (hL : Fit L) {c : Int} (h : In L c) : -9223372036854775808 ≤ c ∧ c ≤ 9223372036854775807 := by
  obtain ⟨r, hr, h1, h2⟩ := h
  have := hL r hr
  omega

/-- The class of two: how the walk side by side goes. -/
theorem both_left {a b : Int × Int} {A B : List (Int × Int)} (hb : Cls (b :: B)) (h : a.2 < b.2) (c : Int) :
    (In (a :: A) c ∧ In (b :: B) c) ↔ (max a.1 b.1 ≤ c ∧ c ≤ min a.2 b.2) ∨ (In A c ∧ In (b :: B) c) := by
  rw [in_cons, in_cons]
  constructor
  · rintro ⟨p | p, q | q⟩
    · exact .inl ⟨by omega, by omega⟩
    · have := cls_above hb q; omega
    · exact .inr ⟨p, .inl q⟩
    · exact .inr ⟨p, .inr q⟩
  · rintro (⟨p, q⟩ | ⟨p, q⟩)
    · exact ⟨.inl ⟨by omega, by omega⟩, .inl ⟨by omega, by omega⟩⟩
    · exact ⟨.inr p, q⟩
theorem both_right {a b : Int × Int} {A B : List (Int × Int)} (ha : Cls (a :: A)) (h : b.2 ≤ a.2) (c : Int) :
    (In (a :: A) c ∧ In (b :: B) c) ↔ (max a.1 b.1 ≤ c ∧ c ≤ min a.2 b.2) ∨ (In (a :: A) c ∧ In B c) := by
  rw [in_cons, in_cons]
  constructor
  · rintro ⟨p | p, q | q⟩
    · exact .inl ⟨by omega, by omega⟩
    · exact .inr ⟨.inl p, q⟩
    · have := cls_above ha p; omega
    · exact .inr ⟨.inr p, q⟩
  · rintro (⟨p, q⟩ | ⟨p, q⟩)
    · exact ⟨.inl ⟨by omega, by omega⟩, .inl ⟨by omega, by omega⟩⟩
    · exact ⟨p, .inr q⟩

/-! ### Lists of ranges as values -/
def cellsR (L : List (Int × Int)) : List Go.Value := L.flatMap fun r => [.int .i64 r.1, .int .i64 r.2]
theorem cellsR_length (L : List (Int × Int)) : (cellsR L).length = L.length * 2 := by
  induction L with
  | nil => rfl
  | cons r L ih => simp [cellsR] at ih ⊢; omega
theorem cellsR_append (A B : List (Int × Int)) : cellsR (A ++ B) = cellsR A ++ cellsR B := by simp [cellsR]
theorem cellsR_one (L : List (Int × Int)) : ∀ v ∈ cellsR L, v.oneCell' = true := fun v hv => by
  simp [cellsR] at hv
  obtain ⟨a, b, _, rfl | rfl⟩ := hv <;> rfl
theorem cellsR_get : ∀ (L : List (Int × Int)) (i : Nat) (r : Int × Int), L[i]? = some r → (cellsR L)[2 * i]? = some (.int .i64 r.1) ∧ (cellsR L)[2 * i + 1]? = some (.int .i64 r.2)
  | [], i, r, h => by cases h
  | x :: L, 0, r, h => by
    simp at h
    subst h
    simp [cellsR]
  | x :: L, i + 1, r, h => by
    have := cellsR_get L i r (by simpa using h)
    simp only [cellsR, List.flatMap_cons] at this ⊢
    rw [show 2 * (i + 1) = 2 * i + 2 from by omega]
    simpa using this
theorem cellsR_set : ∀ (L : List (Int × Int)) (i : Nat) (a b : Int), ((cellsR L).set (i * 2) (.int .i64 a)).set (i * 2 + 1) (.int .i64 b) = cellsR (L.set i (a, b))
  | [], i, a, b => by simp [cellsR]
  | x :: L, 0, a, b => by simp [cellsR]
  | x :: L, i + 1, a, b => by
    have := cellsR_set L i a b
    simp only [cellsR, List.flatMap_cons, List.set_cons_succ] at this ⊢
    rw [show (i + 1) * 2 = i * 2 + 2 from by omega]
    simpa using this
theorem cellsR_setHi : ∀ (L : List (Int × Int)) (i : Nat) (r : Int × Int) (b : Int), L[i]? = some r → (cellsR L).set (i * 2 + 1) (.int .i64 b) = cellsR (L.set i (r.1, b))
  | [], i, r, b, h => by cases h
  | x :: L, 0, r, b, h => by simp at h; subst h; simp [cellsR]
  | x :: L, i + 1, r, b, h => by
    have := cellsR_setHi L i r b (by simpa using h)
    simp only [cellsR, List.flatMap_cons, List.set_cons_succ] at this ⊢
    rw [show (i + 1) * 2 = i * 2 + 2 from by omega]
    simpa using this
theorem cellsR_setLo : ∀ (L : List (Int × Int)) (i : Nat) (r : Int × Int) (b : Int), L[i]? = some r → (cellsR L).set (i * 2) (.int .i64 b) = cellsR (L.set i (b, r.2))
  | [], i, r, b, h => by cases h
  | x :: L, 0, r, b, h => by simp at h; subst h; simp [cellsR]
  | x :: L, i + 1, r, b, h => by
    have := cellsR_setLo L i r b (by simpa using h)
    simp only [cellsR, List.flatMap_cons, List.set_cons_succ] at this ⊢
    rw [show (i + 1) * 2 = i * 2 + 2 from by omega]
    simpa using this
end Go.Proofs.YtpfdapnfkghgkaaGreatDoor
namespace Go.Proofs.YtpfdapnfkghgkaaGreatDoor
open Go Go.RowKit

theorem hide {p : Prop} (h : p) : Hid p := h
theorem wf_range {x : Int} (h : (Lit.int .i64 x).wf = true) : -9223372036854775808 ≤ x ∧ x ≤ 9223372036854775807 := by
  simp [Lit.wf, IntKind.min, IntKind.max, IntKind.signed, IntKind.bits] at h
  omega
theorem size_range : (Tryz.prog.info? 99).map (fun i => (i.zero, i.size, i.bytes)) = some (some (.agg #[.int .i64 0, .int .i64 0]), 2, 16) := by kernel_rfl
theorem und_ranges : Tryz.prog.underlying 25 = some (.slice 99) := by kernel_rfl

theorem max_run (P : Program) (t : Array TypeId) (ty : TypeId) (w : World) (x y : Int) : (Builtin.max_ t ty #[.int .i64 x, .int .i64 y]).run P w = .ok (.int .i64 (max x y)) w := by
  have e : max x y = if y > x then y else x := by split <;> omega
  rw [e]
  rfl
theorem min_run (P : Program) (t : Array TypeId) (ty : TypeId) (w : World) (x y : Int) : (Builtin.min_ t ty #[.int .i64 x, .int .i64 y]).run P w = .ok (.int .i64 (min x y)) w := by
  have e : min x y = if y < x then y else x := by split <;> omega
  rw [e]
  rfl
/-- Ranges that can be read. -/
def ArgR (W : World) (v : Value) (L : List (Int × Int)) : Prop :=
  (∃ p cap, v = .slice p 0 cap ∧ L = [] ∧ (p = none → cap = 0)) ∨ ∃ g off cap, v = .slice (some ⟨g, off, none⟩) L.length cap ∧ g < W.heap.size ∧ L.length ≤ cap ∧ cap ≤ maxLen ∧ ∀ (i : Nat) (r : Int × Int), L[i]? = some r → W.cell? ⟨g, off + 2 * i, none⟩ = some (.int .i64 r.1) ∧ W.cell? ⟨g, off + 2 * i + 1, none⟩ = some (.int .i64 r.2)
theorem ArgR.kept {W W' : World} {v : Value} {L : List (Int × Int)} (h : ArgR W v L) (hb : Below W.heap.size W W') : ArgR W' v L := by
  rcases h with h | ⟨g, off, cap, h1, h2, h3, h4, h5⟩
  · exact .inl h
  · exact .inr ⟨g, off, cap, h1, Nat.lt_of_lt_of_le h2 hb.size, h3, h4, fun i x hx => ⟨(hb.cell (p := ⟨g, off + 2 * i, none⟩) h2).trans (h5 i x hx).1, (hb.cell (p := ⟨g, off + 2 * i + 1, none⟩) h2).trans (h5 i x hx).2⟩⟩
theorem ArgR.slice {W : World} {v : Value} {L : List (Int × Int)} (h : ArgR W v L) : ∃ q cap, v = .slice q L.length cap ∧ L.length ≤ maxLen ∧ L.length ≤ cap ∧
    (∀ (i : Nat) (r : Int × Int), L[i]? = some r → ∃ g off, q = some ⟨g, off, none⟩ ∧ g < W.heap.size ∧ W.cell? ⟨g, off + 2 * i, none⟩ = some (.int .i64 r.1) ∧ W.cell? ⟨g, off + 2 * i + 1, none⟩ = some (.int .i64 r.2)) := by
  rcases h with ⟨p, cap, rfl, rfl, -⟩ | ⟨g, off, cap, rfl, h2, h3, h4, h5⟩
  · exact ⟨p, cap, rfl, Nat.zero_le _, Nat.zero_le _, fun i x hx => by simp at hx⟩
  · exact ⟨_, cap, rfl, Nat.le_trans h3 h4, h3, fun i x hx => ⟨g, off, rfl, h2, h5 i x hx⟩⟩

theorem ArgR.news {W : World} {ad : Addr} {n c : Nat} {L : List (Int × Int)} (h : ArgR W (.slice (some ad) n c) L) : ∀ j u, (cellsR L)[j]? = some u → W.cell? (ad.add j) = some u := by
  intro j u hj
  have hjl : j < L.length * 2 := by have := (List.getElem?_eq_some_iff.1 hj).1; rwa [cellsR_length] at this
  rcases h with ⟨p, cap, e, rfl, -⟩ | ⟨g, off, cap, e, h2, h3, h4, h5⟩
  · simp at hjl
  · cases e
    obtain ⟨q1, q2⟩ := h5 (j / 2) _ (List.getElem?_eq_getElem (by omega))
    obtain ⟨r1, r2⟩ := cellsR_get L (j / 2) _ (List.getElem?_eq_getElem (by omega))
    have hadd : (⟨g, off, none⟩ : Addr).add j = ⟨g, off + j, none⟩ := by unfold Addr.add; split <;> simp_all
    rw [hadd]
    rcases Nat.mod_two_eq_zero_or_one j with e | e
    · rw [show 2 * (j / 2) = j by omega] at q1 r1
      rw [q1, ← r1, hj]
    · rw [show off + 2 * (j / 2) + 1 = off + j by omega] at q2
      rw [show 2 * (j / 2) + 1 = j by omega] at r2
      rw [q2, ← r2, hj]
/-- Ranges in a list of one's own. -/
def RR (base : Nat) (w : World) (v : Value) (L : List (Int × Int)) : Prop := w.ownsRow base 99 2 v L.length (cellsR L)
theorem RR.arg {base : Nat} {w : World} {v : Value} {L : List (Int × Int)} (h : RR base w v L) : ArgR w v L := by
  have h' := h
  rcases h.2 with ⟨rfl, hn⟩ | ⟨g, cap, cur, rfl, hg, hc, h1, h2, h3, h4⟩
  · exact .inl ⟨none, 0, rfl, List.eq_nil_of_length_eq_zero hn, fun _ => rfl⟩
  · exact .inr ⟨g, 0, cap, rfl, lt_of_heap hc, h1, h2, fun i x hx => by
      obtain ⟨p1, p2⟩ := cellsR_get L i x hx
      rw [Nat.zero_add]
      exact ⟨ownsRow_cell h' p1, ownsRow_cell h' p2⟩⟩
theorem RR.nil (base : Nat) (w : World) : RR base w (.slice none 0 0) [] := ⟨rfl, .inl ⟨rfl, rfl⟩⟩
theorem RR.fr {base : Nat} {w w' : World} {v : Value} {L : List (Int × Int)} {S : Nat → Prop} (h : RR base w v L) (hf : Fr S w w') (hs : ∀ k, v.ownBlock = some k → ¬ S k) : RR base w' v L := ownsRow_fr h hf hs
theorem RR.kept {base : Nat} {w w' : World} {v : Value} {L : List (Int × Int)} (h : RR base w v L) (hb : Below w.heap.size w w') : RR base w' v L := h.fr (S := fun _ => False) (Fr.of_below hb) (fun _ _ q => q)
theorem RR.mono {base base' : Nat} {w : World} {v : Value} {L : List (Int × Int)} (h : RR base w v L) (hb : base' ≤ base) : RR base' w v L := ownsRow_mono h hb
theorem RR.shape {base : Nat} {w : World} {v : Value} {L : List (Int × Int)} (h : RR base w v L) : ∃ q c, v = .slice q L.length c := ownsRow_shape h

/-- A class of the numbers of which p is so. -/
structure IsC (C : List (Int × Int)) (p : Int → Prop) : Prop where
  cls : Cls C
  fit : Fit C
  mem : ∀ c, In C c ↔ p c
theorem IsC.one {C D : List (Int × Int)} {p q : Int → Prop} (h : IsC C p) (k : IsC D q) (e : ∀ c, p c ↔ q c) : C = D :=
  cls_unique C D h.cls k.cls fun c => (h.mem c).trans ((e c).trans (k.mem c).symm)
theorem IsC.to {C : List (Int × Int)} {p q : Int → Prop} (h : IsC C p) (e : ∀ c, p c ↔ q c) : IsC C q := ⟨h.cls, h.fit, fun c => (h.mem c).trans (e c)⟩
/-- What a call answers that makes a class. -/
def Gets (w : World) (p : Int → Prop) (n : Nat) (e : Ending) (w' : World) : Prop := ∃ v C, e = .returned v ∧ RR w.heap.size w' v C ∧ IsC C p ∧ C.length ≤ n ∧ Below w.heap.size w w'
end Go.Proofs.YtpfdapnfkghgkaaGreatDoor
namespace Go.Proofs.YtpfdapnfkghgkaaGreatDoor
open Go Go.RowKit

/-- A node's fields, and where its two lists lie. -/
structure Fl where
  k : Int
  n : Int
  mn : Int
  mx : Int
  rs : List (Int × Int)
  rq : Option Addr
  rc : Nat
  kq : Option Addr
  kl : Nat
  kc : Nat
inductive Tr where
  | mk (f : Fl) (ks : List Tr)
def Tr.f : Tr → Fl | .mk f _ => f
def Tr.ks : Tr → List Tr | .mk _ ks => ks
abbrev Fl.rv (f : Fl) : Value := .slice f.rq f.rs.length f.rc
abbrev Fl.kv (f : Fl) : Value := .slice f.kq f.kl f.kc
/-- The way to a node: those around it, the nearest first, and which Kid is meant. -/
abbrev Way := List (Tr × Nat)
abbrev El := Way × Tr
mutual
def pp : Way → Tr → List El
  | p, .mk f ks => (p, .mk f ks) :: pps (.mk f ks) p 0 ks
def pps (par : Tr) (p : Way) : Nat → List Tr → List El
  | _, [] => []
  | i, t :: ts => pp ((par, i) :: p) t ++ pps par p (i + 1) ts
end
theorem pp_eq (p : Way) (t : Tr) : pp p t = (p, t) :: pps t p 0 t.ks := by
  cases t
  rw [pp]
  rfl
theorem pps_cons (par : Tr) (p : Way) (i : Nat) (t : Tr) (ts : List Tr) : pps par p i (t :: ts) = pp ((par, i) :: p) t ++ pps par p (i + 1) ts := by rw [pps]
theorem pps_nil (par : Tr) (p : Way) (i : Nat) : pps par p i [] = [] := by rw [pps]
mutual
def Tr.sz : Tr → Nat | .mk _ ks => szs ks + 1
def szs : List Tr → Nat | [] => 0 | t :: ts => t.sz + szs ts
end
theorem sz_eq (t : Tr) : t.sz = szs t.ks + 1 := by cases t; rw [Tr.sz]; rfl
theorem szs_cons (t : Tr) (ts : List Tr) : szs (t :: ts) = t.sz + szs ts := by rw [szs]
theorem szs_nil : szs [] = 0 := by rw [szs]
theorem sz_pos (t : Tr) : 1 ≤ t.sz := by rw [sz_eq]; omega
theorem sz_mem {t : Tr} {ks : List Tr} (h : t ∈ ks) : t.sz ≤ szs ks := by
  induction ks with
  | nil => cases h
  | cons x r ih =>
    rw [szs_cons]
    rcases List.mem_cons.1 h with e | e
    · subst e; omega
    · have := ih e; omega
theorem sz_kid {t u : Tr} (h : u ∈ t.ks) : u.sz < t.sz := by rw [sz_eq t]; have := sz_mem h; omega
/-- What holds of a tree whose Kids all have it, all have. -/
theorem Tr.ind {P : Tr → Prop} (h : ∀ t, (∀ u ∈ t.ks, P u) → P t) (t : Tr) : P t := by
  have : ∀ (m : Nat) (t : Tr), t.sz ≤ m → P t := by
    intro m
    induction m with
    | zero => intro t ht; have := sz_pos t; omega
    | succ m ih => intro t ht; exact h t fun u hu => ih u (by have := sz_kid hu; omega)
  exact this t.sz t (Nat.le_refl _)
theorem pps_len_of {ks : List Tr} (h : ∀ t ∈ ks, ∀ p, (pp p t).length = t.sz) (par : Tr) (p : Way) (i : Nat) : (pps par p i ks).length = szs ks := by
  induction ks generalizing i with
  | nil => rw [pps_nil, szs_nil]; rfl
  | cons t ts ih =>
    rw [pps_cons, szs_cons, List.length_append, h t (List.mem_cons_self ..), ih (fun u hu => h u (List.mem_cons_of_mem _ hu))]
theorem pp_len (t : Tr) : ∀ p, (pp p t).length = t.sz := by
  refine Tr.ind (P := fun t => ∀ p, (pp p t).length = t.sz) (fun t ih p => ?_) t
  rw [pp_eq, sz_eq, List.length_cons, pps_len_of ih]

/-- One node comes next behind another. -/
def Nx (x y : El) : Prop := ∃ (par : Tr) (j : Nat) (rest : Way), y.1 = (par, j) :: rest ∧ ((par = x.2 ∧ j = 0 ∧ rest = x.1) ∨ ∃ s i, x.1 = s ++ (par, i) :: rest ∧ j = i + 1)
def Ch : List El → Prop
  | [] => True
  | [_] => True
  | x :: y :: r => Nx x y ∧ Ch (y :: r)
theorem chain_append {a b : List El} (ha : Ch a) (hb : Ch b) (h : ∀ x ∈ a.getLast?, ∀ y ∈ b.head?, Nx x y) : Ch (a ++ b) := by
  induction a with
  | nil => exact hb
  | cons x a ih =>
    cases a with
    | nil =>
      cases b with
      | nil => trivial
      | cons y b => exact ⟨h x (by simp) y (by simp), hb⟩
    | cons z a => exact ⟨ha.1, ih ha.2 fun u hu => h u (by rw [List.getLast?_cons_cons]; exact hu)⟩
theorem chain_at {a b : List El} {x y : El} (h : Ch (a ++ x :: y :: b)) : Nx x y := by
  induction a with
  | nil => exact h.1
  | cons z a ih =>
    cases a with
    | nil => exact h.2.1
    | cons u a => exact ih h.2
theorem pps_chain_of {ks : List Tr} (h : ∀ t ∈ ks, ∀ p, Ch (pp p t) ∧ ∀ z ∈ pp p t, ∃ s, z.1 = s ++ p) (par : Tr) (p : Way) (i : Nat) :
    Ch (pps par p i ks) ∧ (∀ z ∈ pps par p i ks, ∃ s j, z.1 = s ++ (par, j) :: p) ∧ ∀ z ∈ (pps par p i ks).head?, z.1 = (par, i) :: p := by
  induction ks generalizing i with
  | nil => rw [pps_nil]; exact ⟨trivial, fun z hz => (by cases hz), fun z hz => (by cases hz)⟩
  | cons t ts ih =>
    obtain ⟨c1, c2⟩ := h t (List.mem_cons_self ..) ((par, i) :: p)
    obtain ⟨d1, d2, d3⟩ := ih (fun u hu => h u (List.mem_cons_of_mem _ hu)) (i + 1)
    rw [pps_cons]
    refine ⟨chain_append c1 d1 fun x hx y hy => ?_, fun z hz => ?_, fun z hz => ?_⟩
    · obtain ⟨s, hs⟩ := c2 x (List.mem_of_getLast? hx)
      exact ⟨par, i + 1, p, d3 y hy, .inr ⟨s, i, hs, rfl⟩⟩
    · rcases List.mem_append.1 hz with q | q
      · obtain ⟨s, hs⟩ := c2 z q
        exact ⟨s, i, hs⟩
      · exact d2 z q
    · rw [pp_eq] at hz
      simp at hz
      subst hz
      rfl
theorem pp_chain (t : Tr) : ∀ p, Ch (pp p t) ∧ ∀ z ∈ pp p t, ∃ s, z.1 = s ++ p := by
  refine Tr.ind (P := fun t => ∀ p, Ch (pp p t) ∧ ∀ z ∈ pp p t, ∃ s, z.1 = s ++ p) (fun t ih p => ?_) t
  obtain ⟨d1, d2, d3⟩ := pps_chain_of ih t p 0
  rw [pp_eq]
  refine ⟨chain_append (a := [(p, t)]) trivial d1 fun x hx y hy => ?_, fun z hz => ?_⟩
  · simp at hx
    subst hx
    exact ⟨t, 0, p, d3 y hy, .inl ⟨rfl, rfl, rfl⟩⟩
  · rcases List.mem_cons.1 hz with q | q
    · subst q
      exact ⟨[], rfl⟩
    · obtain ⟨s, j, hs⟩ := d2 z q
      exact ⟨s ++ [(t, j)], by simp [hs]⟩
/-- What comes behind some nodes of a tree's order is next behind their last. -/
theorem told_next {t : Tr} {pre : List El} {x y : El} (h : pre ++ [x] ++ [y] <+: pp [] t) : Nx x y := by
  obtain ⟨r, hr⟩ := h
  have := (pp_chain t []).1
  rw [← hr, show pre ++ [x] ++ [y] ++ r = pre ++ x :: y :: r by simp] at this
  exact chain_at this
theorem told_first {t : Tr} {x : El} (h : [x] <+: pp [] t) : x = ([], t) := by
  rw [pp_eq] at h
  obtain ⟨r, hr⟩ := h
  simp at hr
  exact hr.1
mutual
/-- Of each node of a tree. -/
def Every (P : Tr → Prop) : Tr → Prop | .mk f ks => P (.mk f ks) ∧ EveryL P ks
def EveryL (P : Tr → Prop) : List Tr → Prop | [] => True | t :: ts => Every P t ∧ EveryL P ts
end
theorem every_eq {P : Tr → Prop} (t : Tr) : Every P t ↔ P t ∧ EveryL P t.ks := by cases t; rw [Every]; rfl
theorem everyL_iff {P : Tr → Prop} (ks : List Tr) : EveryL P ks ↔ ∀ t ∈ ks, Every P t := by
  induction ks with
  | nil => rw [EveryL]; simp
  | cons t ts ih => rw [EveryL, ih]; simp
theorem every_kid {P : Tr → Prop} {t u : Tr} (h : Every P t) (hu : u ∈ t.ks) : Every P u := (everyL_iff _).1 ((every_eq t).1 h).2 u hu
theorem every_pp {P : Tr → Prop} (t : Tr) : ∀ p, Every P t → ∀ z ∈ pp p t, Every P z.2 := by
  refine Tr.ind (P := fun t => ∀ p, Every P t → ∀ z ∈ pp p t, Every P z.2) (fun t ih p he z hz => ?_) t
  rw [pp_eq] at hz
  rcases List.mem_cons.1 hz with q | q
  · subst q; exact he
  · have : ∀ (ks : List Tr) (i : Nat), (∀ u ∈ ks, u ∈ t.ks) → z ∈ pps t p i ks → Every P z.2 := by
      intro ks
      induction ks with
      | nil => intro i _ h; rw [pps_nil] at h; cases h
      | cons u us ih2 =>
        intro i hs h
        rw [pps_cons] at h
        rcases List.mem_append.1 h with g | g
        · exact ih u (hs u (List.mem_cons_self ..)) _ (every_kid he (hs u (List.mem_cons_self ..))) z g
        · exact ih2 (i + 1) (fun v hv => hs v (List.mem_cons_of_mem _ hv)) g
    exact this t.ks 0 (fun _ h => h) q
end Go.Proofs.YtpfdapnfkghgkaaGreatDoor
namespace Go.Proofs.YtpfdapnfkghgkaaGreatDoor
open Go Go.RowKit Go.Shelf

theorem below_grownT {W W' : World} (hb : Below W.heap.size W W') : W.grownBy W' none := ⟨hb.os, hb.tape, hb.output, hb.size, fun k hk _ => hb.block k hk⟩
/-- The cells of those blocks stay as they are. -/
structure CKeep (N : Nat → Prop) (W W' : World) : Prop where
  size : W.heap.size ≤ W'.heap.size
  same : ∀ (k : Nat) (cur : Array Value) (t : TypeId) (fr : Nat × Nat), N k → W.heap[k]? = some (.cells cur t fr) → W'.heap[k]? = some (.cells cur t fr)
theorem CKeep.trans {N : Nat → Prop} {A B C : World} (h : CKeep N A B) (k : CKeep N B C) : CKeep N A C := ⟨Nat.le_trans h.size k.size, fun i cur t fr hi hc => k.same i cur t fr hi (h.same i cur t fr hi hc)⟩
theorem CKeep.put {N : Nat → Prop} {W : World} {l : Nat} {o : Obj} (o' : Obj) (h : W.heap[l]? = some o) (hc : o.isCells = false) : CKeep N W (W.putObj l o') :=
  ⟨(grownBy_putObj' W l o').size, fun k cur t fr _ hk => by
    have hne : k ≠ l := fun e => by subst e; rw [hk] at h; cases h; cases hc
    exact (World.putObj_heap_other hne).trans hk⟩
theorem Fr.ckeep {S N : Nat → Prop} {W W' : World} (h : Fr S W W') (hs : ∀ k, S k → ¬ N k) : CKeep N W W' :=
  ⟨h.size, fun k _ _ _ hk hc => (h.block k (lt_of_heap hc) (fun q => hs k q hk)).trans hc⟩
theorem Fr.keepsFrom {S : Nat → Prop} {N : Nat} {W W' : World} (h : Fr S W W') (hs : ∀ k, S k → k < N) : KeepsFrom N W W' :=
  ⟨h.size, fun k o hk hc _ => (h.block k (lt_of_heap hc) (fun q => by have := hs k q; omega)).trans hc⟩

/-- What an iterator does with a loop: each element is handed over with what is known of it (Told); at the end all were (S), or the loop was left behind some (Sp). What the loop says must bear that records laid since the iterator was called change. -/
def Tells {α : Type} (n : Nat) (P : Program) (gf : Nat) (lb : Array Value) (encs : α → Array Value) (N : Nat → Prop) (Told : List α → α → World → Prop) (S Sp : List α → Prop) (w : World) : Prop :=
  ∀ (l : Nat) (J Jx : List α → World → Prop) (W : World), Below w.heap.size w W → OwnFrom W.heap.size J → OwnFrom W.heap.size Jx → (∀ pre V, J pre V → pre.length ≤ 1000000) →
    (∀ pre x V, J pre V → Told pre x V → YieldAt Fence.wide (n - 1) P l (encs x) V fun e V' => KeepsFrom W.heap.size V V' ∧ ((e = .returned (.bool true) ∧ J (pre ++ [x]) V' ∧ CKeep N V V') ∨ (e = .returned (.bool false) ∧ Jx (pre ++ [x]) V'))) →
    J [] W → CallsIn Fence.wide n P gf (#[.func (.yield l) #[] #[]] ++ lb) W fun e V => (∃ v, e = .returned v) ∧ ((∃ xs, S xs ∧ J xs V) ∨ (∃ pre, Sp pre ∧ Jx pre V))
theorem ownFrom_below {β : Type} {B : Nat} {J : β → World → Prop} (h : OwnFrom B J) {s : β} {A A' : World} (hj : J s A) (hb : Below A.heap.size A A') : J s A' := h s A A' none hj (below_grownT hb) (fun _ e => by cases e)
theorem ownFrom_le {β : Type} {B B' : Nat} {J : β → World → Prop} (h : OwnFrom B J) (hB : B ≤ B') : OwnFrom B' J := fun s W W' row hs hg hr => h s W W' row hs hg (fun r e => ⟨Nat.le_trans hB (hr r e).1, (hr r e).2⟩)
theorem keeps_le {B B' : Nat} {W W' : World} (h : KeepsFrom B W W') (hB : B ≤ B') : KeepsFrom B' W W' := ⟨h.size, fun k o hk hc ho => h.same k o (Nat.le_trans hB hk) hc ho⟩
theorem keeps_put {B : Nat} (W : World) {l : Nat} (o : Obj) (hl : l < B) : KeepsFrom B W (W.putObj l o) :=
  ⟨(grownBy_putObj' W l o).size, fun k _ hk hc _ => (World.putObj_heap_other (by omega)).trans hc⟩
theorem ckeep_below {N : Nat → Prop} {W W' : World} (hb : Below W.heap.size W W') : CKeep N W W' := ⟨hb.size, fun k _ _ _ _ hc => (hb.block k (lt_of_heap hc)).trans hc⟩
theorem keeps_below {B : Nat} {W W' : World} (hb : Below W.heap.size W W') : KeepsFrom B W W' := ⟨hb.size, fun k _ _ hc _ => (hb.block k (lt_of_heap hc)).trans hc⟩
/-- A round may be run from any place: the wide fence has no bound. -/
theorem round_any {P : Program} {n m l l' : Nat} {f : FuncId} {tmps : Array Value} {assign body : Code} {w : World} {R : Ending → World → Prop} (h : RoundIn Fence.wide n P l f tmps assign body w R) : RoundIn (Fence.wide.inRound l') m P l f tmps assign body w R :=
  ⟨trivial, fun c cs _ => h.2 c cs (room_wide _)⟩

section
variable {α : Type} {P : Program}
/-- The loop's two blocks: its record, and its list of deferred calls. -/
def Rc (D : Nat) (r : Loop) (W : World) : Prop := W.heap[D + 1]? = some (.loop r) ∧ W.heap[D]? = some (.deferred (some []))
theorem Rc.below {D : Nat} {r : Loop} {W W' : World} (h : Rc D r W) (hb : Below W.heap.size W W') : Rc D r W' :=
  ⟨(hb.block _ (lt_of_heap h.1)).trans h.1, (hb.block _ (lt_of_heap h.2)).trans h.2⟩
theorem Rc.from {D : Nat} {r : Loop} {W W' : World} (h : Rc D r W) (hk : KeepsFrom D W W') : Rc D r W' := ⟨hk.same _ _ (by omega) h.1 rfl, hk.same _ _ (Nat.le_refl _) h.2 rfl⟩
theorem Rc.put {D : Nat} {r : Loop} {W : World} (h : Rc D r W) (r' : Loop) : Rc D r' (W.putObj (D + 1) (.loop r')) :=
  ⟨World.putObj_heap_same (lt_of_heap h.1), (World.putObj_heap_other (by omega)).trans h.2⟩

theorem rc_own {β : Type} {D : Nat} (r : Loop) : OwnFrom (D + 2) (fun (_ : β) W => Rc D r W) := fun _ A B row h hg hrow =>
  ⟨(hg.block _ (lt_of_heap h.1) (fun e => by have := (hrow _ e.symm).1; omega)).trans h.1, (hg.block _ (lt_of_heap h.2) (fun e => by have := (hrow _ e.symm).1; omega)).trans h.2⟩
/-- How a round ends, seen from the loop. -/
theorem round_ends {D : Nat} {N : Nat → Prop} {r : Loop} {I : List α → World → Prop} {Ix : Code → List α → World → Prop} {xs : List α} {V W W3 : World} {e : Exit} {a3 : Act}
    (hI : OwnFrom D I) (hIx : ∀ c, OwnFrom D (Ix c)) (hc : CKeep N V W) (hr : Rc D { r with state := .busy } W)
    (hv : KeepsFrom (D + 2) V W) (hp : ownPostG D (CKeep N) I Ix xs W e a3 W3) : roundPost P (D + 1) (fun e V' => KeepsFrom (D + 2) V V' ∧ ((e = .returned (.bool true) ∧ (I xs V' ∧ Rc D { r with state := .ready, pending := none } V') ∧ CKeep N V V') ∨ (e = .returned (.bool false) ∧ ∃ c, Ix c xs V' ∧ Rc D { r with state := .done, pending := some c } V'))) e a3 W3 := by
  have out : ∀ c : Code, KeepsFrom D W W3 → Ix c xs W3 → ∃ v V', (Instr.endRound (D + 1) (some c)).run P W3 = .ok v V' ∧ (KeepsFrom (D + 2) V V' ∧ ((Ending.returned v = .returned (.bool true) ∧ (I xs V' ∧ Rc D { r with state := .ready, pending := none } V') ∧ CKeep N V V') ∨ (Ending.returned v = .returned (.bool false) ∧ ∃ c, Ix c xs V' ∧ Rc D { r with state := .done, pending := some c } V'))) := fun c hk hi => by
    have h3 := hr.from hk
    exact ⟨_, _, run_endRound (some c) h3.1, (hv.trans (keeps_le hk (by omega))).trans (keeps_put _ _ (by omega)), .inr ⟨rfl, c, (hIx c).putObj _ hi (by omega) h3.1 rfl, h3.put _⟩⟩
  cases e with
  | normal =>
    obtain ⟨hk, hkp, hi⟩ := hp
    have h3 := hr.from hk
    exact ⟨_, _, run_endRound none h3.1, (hv.trans (keeps_le hk (by omega))).trans (keeps_put _ _ (by omega)), .inl ⟨rfl, ⟨hI.putObj _ hi (by omega) h3.1 rfl, h3.put _⟩, (hc.trans hkp).trans (CKeep.put _ h3.1 rfl)⟩⟩
  | ret => exact out .ret hp.1 hp.2
  | exit id => exact out (.exit id) hp.1 hp.2
  | goto t => exact out (.goto t) hp.1 hp.2
  | panic ch => exact hp.elim
  | outgrown => exact hp.elim

theorem range_told {g : Operand} {ps : Array Tmp} {assign body : Code} {Q : Exit → Act → World → Prop} {a : Act} {w : World} {n : Nat} (h1 : 1 ≤ n) {gf : Nat} {lb : Array Value}
    (hg : a.eval g = .func (.func gf) #[] lb) (eg : ∀ args w, (callFunc gf args).run P w = .ok (.enter gf args) w) {encs : α → Array Value} (hps : ∀ x, (encs x).size = ps.size)
    {N : Nat → Prop} {Told : List α → α → World → Prop} {S Sp : List α → Prop} (hseq : Tells (n - 1) P gf lb encs N Told S Sp w)
    (I : List α → World → Prop) (Ix : Code → List α → World → Prop) (hI : OwnFrom w.heap.size I) (hIx : ∀ c, OwnFrom w.heap.size (Ix c)) (hT : ∀ pre x, OwnFrom w.heap.size (fun (_ : Unit) W => Told pre x W)) (hbd : ∀ pre W, I pre W → pre.length ≤ 1000000) (h0 : I [] w) (Ax : α → Act → World → Prop) (hAx : ∀ x a', OwnFrom w.heap.size (fun (_ : Unit) W => Ax x a' W))
    (hassign : ∀ (l : Nat) (pre : List α) (x : α) (W : World) (K : Act → World → Prop), I pre W → Told pre x W → (∀ a' W', Below W.heap.size W W' → Ax x a' W' → K a' W') →
      assign.wpIn (Fence.wide.inRound l) (n - 1 - 1) P (Exit.then K (fun _ _ _ => False)) { tmps := (ps.zip (encs x)).foldl (fun t (p, v) => t.setIfInBounds p v) a.tmps, defers := [] } W)
    (hbody : ∀ (l : Nat) (pre : List α) (x : α) (a' : Act) (W : World), I pre W → Told pre x W → Ax x a' W → body.wpIn (Fence.wide.inRound l) (n - 1 - 1) P (ownPostG w.heap.size (CKeep N) I Ix (pre ++ [x]) W) a' W)
    (hdone : ∀ (D : Nat) (xs : List α) (W : World), w.heap.size ≤ D → S xs → I xs W → W.heap[D]? = some (.deferred (some [])) → Q .normal { a with defers := { target := .collected D, args := #[] } :: a.defers } W)
    (hstop : ∀ (D : Nat) (c : Code) (pre : List α) (W : World), w.heap.size ≤ D → Sp pre → Ix c pre W → W.heap[D]? = some (.deferred (some [])) → c.wpIn Fence.wide n P Q { a with defers := { target := .collected D, args := #[] } :: a.defers } W) :
    (Code.rangeFunc g ps assign body).wpIn Fence.wide n P Q a w := by
  refine wpIn_rangeFunc fun fn hfn => ?_
  let r : Loop := { state := .ready, pending := none, fn := fn, tmps := a.tmps, params := ps, assign := assign, body := body, defers := w.heap.size }
  have hB : Below w.heap.size w ((w.alloc (.deferred (some []))).alloc (.loop r)) := ((Below.refl _ _).alloc (Nat.le_refl _) _).alloc (by simp) _
  have hz : ((w.alloc (.deferred (some []))).alloc (.loop r)).heap.size = w.heap.size + 2 := by simp
  have hR : Rc w.heap.size r ((w.alloc (.deferred (some []))).alloc (.loop r)) := by
    refine ⟨?_, (Below.heap_alloc _ _ _ (by simp)).trans (World.alloc_heap_new w _)⟩
    have := World.alloc_heap_new (w.alloc (.deferred (some []))) (.loop r)
    rwa [World.size_alloc] at this
  refine ⟨w.heap.size + 1, [{ target := .collected w.heap.size, args := #[] }], ((w.alloc (.deferred (some []))).alloc (.loop r)), { target := .fn (.func gf) lb, args := #[.func (.yield (w.heap.size + 1)) #[] #[]] }, ((w.alloc (.deferred (some []))).alloc (.loop r)), gf, #[.func (.yield (w.heap.size + 1)) #[] #[]] ++ lb, ((w.alloc (.deferred (some []))).alloc (.loop r)),
    run_enterLoop_outer _ _ _ _ _, ?_, fun _ _ => trivial, ?_, fun _ => h1, ?_⟩
  · simp only [resolve, hg]
    simp [go_sem]
  · simp [invoke, go_sem, eg]
  · refine (hseq (w.heap.size + 1) (fun pre W => I pre W ∧ Rc w.heap.size r W) (fun pre W => ∃ c, Ix c pre W ∧ Rc w.heap.size { r with state := .done, pending := some c } W) _ hB
      ?_ ?_ (fun pre V h => hbd pre V h.1) ?_ ⟨hI.alloc _ (hI.alloc _ h0), hR⟩).mono ?_
    · rw [hz]
      exact (ownFrom_le hI (by omega)).and (rc_own _)
    · rw [hz]
      rintro pre A B row ⟨c, hi, hr⟩ hg hrow
      exact ⟨c, ownFrom_le (hIx c) (by omega) pre A B row hi hg hrow, rc_own (β := Unit) _ () A B row hr hg hrow⟩
    · rw [hz]
      rintro pre x V ⟨hi, hr⟩ ht
      refine ⟨fn, _, assign, body, run_yield hr.1 (hps x), roundIn_of_wpIn hfn (hassign _ pre x V _ hi ht ?_)⟩
      intro a' W' hb hax
      have hr' := hr.below hb
      refine ⟨_, run_beginRound hr'.1 rfl, ?_⟩
      have hr2 : Rc w.heap.size { r with state := .busy } (W'.putObj (w.heap.size + 1) (.loop { r with state := .busy })) := hr'.put _
      exact wpIn_mono (hbody _ pre x a' _ (hI.putObj _ (ownFrom_below hI hi hb) (by omega) hr'.1 rfl) ((hT pre x).putObj (s := ()) _ (ownFrom_below (hT pre x) (s := ()) ht hb) (by omega) hr'.1 rfl) ((hAx x a').putObj (s := ()) _ hax (by omega) hr'.1 rfl)) fun e a3 W3 hp =>
        round_ends (r := r) hI hIx ((ckeep_below hb).trans (CKeep.put _ hr'.1 rfl)) hr2 ((keeps_below hb).trans (keeps_put _ _ (by omega))) hp
    · rintro e V ⟨⟨v, rfl⟩, (⟨xs, hS, hi, hr⟩ | ⟨pre, hSp, c, hi, hr⟩)⟩
      · exact ⟨none, _, run_endLoop hr.1 (by simp [r]), hdone _ xs _ (Nat.le_refl _) hS (hI.putObj _ hi (by omega) hr.1 rfl) ((World.putObj_heap_other (by omega)).trans hr.2)⟩
      · exact ⟨some c, _, run_endLoop hr.1 (by simp), hstop _ c pre _ (Nat.le_refl _) hSp ((hIx c).putObj _ hi (by omega) hr.1 rfl) ((World.putObj_heap_other (by omega)).trans hr.2)⟩
end
theorem cells_kept {W W' : World} {row : Option Nat} {B : Nat} (hg : W.grownBy W' row) (hr : ∀ r, row = some r → B ≤ r ∧ ∃ o : Obj, W.heap[r]? = some o ∧ o.isCells = false) {k : Nat} {cur : Array Value} {t : TypeId} {fr : Nat × Nat} (hc : W.heap[k]? = some (.cells cur t fr)) :
    W'.heap[k]? = some (.cells cur t fr) := by
  refine (hg.block k (lt_of_heap hc) (fun e => ?_)).trans hc
  obtain ⟨_, o, ho, hq⟩ := hr k e.symm
  rw [hc] at ho
  cases ho
  cases hq
theorem round_wide {P : Program} {n m l : Nat} {f : FuncId} {tmps : Array Value} {assign body : Code} {w : World} {R : Ending → World → Prop} (h : RoundIn Fence.wide n P l f tmps assign body w R) : RoundIn Fence.wide m P l f tmps assign body w R :=
  ⟨trivial, fun c cs _ => h.2 c cs (room_wide _)⟩
theorem cell_ck {N : Nat → Prop} {W W' : World} {p : Addr} {v : Value} (h : CKeep N W W') (hp : N p.block) (hc : W.cell? p = some v) : W'.cell? p = some v := by
  unfold World.cell? at hc ⊢
  cases ho : W.heap[p.block]? with
  | none => simp [ho] at hc
  | some o =>
    cases o with
    | cells cur t fr => rw [h.same _ _ _ _ hp ho]; rw [ho] at hc; exact hc
    | _ => simp [ho] at hc
theorem upon_round {l n : Nat} {P : Program} {o : Oper} {a : Act} {K : Act → World → Prop} {Q : Exit → Act → World → Prop} {r : Result Next} (h : o.upon P a K Q r) : o.uponIn (Fence.wide.inRound l) n P a K Q r := by
  match r, h with
  | .ok (.value v) w', h => exact h
  | .ok .skip w', h => exact h
  | .ok (.defer d) w', h => exact h
  | .ok (.enter f args) w', h => exact ⟨fun q => (by cases q), CallsIn.inRound l (callsIn_wide.2 h)⟩
  | .ok (.row row args) w', h =>
    refine ⟨fun q => (by cases q), fun c cs _ => ?_⟩
    obtain ⟨v, w'', h1, h2⟩ := h c cs
    exact ⟨v, w'', h1, stepsIn_wide.2 h2⟩
  | .halt (.panic v) w', h => exact h

theorem oper_round {l n : Nat} {P : Program} {o : Oper} {a : Act} {w : World} {K : Act → World → Prop} {Q : Exit → Act → World → Prop} (hd : ∀ c, o.op ≠ .defer c) (h : o.wp P a w K Q) : o.wpIn (Fence.wide.inRound l) n P a w K Q := by
  refine ⟨fun f _ => trivial, ?_⟩
  rw [Oper.semAt_eq _ _ _ hd]
  exact upon_round h

theorem any_round {l n : Nat} {P : Program} {md : Region.Mode} {ops : Array Oper} {Q : Exit → Act → World → Prop} (hd : ∀ o ∈ ops, ∀ c, o.op ≠ .defer c) (hL : ¬ LetsOut Q) : ∀ (fuel : Nat) (listed : Array Bool) (a : Act) (w : World), wpAny P md ops Q fuel listed a w → wpAnyIn (Fence.wide.inRound l) n P md ops Q fuel listed a w
  | 0, _, _, _, h => h
  | fuel + 1, listed, a, w, h => by
    refine ⟨h.1, fun i hi => ?_⟩
    have q := h.2 i hi
    unfold wpOp at q
    unfold wpOpIn
    cases ho : ops[i]? with
    | none => rw [ho] at q; exact any_round hd hL fuel _ a w q
    | some o =>
      rw [ho] at q
      dsimp only at q ⊢
      by_cases hw : Region.wanted o (yielded ops a.tmps) = true
      · rw [if_pos hw] at q ⊢
        exact Oper.wpIn_mono (fun a' w' h' => any_round hd hL fuel _ a' w' h') (oper_round (hd o (Array.mem_of_getElem? ho)) (q.resolve_right (fun z => hL z.2)))
      · rw [if_neg hw] at q ⊢
        exact ⟨fun f _ => trivial, any_round hd hL fuel _ _ w q⟩

/-- No operation of the list is a defer statement. -/
def noDefer (l : List Oper) : Bool := l.all fun o => match o.op with | .defer _ => false | _ => true
theorem noDefer_spec {l : List Oper} (h : noDefer l = true) : ∀ o ∈ l.toArray, ∀ c, o.op ≠ .defer c := fun o ho c e => by
  unfold noDefer at h
  rw [List.all_eq_true] at h
  have := h o (by simpa using ho)
  rw [e] at this
  cases this

/-- A region inside a round, by one walk in the text's order, where it only reads or calls what makes memory. -/
theorem wpIn_region_ext {P : Program} {id l n : Nat} {Q : Exit → Act → World → Prop} {a : Act} {w : World} {ops : List Oper} (hm : P.follows .mixedOrders = true) (hB : Region.lexB .any ops.toArray = true) (hd : noDefer ops = true) (hL : ¬ LetsOut Q)
    (h : wpQuiet P ops.toArray (fun w' => ∃ x : Ext w, w' = x.val) (fun a' => ∀ w', (∃ x : Ext w, w' = x.val) → Q .normal a' w') ops a) : (Code.region id ops.toArray true).wpIn (Fence.wide.inRound l) n P Q a w := by
  have hC : (fun w' => ∃ x : Ext w, w' = x.val) { w with drawn := w.drawn + 1 } := ⟨⟨w.drew, (Below.refl _ _).drew⟩, rfl⟩
  simp only [Region.lexB, Bool.and_eq_true] at hB
  refine wpIn_region_any hm (any_round (noDefer_spec hd) hL _ _ _ _ (wpAny_of_quiet (C := fun w' => ∃ x : Ext w, w' = x.val) (Q := fun a' => ∀ w', (∃ x : Ext w, w' = x.val) → Q .normal a' w') (fun _ w' hw' h => h w' hw') _ _ _ _ hC ?_))
  have := wpAnyQ_lex (C := fun w' => ∃ x : Ext w, w' = x.val) (md := .any) hB.1 ops 0 (Array.replicate ops.length false) a (by simp) (by simpa using hB.2) h
  simpa using this

end Go.Proofs.YtpfdapnfkghgkaaGreatDoor
