/-
  Parts of the proof.
-/
import Derived.Test.YtbghleihgcenmaaProg
import Derived.WalkKit
import Derived.WalkSpells
import Derived.WalkLawsBesides
import Derived.Below
import Derived.Laws.AppendOwn
import Derived.Laws.MakeOwn
import Derived.Laws.CopyOwn
import Derived.BigQuiet
set_option linter.unusedSimpArgs false
namespace Go.Proofs.Ytbghleihgcenmaa
open Go Go.RowKit
def ints (l : List Int) : List Value := l.map (Value.int .i64)
theorem ints_length (l : List Int) : (ints l).length = l.length := by simp [ints]
theorem ints_get {l : List Int} {i : Nat} {x : Int} (h : l[i]? = some x) : (ints l)[i]? = some (.int .i64 x) := by simp [ints, h]
theorem ints_append (a b : List Int) : ints (a ++ b) = ints a ++ ints b := by simp [ints]
theorem ints_one (l : List Int) : ∀ v ∈ ints l, v.oneCell' = true := fun v hv => by
  obtain ⟨x, _, rfl⟩ := List.mem_map.1 hv
  rfl
structure Fr (S : Nat → Prop) (w w' : World) : Prop where
  os : w'.os = w.os
  tape : w'.tape = w.tape
  output : w'.output = w.output
  size : w.heap.size ≤ w'.heap.size
  block : ∀ k, k < w.heap.size → ¬ S k → w'.heap[k]? = w.heap[k]?
theorem Fr.refl (S : Nat → Prop) (w : World) : Fr S w w := ⟨rfl, rfl, rfl, Nat.le_refl _, fun _ _ _ => rfl⟩
theorem Fr.trans {S : Nat → Prop} {a b c : World} (h : Fr S a b) (k : Fr S b c) : Fr S a c :=
  ⟨k.os.trans h.os, k.tape.trans h.tape, k.output.trans h.output, Nat.le_trans h.size k.size, fun i hi hs => (k.block i (Nat.lt_of_lt_of_le hi h.size) hs).trans (h.block i hi hs)⟩
theorem Fr.mono {S T : Nat → Prop} {a b : World} (h : Fr S a b) (hst : ∀ k, S k → T k) : Fr T a b := ⟨h.os, h.tape, h.output, h.size, fun i hi hs => h.block i hi (fun q => hs (hst i q))⟩
theorem Fr.below {S : Nat → Prop} {a b : World} {n : Nat} (h : Fr S a b) (hn : n ≤ a.heap.size) (hs : ∀ k, S k → n ≤ k) : Below n a b :=
  ⟨h.os, h.tape, h.output, h.size, fun i hi => h.block i (Nat.lt_of_lt_of_le hi hn) (fun q => by have := hs i q; omega)⟩
theorem Fr.of_below {S : Nat → Prop} {a b : World} (h : Below a.heap.size a b) : Fr S a b := ⟨h.os, h.tape, h.output, h.size, fun i hi _ => h.block i hi⟩
theorem Fr.alloc {S : Nat → Prop} {a w : World} (h : Fr S a w) (o : Obj) : Fr S a (w.alloc o) := h.trans (Fr.of_below ((Below.refl _ _).alloc (Nat.le_refl _) o))
theorem Fr.drew {S : Nat → Prop} {a w : World} (h : Fr S a w) : Fr S a w.drew := h.trans (Fr.of_below (Below.refl _ _).drew)
theorem Fr.setCell {S : Nat → Prop} {a w : World} (h : Fr S a w) {p : Addr} (hp : S p.block) (u : Value) : Fr S a (w.setCell p u) :=
  h.trans ⟨rfl, rfl, rfl, by simp [World.setCell], fun k _ hk => Below.heap_setCell _ _ _ _ (fun e => hk (e ▸ hp))⟩
theorem Fr.setNew {S : Nat → Prop} {a w : World} (h : Fr S a w) {p : Addr} (hp : a.heap.size ≤ p.block) (u : Value) : Fr S a (w.setCell p u) :=
  ⟨h.os, h.tape, h.output, by have := h.size; simp [World.setCell]; exact this, fun k hk hs => (Below.heap_setCell _ _ _ _ (by omega)).trans (h.block k hk hs)⟩
theorem Fr.then {S : Nat → Prop} {a b c : World} (h : Fr S a b) (k : Below b.heap.size b c) : Fr S a c := h.trans (Fr.of_below k)
theorem Fr.setRow {S : Nat → Prop} {a w : World} (h : Fr S a w) {g : Nat} (hp : S g) (cs : Array Value) : Fr S a (w.setRow g cs) :=
  h.trans ⟨rfl, rfl, rfl, by simp, fun k _ hk => setRow_other _ _ _ _ (fun e => hk (e ▸ hp))⟩
theorem Fr.grown {S : Nat → Prop} {a w w' : World} {row : Option Nat} (h : Fr S a w) (hg : w.grownBy w' row) (hr : ∀ k, row = some k → S k) : Fr S a w' :=
  h.trans ⟨hg.os, hg.tape, hg.output, hg.size, fun k hk hs => hg.block k hk (fun e => hs (hr k e.symm))⟩
theorem lt_of_heap {w : World} {k : Nat} {o : Obj} (h : w.heap[k]? = some o) : k < w.heap.size := (Array.getElem?_eq_some_iff.1 h).1
theorem heap_set_in {w : World} {k : Nat} {cur : Array Value} {t : TypeId} {fr : Nat × Nat} (h : w.heap[k]? = some (.cells cur t fr)) (j : Nat) (v : Value) : (w.setCell ⟨k, j, none⟩ v).heap[k]? = some (.cells (cur.setIfInBounds j v) t fr) := by
  simp [World.setCell, Array.getElem?_modify, h]
theorem ne_type {W : World} {x y : Nat} {c c' : Array Value} {t t' : TypeId} {f f' : Nat × Nat} (h : W.heap[x]? = some (.cells c t f)) (h' : W.heap[y]? = some (.cells c' t' f')) (ht : t ≠ t') : x ≠ y := fun e => by
  rw [e, h'] at h
  injection h with h
  injection h with _ h _
  exact ht h.symm
theorem cell_row {W : World} {wb : Nat} {c : Array Value} {t : TypeId} (h : W.heap[wb]? = some (.cells c t (0, 0))) {i : Nat} {v : Value} (hi : c[i]? = some v) : W.cell? ⟨wb, i, none⟩ = some v := by simp [World.cell?, h, hi]
theorem frz_row {W : World} {wb : Nat} {c : Array Value} {t : TypeId} (h : W.heap[wb]? = some (.cells c t (0, 0))) (i : Nat) : W.frozen? ⟨wb, i, none⟩ = false := by simp [World.frozen?, h]
theorem chain {n : Nat} {a b c : World} (h : Below n a b) (k : Below b.heap.size b c) (hn : n ≤ a.heap.size) : Below n a c := h.trans (k.mono (Nat.le_trans hn h.size))
theorem chainF {n : Nat} {a b c : World} {S : Nat → Prop} (h : Below n a b) (k : Fr S b c) (hn : n ≤ a.heap.size) (hs : ∀ k, S k → n ≤ k) : Below n a c := h.trans (k.below (Nat.le_trans hn h.size) hs)
theorem take_next {α : Type} (l : List α) (k : Nat) (h : k < l.length) : l.take (k + 1) = l.take k ++ [l[k]] := by simp
end Go.Proofs.Ytbghleihgcenmaa
namespace Go.Proofs.Ytbghleihgcenmaa
open Go Go.RowKit
def Ext (W : World) : Type := { w : World // Below W.heap.size W w }
theorem wp_region_ext {P : Program} {id : Nat} {Q : Exit → Act → World → Prop} {a : Act} {w : World} {l : List Oper} (hm : P.follows .mixedOrders = true) (hB : Region.lexB .any l.toArray = true)
    (h : wpQuiet P l.toArray (fun w' => ∃ x : Ext w, w' = x.val) (fun a' => ∀ w', (∃ x : Ext w, w' = x.val) → Q .normal a' w') l a) : (Code.region id l.toArray true).wp P Q a w :=
  wp_region_quiet (C := fun w' => ∃ x : Ext w, w' = x.val) hm hB ⟨⟨w.drew, (Below.refl _ _).drew⟩, rfl⟩ (by simpa using h)
theorem ext_call {P : Program} {f : FuncId} {args : Array Value} {W : World} {x : Ext W} {v : Value}
    (h : Calls P f args x.val fun e w' => e = .returned v ∧ Below x.val.heap.size x.val w') : Calls P f args x.val fun e w'' => e = .returned v ∧ ∃ y : Ext W, w'' = y.val :=
  h.mono fun _ w' ⟨he, hb⟩ => ⟨he, ⟨w', x.2.trans (hb.mono x.2.size)⟩, rfl⟩
theorem ext_call_same {P : Program} {f : FuncId} {args : Array Value} {W : World} {x : Ext W} {v : Value}
    (h : Calls P f args x.val fun e w' => e = .returned v ∧ w' = x.val) : Calls P f args x.val fun e w'' => e = .returned v ∧ ∃ y : Ext W, w'' = y.val :=
  h.mono fun _ _ ⟨he, hb⟩ => ⟨he, x, hb⟩
theorem ext_cell {W : World} (x : Ext W) (b o : Nat) (h : b < W.heap.size) : x.val.cell? ⟨b, o, none⟩ = W.cell? ⟨b, o, none⟩ := x.2.cell (p := ⟨b, o, none⟩) h
theorem ext_frozen {W : World} (x : Ext W) (b o : Nat) (h : b < W.heap.size) : x.val.frozen? ⟨b, o, none⟩ = W.frozen? ⟨b, o, none⟩ := x.2.frozen (p := ⟨b, o, none⟩) h
theorem ext_below {W : World} (x : Ext W) : Below W.heap.size W x.val := x.2
theorem ext_size {W : World} (x : Ext W) : W.heap.size ≤ x.val.heap.size := x.2.size
theorem ext_of {W w1 : World} (h : ∃ x : Ext W, w1 = x.val) : Below W.heap.size W w1 := by
  obtain ⟨x, rfl⟩ := h
  exact x.2
theorem bcell {W w1 : World} (hb : Below W.heap.size W w1) : (∀ b o, b < W.heap.size → w1.cell? ⟨b, o, none⟩ = W.cell? ⟨b, o, none⟩) ∧ (∀ b o, b < W.heap.size → w1.frozen? ⟨b, o, none⟩ = W.frozen? ⟨b, o, none⟩) :=
  ⟨fun b o h => hb.cell (p := ⟨b, o, none⟩) h, fun b o h => hb.frozen (p := ⟨b, o, none⟩) h⟩
end Go.Proofs.Ytbghleihgcenmaa
namespace Go.Proofs.Ytbghleihgcenmaa
open Go Go.RowKit
def lastB (l : List Oper) (o : Oper) : Bool :=
  (l.zipIdx.all fun x => x.1.after.all (fun e => decide (e.on < x.2)) && (match x.1.guard with | none => true | some g => decide (g.1 < l.length))) &&
  o.guard.isNone && o.after.all (fun e => decide (e.on < l.length)) && (List.range l.length).all fun j => o.after.any fun e => Region.binds .any e && e.on == j
section
variable {P : Program} {l : List Oper} {o : Oper} {Q : Exit → Act → World → Prop}
def Q1 (P : Program) (l : List Oper) (o : Oper) (Q : Exit → Act → World → Prop) : Exit → Act → World → Prop
  | .normal, a, w => wpList P (l ++ [o]).toArray Q [o] a w
  | e, a, w => Q e a w
theorem ops_lt {j : Nat} (h : j < l.length) : (l ++ [o]).toArray[j]? = l.toArray[j]? := by
  simp [List.getElem?_append_left h]
theorem ops_last : (l ++ [o]).toArray[l.length]? = some o := by simp
theorem lastB_edge (h : lastB l o = true) {j : Nat} {x : Oper} (hx : l.toArray[j]? = some x) : (∀ e ∈ x.after, e.on < j) ∧ ∀ g b, x.guard = some (g, b) → g < l.length := by
  unfold lastB at h
  simp only [Bool.and_eq_true, List.all_eq_true] at h
  have hm : (x, j) ∈ l.zipIdx := by
    rw [List.mem_zipIdx_iff_getElem?]; simpa using hx
  have := h.1.1.1 (x, j) hm
  refine ⟨fun e he => ?_, fun g b hg => ?_⟩
  · have h1 := this.1
    rw [Array.all_eq_true_iff_forall_mem] at h1
    simpa using h1 e he
  · have h2 := this.2
    simp only [hg] at h2
    simpa using h2
theorem lastB_guard (h : lastB l o = true) : o.guard = none := by
  unfold lastB at h
  simp only [Bool.and_eq_true] at h
  simpa using h.1.1.2
theorem lastB_on (h : lastB l o = true) : ∀ e ∈ o.after, e.on < l.length := by
  unfold lastB at h
  simp only [Bool.and_eq_true] at h
  have h1 := h.1.2
  rw [Array.all_eq_true_iff_forall_mem] at h1
  intro e he
  simpa using h1 e he
theorem lastB_all (h : lastB l o = true) {j : Nat} (hj : j < l.length) : ∃ e ∈ o.after, Region.binds .any e = true ∧ e.on = j := by
  unfold lastB at h
  simp only [Bool.and_eq_true, List.all_eq_true] at h
  have := h.2 j (by simpa using hj)
  rw [← Array.any_toList, List.any_eq_true] at this
  obtain ⟨e, he, hb⟩ := this
  simp at hb
  exact ⟨e, by simpa using he, hb.1, hb.2⟩
theorem getD_push_lt {listed : Array Bool} {j : Nat} (d : Bool) (hj : j < listed.size) : (listed.push false).getD j d = listed.getD j d := by
  simp [Array.getD_eq_getD_getElem?, Array.getElem?_push, Nat.ne_of_lt hj]
theorem getD_push_eq {listed : Array Bool} (d : Bool) : (listed.push false).getD listed.size d = false := by
  simp [Array.getD_eq_getD_getElem?]
theorem ready_lt (h : lastB l o = true) {listed : Array Bool} (hs : listed.size = l.length) {j : Nat} (hj : j < l.length) :
    j ∈ Region.ready .any (l ++ [o]).toArray (listed.push false) ↔ j ∈ Region.ready .any l.toArray listed := by
  rw [mem_ready, mem_ready, ops_lt hj, getD_push_lt _ (by omega)]
  refine and_congr_right fun _ => exists_congr fun x => and_congr_right fun hx => ?_
  have he := (lastB_edge h hx).1
  refine forall_congr' fun e => forall_congr' fun hm => forall_congr' fun _ => ?_
  have := he e hm
  rw [getD_push_lt _ (by omega)]
theorem all_listed (h : lastB l o = true) {listed : Array Bool} (hs : listed.size = l.length) (hr : Region.ready .any l.toArray listed = []) :
    ∀ j, j < l.length → listed.getD j false = true := by
  intro j
  induction j using Nat.strongRecOn with
  | _ j ih =>
    intro hj
    have hx : l.toArray[j]? = some l[j] := by simp [hj]
    have hn : ¬ j ∈ Region.ready .any l.toArray listed := by rw [hr]; simp
    rw [mem_ready] at hn
    have hge : listed.getD j true = true := by
      rcases hb : listed.getD j true with _ | _
      · exact absurd ⟨hb, _, hx, fun e he _ => ih e.on ((lastB_edge h hx).1 e he) (by have := (lastB_edge h hx).1 e he; omega)⟩ hn
      · rfl
    have hlt : j < listed.size := by omega
    simpa [Array.getD_eq_getD_getElem?, hlt] using hge
theorem last_ready (h : lastB l o = true) {listed : Array Bool} (hs : listed.size = l.length) (hr : Region.ready .any l.toArray listed = []) :
    l.length ∈ Region.ready .any (l ++ [o]).toArray (listed.push false) := by
  rw [mem_ready]
  refine ⟨by rw [← hs]; exact getD_push_eq _, o, ops_last, fun e he _ => ?_⟩
  have := lastB_on h e he
  rw [getD_push_lt _ (by omega)]
  exact all_listed h hs hr _ this
theorem ready_of_last (h : lastB l o = true) {listed : Array Bool} (hs : listed.size = l.length)
    (hl : l.length ∈ Region.ready .any (l ++ [o]).toArray (listed.push false)) : Region.ready .any l.toArray listed = [] := by
  rw [mem_ready] at hl
  obtain ⟨_, x, hx, ha⟩ := hl
  rw [ops_last] at hx
  cases hx
  rw [List.eq_nil_iff_forall_not_mem]
  intro j hj
  rw [mem_ready] at hj
  obtain ⟨hu, x, hx, _⟩ := hj
  have hlt : j < l.length := by
    have := (Array.getElem?_eq_some_iff.1 hx).1
    simpa using this
  obtain ⟨e, he, hb, rfl⟩ := lastB_all h hlt
  have := ha e he hb
  rw [getD_push_lt _ (by omega)] at this
  have hlt' : e.on < listed.size := by omega
  simp [Array.getD_eq_getD_getElem?, hlt'] at this hu
  rw [this] at hu
  cases hu
theorem none_left (h : lastB l o = true) {listed : Array Bool} (hs : listed.size = l.length) (hr : Region.ready .any l.toArray listed = []) :
    Region.ready .any (l ++ [o]).toArray ((listed.push false).setIfInBounds l.length true) = [] := by
  rw [List.eq_nil_iff_forall_not_mem]
  intro j hj
  rw [mem_ready] at hj
  obtain ⟨hu, x, hx, _⟩ := hj
  have hlt : j < l.length + 1 := by
    have := (Array.getElem?_eq_some_iff.1 hx).1
    simpa using this
  by_cases e : j = l.length
  · subst e
    simp [Array.getD_eq_getD_getElem?, hs] at hu
  · have hj' : j < l.length := by omega
    have := all_listed h hs hr j hj'
    have hlt' : j < listed.size := by omega
    have hne : ¬ l.length = j := fun h => e h.symm
    simp [Array.getD_eq_getD_getElem?, hne, Array.getElem?_push, Nat.ne_of_lt hlt', hlt'] at this hu
    rw [this] at hu
    cases hu
theorem wanted_lt (h : lastB l o = true) {j : Nat} {x : Oper} (hx : l.toArray[j]? = some x) (tmps : Array Value) :
    Region.wanted x (yielded (l ++ [o]).toArray tmps) = Region.wanted x (yielded l.toArray tmps) := by
  unfold Region.wanted
  cases hg : x.guard with
  | none => rfl
  | some g =>
    obtain ⟨g, b⟩ := g
    have := (lastB_edge h hx).2 g b hg
    simp only [yielded, ops_lt this]
theorem Oper.wp_q1 {x : Oper} {a : Act} {w : World} {K K' : Act → World → Prop} (hK : ∀ a w, K a w → K' a w) (hh : x.wp P a w K (Q1 P l o Q)) : x.wp P a w K' Q := by
  unfold Oper.wp at *
  generalize (execOp a.eval x).run P w = r at *
  cases r with
  | ok n w' =>
    cases n <;> simp only [Oper.upon] at hh ⊢ <;>
      first
        | exact hK _ _ hh
        | exact Calls.mono hh (fun e w'' he => by cases e <;> first | exact hK _ _ he | exact he)
        | exact Rows.mono hh (fun _ _ he => hK _ _ he)
  | halt x w' => cases x <;> simp only [Oper.upon] at hh ⊢ <;> exact hh
theorem wpOp_q1 (h : lastB l o = true) {i : Nat} (hi : i < l.length) {a : Act} {w : World} {K K' : Act → World → Prop} (hK : ∀ a w, K a w → K' a w)
    (hh : wpOp P l.toArray (Q1 P l o Q) i K a w) : wpOp P (l ++ [o]).toArray Q i K' a w := by
  unfold wpOp at *
  rw [ops_lt hi]
  have hx : l.toArray[i]? = some l[i] := by simp [hi]
  simp only [hx] at hh ⊢
  rw [wanted_lt h hx]
  split
  · rename_i hw
    rw [if_pos hw] at hh
    exact hh.imp (Oper.wp_q1 hK) (fun g => ⟨g.1, g.2⟩)
  · rename_i hw
    rw [if_neg hw] at hh
    exact hK _ _ hh
theorem wpOp_last (h : lastB l o = true) {a : Act} {w : World} {K : Act → World → Prop} (hK : ∀ a w, Q .normal a w → K a w) (hh : Q1 P l o Q .normal a w) :
    wpOp P (l ++ [o]).toArray Q l.length K a w := by
  unfold wpOp
  rw [ops_last]
  have hw : ∀ y, Region.wanted o y = true := fun y => by unfold Region.wanted; rw [lastB_guard h]
  have hh' : wpList P (l ++ [o]).toArray Q [o] a w := hh
  unfold wpList at hh'
  rw [if_pos (hw _)] at hh'
  simp only [hw, if_true]
  exact hh'.imp (Oper.wp_mono hK) id
theorem push_set {listed : Array Bool} {i : Nat} (hi : i < listed.size) : (listed.setIfInBounds i true).push false = (listed.push false).setIfInBounds i true := by
  apply Array.ext'
  simp [List.set_append_left _ _ (show i < listed.toList.length by simpa using hi)]
theorem wpAny_last (h : lastB l o = true) : ∀ (fuel : Nat) (listed : Array Bool) (a : Act) (w : World), listed.size = l.length →
    wpAny P .any l.toArray (Q1 P l o Q) fuel listed a w → wpAny P .any (l ++ [o]).toArray Q (fuel + 1) (listed.push false) a w := by
  intro fuel
  induction fuel with
  | zero =>
    rintro listed a w hs ⟨hr, hq⟩
    refine ⟨fun h0 => ?_, fun i hi => ?_⟩
    · have := last_ready h hs hr; rw [h0] at this; cases this
    · by_cases e : i = l.length
      · subst e; exact wpOp_last h (fun a w hq => ⟨none_left h hs hr, hq⟩) hq
      · have hlt : i < l.length := by
          rw [mem_ready] at hi
          obtain ⟨_, x, hx, _⟩ := hi
          have := (Array.getElem?_eq_some_iff.1 hx).1
          simp at this; omega
        rw [ready_lt h hs hlt, hr] at hi; cases hi
  | succ fuel ih =>
    rintro listed a w hs ⟨hq, hall⟩
    refine ⟨fun h0 => ?_, fun i hi => ?_⟩
    · by_cases hr : Region.ready .any l.toArray listed = []
      · have := last_ready h hs hr; rw [h0] at this; cases this
      · obtain ⟨j, hj⟩ := List.exists_mem_of_ne_nil _ hr
        have hlt : j < l.length := by
          rw [mem_ready] at hj
          obtain ⟨_, x, hx, _⟩ := hj
          have := (Array.getElem?_eq_some_iff.1 hx).1
          simpa using this
        rw [← ready_lt h hs hlt, h0] at hj; cases hj
    · by_cases e : i = l.length
      · subst e
        have hr := ready_of_last h hs hi
        exact wpOp_last h (fun a w hq => ⟨fun _ => hq, fun j hj => by rw [none_left h hs hr] at hj; cases hj⟩) (hq hr)
      · have hlt : i < l.length := by
          rw [mem_ready] at hi
          obtain ⟨_, x, hx, _⟩ := hi
          have := (Array.getElem?_eq_some_iff.1 hx).1
          simp at this; omega
        have hi' := (ready_lt h hs hlt).1 hi
        refine wpOp_q1 h hlt (fun a' w' hw => ?_) (hall i hi')
        have := ih (listed.setIfInBounds i true) a' w' (by simpa using hs) hw
        rwa [push_set (by omega)] at this
theorem wp_region_last {id : Nat} {a : Act} {w : World} (hm : P.follows .mixedOrders = true) (hB : Region.lexB .any l.toArray = true) (hl : lastB l o = true)
    (h : wpQuiet P l.toArray (fun w' => ∃ x : Ext w, w' = x.val) (fun a' => ∀ w', (∃ x : Ext w, w' = x.val) → wpList P (l ++ [o]).toArray Q [o] a' w') l a) : (Code.region id (l ++ [o]).toArray true).wp P Q a w := by
  simp only [Region.lexB, Bool.and_eq_true] at hB
  refine wp_region_any hm ?_
  have h1 := wpAnyQ_lex (C := fun w' => ∃ x : Ext w, w' = x.val) (md := .any) hB.1 l 0 (Array.replicate l.length false) a (by simp) (by simpa using hB.2) h
  have h2 := wpAny_of_quiet (Q' := Q1 P l o Q) (fun _ w' hw' h => h w' hw') _ _ _ { w with drawn := w.drawn + 1 } ⟨⟨w.drew, (Below.refl _ _).drew⟩, rfl⟩ h1
  have h3 := wpAny_last hl _ _ _ _ (by simp) h2
  have e : (Array.replicate l.length false).push false = Array.replicate (l ++ [o]).toArray.size false := by simp [Array.replicate_succ]
  rw [e] at h3
  simpa using h3
end
theorem wp_region_last_lit {P : Program} {Q : Exit → Act → World → Prop} {id : Nat} {a : Act} {w : World} {L : List Oper} (hne : L ≠ []) (hm : P.follows .mixedOrders = true) (hB : Region.lexB .any L.dropLast.toArray = true) (hl : lastB L.dropLast (L.getLast hne) = true)
    (h : wpQuiet P L.dropLast.toArray (fun w' => ∃ x : Ext w, w' = x.val) (fun a' => ∀ w', (∃ x : Ext w, w' = x.val) → wpList P L.toArray Q [L.getLast hne] a' w') L.dropLast a) : (Code.region id L.toArray true).wp P Q a w := by
  have e : L.dropLast ++ [L.getLast hne] = L := List.dropLast_concat_getLast hne
  have := wp_region_last (P := P) (Q := Q) (id := id) (a := a) (w := w) (l := L.dropLast) (o := L.getLast hne) hm hB hl (by rw [e]; exact h)
  rwa [e] at this
end Go.Proofs.Ytbghleihgcenmaa
namespace Go.Proofs.Ytbghleihgcenmaa
open Go
def unr (P : Program) (c : Code) (Q : Exit → Act → World → Prop) : Nat → Act → World → Prop
  | 0, _, _ => False
  | n + 1, a, w => c.wp P (Exit.then (unr P c Q n) Q) a w
theorem unr_succ {P : Program} {c : Code} {Q : Exit → Act → World → Prop} {n : Nat} {a : Act} {w : World}
    (h : c.wp P (Exit.then (unr P c Q n) Q) a w) : unr P c Q (n + 1) a w := h
theorem least_of {p : Nat → Prop} : ∀ n, p n → ∃ m, p m ∧ ∀ k, p k → m ≤ k := by
  intro n
  induction n using Nat.strongRecOn with
  | _ n ih =>
    intro h
    by_cases g : ∃ k, k < n ∧ p k
    · obtain ⟨k, hk, hp⟩ := g
      exact ih k hk hp
    · exact ⟨n, h, fun k hk => Nat.le_of_not_lt fun hlt => g ⟨k, hlt, hk⟩⟩
open Classical in
noncomputable def leastOf (p : Nat → Prop) : Nat := if h : ∃ m, p m ∧ ∀ k, p k → m ≤ k then Classical.choose h else 0
theorem leastOf_spec {p : Nat → Prop} {n : Nat} (h : p n) : p (leastOf p) ∧ ∀ k, p k → leastOf p ≤ k := by
  have g := least_of n h
  unfold leastOf
  rw [dif_pos g]
  exact Classical.choose_spec g
theorem wp_loop_unr {P : Program} {c : Code} {Q : Exit → Act → World → Prop} (n : Nat) {a : Act} {w : World}
    (h : unr P c Q n a w) : (Code.loop c).wp P Q a w := by
  refine wp_loop (fun a w => ∃ n, unr P c Q n a w) (fun a w => leastOf fun n => unr P c Q n a w) ⟨n, h⟩ ?_
  rintro a w ⟨n, hn⟩
  obtain ⟨hs, -⟩ := leastOf_spec (p := fun n => unr P c Q n a w) hn
  generalize leastOf (fun n => unr P c Q n a w) = m at hs
  cases m with
  | zero => exact hs.elim
  | succ m =>
    refine wp_mono (show c.wp P (Exit.then (unr P c Q m) Q) a w from hs) ?_
    intro e a' w' he
    cases e with
    | normal => exact ⟨⟨m, he⟩, Nat.lt_succ_of_le ((leastOf_spec (p := fun n => unr P c Q n a' w') (n := m) he).2 m he)⟩
    | exit id => exact he
    | goto l => exact he
    | ret => exact he
    | panic ch => exact he
    | outgrown => exact he
end Go.Proofs.Ytbghleihgcenmaa
