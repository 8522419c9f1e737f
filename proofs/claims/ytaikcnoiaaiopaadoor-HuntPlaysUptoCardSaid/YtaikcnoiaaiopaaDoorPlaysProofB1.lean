/-
  Parts of the proof.
-/
import Derived.Test.YtaikcnoiaaiopaaDoorPlaysProofB0
import Derived.WalkKit
import Derived.ProofKit
import Derived.OpenShut
import Derived.Stop.Joined
import Derived.ChangeOld
import Derived.ChangeSlices
import Derived.Carry
set_option linter.unusedSimpArgs false
namespace Go.Proofs.YtaikcnoiaaiopaaDoor
open Go Go.RowKit
def lastB (l : List Oper) (o : Oper) : Bool :=
  (l.zipIdx.all fun x => x.1.after.all (fun e => decide (e.on < x.2)) && (match x.1.guard with | none => true | some g => decide (g.1 < l.length))) &&
  o.guard.isNone && o.after.all (fun e => decide (e.on < l.length)) && (List.range l.length).all fun j => o.after.any fun e => Region.binds .any e && e.on == j
section
variable {P : Program} {l : List Oper} {o : Oper} {Q : Exit → Act → World → Prop}
def Q1 (P : Program) (l : List Oper) (o : Oper) (Q : Exit → Act → World → Prop) : Exit → Act → World → Prop
  | .normal, a, w => wpList P (l ++ [o]).toArray Q [o] a w
  | e, a, w => Q e a w
theorem ops_lt {j : Nat} (h : j < l.length) : (l ++ [o]).toArray[j]? = l.toArray[j]? := by
  simp [List.getElem?_append_left h]
theorem ops_last : (l ++ [o]).toArray[l.length]? = some o := by simp
theorem lastB_edge (h : lastB l o = true) {j : Nat} {x : Oper} (hx : l.toArray[j]? = some x) : (∀ e ∈ x.after, e.on < j) ∧ ∀ g b, x.guard = some (g, b) → g < l.length := by
  unfold lastB at h
  simp only [Bool.and_eq_true, List.all_eq_true] at h
  have hm : (x, j) ∈ l.zipIdx := by
    rw [List.mem_zipIdx_iff_getElem?]; simpa using hx
  have := h.1.1.1 (x, j) hm
  refine ⟨fun e he => ?_, fun g b hg => ?_⟩
  · have h1 := this.1
    rw [Array.all_eq_true_iff_forall_mem] at h1
    simpa using h1 e he
  · have h2 := this.2
    simp only [hg] at h2
    simpa using h2
theorem lastB_guard (h : lastB l o = true) : o.guard = none := by
  unfold lastB at h
  simp only [Bool.and_eq_true] at h
  simpa using h.1.1.2
theorem lastB_on (h : lastB l o = true) : ∀ e ∈ o.after, e.on < l.length := by
  unfold lastB at h
  simp only [Bool.and_eq_true] at h
  have h1 := h.1.2
  rw [Array.all_eq_true_iff_forall_mem] at h1
  intro e he
  simpa using h1 e he
theorem lastB_all (h : lastB l o = true) {j : Nat} (hj : j < l.length) : ∃ e ∈ o.after, Region.binds .any e = true ∧ e.on = j := by
  unfold lastB at h
  simp only [Bool.and_eq_true, List.all_eq_true] at h
  have := h.2 j (by simpa using hj)
  rw [← Array.any_toList, List.any_eq_true] at this
  obtain ⟨e, he, hb⟩ := this
  simp at hb
  exact ⟨e, by simpa using he, hb.1, hb.2⟩
theorem getD_push_lt {listed : Array Bool} {j : Nat} (d : Bool) (hj : j < listed.size) : (listed.push false).getD j d = listed.getD j d := by
  simp [Array.getD_eq_getD_getElem?, Array.getElem?_push, Nat.ne_of_lt hj]
theorem getD_push_eq {listed : Array Bool} (d : Bool) : (listed.push false).getD listed.size d = false := by
  simp [Array.getD_eq_getD_getElem?]
theorem ready_lt (h : lastB l o = true) {listed : Array Bool} (hs : listed.size = l.length) {j : Nat} (hj : j < l.length) :
    j ∈ Region.ready .any (l ++ [o]).toArray (listed.push false) ↔ j ∈ Region.ready .any l.toArray listed := by
  rw [mem_ready, mem_ready, ops_lt hj, getD_push_lt _ (by omega)]
  refine and_congr_right fun _ => exists_congr fun x => and_congr_right fun hx => ?_
  have he := (lastB_edge h hx).1
  refine forall_congr' fun e => forall_congr' fun hm => forall_congr' fun _ => ?_
  have := he e hm
  rw [getD_push_lt _ (by omega)]
theorem all_listed (h : lastB l o = true) {listed : Array Bool} (hs : listed.size = l.length) (hr : Region.ready .any l.toArray listed = []) :
    ∀ j, j < l.length → listed.getD j false = true := by
  intro j
  induction j using Nat.strongRecOn with
  | _ j ih =>
    intro hj
    have hx : l.toArray[j]? = some l[j] := by simp [hj]
    have hn : ¬ j ∈ Region.ready .any l.toArray listed := by rw [hr]; simp
    rw [mem_ready] at hn
    have hge : listed.getD j true = true := by
      rcases hb : listed.getD j true with _ | _
      · exact absurd ⟨hb, _, hx, fun e he _ => ih e.on ((lastB_edge h hx).1 e he) (by have := (lastB_edge h hx).1 e he; omega)⟩ hn
      · rfl
    have hlt : j < listed.size := by omega
    simpa [Array.getD_eq_getD_getElem?, hlt] using hge
theorem last_ready (h : lastB l o = true) {listed : Array Bool} (hs : listed.size = l.length) (hr : Region.ready .any l.toArray listed = []) :
    l.length ∈ Region.ready .any (l ++ [o]).toArray (listed.push false) := by
  rw [mem_ready]
  refine ⟨by rw [← hs]; exact getD_push_eq _, o, ops_last, fun e he _ => ?_⟩
  have := lastB_on h e he
  rw [getD_push_lt _ (by omega)]
  exact all_listed h hs hr _ this
theorem ready_of_last (h : lastB l o = true) {listed : Array Bool} (hs : listed.size = l.length)
    (hl : l.length ∈ Region.ready .any (l ++ [o]).toArray (listed.push false)) : Region.ready .any l.toArray listed = [] := by
  rw [mem_ready] at hl
  obtain ⟨_, x, hx, ha⟩ := hl
  rw [ops_last] at hx
  cases hx
  rw [List.eq_nil_iff_forall_not_mem]
  intro j hj
  rw [mem_ready] at hj
  obtain ⟨hu, x, hx, _⟩ := hj
  have hlt : j < l.length := by
    have := (Array.getElem?_eq_some_iff.1 hx).1
    simpa using this
  obtain ⟨e, he, hb, rfl⟩ := lastB_all h hlt
  have := ha e he hb
  rw [getD_push_lt _ (by omega)] at this
  have hlt' : e.on < listed.size := by omega
  simp [Array.getD_eq_getD_getElem?, hlt'] at this hu
  rw [this] at hu
  cases hu
theorem none_left (h : lastB l o = true) {listed : Array Bool} (hs : listed.size = l.length) (hr : Region.ready .any l.toArray listed = []) :
    Region.ready .any (l ++ [o]).toArray ((listed.push false).setIfInBounds l.length true) = [] := by
  rw [List.eq_nil_iff_forall_not_mem]
  intro j hj
  rw [mem_ready] at hj
  obtain ⟨hu, x, hx, _⟩ := hj
  have hlt : j < l.length + 1 := by
    have := (Array.getElem?_eq_some_iff.1 hx).1
    simpa using this
  by_cases e : j = l.length
  · subst e
    simp [Array.getD_eq_getD_getElem?, hs] at hu
  · have hj' : j < l.length := by omega
    have := all_listed h hs hr j hj'
    have hlt' : j < listed.size := by omega
    have hne : ¬ l.length = j := fun h => e h.symm
    simp [Array.getD_eq_getD_getElem?, hne, Array.getElem?_push, Nat.ne_of_lt hlt', hlt'] at this hu
    rw [this] at hu
    cases hu
theorem wanted_lt (h : lastB l o = true) {j : Nat} {x : Oper} (hx : l.toArray[j]? = some x) (tmps : Array Value) :
    Region.wanted x (yielded (l ++ [o]).toArray tmps) = Region.wanted x (yielded l.toArray tmps) := by
  unfold Region.wanted
  cases hg : x.guard with
  | none => rfl
  | some g =>
    obtain ⟨g, b⟩ := g
    have := (lastB_edge h hx).2 g b hg
    simp only [yielded, ops_lt this]
theorem Oper.wp_q1 {x : Oper} {a : Act} {w : World} {K K' : Act → World → Prop} (hK : ∀ a w, K a w → K' a w) (hh : x.wp P a w K (Q1 P l o Q)) : x.wp P a w K' Q := by
  unfold Oper.wp at *
  generalize (execOp a.eval x).run P w = r at *
  cases r with
  | ok n w' =>
    cases n <;> simp only [Oper.upon] at hh ⊢ <;>
      first
        | exact hK _ _ hh
        | exact Calls.mono hh (fun e w'' he => by cases e <;> first | exact hK _ _ he | exact he)
        | exact Rows.mono hh (fun _ _ he => hK _ _ he)
  | halt x w' => cases x <;> simp only [Oper.upon] at hh ⊢ <;> exact hh
theorem wpOp_q1 (h : lastB l o = true) {i : Nat} (hi : i < l.length) {a : Act} {w : World} {K K' : Act → World → Prop} (hK : ∀ a w, K a w → K' a w)
    (hh : wpOp P l.toArray (Q1 P l o Q) i K a w) : wpOp P (l ++ [o]).toArray Q i K' a w := by
  unfold wpOp at *
  rw [ops_lt hi]
  have hx : l.toArray[i]? = some l[i] := by simp [hi]
  simp only [hx] at hh ⊢
  rw [wanted_lt h hx]
  split
  · rename_i hw
    rw [if_pos hw] at hh
    exact hh.imp (Oper.wp_q1 hK) (fun g => ⟨g.1, g.2⟩)
  · rename_i hw
    rw [if_neg hw] at hh
    exact hK _ _ hh
theorem wpOp_last (h : lastB l o = true) {a : Act} {w : World} {K : Act → World → Prop} (hK : ∀ a w, Q .normal a w → K a w) (hh : Q1 P l o Q .normal a w) :
    wpOp P (l ++ [o]).toArray Q l.length K a w := by
  unfold wpOp
  rw [ops_last]
  have hw : ∀ y, Region.wanted o y = true := fun y => by unfold Region.wanted; rw [lastB_guard h]
  have hh' : wpList P (l ++ [o]).toArray Q [o] a w := hh
  unfold wpList at hh'
  rw [if_pos (hw _)] at hh'
  simp only [hw, if_true]
  exact hh'.imp (Oper.wp_mono hK) id
theorem push_set {listed : Array Bool} {i : Nat} (hi : i < listed.size) : (listed.setIfInBounds i true).push false = (listed.push false).setIfInBounds i true := by
  apply Array.ext'
  simp [List.set_append_left _ _ (show i < listed.toList.length by simpa using hi)]
theorem wpAny_last (h : lastB l o = true) : ∀ (fuel : Nat) (listed : Array Bool) (a : Act) (w : World), listed.size = l.length →
    wpAny P .any l.toArray (Q1 P l o Q) fuel listed a w → wpAny P .any (l ++ [o]).toArray Q (fuel + 1) (listed.push false) a w := by
  intro fuel
  induction fuel with
  | zero =>
    rintro listed a w hs ⟨hr, hq⟩
    refine ⟨fun h0 => ?_, fun i hi => ?_⟩
    · have := last_ready h hs hr; rw [h0] at this; cases this
    · by_cases e : i = l.length
      · subst e; exact wpOp_last h (fun a w hq => ⟨none_left h hs hr, hq⟩) hq
      · have hlt : i < l.length := by
          rw [mem_ready] at hi
          obtain ⟨_, x, hx, _⟩ := hi
          have := (Array.getElem?_eq_some_iff.1 hx).1
          simp at this; omega
        rw [ready_lt h hs hlt, hr] at hi; cases hi
  | succ fuel ih =>
    rintro listed a w hs ⟨hq, hall⟩
    refine ⟨fun h0 => ?_, fun i hi => ?_⟩
    · by_cases hr : Region.ready .any l.toArray listed = []
      · have := last_ready h hs hr; rw [h0] at this; cases this
      · obtain ⟨j, hj⟩ := List.exists_mem_of_ne_nil _ hr
        have hlt : j < l.length := by
          rw [mem_ready] at hj
          obtain ⟨_, x, hx, _⟩ := hj
          have := (Array.getElem?_eq_some_iff.1 hx).1
          simpa using this
        rw [← ready_lt h hs hlt, h0] at hj; cases hj
    · by_cases e : i = l.length
      · subst e
        have hr := ready_of_last h hs hi
        exact wpOp_last h (fun a w hq => ⟨fun _ => hq, fun j hj => by rw [none_left h hs hr] at hj; cases hj⟩) (hq hr)
      · have hlt : i < l.length := by
          rw [mem_ready] at hi
          obtain ⟨_, x, hx, _⟩ := hi
          have := (Array.getElem?_eq_some_iff.1 hx).1
          simp at this; omega
        have hi' := (ready_lt h hs hlt).1 hi
        refine wpOp_q1 h hlt (fun a' w' hw => ?_) (hall i hi')
        have := ih (listed.setIfInBounds i true) a' w' (by simpa using hs) hw
        rwa [push_set (by omega)] at this
theorem wp_region_last {id : Nat} {a : Act} {w : World} (hm : P.follows .mixedOrders = true) (hB : Region.lexB .any l.toArray = true) (hl : lastB l o = true)
    (h : wpQuiet P l.toArray (fun w' => ∃ x : Ext w, w' = x.val) (fun a' => ∀ w', (∃ x : Ext w, w' = x.val) → wpList P (l ++ [o]).toArray Q [o] a' w') l a) : (Code.region id (l ++ [o]).toArray true).wp P Q a w := by
  simp only [Region.lexB, Bool.and_eq_true] at hB
  refine wp_region_any hm ?_
  have h1 := wpAnyQ_lex (C := fun w' => ∃ x : Ext w, w' = x.val) (md := .any) hB.1 l 0 (Array.replicate l.length false) a (by simp) (by simpa using hB.2) h
  have h2 := wpAny_of_quiet (Q' := Q1 P l o Q) (fun _ w' hw' h => h w' hw') _ _ _ { w with drawn := w.drawn + 1 } ⟨⟨w.drew, (Below.refl _ _).drew⟩, rfl⟩ h1
  have h3 := wpAny_last hl _ _ _ _ (by simp) h2
  have e : (Array.replicate l.length false).push false = Array.replicate (l ++ [o]).toArray.size false := by simp [Array.replicate_succ]
  rw [e] at h3
  simpa using h3
end
theorem wp_region_last_lit {P : Program} {Q : Exit → Act → World → Prop} {id : Nat} {a : Act} {w : World} {L : List Oper} (hne : L ≠ []) (hm : P.follows .mixedOrders = true) (hB : Region.lexB .any L.dropLast.toArray = true) (hl : lastB L.dropLast (L.getLast hne) = true)
    (h : wpQuiet P L.dropLast.toArray (fun w' => ∃ x : Ext w, w' = x.val) (fun a' => ∀ w', (∃ x : Ext w, w' = x.val) → wpList P L.toArray Q [L.getLast hne] a' w') L.dropLast a) : (Code.region id L.toArray true).wp P Q a w := by
  have e : L.dropLast ++ [L.getLast hne] = L := List.dropLast_concat_getLast hne
  have := wp_region_last (P := P) (Q := Q) (id := id) (a := a) (w := w) (l := L.dropLast) (o := L.getLast hne) hm hB hl (by rw [e]; exact h)
  rwa [e] at this
end Go.Proofs.YtaikcnoiaaiopaaDoor
namespace Go.Proofs.YtaikcnoiaaiopaaDoor
open Go
def unr (P : Program) (c : Code) (Q : Exit → Act → World → Prop) : Nat → Act → World → Prop
  | 0, _, _ => False
  | n + 1, a, w => c.wp P (Exit.then (unr P c Q n) Q) a w
theorem unr_succ {P : Program} {c : Code} {Q : Exit → Act → World → Prop} {n : Nat} {a : Act} {w : World}
    (h : c.wp P (Exit.then (unr P c Q n) Q) a w) : unr P c Q (n + 1) a w := h
theorem least_of {p : Nat → Prop} : ∀ n, p n → ∃ m, p m ∧ ∀ k, p k → m ≤ k := by
  intro n
  induction n using Nat.strongRecOn with
  | _ n ih =>
    intro h
    by_cases g : ∃ k, k < n ∧ p k
    · obtain ⟨k, hk, hp⟩ := g
      exact ih k hk hp
    · exact ⟨n, h, fun k hk => Nat.le_of_not_lt fun hlt => g ⟨k, hlt, hk⟩⟩
open Classical in
noncomputable def leastOf (p : Nat → Prop) : Nat := if h : ∃ m, p m ∧ ∀ k, p k → m ≤ k then Classical.choose h else 0
theorem leastOf_spec {p : Nat → Prop} {n : Nat} (h : p n) : p (leastOf p) ∧ ∀ k, p k → leastOf p ≤ k := by
  have g := least_of n h
  unfold leastOf
  rw [dif_pos g]
  exact Classical.choose_spec g
theorem wp_loop_unr {P : Program} {c : Code} {Q : Exit → Act → World → Prop} (n : Nat) {a : Act} {w : World}
    (h : unr P c Q n a w) : (Code.loop c).wp P Q a w := by
  refine wp_loop (fun a w => ∃ n, unr P c Q n a w) (fun a w => leastOf fun n => unr P c Q n a w) ⟨n, h⟩ ?_
  rintro a w ⟨n, hn⟩
  obtain ⟨hs, -⟩ := leastOf_spec (p := fun n => unr P c Q n a w) hn
  generalize leastOf (fun n => unr P c Q n a w) = m at hs
  cases m with
  | zero => exact hs.elim
  | succ m =>
    refine wp_mono (show c.wp P (Exit.then (unr P c Q m) Q) a w from hs) ?_
    intro e a' w' he
    cases e with
    | normal => exact ⟨⟨m, he⟩, Nat.lt_succ_of_le ((leastOf_spec (p := fun n => unr P c Q n a' w') (n := m) he).2 m he)⟩
    | exit id => exact he
    | goto l => exact he
    | ret => exact he
    | panic ch => exact he
    | outgrown => exact he
end Go.Proofs.YtaikcnoiaaiopaaDoor
namespace Go.Proofs.YtaikcnoiaaiopaaDoor
open Go Go.ChangeShapes Go.WideShapes Go.ChangeAt Go.RowKit
theorem own : ownKnob Tryd.prog.godebug = none := by kernel_rfl
theorem laidOut : laidOutB Tryd.prog = true := by kernel_rfl
theorem cells_int : Tryd.prog.cellsOf 3 = 1 := by kernel_rfl
def ArgI (W : World) (v : Value) (zs : List Int) : Prop :=
  (∃ p cap, v = .slice p 0 cap ∧ zs = []) ∨ ∃ g off cap, v = .slice (some ⟨g, off, none⟩) zs.length cap ∧ g < W.heap.size ∧ zs.length ≤ cap ∧ cap ≤ maxLen ∧ ∀ (i : Nat) (x : Int), zs[i]? = some x → W.cell? ⟨g, off + i, none⟩ = some (.int .i64 x)
theorem ArgI.below {W W' : World} {v : Value} {zs : List Int} {n : Nat} (h : ArgI W v zs) (hb : Below n W W') (hn : n = W.heap.size) : ArgI W' v zs := by
  rcases h with h | ⟨g, off, cap, h1, h2, h3, h4, h5⟩
  · exact .inl h
  · subst hn
    exact .inr ⟨g, off, cap, h1, Nat.lt_of_lt_of_le h2 hb.size, h3, h4, fun i x hx => (hb.cell (p := ⟨g, off + i, none⟩) h2).trans (h5 i x hx)⟩
set_option maxRecDepth 100000 in
theorem open_intsA {H : Type} {enc : TypeId × Value → H} {W : World} {base : Nat} {v : Value} {d : DataW H} {p : List MemPlace} (hok : Value.okWide Tryd.prog W .any base 43 v)
    (h : DataW.Trod enc Tryd.prog W 0 (fun _ => true) true 43 v d p) : ∃ zs : List Int, ArgI W v zs := by
  obtain ⟨a', len', cap', rfl⟩ := okWide_slice Tryd.underlying43 hok
  obtain ⟨fuel, hf⟩ := h
  rcases open_ints Tryd.underlying43 Tryd.underlying3 cells_int hf with ⟨h1, h2⟩ | ⟨a, len, cap, zs, h1, _, hlc, hcap, hm, h2, hx, _⟩
  · have h1' : Value.slice a' len' cap' = .slice none 0 0 := by simpa [Value.cells] using h1
    cases h1'
    exact ⟨[], .inl ⟨none, 0, rfl, rfl⟩⟩
  · have h1' : Value.slice a' len' cap' = .slice (some a) len cap := by simpa [Value.cells] using h1
    cases h1'
    rw [if_pos rfl] at hm
    by_cases hl : len' = 0
    · subst hl
      exact ⟨[], .inl ⟨some a, _, rfl, rfl⟩⟩
    · obtain ⟨b, off, spot⟩ := a
      have c0 := hx 0 (by omega)
      have hs : spot = none := by
        cases spot with
        | none => rfl
        | some k =>
          exfalso
          unfold Addr.add World.cell? at c0
          simp at c0
          split at c0 <;> simp_all
      subst hs
      have hadd : ∀ j, (⟨b, off, none⟩ : Addr).add j = ⟨b, off + j, none⟩ := fun j => by unfold Addr.add; split <;> simp_all
      have hb : b < W.heap.size := by
        rw [hadd] at c0
        rcases Nat.lt_or_ge b W.heap.size with h | h
        · exact h
        · have : W.heap[b]? = none := Array.getElem?_eq_none h
          simp [World.cell?, this] at c0
      have hlen : (zs.take len').length = len' := by simp; omega
      refine ⟨zs.take len', .inr ⟨b, off, cap', by rw [hlen], hb, by omega, hcap, fun i x hi => ?_⟩⟩
      have hil : i < len' := by have := (List.getElem?_eq_some_iff.1 hi).1; omega
      rw [List.getElem?_take_of_lt hil] at hi
      have hxi := hx i (by omega)
      rw [hadd] at hxi
      rw [hxi]
      simp [List.getD, hi]
end Go.Proofs.YtaikcnoiaaiopaaDoor
