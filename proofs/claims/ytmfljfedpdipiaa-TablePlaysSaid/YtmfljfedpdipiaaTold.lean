/-
  A range over a function whose body is told what it is handed: what the iterator knows of each element when it hands it over.
-/
import Derived.Test.YtmfljfedpdipiaaSorted
import Derived.RangeFuncNested
import Derived.RangeFuncBound
import Derived.RangeFuncCalls
import Derived.RangeFuncLeaves
import Derived.RangeFuncBox
import Derived.Shelf.Abstract
import Derived.Shelf.RegionOpen
import Derived.OwnWalkIn
import Derived.TacticsInMore
import Derived.LoopNIn
import Derived.LoopIn
namespace Go.Proofs.Ytmfljfedpdipiaa
open Go Go.RowKit Go.Shelf

theorem below_grown {W W' : World} (hb : Below W.heap.size W W') : W.grownBy W' none := ⟨hb.os, hb.tape, hb.output, hb.size, fun k hk _ => hb.block k hk⟩
/-- The cells of those blocks stay as they are. -/
structure CKeep (N : Nat → Prop) (W W' : World) : Prop where
  size : W.heap.size ≤ W'.heap.size
  same : ∀ (k : Nat) (cur : Array Value) (t : TypeId) (fr : Nat × Nat), N k → W.heap[k]? = some (.cells cur t fr) → W'.heap[k]? = some (.cells cur t fr)
theorem CKeep.trans {N : Nat → Prop} {A B C : World} (h : CKeep N A B) (k : CKeep N B C) : CKeep N A C := ⟨Nat.le_trans h.size k.size, fun i cur t fr hi hc => k.same i cur t fr hi (h.same i cur t fr hi hc)⟩
theorem CKeep.put {N : Nat → Prop} {W : World} {l : Nat} {o : Obj} (o' : Obj) (h : W.heap[l]? = some o) (hc : o.isCells = false) : CKeep N W (W.putObj l o') :=
  ⟨(grownBy_putObj' W l o').size, fun k cur t fr _ hk => by
    have hne : k ≠ l := fun e => by subst e; rw [hk] at h; cases h; cases hc
    exact (World.putObj_heap_other hne).trans hk⟩
theorem Fr.ckeep {S N : Nat → Prop} {W W' : World} (h : Fr S W W') (hs : ∀ k, S k → ¬ N k) : CKeep N W W' :=
  ⟨h.size, fun k _ _ _ hk hc => (h.block k (lt_of_heap hc) (fun q => hs k q hk)).trans hc⟩
theorem Fr.keepsFrom {S : Nat → Prop} {N : Nat} {W W' : World} (h : Fr S W W') (hs : ∀ k, S k → k < N) : KeepsFrom N W W' :=
  ⟨h.size, fun k o hk hc _ => (h.block k (lt_of_heap hc) (fun q => by have := hs k q; omega)).trans hc⟩

/-- What an iterator does with a loop: each element is handed over with what is known of it (Told); at the end all were (S), or the loop was left behind some (Sp). -/
def Tells {α : Type} (n : Nat) (P : Program) (gf : Nat) (lb : Array Value) (encs : α → Array Value) (N : Nat → Prop) (Told : List α → α → World → Prop) (S Sp : List α → Prop) (w : World) : Prop :=
  ∀ (l : Nat) (J Jx : List α → World → Prop) (W : World), Below w.heap.size w W → (∀ pre A B, J pre A → Below A.heap.size A B → J pre B) →
    (∀ pre x V, J pre V → Told pre x V → YieldAt Fence.wide (n - 1) P l (encs x) V fun e V' => (e = .returned (.bool true) ∧ J (pre ++ [x]) V' ∧ CKeep N V V') ∨ (e = .returned (.bool false) ∧ Jx (pre ++ [x]) V')) →
    J [] W → CallsIn Fence.wide n P gf (#[.func (.yield l) #[] #[]] ++ lb) W fun e V => (∃ v, e = .returned v) ∧ ((∃ xs, S xs ∧ J xs V) ∨ (∃ pre, Sp pre ∧ Jx pre V))

section
variable {α : Type} {P : Program}
/-- The loop's two blocks: its record, and its list of deferred calls. -/
def Rc (D : Nat) (r : Loop) (W : World) : Prop := W.heap[D + 1]? = some (.loop r) ∧ W.heap[D]? = some (.deferred (some []))
theorem Rc.below {D : Nat} {r : Loop} {W W' : World} (h : Rc D r W) (hb : Below W.heap.size W W') : Rc D r W' :=
  ⟨(hb.block _ (lt_of_heap h.1)).trans h.1, (hb.block _ (lt_of_heap h.2)).trans h.2⟩
theorem Rc.from {D : Nat} {r : Loop} {W W' : World} (h : Rc D r W) (hk : KeepsFrom D W W') : Rc D r W' := ⟨hk.same _ _ (by omega) h.1 rfl, hk.same _ _ (Nat.le_refl _) h.2 rfl⟩
theorem Rc.put {D : Nat} {r : Loop} {W : World} (h : Rc D r W) (r' : Loop) : Rc D r' (W.putObj (D + 1) (.loop r')) :=
  ⟨World.putObj_heap_same (lt_of_heap h.1), (World.putObj_heap_other (by omega)).trans h.2⟩

/-- How a round ends, seen from the loop. -/
theorem round_ends {D : Nat} {N : Nat → Prop} {r : Loop} {I : List α → World → Prop} {Ix : Code → List α → World → Prop} {xs : List α} {V W W3 : World} {e : Exit} {a3 : Act}
    (hI : OwnFrom D I) (hIx : ∀ c, OwnFrom D (Ix c)) (hc : CKeep N V W) (hr : Rc D { r with state := .busy } W)
    (hp : ownPostG D (CKeep N) I Ix xs W e a3 W3) : roundPost P (D + 1) (fun e V' => (e = .returned (.bool true) ∧ (I xs V' ∧ Rc D { r with state := .ready, pending := none } V') ∧ CKeep N V V') ∨ (e = .returned (.bool false) ∧ ∃ c, Ix c xs V' ∧ Rc D { r with state := .done, pending := some c } V')) e a3 W3 := by
  have out : ∀ c : Code, KeepsFrom D W W3 → Ix c xs W3 → ∃ v V', (Instr.endRound (D + 1) (some c)).run P W3 = .ok v V' ∧ ((Ending.returned v = .returned (.bool true) ∧ (I xs V' ∧ Rc D { r with state := .ready, pending := none } V') ∧ CKeep N V V') ∨ (Ending.returned v = .returned (.bool false) ∧ ∃ c, Ix c xs V' ∧ Rc D { r with state := .done, pending := some c } V')) := fun c hk hi => by
    have h3 := hr.from hk
    exact ⟨_, _, run_endRound (some c) h3.1, .inr ⟨rfl, c, (hIx c).putObj _ hi (by omega) h3.1 rfl, h3.put _⟩⟩
  cases e with
  | normal =>
    obtain ⟨hk, hkp, hi⟩ := hp
    have h3 := hr.from hk
    exact ⟨_, _, run_endRound none h3.1, .inl ⟨rfl, ⟨hI.putObj _ hi (by omega) h3.1 rfl, h3.put _⟩, (hc.trans hkp).trans (CKeep.put _ h3.1 rfl)⟩⟩
  | ret => exact out .ret hp.1 hp.2
  | exit id => exact out (.exit id) hp.1 hp.2
  | goto t => exact out (.goto t) hp.1 hp.2
  | panic ch => exact hp.elim
  | outgrown => exact hp.elim

theorem range_told {g : Operand} {ps : Array Tmp} {assign body : Code} {Q : Exit → Act → World → Prop} {a : Act} {w : World} {n : Nat} (h1 : 1 ≤ n) {gf : Nat} {lb : Array Value}
    (hg : a.eval g = .func (.func gf) #[] lb) (eg : ∀ args w, (callFunc gf args).run P w = .ok (.enter gf args) w) {encs : α → Array Value} (hps : ∀ x, (encs x).size = ps.size)
    {N : Nat → Prop} {Told : List α → α → World → Prop} {S Sp : List α → Prop} (hseq : Tells (n - 1) P gf lb encs N Told S Sp w)
    (I : List α → World → Prop) (Ix : Code → List α → World → Prop) (hI : OwnFrom w.heap.size I) (hIx : ∀ c, OwnFrom w.heap.size (Ix c)) (hT : ∀ pre x, OwnFrom w.heap.size (fun (_ : Unit) W => Told pre x W)) (h0 : I [] w) (a₁ : α → Act)
    (hassign : ∀ (l : Nat) (x : α) (W : World) (K : Act → World → Prop), K (a₁ x) W →
      assign.wpIn (Fence.wide.inRound l) (n - 1 - 1) P (Exit.then K (fun _ _ _ => False)) { tmps := (ps.zip (encs x)).foldl (fun t (p, v) => t.setIfInBounds p v) a.tmps, defers := [] } W)
    (hbody : ∀ (l : Nat) (pre : List α) (x : α) (W : World), I pre W → Told pre x W → body.wpIn (Fence.wide.inRound l) (n - 1 - 1) P (ownPostG w.heap.size (CKeep N) I Ix (pre ++ [x]) W) (a₁ x) W)
    (hdone : ∀ (D : Nat) (xs : List α) (W : World), w.heap.size ≤ D → S xs → I xs W → W.heap[D]? = some (.deferred (some [])) → Q .normal { a with defers := { target := .collected D, args := #[] } :: a.defers } W)
    (hstop : ∀ (D : Nat) (c : Code) (pre : List α) (W : World), w.heap.size ≤ D → Sp pre → Ix c pre W → W.heap[D]? = some (.deferred (some [])) → c.wpIn Fence.wide n P Q { a with defers := { target := .collected D, args := #[] } :: a.defers } W) :
    (Code.rangeFunc g ps assign body).wpIn Fence.wide n P Q a w := by
  refine wpIn_rangeFunc fun fn hfn => ?_
  let r : Loop := { state := .ready, pending := none, fn := fn, tmps := a.tmps, params := ps, assign := assign, body := body, defers := w.heap.size }
  have hB : Below w.heap.size w ((w.alloc (.deferred (some []))).alloc (.loop r)) := ((Below.refl _ _).alloc (Nat.le_refl _) _).alloc (by simp) _
  have hR : Rc w.heap.size r ((w.alloc (.deferred (some []))).alloc (.loop r)) := by
    refine ⟨?_, (Below.heap_alloc _ _ _ (by simp)).trans (World.alloc_heap_new w _)⟩
    have := World.alloc_heap_new (w.alloc (.deferred (some []))) (.loop r)
    rwa [World.size_alloc] at this
  refine ⟨w.heap.size + 1, [{ target := .collected w.heap.size, args := #[] }], ((w.alloc (.deferred (some []))).alloc (.loop r)), { target := .fn (.func gf) lb, args := #[.func (.yield (w.heap.size + 1)) #[] #[]] }, ((w.alloc (.deferred (some []))).alloc (.loop r)), gf, #[.func (.yield (w.heap.size + 1)) #[] #[]] ++ lb, ((w.alloc (.deferred (some []))).alloc (.loop r)),
    run_enterLoop_outer _ _ _ _ _, ?_, fun _ _ => trivial, ?_, fun _ => h1, ?_⟩
  · simp only [resolve, hg]
    simp [go_sem]
  · simp [invoke, go_sem, eg]
  · refine (hseq (w.heap.size + 1) (fun pre W => I pre W ∧ Rc w.heap.size r W) (fun pre W => ∃ c, Ix c pre W ∧ Rc w.heap.size { r with state := .done, pending := some c } W) _ hB
      (fun pre A B h hb => ⟨hI pre A B none h.1 (below_grown hb) (fun _ e => by cases e), h.2.below hb⟩) ?_ ⟨hI.alloc _ (hI.alloc _ h0), hR⟩).mono ?_
    · rintro pre x V ⟨hi, hr⟩ ht
      refine ⟨fn, _, assign, body, run_yield hr.1 (hps x), roundIn_of_wpIn hfn (hassign _ x V _ ?_)⟩
      refine ⟨_, run_beginRound hr.1 rfl, ?_⟩
      have hr2 : Rc w.heap.size { r with state := .busy } (V.putObj (w.heap.size + 1) (.loop { r with state := .busy })) := hr.put _
      exact wpIn_mono (hbody _ pre x _ (hI.putObj _ hi (by omega) hr.1 rfl) ((hT pre x).putObj (s := ()) _ ht (by omega) hr.1 rfl)) fun e a3 W3 hp =>
        round_ends (r := r) hI hIx (CKeep.put _ hr.1 rfl) hr2 hp
    · rintro e V ⟨⟨v, rfl⟩, (⟨xs, hS, hi, hr⟩ | ⟨pre, hSp, c, hi, hr⟩)⟩
      · exact ⟨none, _, run_endLoop hr.1 (by simp [r]), hdone _ xs _ (Nat.le_refl _) hS (hI.putObj _ hi (by omega) hr.1 rfl) ((World.putObj_heap_other (by omega)).trans hr.2)⟩
      · exact ⟨some c, _, run_endLoop hr.1 (by simp), hstop _ c pre _ (Nat.le_refl _) hSp ((hIx c).putObj _ hi (by omega) hr.1 rfl) ((World.putObj_heap_other (by omega)).trans hr.2)⟩
end
end Go.Proofs.Ytmfljfedpdipiaa
