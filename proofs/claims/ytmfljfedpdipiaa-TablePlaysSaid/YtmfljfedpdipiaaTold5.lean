/-
  As Told: which blocks stay may go by their types. A range over a function whose body is told what it is handed: what the iterator knows of each element when it hands it over.
-/
import Derived.Test.YtmfljfedpdipiaaRng
import Derived.RangeFuncNested
import Derived.RangeFuncBound
import Derived.RangeFuncCalls
import Derived.RangeFuncLeaves
import Derived.RangeFuncBox
import Derived.Shelf.Abstract
import Derived.Shelf.RegionOpen
import Derived.OwnWalkIn
import Derived.TacticsInMore
import Derived.LoopNIn
import Derived.LoopIn
namespace Go.Proofs.Ytmfljfedpdipiaa
open Go Go.RowKit Go.Shelf

theorem below_grown' {W W' : World} {row : Option Nat} (hb : Below W.heap.size W W') : W.grownBy W' row := ⟨hb.os, hb.tape, hb.output, hb.size, fun k hk _ => hb.block k hk⟩
/-- The cells of those blocks stay as they are. -/
structure TKeep (N : Nat → TypeId → Prop) (W W' : World) : Prop where
  size : W.heap.size ≤ W'.heap.size
  same : ∀ (k : Nat) (cur : Array Value) (t : TypeId) (fr : Nat × Nat), N k t → W.heap[k]? = some (.cells cur t fr) → W'.heap[k]? = some (.cells cur t fr)
theorem TKeep.trans {N : Nat → TypeId → Prop} {A B C : World} (h : TKeep N A B) (k : TKeep N B C) : TKeep N A C := ⟨Nat.le_trans h.size k.size, fun i cur t fr hi hc => k.same i cur t fr hi (h.same i cur t fr hi hc)⟩
theorem TKeep.put {N : Nat → TypeId → Prop} {W : World} {l : Nat} {o : Obj} (o' : Obj) (h : W.heap[l]? = some o) (hc : o.isCells = false) : TKeep N W (W.putObj l o') :=
  ⟨(grownBy_putObj' W l o').size, fun k cur t fr _ hk => by
    have hne : k ≠ l := fun e => by subst e; rw [hk] at h; cases h; cases hc
    exact (World.putObj_heap_other hne).trans hk⟩
theorem Fr.tkeep {S : Nat → Prop} {N : Nat → TypeId → Prop} {W W' : World} (h : Fr S W W') (hs : ∀ k cur t fr, S k → W.heap[k]? = some (.cells cur t fr) → ¬ N k t) : TKeep N W W' :=
  ⟨h.size, fun k cur t fr hk hc => (h.block k (lt_of_heap hc) (fun q => hs k cur t fr q hc hk)).trans hc⟩

/-- What an iterator does with a loop: each element is handed over with what is known of it (Told); at the end all were (S), or the loop was left behind some (Sp). -/
def Tells5 {α : Type} (n : Nat) (P : Program) (gf : Nat) (lb : Array Value) (encs : α → Array Value) (N : Nat → TypeId → Prop) (Told : List α → α → World → World → Prop) (S Sp : List α → Prop) (w : World) : Prop :=
  ∀ (l : Nat) (J Jx : List α → World → Prop) (W : World), Below w.heap.size w W → (∀ pre A B, J pre A → Below A.heap.size A B → J pre B) →
    (∀ pre x V0 V, J pre V0 → Below V0.heap.size V0 V → Told pre x V0 V → YieldAt Fence.wide (n - 1) P l (encs x) V fun e V' => (e = .returned (.bool true) ∧ J (pre ++ [x]) V' ∧ TKeep N V V') ∨ (e = .returned (.bool false) ∧ Jx (pre ++ [x]) V')) →
    J [] W → CallsIn Fence.wide n P gf (#[.func (.yield l) #[] #[]] ++ lb) W fun e V => (∃ v, e = .returned v) ∧ ((∃ xs, S xs ∧ J xs V) ∨ (∃ pre, Sp pre ∧ Jx pre V))

section
variable {α : Type} {P : Program}
/-- How a round ends, seen from the loop. -/
theorem round_ends5 {D : Nat} {N : Nat → TypeId → Prop} {r : Loop} {I : List α → World → Prop} {Ix : Code → List α → World → Prop} {xs : List α} {V W W3 : World} {e : Exit} {a3 : Act}
    (hI : OwnFrom D I) (hIx : ∀ c, OwnFrom D (Ix c)) (hc : TKeep N V W) (hr : Rc D { r with state := .busy } W)
    (hp : ownPostG D (TKeep N) I Ix xs W e a3 W3) : roundPost P (D + 1) (fun e V' => (e = .returned (.bool true) ∧ (I xs V' ∧ Rc D { r with state := .ready, pending := none } V') ∧ TKeep N V V') ∨ (e = .returned (.bool false) ∧ ∃ c, Ix c xs V' ∧ Rc D { r with state := .done, pending := some c } V')) e a3 W3 := by
  have out : ∀ c : Code, KeepsFrom D W W3 → Ix c xs W3 → ∃ v V', (Instr.endRound (D + 1) (some c)).run P W3 = .ok v V' ∧ ((Ending.returned v = .returned (.bool true) ∧ (I xs V' ∧ Rc D { r with state := .ready, pending := none } V') ∧ TKeep N V V') ∨ (Ending.returned v = .returned (.bool false) ∧ ∃ c, Ix c xs V' ∧ Rc D { r with state := .done, pending := some c } V')) := fun c hk hi => by
    have h3 := hr.from hk
    exact ⟨_, _, run_endRound (some c) h3.1, .inr ⟨rfl, c, (hIx c).putObj _ hi (by omega) h3.1 rfl, h3.put _⟩⟩
  cases e with
  | normal =>
    obtain ⟨hk, hkp, hi⟩ := hp
    have h3 := hr.from hk
    exact ⟨_, _, run_endRound none h3.1, .inl ⟨rfl, ⟨hI.putObj _ hi (by omega) h3.1 rfl, h3.put _⟩, (hc.trans hkp).trans (TKeep.put _ h3.1 rfl)⟩⟩
  | ret => exact out .ret hp.1 hp.2
  | exit id => exact out (.exit id) hp.1 hp.2
  | goto t => exact out (.goto t) hp.1 hp.2
  | panic ch => exact hp.elim
  | outgrown => exact hp.elim

theorem range_told5 {g : Operand} {ps : Array Tmp} {assign body : Code} {Q : Exit → Act → World → Prop} {a : Act} {w : World} {n : Nat} (h1 : 1 ≤ n) {gf : Nat} {lb : Array Value}
    (hg : a.eval g = .func (.func gf) #[] lb) (eg : ∀ args w, (callFunc gf args).run P w = .ok (.enter gf args) w) {encs : α → Array Value} (hps : ∀ x, (encs x).size = ps.size)
    {N : Nat → TypeId → Prop} {Told : List α → α → World → World → Prop} {S Sp : List α → Prop} (hseq : Tells5 (n - 1) P gf lb encs N Told S Sp w)
    (I : List α → World → Prop) (Ix : Code → List α → World → Prop) (hI : OwnFrom w.heap.size I) (hIx : ∀ c, OwnFrom w.heap.size (Ix c)) (hT : ∀ pre x V0, OwnFrom w.heap.size (fun (_ : Unit) W => Told pre x V0 W)) (h0 : I [] w) (a₁ : α → Act)
    (hassign : ∀ (l : Nat) (x : α) (W : World) (K : Act → World → Prop), K (a₁ x) W →
      assign.wpIn (Fence.wide.inRound l) (n - 1 - 1) P (Exit.then K (fun _ _ _ => False)) { tmps := (ps.zip (encs x)).foldl (fun t (p, v) => t.setIfInBounds p v) a.tmps, defers := [] } W)
    (hbody : ∀ (l : Nat) (pre : List α) (x : α) (V0 W : World), I pre V0 → V0.grownBy W (some l) → w.heap.size ≤ l → (∃ o : Obj, V0.heap[l]? = some o ∧ o.isCells = false) → Told pre x V0 W → body.wpIn (Fence.wide.inRound l) (n - 1 - 1) P (ownPostG w.heap.size (TKeep N) I Ix (pre ++ [x]) W) (a₁ x) W)
    (hdone : ∀ (D : Nat) (xs : List α) (W : World), w.heap.size ≤ D → S xs → I xs W → W.heap[D]? = some (.deferred (some [])) → Q .normal { a with defers := { target := .collected D, args := #[] } :: a.defers } W)
    (hstop : ∀ (D : Nat) (c : Code) (pre : List α) (W : World), w.heap.size ≤ D → Sp pre → Ix c pre W → W.heap[D]? = some (.deferred (some [])) → c.wpIn Fence.wide n P Q { a with defers := { target := .collected D, args := #[] } :: a.defers } W) :
    (Code.rangeFunc g ps assign body).wpIn Fence.wide n P Q a w := by
  refine wpIn_rangeFunc fun fn hfn => ?_
  let r : Loop := { state := .ready, pending := none, fn := fn, tmps := a.tmps, params := ps, assign := assign, body := body, defers := w.heap.size }
  have hB : Below w.heap.size w ((w.alloc (.deferred (some []))).alloc (.loop r)) := ((Below.refl _ _).alloc (Nat.le_refl _) _).alloc (by simp) _
  have hR : Rc w.heap.size r ((w.alloc (.deferred (some []))).alloc (.loop r)) := by
    refine ⟨?_, (Below.heap_alloc _ _ _ (by simp)).trans (World.alloc_heap_new w _)⟩
    have := World.alloc_heap_new (w.alloc (.deferred (some []))) (.loop r)
    rwa [World.size_alloc] at this
  refine ⟨w.heap.size + 1, [{ target := .collected w.heap.size, args := #[] }], ((w.alloc (.deferred (some []))).alloc (.loop r)), { target := .fn (.func gf) lb, args := #[.func (.yield (w.heap.size + 1)) #[] #[]] }, ((w.alloc (.deferred (some []))).alloc (.loop r)), gf, #[.func (.yield (w.heap.size + 1)) #[] #[]] ++ lb, ((w.alloc (.deferred (some []))).alloc (.loop r)),
    run_enterLoop_outer _ _ _ _ _, ?_, fun _ _ => trivial, ?_, fun _ => h1, ?_⟩
  · simp only [resolve, hg]
    simp [go_sem]
  · simp [invoke, go_sem, eg]
  · refine (hseq (w.heap.size + 1) (fun pre W => I pre W ∧ Rc w.heap.size r W) (fun pre W => ∃ c, Ix c pre W ∧ Rc w.heap.size { r with state := .done, pending := some c } W) _ hB
      (fun pre A B h hb => ⟨hI pre A B none h.1 (below_grown hb) (fun _ e => by cases e), h.2.below hb⟩) ?_ ⟨hI.alloc _ (hI.alloc _ h0), hR⟩).mono ?_
    · rintro pre x V0 V ⟨hi, hr0⟩ hbl ht
      have hr := hr0.below hbl
      refine ⟨fn, _, assign, body, run_yield hr.1 (hps x), roundIn_of_wpIn hfn (hassign _ x V _ ?_)⟩
      refine ⟨_, run_beginRound hr.1 rfl, ?_⟩
      have hr2 : Rc w.heap.size { r with state := .busy } (V.putObj (w.heap.size + 1) (.loop { r with state := .busy })) := hr.put _
      exact wpIn_mono (hbody _ pre x V0 _ hi ((below_grown' hbl).trans (grownBy_putObj' V _ _)) (by omega) ⟨_, hr0.1, rfl⟩ ((hT pre x V0).putObj (s := ()) _ ht (by omega) hr.1 rfl)) fun e a3 W3 hp =>
        round_ends5 (r := r) hI hIx (TKeep.put _ hr.1 rfl) hr2 hp
    · rintro e V ⟨⟨v, rfl⟩, (⟨xs, hS, hi, hr⟩ | ⟨pre, hSp, c, hi, hr⟩)⟩
      · exact ⟨none, _, run_endLoop hr.1 (by simp [r]), hdone _ xs _ (Nat.le_refl _) hS (hI.putObj _ hi (by omega) hr.1 rfl) ((World.putObj_heap_other (by omega)).trans hr.2)⟩
      · exact ⟨some c, _, run_endLoop hr.1 (by simp), hstop _ c pre _ (Nat.le_refl _) hSp ((hIx c).putObj _ hi (by omega) hr.1 rfl) ((World.putObj_heap_other (by omega)).trans hr.2)⟩
end
end Go.Proofs.Ytmfljfedpdipiaa
