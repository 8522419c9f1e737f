/-
  Parts of the proof.
-/
import Derived.Test.YtaikcnoiaaiopaaDoorPlaysProofB2
import Derived.RangeFuncNested
import Derived.RangeFuncBound
import Derived.RangeFuncCalls
import Derived.RangeFuncLeaves
import Derived.RangeFuncBox
import Derived.Shelf.Abstract
import Derived.Shelf.RegionOpen
import Derived.OwnWalkIn
import Derived.TacticsInMore
import Derived.LoopNIn
import Derived.LoopIn
import Derived.WalkKit
set_option linter.unusedSimpArgs false
namespace Go.Proofs.YtaikcnoiaaiopaaDoor
open Go Go.RowKit Go.Shelf
theorem hide {p : Prop} (h : p) : Hid p := h
theorem below_grownT {W W' : World} {row : Option Nat} (hb : Below W.heap.size W W') : W.grownBy W' row := ⟨hb.os, hb.tape, hb.output, hb.size, fun k hk _ => hb.block k hk⟩
structure TKeep (N : Nat → TypeId → Prop) (W W' : World) : Prop where
  size : W.heap.size ≤ W'.heap.size
  same : ∀ (k : Nat) (cur : Array Value) (t : TypeId) (fr : Nat × Nat), N k t → W.heap[k]? = some (.cells cur t fr) → W'.heap[k]? = some (.cells cur t fr)
theorem TKeep.refl (N : Nat → TypeId → Prop) (W : World) : TKeep N W W := ⟨Nat.le_refl _, fun _ _ _ _ _ h => h⟩
theorem TKeep.trans {N : Nat → TypeId → Prop} {A B C : World} (h : TKeep N A B) (k : TKeep N B C) : TKeep N A C := ⟨Nat.le_trans h.size k.size, fun i cur t fr hi hc => k.same i cur t fr hi (h.same i cur t fr hi hc)⟩
theorem TKeep.put {N : Nat → TypeId → Prop} {W : World} {l : Nat} {o : Obj} (o' : Obj) (h : W.heap[l]? = some o) (hc : o.isCells = false) : TKeep N W (W.putObj l o') :=
  ⟨(grownBy_putObj' W l o').size, fun k cur t fr _ hk => by
    have hne : k ≠ l := fun e => by subst e; rw [hk] at h; cases h; cases hc
    exact (World.putObj_heap_other hne).trans hk⟩
theorem TKeep.mono {N M : Nat → TypeId → Prop} {A B : World} (h : TKeep N A B) (hm : ∀ k t, M k t → N k t) : TKeep M A B := ⟨h.size, fun k cur t fr hk hc => h.same k cur t fr (hm k t hk) hc⟩
theorem TKeep.below {N : Nat → TypeId → Prop} {A B : World} (h : Below A.heap.size A B) : TKeep N A B := ⟨h.size, fun k _ _ _ _ hc => (h.block k (lt_of_heap hc)).trans hc⟩
theorem Fr.tkeep {S : Nat → Prop} {N : Nat → TypeId → Prop} {W W' : World} (h : Fr S W W') (hs : ∀ k cur t fr, S k → W.heap[k]? = some (.cells cur t fr) → ¬ N k t) : TKeep N W W' :=
  ⟨h.size, fun k cur t fr hk hc => (h.block k (lt_of_heap hc) (fun q => hs k cur t fr q hc hk)).trans hc⟩
theorem ownFrom_below {β : Type} {B : Nat} {J : β → World → Prop} (h : OwnFrom B J) {s : β} {A A' : World} (hj : J s A) (hb : Below A.heap.size A A') : J s A' := h s A A' none hj (below_grownT hb) (fun _ e => by cases e)
theorem ownFrom_le {β : Type} {B B' : Nat} {J : β → World → Prop} (h : OwnFrom B J) (hB : B ≤ B') : OwnFrom B' J := fun s W W' row hs hg hr => h s W W' row hs hg (fun r e => ⟨Nat.le_trans hB (hr r e).1, (hr r e).2⟩)
theorem round_any {P : Program} {n m l l' : Nat} {f : FuncId} {tmps : Array Value} {assign body : Code} {w : World} {R : Ending → World → Prop} (h : RoundIn Fence.wide n P l f tmps assign body w R) : RoundIn (Fence.wide.inRound l') m P l f tmps assign body w R :=
  ⟨trivial, fun c cs _ => h.2 c cs (room_wide _)⟩
theorem cells_kept {W W' : World} {row : Option Nat} {B : Nat} (hg : W.grownBy W' row) (hr : ∀ r, row = some r → B ≤ r ∧ ∃ o : Obj, W.heap[r]? = some o ∧ o.isCells = false) {k : Nat} {cur : Array Value} {t : TypeId} {fr : Nat × Nat} (hc : W.heap[k]? = some (.cells cur t fr)) :
    W'.heap[k]? = some (.cells cur t fr) := by
  refine (hg.block k (lt_of_heap hc) (fun e => ?_)).trans hc
  obtain ⟨_, o, ho, hq⟩ := hr k e.symm
  rw [hc] at ho
  cases ho
  cases hq
def FTs (base : Nat) (τ : TypeId → Prop) (a : World) (k : Nat) : Prop := base ≤ k ∧ ∃ cur t, a.heap[k]? = some (.cells cur t (0, 0)) ∧ τ t
structure FT (base : Nat) (τ : TypeId → Prop) (a b : World) : Prop where
  fr : Fr (FTs base τ a) a b
  hb : base ≤ a.heap.size
section
variable {base : Nat} {τ : TypeId → Prop} {a b c : World}
theorem FT.refl (h : base ≤ a.heap.size) : FT base τ a a := ⟨Fr.refl _ _, h⟩
theorem FT.trans (h : FT base τ a b) (k : FT base τ b c) : FT base τ a c :=
  ⟨⟨k.fr.os.trans h.fr.os, k.fr.tape.trans h.fr.tape, k.fr.output.trans h.fr.output, Nat.le_trans h.fr.size k.fr.size, fun i hi hs => by
    have h1 := h.fr.block i hi hs
    refine (k.fr.block i (Nat.lt_of_lt_of_le hi h.fr.size) (fun q => hs ?_)).trans h1
    obtain ⟨q1, cur, t, q2, q3⟩ := q
    exact ⟨q1, cur, t, h1 ▸ q2, q3⟩⟩, h.hb⟩
theorem FT.below (h : FT base τ a b) : Below base a b := h.fr.below h.hb (fun _ q => q.1)
theorem FT.of_below (hb : base ≤ a.heap.size) (h : Below a.heap.size a b) : FT base τ a b := ⟨Fr.of_below h, hb⟩
theorem FT.set (hb : base ≤ a.heap.size) {k j : Nat} {cur : Array Value} {t : TypeId} (h : a.heap[k]? = some (.cells cur t (0, 0))) (ht : τ t) (hk : base ≤ k) (v : Value) : FT base τ a (a.setCell ⟨k, j, none⟩ v) :=
  ⟨(Fr.refl _ _).setCell (p := ⟨k, j, none⟩) ⟨hk, cur, t, h, ht⟩ v, hb⟩
theorem FT.keep (h : FT base τ a b) {k : Nat} {o : Obj} (hk : a.heap[k]? = some o) (hn : ∀ cur t, o = .cells cur t (0, 0) → ¬ τ t) : b.heap[k]? = some o :=
  (h.fr.block k (Array.getElem?_eq_some_iff.1 hk).1 (fun ⟨_, cur, t, q2, q3⟩ => hn cur t (by rw [hk] at q2; exact Option.some.inj q2) q3)).trans hk
theorem FT.keeps (h : FT base τ a b) (n : Nat) : KeepsFrom n a b := ⟨h.fr.size, fun k o _ hc ho => h.keep hc (fun cur t e => by subst e; cases ho)⟩
theorem FT.tkeep {N : Nat → TypeId → Prop} (h : FT base τ a b) (hn : ∀ k t, N k t → ¬ τ t) : TKeep N a b := h.fr.tkeep (fun k cur t fr hk hc hN => by
  obtain ⟨_, c2, t2, h2, h3⟩ := hk
  rw [hc] at h2
  injection h2 with h2
  injection h2 with _ h4 _
  exact hn k t hN (h4 ▸ h3))
theorem FT.mono {σ : TypeId → Prop} (h : FT base τ a b) (hs : ∀ t, τ t → σ t) : FT base σ a b := ⟨h.fr.mono (fun _ ⟨h1, cur, t, h2, h3⟩ => ⟨h1, cur, t, h2, hs t h3⟩), h.hb⟩
theorem FT.lower {base' : Nat} (h : FT base τ a b) (hs : base' ≤ base) : FT base' τ a b := ⟨h.fr.mono (fun _ ⟨h1, cur, t, h2, h3⟩ => ⟨Nat.le_trans hs h1, cur, t, h2, h3⟩), Nat.le_trans hs h.hb⟩
theorem FT.size (h : FT base τ a b) : a.heap.size ≤ b.heap.size := h.fr.size
theorem FT.grown (h : FT base τ a b) {B : Nat} {row : Option Nat} (hB : a.heap.size ≤ B) (hg : b.grownBy c row) (hr : ∀ r, row = some r → B ≤ r ∧ ∃ o : Obj, b.heap[r]? = some o ∧ o.isCells = false) : FT base τ a c :=
  ⟨⟨hg.os.trans h.fr.os, hg.tape.trans h.fr.tape, hg.output.trans h.fr.output, Nat.le_trans h.fr.size hg.size, fun i hi hs => (hg.block i (Nat.lt_of_lt_of_le hi h.fr.size) (fun e => by have := (hr i e.symm).1; omega)).trans (h.fr.block i hi hs)⟩, h.hb⟩
end
theorem keeps_le {B B' : Nat} {W W' : World} (h : KeepsFrom B W W') (hB : B ≤ B') : KeepsFrom B' W W' := ⟨h.size, fun k o hk hc ho => h.same k o (Nat.le_trans hB hk) hc ho⟩
theorem keeps_put {B : Nat} (W : World) {l : Nat} (o : Obj) (hl : l < B) : KeepsFrom B W (W.putObj l o) :=
  ⟨(grownBy_putObj' W l o).size, fun k _ hk hc _ => (World.putObj_heap_other (by omega)).trans hc⟩
theorem keeps_below {B : Nat} {W W' : World} (hb : Below W.heap.size W W') : KeepsFrom B W W' := ⟨hb.size, fun k _ _ hc _ => (hb.block k (lt_of_heap hc)).trans hc⟩
def Tells6 {α : Type} (n : Nat) (P : Program) (gf : Nat) (lb : Array Value) (encs : α → Array Value) (Inv : World → Prop) (τ : TypeId → Prop) (N : Nat → TypeId → Prop) (Told : List α → α → World → World → Prop) (S Sp : List α → Prop) (w : World) : Prop :=
  ∀ (l : Nat) (J Jx : List α → World → Prop) (J' : List α → α → World → Prop) (W : World), Below w.heap.size w W → OwnFrom W.heap.size J → OwnFrom W.heap.size Jx → (∀ pre x, OwnFrom W.heap.size (fun (_ : Unit) V => J' pre x V)) → (∀ pre V, J pre V → Inv V) → (∀ pre A B, J pre A → FT W.heap.size τ A B → J pre B) →
    (∀ pre x V0 V, J pre V0 → Told pre x V0 V → J' pre x V) →
    (∀ pre x V, J' pre x V → YieldAt Fence.wide (n - 1) P l (encs x) V fun e V' => KeepsFrom W.heap.size V V' ∧ ((e = .returned (.bool true) ∧ J (pre ++ [x]) V' ∧ TKeep N V V') ∨ (e = .returned (.bool false) ∧ Jx (pre ++ [x]) V'))) →
    J [] W → CallsIn Fence.wide n P gf (#[.func (.yield l) #[] #[]] ++ lb) W fun e V => (∃ v, e = .returned v) ∧ ((∃ xs, S xs ∧ J xs V) ∨ (∃ pre, Sp pre ∧ Jx pre V))
section
variable {α : Type} {P : Program}
def Rc (D : Nat) (r : Loop) (W : World) : Prop := W.heap[D + 1]? = some (.loop r) ∧ W.heap[D]? = some (.deferred (some []))
theorem Rc.below {D : Nat} {r : Loop} {W W' : World} (h : Rc D r W) (hb : Below W.heap.size W W') : Rc D r W' :=
  ⟨(hb.block _ (lt_of_heap h.1)).trans h.1, (hb.block _ (lt_of_heap h.2)).trans h.2⟩
theorem Rc.from {D : Nat} {r : Loop} {W W' : World} (h : Rc D r W) (hk : KeepsFrom D W W') : Rc D r W' := ⟨hk.same _ _ (by omega) h.1 rfl, hk.same _ _ (Nat.le_refl _) h.2 rfl⟩
theorem Rc.put {D : Nat} {r : Loop} {W : World} (h : Rc D r W) (r' : Loop) : Rc D r' (W.putObj (D + 1) (.loop r')) :=
  ⟨World.putObj_heap_same (lt_of_heap h.1), (World.putObj_heap_other (by omega)).trans h.2⟩
def CellsOnly (A B : World) : Prop := ∀ (k : Nat) (o : Obj), A.heap[k]? = some o → o.isCells = false → B.heap[k]? = some o
theorem CellsOnly.trans {A B C : World} (h : CellsOnly A B) (k : CellsOnly B C) : CellsOnly A C := fun i o hi hc => k i o (h i o hi hc) hc
theorem CellsOnly.below {A B : World} (h : Below A.heap.size A B) : CellsOnly A B := fun k _ hk _ => (h.block k (lt_of_heap hk)).trans hk
theorem CellsOnly.keeps {A B : World} (h : CellsOnly A B) (hs : A.heap.size ≤ B.heap.size) (n : Nat) : KeepsFrom n A B := ⟨hs, fun k o _ hc ho => h k o hc ho⟩
theorem rc_own {β : Type} {D : Nat} (r : Loop) : OwnFrom (D + 2) (fun (_ : β) W => Rc D r W) := fun _ A B row h hg hrow =>
  ⟨(hg.block _ (lt_of_heap h.1) (fun e => by have := (hrow _ e.symm).1; omega)).trans h.1, (hg.block _ (lt_of_heap h.2) (fun e => by have := (hrow _ e.symm).1; omega)).trans h.2⟩
theorem Rc.only {D : Nat} {r : Loop} {W W' : World} (h : Rc D r W) (hk : CellsOnly W W') : Rc D r W' := ⟨hk _ _ h.1 rfl, hk _ _ h.2 rfl⟩
theorem cellsOnly_set {W : World} {k j : Nat} {cur : Array Value} {t : TypeId} {fr : Nat × Nat} (h : W.heap[k]? = some (.cells cur t fr)) (v : Value) : CellsOnly W (W.setCell ⟨k, j, none⟩ v) := fun i _ hi hc => by
  have hne : i ≠ k := fun e => by subst e; rw [h] at hi; cases hi; cases hc
  exact (Below.heap_setCell _ _ _ _ hne).trans hi
theorem round_ends6 {D : Nat} {N : Nat → TypeId → Prop} {r : Loop} {I : List α → World → Prop} {Ix : Code → List α → World → Prop} {xs : List α} {V W W3 : World} {e : Exit} {a3 : Act}
    (hI : OwnFrom D I) (hIx : ∀ c, OwnFrom D (Ix c)) (hc : TKeep N V W) (hr : Rc D { r with state := .busy } W)
    (hv : KeepsFrom (D + 2) V W) (hp : ownPostG D (TKeep N) I Ix xs W e a3 W3) : roundPost P (D + 1) (fun e V' => KeepsFrom (D + 2) V V' ∧ ((e = .returned (.bool true) ∧ (I xs V' ∧ Rc D { r with state := .ready, pending := none } V') ∧ TKeep N V V') ∨ (e = .returned (.bool false) ∧ ∃ c, Ix c xs V' ∧ Rc D { r with state := .done, pending := some c } V'))) e a3 W3 := by
  have out : ∀ c : Code, KeepsFrom D W W3 → Ix c xs W3 → ∃ v V', (Instr.endRound (D + 1) (some c)).run P W3 = .ok v V' ∧ (KeepsFrom (D + 2) V V' ∧ ((Ending.returned v = .returned (.bool true) ∧ (I xs V' ∧ Rc D { r with state := .ready, pending := none } V') ∧ TKeep N V V') ∨ (Ending.returned v = .returned (.bool false) ∧ ∃ c, Ix c xs V' ∧ Rc D { r with state := .done, pending := some c } V'))) := fun c hk hi => by
    have h3 := hr.from hk
    exact ⟨_, _, run_endRound (some c) h3.1, (hv.trans (keeps_le hk (by omega))).trans (keeps_put _ _ (by omega)), .inr ⟨rfl, c, (hIx c).putObj _ hi (by omega) h3.1 rfl, h3.put _⟩⟩
  cases e with
  | normal =>
    obtain ⟨hk, hkp, hi⟩ := hp
    have h3 := hr.from hk
    exact ⟨_, _, run_endRound none h3.1, (hv.trans (keeps_le hk (by omega))).trans (keeps_put _ _ (by omega)), .inl ⟨rfl, ⟨hI.putObj _ hi (by omega) h3.1 rfl, h3.put _⟩, (hc.trans hkp).trans (TKeep.put _ h3.1 rfl)⟩⟩
  | ret => exact out .ret hp.1 hp.2
  | exit id => exact out (.exit id) hp.1 hp.2
  | goto t => exact out (.goto t) hp.1 hp.2
  | panic ch => exact hp.elim
  | outgrown => exact hp.elim
theorem range_told6 {g : Operand} {ps : Array Tmp} {assign body : Code} {Q : Exit → Act → World → Prop} {a : Act} {w : World} {n : Nat} (h1 : 1 ≤ n) {gf : Nat} {lb : Array Value}
    (hg : a.eval g = .func (.func gf) #[] lb) (eg : ∀ args w, (callFunc gf args).run P w = .ok (.enter gf args) w) {encs : α → Array Value} (hps : ∀ x, (encs x).size = ps.size)
    {Inv : World → Prop} {τ : TypeId → Prop} {N : Nat → TypeId → Prop} {Told : List α → α → World → World → Prop} {S Sp : List α → Prop} (hseq : Tells6 (n - 1) P gf lb encs Inv τ N Told S Sp w)
    (I : List α → World → Prop) (I' : List α → α → World → Prop) (Ix : Code → List α → World → Prop) (hI : OwnFrom w.heap.size I) (hI' : ∀ pre x, OwnFrom w.heap.size (fun (_ : Unit) W => I' pre x W)) (hIx : ∀ c, OwnFrom w.heap.size (Ix c)) (hInv : ∀ pre V, I pre V → Inv V) (hFT : ∀ pre A B, I pre A → FT w.heap.size τ A B → I pre B)
    (hco : ∀ pre x V0 V, Told pre x V0 V → CellsOnly V0 V) (hT : ∀ pre x V0 V, I pre V0 → Told pre x V0 V → I' pre x V) (h0 : I [] w) (a₁ : α → Act)
    (hassign : ∀ (l : Nat) (x : α) (W : World) (K : Act → World → Prop), K (a₁ x) W →
      assign.wpIn (Fence.wide.inRound l) (n - 1 - 1) P (Exit.then K (fun _ _ _ => False)) { tmps := (ps.zip (encs x)).foldl (fun t (p, v) => t.setIfInBounds p v) a.tmps, defers := [] } W)
    (hbody : ∀ (l : Nat) (pre : List α) (x : α) (W : World), I' pre x W → body.wpIn (Fence.wide.inRound l) (n - 1 - 1) P (ownPostG w.heap.size (TKeep N) I Ix (pre ++ [x]) W) (a₁ x) W)
    (hdone : ∀ (D : Nat) (xs : List α) (W : World), w.heap.size ≤ D → S xs → I xs W → W.heap[D]? = some (.deferred (some [])) → Q .normal { a with defers := { target := .collected D, args := #[] } :: a.defers } W)
    (hstop : ∀ (D : Nat) (c : Code) (pre : List α) (W : World), w.heap.size ≤ D → Sp pre → Ix c pre W → W.heap[D]? = some (.deferred (some [])) → c.wpIn Fence.wide n P Q { a with defers := { target := .collected D, args := #[] } :: a.defers } W) :
    (Code.rangeFunc g ps assign body).wpIn Fence.wide n P Q a w := by
  refine wpIn_rangeFunc fun fn hfn => ?_
  let r : Loop := { state := .ready, pending := none, fn := fn, tmps := a.tmps, params := ps, assign := assign, body := body, defers := w.heap.size }
  have hB : Below w.heap.size w ((w.alloc (.deferred (some []))).alloc (.loop r)) := ((Below.refl _ _).alloc (Nat.le_refl _) _).alloc (by simp) _
  have hR : Rc w.heap.size r ((w.alloc (.deferred (some []))).alloc (.loop r)) := by
    refine ⟨?_, (Below.heap_alloc _ _ _ (by simp)).trans (World.alloc_heap_new w _)⟩
    have := World.alloc_heap_new (w.alloc (.deferred (some []))) (.loop r)
    rwa [World.size_alloc] at this
  refine ⟨w.heap.size + 1, [{ target := .collected w.heap.size, args := #[] }], ((w.alloc (.deferred (some []))).alloc (.loop r)), { target := .fn (.func gf) lb, args := #[.func (.yield (w.heap.size + 1)) #[] #[]] }, ((w.alloc (.deferred (some []))).alloc (.loop r)), gf, #[.func (.yield (w.heap.size + 1)) #[] #[]] ++ lb, ((w.alloc (.deferred (some []))).alloc (.loop r)),
    run_enterLoop_outer _ _ _ _ _, ?_, fun _ _ => trivial, ?_, fun _ => h1, ?_⟩
  · simp only [resolve, hg]
    simp [go_sem]
  · simp [invoke, go_sem, eg]
  · have hz : ((w.alloc (.deferred (some []))).alloc (.loop r)).heap.size = w.heap.size + 2 := by simp
    refine (hseq (w.heap.size + 1) (fun pre W => I pre W ∧ Rc w.heap.size r W) (fun pre W => ∃ c, Ix c pre W ∧ Rc w.heap.size { r with state := .done, pending := some c } W) (fun pre x W => I' pre x W ∧ Rc w.heap.size r W) _ hB
      ?_ ?_ ?_ (fun pre V h => hInv pre V h.1) (fun pre A B h hf => ⟨hFT pre A B h.1 (hf.lower (by rw [hz]; omega)), h.2.only (fun k o hk hc => hf.keep hk (fun cur t e => by subst e; cases hc))⟩) (fun pre x V0 V h ht => ⟨hT pre x V0 V h.1 ht, h.2.only (hco pre x V0 V ht)⟩) ?_ ⟨hI.alloc _ (hI.alloc _ h0), hR⟩).mono ?_
    · rw [hz]
      exact (ownFrom_le hI (by omega)).and (rc_own _)
    · rw [hz]
      rintro pre A B row ⟨c, hi, hr⟩ hg hrow
      exact ⟨c, ownFrom_le (hIx c) (by omega) pre A B row hi hg hrow, rc_own (β := Unit) _ () A B row hr hg hrow⟩
    · rw [hz]
      intro pre x
      exact (ownFrom_le (hI' pre x) (by omega)).and (rc_own _)
    · rw [hz]
      rintro pre x V ⟨hi, hr⟩
      refine ⟨fn, _, assign, body, run_yield hr.1 (hps x), roundIn_of_wpIn hfn (hassign _ x V _ ?_)⟩
      refine ⟨_, run_beginRound hr.1 rfl, ?_⟩
      have hr2 : Rc w.heap.size { r with state := .busy } (V.putObj (w.heap.size + 1) (.loop { r with state := .busy })) := hr.put _
      exact wpIn_mono (hbody _ pre x _ ((hI' pre x).putObj (s := ()) _ hi (by omega) hr.1 rfl)) fun e a3 W3 hp =>
        round_ends6 (r := r) hI hIx (TKeep.put _ hr.1 rfl) hr2 (keeps_put _ _ (by omega)) hp
    · rintro e V ⟨⟨v, rfl⟩, (⟨xs, hS, hi, hr⟩ | ⟨pre, hSp, c, hi, hr⟩)⟩
      · exact ⟨none, _, run_endLoop hr.1 (by simp [r]), hdone _ xs _ (Nat.le_refl _) hS (hI.putObj _ hi (by omega) hr.1 rfl) ((World.putObj_heap_other (by omega)).trans hr.2)⟩
      · exact ⟨some c, _, run_endLoop hr.1 (by simp), hstop _ c pre _ (Nat.le_refl _) hSp ((hIx c).putObj _ hi (by omega) hr.1 rfl) ((World.putObj_heap_other (by omega)).trans hr.2)⟩
end
end Go.Proofs.YtaikcnoiaaiopaaDoor
namespace Go.Proofs.YtaikcnoiaaiopaaDoor
open Go
def z1_unr (P : Program) (c : Code) (Q : Exit → Act → World → Prop) : Nat → Act → World → Prop
  | 0, _, _ => False
  | n + 1, a, w => c.wp P (Exit.then (z1_unr P c Q n) Q) a w
theorem z1_unr_succ {P : Program} {c : Code} {Q : Exit → Act → World → Prop} {n : Nat} {a : Act} {w : World}
    (h : c.wp P (Exit.then (z1_unr P c Q n) Q) a w) : z1_unr P c Q (n + 1) a w := h
theorem z1_least_of {p : Nat → Prop} : ∀ n, p n → ∃ m, p m ∧ ∀ k, p k → m ≤ k := by
  intro n
  induction n using Nat.strongRecOn with
  | _ n ih =>
    intro h
    by_cases g : ∃ k, k < n ∧ p k
    · obtain ⟨k, hk, hp⟩ := g
      exact ih k hk hp
    · exact ⟨n, h, fun k hk => Nat.le_of_not_lt fun hlt => g ⟨k, hlt, hk⟩⟩
open Classical in
noncomputable def z1_leastOf (p : Nat → Prop) : Nat := if h : ∃ m, p m ∧ ∀ k, p k → m ≤ k then Classical.choose h else 0
theorem z1_leastOf_spec {p : Nat → Prop} {n : Nat} (h : p n) : p (z1_leastOf p) ∧ ∀ k, p k → z1_leastOf p ≤ k := by
  have g := z1_least_of n h
  unfold z1_leastOf
  rw [dif_pos g]
  exact Classical.choose_spec g
theorem z1_wp_loop_unr {P : Program} {c : Code} {Q : Exit → Act → World → Prop} (n : Nat) {a : Act} {w : World}
    (h : z1_unr P c Q n a w) : (Code.loop c).wp P Q a w := by
  refine wp_loop (fun a w => ∃ n, z1_unr P c Q n a w) (fun a w => z1_leastOf fun n => z1_unr P c Q n a w) ⟨n, h⟩ ?_
  rintro a w ⟨n, hn⟩
  obtain ⟨hs, -⟩ := z1_leastOf_spec (p := fun n => z1_unr P c Q n a w) hn
  generalize z1_leastOf (fun n => z1_unr P c Q n a w) = m at hs
  cases m with
  | zero => exact hs.elim
  | succ m =>
    refine wp_mono (show c.wp P (Exit.then (z1_unr P c Q m) Q) a w from hs) ?_
    intro e a' w' he
    cases e with
    | normal => exact ⟨⟨m, he⟩, Nat.lt_succ_of_le ((z1_leastOf_spec (p := fun n => z1_unr P c Q n a' w') (n := m) he).2 m he)⟩
    | exit id => exact he
    | goto l => exact he
    | ret => exact he
    | panic ch => exact he
    | outgrown => exact he
end Go.Proofs.YtaikcnoiaaiopaaDoor
