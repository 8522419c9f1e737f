/-
  What a range's invariant leans on: cells that stay; regions that draw their order, inside a round.
-/
import Derived.Test.YtmfljfedpdipiaaAll
import Derived.Test.YtmfljfedpdipiaaLawWide
namespace Go.Proofs.Ytmfljfedpdipiaa
open Go Go.RowKit Go.Shelf

theorem cells_kept {W W' : World} {row : Option Nat} {B : Nat} (hg : W.grownBy W' row) (hr : ∀ r, row = some r → B ≤ r ∧ ∃ o : Obj, W.heap[r]? = some o ∧ o.isCells = false) {k : Nat} {cur : Array Value} {t : TypeId} {fr : Nat × Nat} (hc : W.heap[k]? = some (.cells cur t fr)) :
    W'.heap[k]? = some (.cells cur t fr) := by
  refine (hg.block k (lt_of_heap hc) (fun e => ?_)).trans hc
  obtain ⟨_, o, ho, hq⟩ := hr k e.symm
  rw [hc] at ho
  cases ho
  cases hq
/-- A table speaks of cells alone. -/
theorem TM.cells {w w' : World} {b pb W M : Nat} {P : Pl} {m : List Int → Option Int} (h : TM w b pb W M P m) (hc : ∀ (k : Nat) (cur : Array Value) (t : TypeId), w.heap[k]? = some (.cells cur t (0, 0)) → w'.heap[k]? = some (.cells cur t (0, 0))) : TM w' b pb W M P m :=
  ⟨⟨hc _ _ _ h.t.hb, fun hP => hc _ _ _ (h.t.hp hP), fun i e hi => ⟨by obtain ⟨g, e1, hg⟩ := (h.t.hk i e hi).1; exact ⟨g, e1, hc _ _ _ hg⟩, (h.t.hk i e hi).2⟩, h.t.hn, h.t.hW, h.t.hM⟩, h.p, h.m, h.few⟩
theorem kblk_lt {w : World} {b pb W M : Nat} {P : Pl} {m : List Int → Option Int} (h : TM w b pb W M P m) {k : Nat} (hk : kblk P k) : k < w.heap.size := by
  obtain ⟨i, e, o, n, mm, hi, hkv⟩ := hk
  obtain ⟨g, e1, hg⟩ := (h.t.hk i e hi).1
  rw [e1] at hkv
  cases hkv
  exact lt_of_heap hg
/-- What is written in other blocks does not show in a table. -/
theorem TM.fr {S : Nat → Prop} {w w' : World} {b pb W M : Nat} {P : Pl} {m : List Int → Option Int} (h : TM w b pb W M P m) (hf : Fr S w w') (h1 : ¬ S b) (h2 : P ≠ [] → ¬ S pb) (h3 : ∀ k, S k → ¬ kblk P k) : TM w' b pb W M P m :=
  ⟨h.t.fr hf h1 h2 (fun k hk i e hi q n mm he => h3 k hk ⟨i, e, q, n, mm, hi, he⟩), h.p, h.m, h.few⟩

theorem upon_round {l n : Nat} {P : Program} {o : Oper} {a : Act} {K : Act → World → Prop} {Q : Exit → Act → World → Prop} {r : Result Next} (h : o.upon P a K Q r) : o.uponIn (Fence.wide.inRound l) n P a K Q r := by
  match r, h with
  | .ok (.value v) w', h => exact h
  | .ok .skip w', h => exact h
  | .ok (.defer d) w', h => exact h
  | .ok (.enter f args) w', h => exact ⟨fun q => (by cases q), CallsIn.inRound l (callsIn_wide.2 h)⟩
  | .ok (.row row args) w', h =>
    refine ⟨fun q => (by cases q), fun c cs _ => ?_⟩
    obtain ⟨v, w'', h1, h2⟩ := h c cs
    exact ⟨v, w'', h1, stepsIn_wide.2 h2⟩
  | .halt (.panic v) w', h => exact h

theorem oper_round {l n : Nat} {P : Program} {o : Oper} {a : Act} {w : World} {K : Act → World → Prop} {Q : Exit → Act → World → Prop} (hd : ∀ c, o.op ≠ .defer c) (h : o.wp P a w K Q) : o.wpIn (Fence.wide.inRound l) n P a w K Q := by
  refine ⟨fun f _ => trivial, ?_⟩
  rw [Oper.semAt_eq _ _ _ hd]
  exact upon_round h

theorem any_round {l n : Nat} {P : Program} {md : Region.Mode} {ops : Array Oper} {Q : Exit → Act → World → Prop} (hd : ∀ o ∈ ops, ∀ c, o.op ≠ .defer c) (hL : ¬ LetsOut Q) : ∀ (fuel : Nat) (listed : Array Bool) (a : Act) (w : World), wpAny P md ops Q fuel listed a w → wpAnyIn (Fence.wide.inRound l) n P md ops Q fuel listed a w
  | 0, _, _, _, h => h
  | fuel + 1, listed, a, w, h => by
    refine ⟨h.1, fun i hi => ?_⟩
    have q := h.2 i hi
    unfold wpOp at q
    unfold wpOpIn
    cases ho : ops[i]? with
    | none => rw [ho] at q; exact any_round hd hL fuel _ a w q
    | some o =>
      rw [ho] at q
      dsimp only at q ⊢
      by_cases hw : Region.wanted o (yielded ops a.tmps) = true
      · rw [if_pos hw] at q ⊢
        exact Oper.wpIn_mono (fun a' w' h' => any_round hd hL fuel _ a' w' h') (oper_round (hd o (Array.mem_of_getElem? ho)) (q.resolve_right (fun z => hL z.2)))
      · rw [if_neg hw] at q ⊢
        exact ⟨fun f _ => trivial, any_round hd hL fuel _ _ w q⟩

/-- No operation of the list is a defer statement. -/
def noDefer (l : List Oper) : Bool := l.all fun o => match o.op with | .defer _ => false | _ => true
theorem noDefer_spec {l : List Oper} (h : noDefer l = true) : ∀ o ∈ l.toArray, ∀ c, o.op ≠ .defer c := fun o ho c e => by
  unfold noDefer at h
  rw [List.all_eq_true] at h
  have := h o (by simpa using ho)
  rw [e] at this
  cases this

/-- A region inside a round, by one walk in the text's order, where it only reads or calls what makes memory. -/
theorem wpIn_region_ext {P : Program} {id l n : Nat} {Q : Exit → Act → World → Prop} {a : Act} {w : World} {ops : List Oper} (hm : P.follows .mixedOrders = true) (hB : Region.lexB .any ops.toArray = true) (hd : noDefer ops = true) (hL : ¬ LetsOut Q)
    (h : wpQuiet P ops.toArray (fun w' => ∃ x : Ext w, w' = x.val) (fun a' => ∀ w', (∃ x : Ext w, w' = x.val) → Q .normal a' w') ops a) : (Code.region id ops.toArray true).wpIn (Fence.wide.inRound l) n P Q a w := by
  have hC : (fun w' => ∃ x : Ext w, w' = x.val) { w with drawn := w.drawn + 1 } := ⟨⟨w.drew, (Below.refl _ _).drew⟩, rfl⟩
  simp only [Region.lexB, Bool.and_eq_true] at hB
  refine wpIn_region_any hm (any_round (noDefer_spec hd) hL _ _ _ _ (wpAny_of_quiet (C := fun w' => ∃ x : Ext w, w' = x.val) (Q := fun a' => ∀ w', (∃ x : Ext w, w' = x.val) → Q .normal a' w') (fun _ w' hw' h => h w' hw') _ _ _ _ hC ?_))
  have := wpAnyQ_lex (C := fun w' => ∃ x : Ext w, w' = x.val) (md := .any) hB.1 ops 0 (Array.replicate ops.length false) a (by simp) (by simpa using hB.2) h
  simpa using this
theorem toldA_own {n0 : Nat} {m : List Int → Option Int} {W c B : Nat} (pre : List Hd) (x : Hd) : OwnFrom B (fun (_ : Unit) V => ToldA n0 m W c pre x V) := fun _ _ _ _ h hg hr => ⟨cells_kept hg hr h.1, h.2⟩
/-- The frame in a round; behind the loop. -/
def roundAct2 (a : Act) (q1 q2 d1 d2 : Nat) (x : Hd) : Act := { tmps := (((a.tmps.setIfInBounds q1 (.slice (some ⟨x.1, 0, none⟩) x.2.1.length x.2.1.length)).setIfInBounds q2 (.int .i64 x.2.2)).setIfInBounds d1 (.slice (some ⟨x.1, 0, none⟩) x.2.1.length x.2.1.length)).setIfInBounds d2 (.int .i64 x.2.2), defers := [] }
def behindAct (a : Act) (D : Nat) : Act := { a with defers := { target := .collected D, args := #[] } :: a.defers }
/-- A range over All. -/
theorem all_range {g : Operand} {ps : Array Tmp} {assign body : Code} {Q : Exit → Act → World → Prop} {a : Act} {w : World} {n : Nat} (hn : 3 ≤ n) (q1 q2 d1 d2 : Nat) (B : Nat) {b pb W M : Nat} {P : Pl} {m : List Int → Option Int}
    (hg : a.eval g = .func (.func 15) #[] #[.pointer (some ⟨B, 0, none⟩)]) (hps : ps = #[q1, q2]) (hB : Boxed w B 25 (.pointer (some ⟨b, 0, none⟩))) (hM : TM w b pb W M P m)
    (I : List Hd → World → Prop) (Ix : Code → List Hd → World → Prop) (hI : OwnFrom w.heap.size I) (hIx : ∀ c, OwnFrom w.heap.size (Ix c)) (h0 : I [] w)
    (hassign : ∀ (l : Nat) (x : Hd) (V : World) (K : Act → World → Prop), K (roundAct2 a q1 q2 d1 d2 x) V →
      assign.wpIn (Fence.wide.inRound l) (n - 1 - 1) Try.prog (Exit.then K (fun _ _ _ => False)) { tmps := (a.tmps.setIfInBounds q1 (.slice (some ⟨x.1, 0, none⟩) x.2.1.length x.2.1.length)).setIfInBounds q2 (.int .i64 x.2.2), defers := [] } V)
    (hbody : ∀ (l : Nat) (pre : List Hd) (x : Hd) (V : World), I pre V → ToldA w.heap.size m W (cnt P) pre x V → body.wpIn (Fence.wide.inRound l) (n - 1 - 1) Try.prog (ownPostG w.heap.size (CKeep fun k => w.heap.size ≤ k ∨ kblk P k) I Ix (pre ++ [x]) V) (roundAct2 a q1 q2 d1 d2 x) V)
    (hdone : ∀ (D : Nat) (xs : List Hd) (V : World), w.heap.size ≤ D → IsAll m (cnt P) (xs.map (·.2)) → I xs V → V.heap[D]? = some (.deferred (some [])) → Q .normal (behindAct a D) V)
    (hstop : ∀ (D : Nat) (c : Code) (pre : List Hd) (V : World), w.heap.size ≤ D → IsPre m (pre.map (·.2)) → Ix c pre V → V.heap[D]? = some (.deferred (some [])) → c.wpIn Fence.wide n Try.prog Q (behindAct a D) V) :
    (Code.rangeFunc g ps assign body).wpIn Fence.wide n Try.prog Q a w := by
  subst hps
  exact range_told (α := Hd) (by omega) (gf := 15) hg (enters_of Try.func15 (by kernel_rfl) rfl) (encs := encH) (fun _ => rfl)
    (all_tells (n - 1) (by omega) hB.cell hB.lt hM) I Ix hI hIx (fun pre x => toldA_own pre x) h0 (roundAct2 a q1 q2 d1 d2)
    (fun l x V K hK => by have := hassign l x V K hK; simpa [encH] using this) hbody hdone hstop
end Go.Proofs.Ytmfljfedpdipiaa
