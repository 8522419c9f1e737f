/-
  Regions that draw their order, inside a round; things as they come in; a pile of things beside boxes.
-/
import Derived.Test.YtobeiigmeflbjaaAll4
import Derived.Test.YtobeiigmeflbjaaNoPanic
namespace Go.Proofs.Ytobeiigmeflbjaa
open Go Go.RowKit Go.Shelf

theorem upon_round {l n : Nat} {P : Program} {o : Oper} {a : Act} {K : Act → World → Prop} {Q : Exit → Act → World → Prop} {r : Result Next} (h : o.upon P a K Q r) : o.uponIn (Fence.wide.inRound l) n P a K Q r := by
  match r, h with
  | .ok (.value v) w', h => exact h
  | .ok .skip w', h => exact h
  | .ok (.defer d) w', h => exact h
  | .ok (.enter f args) w', h => exact ⟨fun q => (by cases q), CallsIn.inRound l (callsIn_wide.2 h)⟩
  | .ok (.row row args) w', h =>
    refine ⟨fun q => (by cases q), fun c cs _ => ?_⟩
    obtain ⟨v, w'', h1, h2⟩ := h c cs
    exact ⟨v, w'', h1, stepsIn_wide.2 h2⟩
  | .halt (.panic v) w', h => exact h

theorem oper_round {l n : Nat} {P : Program} {o : Oper} {a : Act} {w : World} {K : Act → World → Prop} {Q : Exit → Act → World → Prop} (hd : ∀ c, o.op ≠ .defer c) (h : o.wp P a w K Q) : o.wpIn (Fence.wide.inRound l) n P a w K Q := by
  refine ⟨fun f _ => trivial, ?_⟩
  rw [Oper.semAt_eq _ _ _ hd]
  exact upon_round h

theorem any_round {l n : Nat} {P : Program} {md : Region.Mode} {ops : Array Oper} {Q : Exit → Act → World → Prop} (hd : ∀ o ∈ ops, ∀ c, o.op ≠ .defer c) (hL : ¬ LetsOut Q) : ∀ (fuel : Nat) (listed : Array Bool) (a : Act) (w : World), wpAny P md ops Q fuel listed a w → wpAnyIn (Fence.wide.inRound l) n P md ops Q fuel listed a w
  | 0, _, _, _, h => h
  | fuel + 1, listed, a, w, h => by
    refine ⟨h.1, fun i hi => ?_⟩
    have q := h.2 i hi
    unfold wpOp at q
    unfold wpOpIn
    cases ho : ops[i]? with
    | none => rw [ho] at q; exact any_round hd hL fuel _ a w q
    | some o =>
      rw [ho] at q
      dsimp only at q ⊢
      by_cases hw : Region.wanted o (yielded ops a.tmps) = true
      · rw [if_pos hw] at q ⊢
        exact Oper.wpIn_mono (fun a' w' h' => any_round hd hL fuel _ a' w' h') (oper_round (hd o (Array.mem_of_getElem? ho)) (q.resolve_right (fun z => hL z.2)))
      · rw [if_neg hw] at q ⊢
        exact ⟨fun f _ => trivial, any_round hd hL fuel _ _ w q⟩

/-- No operation of the list is a defer statement. -/
def noDefer (l : List Oper) : Bool := l.all fun o => match o.op with | .defer _ => false | _ => true
theorem noDefer_spec {l : List Oper} (h : noDefer l = true) : ∀ o ∈ l.toArray, ∀ c, o.op ≠ .defer c := fun o ho c e => by
  unfold noDefer at h
  rw [List.all_eq_true] at h
  have := h o (by simpa using ho)
  rw [e] at this
  cases this

/-- A region inside a round, by one walk in the text's order, where it only reads or calls what makes memory. -/
theorem wpIn_region_ext {P : Program} {id l n : Nat} {Q : Exit → Act → World → Prop} {a : Act} {w : World} {ops : List Oper} (hm : P.follows .mixedOrders = true) (hB : Region.lexB .any ops.toArray = true) (hd : noDefer ops = true) (hL : ¬ LetsOut Q)
    (h : wpQuiet P ops.toArray (fun w' => ∃ x : Ext w, w' = x.val) (fun a' => ∀ w', (∃ x : Ext w, w' = x.val) → Q .normal a' w') ops a) : (Code.region id ops.toArray true).wpIn (Fence.wide.inRound l) n P Q a w := by
  have hC : (fun w' => ∃ x : Ext w, w' = x.val) { w with drawn := w.drawn + 1 } := ⟨⟨w.drew, (Below.refl _ _).drew⟩, rfl⟩
  simp only [Region.lexB, Bool.and_eq_true] at hB
  refine wpIn_region_any hm (any_round (noDefer_spec hd) hL _ _ _ _ (wpAny_of_quiet (C := fun w' => ∃ x : Ext w, w' = x.val) (Q := fun a' => ∀ w', (∃ x : Ext w, w' = x.val) → Q .normal a' w') (fun _ w' hw' h => h w' hw') _ _ _ _ hC ?_))
  have := wpAnyQ_lex (C := fun w' => ∃ x : Ext w, w' = x.val) (md := .any) hB.1 ops 0 (Array.replicate ops.length false) a (by simp) (by simpa using hB.2) h
  simpa using this

/-- A list of things that came in. -/
def ArgT (W : World) (v : Value) (ls : List Th) : Prop :=
  (∃ p cap, v = .slice p 0 cap ∧ ls = []) ∨ ∃ g off cap, v = .slice (some ⟨g, off, none⟩) ls.length cap ∧ g < W.heap.size ∧ ls.length ≤ cap ∧ cap ≤ maxLen ∧ ∀ (i : Nat) (x : Th), ls[i]? = some x →
    W.cell? ⟨g, off + i * 2, none⟩ = some (.int .i64 x.1) ∧ W.cell? ⟨g, off + i * 2 + 1, none⟩ = some (.string x.2)
theorem ArgT.slice {W : World} {v : Value} {ls : List Th} (h : ArgT W v ls) : ∃ q cap, v = .slice q ls.length cap ∧ ls.length ≤ maxLen ∧ (ls ≠ [] → ls.length ≤ cap) ∧ ∀ (i : Nat) (x : Th), ls[i]? = some x → ∃ g off, q = some ⟨g, off, none⟩ ∧ g < W.heap.size ∧
    W.cell? ⟨g, off + i * 2, none⟩ = some (.int .i64 x.1) ∧ W.cell? ⟨g, off + i * 2 + 1, none⟩ = some (.string x.2) := by
  rcases h with ⟨p, cap, rfl, rfl⟩ | ⟨g, off, cap, rfl, hg, hl, hm, hc⟩
  · exact ⟨p, cap, rfl, Nat.zero_le _, fun h => absurd rfl h, fun i x hx => by simp at hx⟩
  · exact ⟨_, cap, rfl, Nat.le_trans hl hm, fun _ => hl, fun i x hx => ⟨g, off, rfl, hg, hc i x hx⟩⟩

theorem PT.cells {base : Nat} {W W' : World} {b : Nat} {v : Value} {L : List Th} (h : PT base W b v L) (hc : ∀ (k : Nat) (cur : Array Value) (t : TypeId), W.heap[k]? = some (.cells cur t (0, 0)) → W'.heap[k]? = some (.cells cur t (0, 0))) : PT base W' b v L := by
  refine ⟨hc _ _ _ h.hb, h.lo, h.own.1, ?_⟩
  rcases h.own.2 with q | ⟨g, cap, cur, q1, q2, q3, q4⟩
  · exact .inl q
  · exact .inr ⟨g, cap, cur, q1, q2, hc _ _ _ q3, q4⟩
theorem below_row {n B : Nat} {w W W' : World} {row : Option Nat} (h : Below n w W) (hn : n ≤ w.heap.size) (hB : n ≤ B) (hg : W.grownBy W' row) (hr : ∀ r, row = some r → B ≤ r ∧ ∃ o : Obj, W.heap[r]? = some o ∧ o.isCells = false) : Below n w W' :=
  h.trans ⟨hg.os, hg.tape, hg.output, hg.size, fun k hk => hg.block k (by have := h.size; omega) (fun e => by have := (hr k e.symm).1; omega)⟩

/-- A pile of things beside the law's boxes: the list that came in, the answer, the pile. -/
structure FS (n : Nat) (w : World) (BL BR BP pb : Nat) (sv v : Value) (L : List Th) (W : World) : Prop where
  p : PT n W pb v L
  bl : W.heap[BL]? = some (.cells #[sv] 29 (0, 0))
  br : W.heap[BR]? = some (.cells #[.bool false] 4 (0, 0))
  bp : W.heap[BP]? = some (.cells #[.pointer (some ⟨pb, 0, none⟩)] 25 (0, 0))
  bel : Below n w W
  hn : n ≤ w.heap.size
section
variable {n : Nat} {w : World} {BL BR BP pb : Nat} {sv v v' : Value} {L L' : List Th} {W W' : World}
theorem pt_other {base : Nat} (p : PT base W pb v L) {k : Nat} {cs : Array Value} {t : TypeId} (hk : W.heap[k]? = some (.cells cs t (0, 0))) (h1 : t ≠ 75) (h2 : t ≠ 28) : ¬ foot pb v k := by
  rintro (q | q)
  · exact ne_type hk p.hb h1 q
  · exact ownsRow_not p.own hk h2 q
theorem FS.len (h : FS n w BL BR BP pb sv v L W) : n ≤ W.heap.size := Nat.le_trans h.hn h.bel.size
theorem FS.kept (h : FS n w BL BR BP pb sv v L W) (hb : Below W.heap.size W W') : FS n w BL BR BP pb sv v L W' :=
  ⟨h.p.kept hb, (hb.block _ (lt_of_heap h.bl)).trans h.bl, (hb.block _ (lt_of_heap h.br)).trans h.br, (hb.block _ (lt_of_heap h.bp)).trans h.bp, chain h.bel hb h.hn, h.hn⟩
theorem FS.pile (h : FS n w BL BR BP pb sv v L W) (hp : PT n W' pb v' L') (hf : Fr (foot pb v) W W') : FS n w BL BR BP pb sv v' L' W' :=
  ⟨hp, (hf.block _ (lt_of_heap h.bl) (pt_other h.p h.bl (by decide) (by decide))).trans h.bl, (hf.block _ (lt_of_heap h.br) (pt_other h.p h.br (by decide) (by decide))).trans h.br, (hf.block _ (lt_of_heap h.bp) (pt_other h.p h.bp (by decide) (by decide))).trans h.bp, chainF h.bel hf h.hn h.p.foot, h.hn⟩
/-- A box of a number is written over. -/
theorem FS.setInt (h : FS n w BL BR BP pb sv v L W) {BK : Nat} {cs : Array Value} (hk : W.heap[BK]? = some (.cells cs 3 (0, 0))) (hb : n ≤ BK) (u : Value) : FS n w BL BR BP pb sv v L (W.setCell ⟨BK, 0, none⟩ u) := by
  have hf : Fr (fun z => z = BK) W (W.setCell ⟨BK, 0, none⟩ u) := (Fr.refl (fun z => z = BK) W).setCell (p := ⟨BK, 0, none⟩) rfl _
  exact ⟨h.p.fr hf (fun k hk' e => pt_other h.p hk (by decide) (by decide) (e ▸ hk')), (hf.block _ (lt_of_heap h.bl) (ne_type h.bl hk (by decide))).trans h.bl, (hf.block _ (lt_of_heap h.br) (ne_type h.br hk (by decide))).trans h.br, (hf.block _ (lt_of_heap h.bp) (ne_type h.bp hk (by decide))).trans h.bp, chainF h.bel hf h.hn (fun k e => e ▸ hb), h.hn⟩
theorem FS.grown {B : Nat} {row : Option Nat} (h : FS n w BL BR BP pb sv v L W) (hB : n ≤ B) (hg : W.grownBy W' row) (hr : ∀ r, row = some r → B ≤ r ∧ ∃ o : Obj, W.heap[r]? = some o ∧ o.isCells = false) : FS n w BL BR BP pb sv v L W' :=
  ⟨h.p.cells (fun _ _ _ hc => cells_kept hg hr hc), cells_kept hg hr h.bl, cells_kept hg hr h.br, cells_kept hg hr h.bp, below_row h.bel h.hn hB hg hr, h.hn⟩
theorem FS.cl (h : FS n w BL BR BP pb sv v L W) : W.cell? ⟨BL, 0, none⟩ = some sv := cell_row h.bl (i := 0) rfl
theorem FS.cp (h : FS n w BL BR BP pb sv v L W) : W.cell? ⟨BP, 0, none⟩ = some (.pointer (some ⟨pb, 0, none⟩)) := cell_row h.bp (i := 0) rfl
end
/-- The frame of a round over All: the thing, and where it lies. -/
def roundT (a : Act) (q d bx : Nat) (x : Th) : Act := { tmps := (a.tmps.setIfInBounds q (.agg #[.int .i64 x.1, .string x.2])).setIfInBounds d (.pointer (some ⟨bx, 0, none⟩)), defers := [] }
def behindT (a : Act) (D : Nat) : Act := { a with defers := { target := .collected D, args := #[] } :: a.defers }
theorem rangeT {g : Operand} {ps : Array Tmp} {assign body : Code} {Q : Exit → Act → World → Prop} {a : Act} {w : World} {n : Nat} (hn : 3 ≤ n) (q d : Nat) (B : Nat) {base b : Nat} {v : Value} {L : List Th}
    (hg : a.eval g = .func (.func 38) #[] #[.pointer (some ⟨B, 0, none⟩)]) (hps : ps = #[q]) (hB : w.heap[B]? = some (.cells #[.pointer (some ⟨b, 0, none⟩)] 25 (0, 0))) (hP : PT base w b v L) (hl : L.length ≤ 1000000)
    (I : List Th → World → Prop) (Ix : Code → List Th → World → Prop) (hI : OwnFrom w.heap.size I) (hIx : ∀ c, OwnFrom w.heap.size (Ix c)) (h0 : I [] w)
    (hassign : ∀ (l : Nat) (x : Th) (V : World) (K : Act → World → Prop), K (roundT a q d V.heap.size x) (V.alloc (.cells #[.int .i64 x.1, .string x.2] 28)) →
      assign.wpIn (Fence.wide.inRound l) (n - 1 - 1) Try.prog (Exit.then K (fun _ _ _ => False)) { tmps := a.tmps.setIfInBounds q (.agg #[.int .i64 x.1, .string x.2]), defers := [] } V)
    (hbody : ∀ (l : Nat) (pre : List Th) (x : Th) (bx : Nat) (V : World), I pre V → ToldT L pre x V → V.heap[bx]? = some (.cells #[.int .i64 x.1, .string x.2] 28 (0, 0)) → w.heap.size ≤ bx → body.wpIn (Fence.wide.inRound l) (n - 1 - 1) Try.prog (ownPostG w.heap.size (CKeep fun k => w.heap.size ≤ k) I Ix (pre ++ [x]) V) (roundT a q d bx x) V)
    (hdone : ∀ (D : Nat) (V : World), w.heap.size ≤ D → I L.reverse V → V.heap[D]? = some (.deferred (some [])) → Q .normal (behindT a D) V)
    (hstop : ∀ (D : Nat) (c : Code) (pre : List Th) (V : World), w.heap.size ≤ D → pre <+: L.reverse → Ix c pre V → V.heap[D]? = some (.deferred (some [])) → c.wpIn Fence.wide n Try.prog Q (behindT a D) V) :
    (Code.rangeFunc g ps assign body).wpIn Fence.wide n Try.prog Q a w := by
  subst hps
  refine range_told (α := Th) (by omega) (gf := 38) hg (enters_of Try.func38 (by kernel_rfl) rfl) (encs := encT) (fun _ => rfl)
    (allT_tells (n - 1) (by omega) hB hP hl) (fun pre V => I pre V ∧ w.heap.size ≤ V.heap.size) Ix ?_ hIx (fun pre x _ _ _ _ h _ _ => h) ⟨h0, Nat.le_refl _⟩ (fun x a' V => ∃ bx, V.heap[bx]? = some (.cells #[.int .i64 x.1, .string x.2] 28 (0, 0)) ∧ w.heap.size ≤ bx ∧ a' = roundT a q d bx x) ?_ ?_ ?_ ?_ hstop
  · intro pre A A' row hi hg hr
    exact ⟨hI pre A A' row hi.1 hg hr, Nat.le_trans hi.2 hg.size⟩
  · intro x a' _ A A' row hi hg hr
    obtain ⟨bx, h1, h2⟩ := hi
    exact ⟨bx, cells_kept hg hr h1, h2⟩
  · intro l pre x V K hi _ hK
    have := hassign l x V K (hK _ _ ((Below.refl _ _).alloc (Nat.le_refl _) _) ⟨_, alloc_new V _, hi.2, rfl⟩)
    simpa [encT] using this
  · rintro l pre x a' V hi ht ⟨bx, h1, h2, rfl⟩
    refine wpIn_mono (hbody l pre x bx V hi.1 ht h1 h2) fun e a3 W3 hp => ?_
    cases e with
    | normal => exact ⟨hp.1, hp.2.1, hp.2.2, Nat.le_trans hi.2 hp.1.size⟩
    | ret => exact hp
    | exit id => exact hp
    | goto t => exact hp
    | panic ch => exact hp
    | outgrown => exact hp
  · rintro D xs V hD rfl hi hK
    exact hdone D V hD hi.1 hK
end Go.Proofs.Ytobeiigmeflbjaa
