/-
  The law TableOrder: what holds between two rounds of its range.
-/
import Derived.Test.YtmfljfedpdipiaaRng
import Derived.Test.YtmfljfedpdipiaaOrdM
namespace Go.Proofs.Ytmfljfedpdipiaa
open Go Go.RowKit Go.Shelf

theorem boxed_other3 {W : World} {B C : Nat} {t : TypeId} {v : Value} (h : Boxed W B t v) (hne : B ≠ C) (i : Nat) (u : Value) : Boxed (W.setCell ⟨C, i, none⟩ u) B t v := (Below.heap_setCell _ _ _ _ (by simpa using hne)).trans h
structure OI (w : World) (NB LB BL BR b : Nat) (u : Value) (pb : Nat) (P : Pl) (m : List Int → Option Int) (pre : List Hd) (W : World) : Prop where
  n : Boxed W NB 3 (.int .i64 (pre.length : Nat))
  last : ∃ z : Int × Int × Int, W.heap[LB]? = some (.cells (ints (k3 z)).toArray 50 (0, 0)) ∧ ∀ y, pre.getLast? = some y → y.2.1 = k3 z
  bl : Boxed W BL 48 u
  br : Boxed W BR 4 (.bool false)
  t : TM W b pb 3 1000000 P m
  bel : Below w.heap.size w W
section
variable {w : World} {NB LB BL BR b : Nat} {u : Value} {pb : Nat} {P : Pl} {m : List Int → Option Int}
theorem OI.own {B : Nat} (hB : w.heap.size ≤ B) : OwnFrom B (OI w NB LB BL BR b u pb P m) := fun pre W W' row h hg hr => by
  obtain ⟨z, h1, h2⟩ := h.last
  exact ⟨cells_kept hg hr h.n, ⟨z, cells_kept hg hr h1, h2⟩, cells_kept hg hr h.bl, cells_kept hg hr h.br, h.t.cells (fun k cur t hc => cells_kept hg hr hc),
    h.bel.trans ⟨hg.os, hg.tape, hg.output, hg.size, fun k hk => hg.block k (Nat.lt_of_lt_of_le hk h.bel.size) (fun e => by have := (hr k e.symm).1; omega)⟩⟩
theorem OI.next {pre : List Hd} {V V' : World} {y : Hd} {B : Nat} (h : OI w NB LB BL BR b u pb P m pre V) (fr : Fr (fun k => k = NB ∨ k = LB) V V') {x : Int × Int × Int} (hy : y.2.1 = k3 x)
    (hn : Boxed V' NB 3 (.int .i64 ((pre.length : Int) + 1))) (hl : V'.heap[LB]? = some (.cells (ints (k3 x)).toArray 50 (0, 0)))
    (hNB : NB < B) (hLB : LB < B) (hw : w.heap.size ≤ NB ∧ w.heap.size ≤ LB) (hk : ∀ k, kblk P k → k < NB ∧ k < LB) :
    ownPostG B (CKeep fun k => B ≤ k ∨ kblk P k) (OI w NB LB BL BR b u pb P m) (fun _ _ _ => False) (pre ++ [y]) V .normal ⟨#[], []⟩ V' := by
  obtain ⟨z, h1, _⟩ := h.last
  have hn0 := h.n
  have hbl := h.bl
  have hbr := h.br
  unfold Boxed at hn0 hbl hbr
  have a1 : BL ≠ NB := ne_type hbl hn0 (by decide)
  have a2 : BL ≠ LB := ne_type hbl h1 (by decide)
  have a3 : BR ≠ NB := ne_type hbr hn0 (by decide)
  have a4 : BR ≠ LB := ne_type hbr h1 (by decide)
  have a5 : b ≠ NB := ne_type h.t.t.hb hn0 (by decide)
  have a6 : b ≠ LB := ne_type h.t.t.hb h1 (by decide)
  refine ⟨fr.keepsFrom (fun k hk => by omega), fr.ckeep (fun k hk' hq => by rcases hq with q | q; omega; (have h2 := hk k q; omega)), ?_⟩
  refine ⟨?_, ⟨x, hl, fun z' hz => ?_⟩, (fr.block _ h.bl.lt (by omega)).trans h.bl, (fr.block _ h.br.lt (by omega)).trans h.br, ?_, ?_⟩
  · simpa using hn
  · simp at hz
    subst hz
    exact hy
  · refine h.t.fr fr (by omega) (fun hP q => ?_) (fun k hk' hq => by have := hk k hq; omega)
    rcases q with q | q
    · exact ne_type (h.t.t.hp hP) hn0 (by decide) q
    · exact ne_type (h.t.t.hp hP) h1 (by decide) q
  · exact h.bel.trans (fr.below h.bel.size (fun k hk' => by omega))
theorem OI.step {pre : List Hd} {V X : World} {y : Hd} {B L : Nat} (h : OI w NB LB BL BR b u pb P m pre V) (hb : Below V.heap.size V X) {x z : Int × Int × Int} (hy : y.2.1 = k3 x) (hz : V.heap[LB]? = some (.cells (ints (k3 z)).toArray 50 (0, 0))) (hL : pre.length = L)
    (hNL : NB < LB) (hLB : LB < B) (hw : w.heap.size ≤ NB) (hk : ∀ k, kblk P k → k < NB) (a : Act) :
    ownPostG B (CKeep fun k => B ≤ k ∨ kblk P k) (OI w NB LB BL BR b u pb P m) (fun _ _ _ => False) (pre ++ [y]) V .normal a ((((X.setCell ⟨LB, 0, none⟩ (.int .i64 x.1)).setCell ⟨LB, 1, none⟩ (.int .i64 x.2.1)).setCell ⟨LB, 2, none⟩ (.int .i64 x.2.2)).setCell ⟨NB, 0, none⟩ (.int .i64 ((L : Int) + 1))) := by
  have fr : Fr (fun k => k = NB ∨ k = LB) V ((((X.setCell ⟨LB, 0, none⟩ (.int .i64 x.1)).setCell ⟨LB, 1, none⟩ (.int .i64 x.2.1)).setCell ⟨LB, 2, none⟩ (.int .i64 x.2.2)).setCell ⟨NB, 0, none⟩ (.int .i64 ((L : Int) + 1))) :=
    ((((Fr.of_below hb).setCell (p := ⟨LB, 0, none⟩) (.inr rfl) _).setCell (p := ⟨LB, 1, none⟩) (.inr rfl) _).setCell (p := ⟨LB, 2, none⟩) (.inr rfl) _).setCell (p := ⟨NB, 0, none⟩) (.inl rfl) _
  have z0 := (hb.block LB (lt_of_heap hz)).trans hz
  have z3 := heap_set_in (heap_set_in (heap_set_in z0 0 (.int .i64 x.1)) 1 (.int .i64 x.2.1)) 2 (.int .i64 x.2.2)
  have n0 : Boxed X NB 3 (.int .i64 (pre.length : Nat)) := (hb.block NB h.n.lt).trans h.n
  have hne : NB ≠ LB := by omega
  have n3 := (boxed_other3 (boxed_other3 (boxed_other3 n0 hne 0 (.int .i64 x.1)) hne 1 (.int .i64 x.2.1)) hne 2 (.int .i64 x.2.2)).set (.int .i64 ((L : Int) + 1))
  subst hL
  exact h.next fr hy n3 ((Below.heap_setCell _ _ _ _ (by simpa using (Ne.symm hne))).trans z3) (by omega) hLB ⟨hw, by omega⟩ (fun k hq => by have := hk k hq; omega)
end
theorem RS.fin {w : World} {BL BR b NB : Nat} {sv : Value} {zs : List (Int × Int × Int)} {D : Nat} {W : World} (h : RS w BL BR b NB sv zs D W) :
    (W.setCell ⟨BR, 0, none⟩ (.bool true)).heap[D]? = some (.deferred (some [])) ∧ ((W.setCell ⟨BR, 0, none⟩ (.bool true)).putObj D (.deferred none)).cell? ⟨BR, 0, none⟩ = some (.bool true) ∧ Below w.heap.size w ((W.setCell ⟨BR, 0, none⟩ (.bool true)).putObj D (.deferred none)) := by
  have hne : BR ≠ D := fun e => by
    have h1 := h.br
    unfold Boxed at h1
    rw [e, h.d] at h1
    cases h1
  have h1 : (W.setCell ⟨BR, 0, none⟩ (.bool true)).heap[D]? = some (.deferred (some [])) := (Below.heap_setCell _ _ _ _ (by simpa using (Ne.symm hne))).trans h.d
  have h2 : Boxed (W.setCell ⟨BR, 0, none⟩ (.bool true)) BR 4 (.bool true) := h.br.set _
  have h3 : Boxed ((W.setCell ⟨BR, 0, none⟩ (.bool true)).putObj D (.deferred none)) BR 4 (.bool true) := (World.putObj_heap_other hne).trans h2
  exact ⟨h1, h3.cell, (h.bel.setCell h.hr _).trans (belowK_b (w := w) (Nat.le_refl _) _ D _ _ h.hd h1 rfl rfl)⟩
end Go.Proofs.Ytmfljfedpdipiaa
