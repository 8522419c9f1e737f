/-
  The boxes of a range over the pile, with a call in its midst.
-/
import Derived.Test.YtobeiigmeflbjaaDoes4
namespace Go.Proofs.Ytobeiigmeflbjaa
open Go Go.RowKit Go.Shelf

/-- What the function lays out for itself, from block lo on: the world's pointer, the step, the answer, the things as they were, the count. -/
structure OB (lo wb b3 b5 b6 b7 b8 : Nat) (sv : Array Value) (wasv : Value) (L : List Th) (k : Int) (r : Bool) (V : World) : Prop where
  h3 : V.heap[b3]? = some (.cells #[.pointer (some ⟨wb, 0, none⟩)] 24 (0, 0))
  h5 : V.heap[b5]? = some (.cells sv 36 (0, 0))
  h6 : V.heap[b6]? = some (.cells #[.bool r] 4 (0, 0))
  h7 : V.heap[b7]? = some (.cells #[wasv] 29 (0, 0))
  h8 : V.heap[b8]? = some (.cells #[.int .i64 k] 3 (0, 0))
  was : V.ownsRow lo 28 2 wasv L.length (cellsT L)
  l3 : lo ≤ b3
  l5 : lo ≤ b5
  l6 : lo ≤ b6
  l7 : lo ≤ b7
  l8 : lo ≤ b8
section
variable {lo wb b3 b5 b6 b7 b8 : Nat} {sv : Array Value} {wasv : Value} {L : List Th} {k : Int} {r : Bool} {V V' : World}
theorem OB.fr {S : Nat → Prop} (h : OB lo wb b3 b5 b6 b7 b8 sv wasv L k r V) (hf : Fr S V V') (hs : ∀ z, S z → z < lo) : OB lo wb b3 b5 b6 b7 b8 sv wasv L k r V' := by
  have l3 := h.l3
  have l5 := h.l5
  have l6 := h.l6
  have l7 := h.l7
  have l8 := h.l8
  exact ⟨(hf.block _ (lt_of_heap h.h3) (fun q => by have := hs _ q; omega)).trans h.h3, (hf.block _ (lt_of_heap h.h5) (fun q => by have := hs _ q; omega)).trans h.h5, (hf.block _ (lt_of_heap h.h6) (fun q => by have := hs _ q; omega)).trans h.h6, (hf.block _ (lt_of_heap h.h7) (fun q => by have := hs _ q; omega)).trans h.h7, (hf.block _ (lt_of_heap h.h8) (fun q => by have := hs _ q; omega)).trans h.h8,
    ownsRow_fr h.was hf (fun z hz q => by have := hs _ q; have := (ownsRow_at h.was hz).1; omega), l3, l5, l6, l7, l8⟩
theorem OB.kept (h : OB lo wb b3 b5 b6 b7 b8 sv wasv L k r V) (hb : Below V.heap.size V V') : OB lo wb b3 b5 b6 b7 b8 sv wasv L k r V' := h.fr (S := fun _ => False) (Fr.of_below hb) (fun _ q => q.elim)
theorem OB.cells (h : OB lo wb b3 b5 b6 b7 b8 sv wasv L k r V) (hc : ∀ (z : Nat) (cur : Array Value) (t : TypeId), V.heap[z]? = some (.cells cur t (0, 0)) → V'.heap[z]? = some (.cells cur t (0, 0))) : OB lo wb b3 b5 b6 b7 b8 sv wasv L k r V' := by
  refine ⟨hc _ _ _ h.h3, hc _ _ _ h.h5, hc _ _ _ h.h6, hc _ _ _ h.h7, hc _ _ _ h.h8, ⟨h.was.1, ?_⟩, h.l3, h.l5, h.l6, h.l7, h.l8⟩
  rcases h.was.2 with q | ⟨g, cap, cur, q1, q2, q3, q4⟩
  · exact .inl q
  · exact .inr ⟨g, cap, cur, q1, q2, hc _ _ _ q3, q4⟩
theorem OB.setK (h : OB lo wb b3 b5 b6 b7 b8 sv wasv L k r V) (k' : Int) : OB lo wb b3 b5 b6 b7 b8 sv wasv L k' r (V.setCell ⟨b8, 0, none⟩ (.int .i64 k')) := by
  have hf : Fr (fun z => z = b8) V (V.setCell ⟨b8, 0, none⟩ (.int .i64 k')) := (Fr.refl (fun z => z = b8) V).setCell (p := ⟨b8, 0, none⟩) rfl _
  exact ⟨(hf.block _ (lt_of_heap h.h3) (ne_type h.h3 h.h8 (by decide))).trans h.h3, (hf.block _ (lt_of_heap h.h5) (ne_type h.h5 h.h8 (by decide))).trans h.h5, (hf.block _ (lt_of_heap h.h6) (ne_type h.h6 h.h8 (by decide))).trans h.h6, (hf.block _ (lt_of_heap h.h7) (ne_type h.h7 h.h8 (by decide))).trans h.h7, heap_set_in h.h8 0 _,
    ownsRow_fr h.was hf (fun z hz e => ownsRow_not h.was h.h8 (by decide) (e ▸ hz)), h.l3, h.l5, h.l6, h.l7, h.l8⟩
theorem OB.setR (h : OB lo wb b3 b5 b6 b7 b8 sv wasv L k r V) (r' : Bool) : OB lo wb b3 b5 b6 b7 b8 sv wasv L k r' (V.setCell ⟨b6, 0, none⟩ (.bool r')) := by
  have hf : Fr (fun z => z = b6) V (V.setCell ⟨b6, 0, none⟩ (.bool r')) := (Fr.refl (fun z => z = b6) V).setCell (p := ⟨b6, 0, none⟩) rfl _
  exact ⟨(hf.block _ (lt_of_heap h.h3) (ne_type h.h3 h.h6 (by decide))).trans h.h3, (hf.block _ (lt_of_heap h.h5) (ne_type h.h5 h.h6 (by decide))).trans h.h5, heap_set_in h.h6 0 _, (hf.block _ (lt_of_heap h.h7) (ne_type h.h7 h.h6 (by decide))).trans h.h7, (hf.block _ (lt_of_heap h.h8) (ne_type h.h8 h.h6 (by decide))).trans h.h8,
    ownsRow_fr h.was hf (fun z hz e => ownsRow_not h.was h.h6 (by decide) (e ▸ hz)), h.l3, h.l5, h.l6, h.l7, h.l8⟩
end
theorem HW.cells {n wb pb ab : Nat} {v lv : Value} {L M : List Th} {W W' : World} (h : HW n wb pb ab v lv L M W) (hc : ∀ (z : Nat) (cur : Array Value) (t : TypeId), W.heap[z]? = some (.cells cur t (0, 0)) → W'.heap[z]? = some (.cells cur t (0, 0))) : HW n wb pb ab v lv L M W' := by
  refine ⟨h.p.cells hc, hc _ _ _ h.hw, h.lw, ⟨h.o.1, ?_⟩, h.d, hc _ _ _ h.ha⟩
  rcases h.o.2 with q | ⟨g, cap, cur, q1, q2, q3, q4⟩
  · exact .inl q
  · exact .inr ⟨g, cap, cur, q1, q2, hc _ _ _ q3, q4⟩
/-- What a call leaves, where other blocks, from those that there were on, are changed, too. -/
theorem DP.more {n wb pb ab : Nat} {v lv : Value} {L : List Th} {W V V' : World} (h : DP n wb pb ab v lv L W V) {S : Nat → Prop} (hf : Fr S V V') (hW : ∀ k, S k → W.heap.size ≤ k) (hs : ∀ k, S k → ∃ (cs : Array Value) (t : TypeId), V.heap[k]? = some (.cells cs t (0, 0)) ∧ t ≠ 33 ∧ t ≠ 75 ∧ t ≠ 28 ∧ t ≠ 25) : DP n wb pb ab v lv L W V' := by
  obtain ⟨v1, l1, L1, h1, h2, h3, h4, h5⟩ := h
  refine ⟨v1, l1, L1, h1.fr hf (fun k hk q => ?_) (fun q => ?_), h2, h3, h4, ?_⟩
  · obtain ⟨cs, t, hc, t1, t2, t3, _⟩ := hs k q
    rcases hk with rfl | hk | hk
    · exact ne_type hc h1.hw t1 rfl
    · exact pt_other h1.p hc t2 t3 hk
    · exact ownsRow_not h1.o hc t3 hk
  · obtain ⟨cs, t, hc, _, _, _, t4⟩ := hs _ q
    exact ne_type hc h1.ha t4 rfl
  · exact ⟨hf.os.trans h5.os, hf.tape.trans h5.tape, hf.output.trans h5.output, Nat.le_trans h5.size hf.size, fun k hk hn => (hf.block k (Nat.lt_of_lt_of_le hk h5.size) (fun q => by have := hW k q; omega)).trans (h5.block k hk hn)⟩
theorem DP.cells {n wb pb ab : Nat} {v lv : Value} {L : List Th} {W V V' : World} {row : Option Nat} {B : Nat} (h : DP n wb pb ab v lv L W V) (hB : W.heap.size ≤ B) (hg : V.grownBy V' row) (hr : ∀ r, row = some r → B ≤ r ∧ ∃ o : Obj, V.heap[r]? = some o ∧ o.isCells = false) : DP n wb pb ab v lv L W V' := by
  obtain ⟨v1, l1, L1, h1, h2, h3, h4, h5⟩ := h
  exact ⟨v1, l1, L1, h1.cells (fun _ _ _ hc => cells_kept hg hr hc), h2, h3, h4, ⟨hg.os.trans h5.os, hg.tape.trans h5.tape, hg.output.trans h5.output, Nat.le_trans h5.size hg.size, fun k hk hn => (hg.block k (Nat.lt_of_lt_of_le hk h5.size) (fun e => by have := (hr k e.symm).1; omega)).trans (h5.block k hk hn)⟩⟩
end Go.Proofs.Ytobeiigmeflbjaa
