/-
  A range over All with a call in its midst: the function's own boxes, what stands between two rounds.
-/
import Derived.Test.YtmfljfedpdipiaaPlay3
namespace Go.Proofs.Ytmfljfedpdipiaa
open Go Go.RowKit Go.Shelf

/-- A frame under which a range over All goes on. -/
def GK (B : Nat) (P : Pl) (V V' : World) : Prop := KeepsFrom B V V' ∧ TKeep (keepN B P) V V'
theorem GK.fr {B : Nat} {P : Pl} {V V' : World} {S : Nat → Prop} (hf : Fr S V V') (hs : ∀ z, S z → z < V.heap.size → ∃ cur t, V.heap[z]? = some (.cells cur t (0, 0)) ∧ ¬ keepN B P z t) : GK B P V V' := by
  refine ⟨⟨hf.size, fun k o _ hc hn => (hf.block k (lt_of_heap hc) (fun q => ?_)).trans hc⟩, hf.tkeep (fun k cur t fr hk hc hN => ?_)⟩
  · obtain ⟨cur, t, h1, _⟩ := hs k q (lt_of_heap hc)
    rw [h1] at hc; cases hc; cases hn
  · obtain ⟨cur', t', h1, h2⟩ := hs k hk (lt_of_heap hc)
    have := heap_type hc h1
    subst this
    exact h2 hN
theorem GK.below {B : Nat} {P : Pl} {V V' : World} (hb : Below V.heap.size V V') : GK B P V V' := GK.fr (S := fun _ => False) (Fr.of_below hb) (fun _ q => q.elim)
theorem GK.trans {B : Nat} {P : Pl} {A V V' : World} (h : GK B P A V) (k : GK B P V V') : GK B P A V' := ⟨⟨Nat.le_trans h.1.size k.1.size, fun z o hz hc hn => k.1.same z o hz (h.1.same z o hz hc hn) hn⟩, h.2.trans k.2⟩

/-- What the function lays out for itself. -/
structure OB (lo wb b4 b5 b7 b8 b9 b10 i : Nat) (sv : Array Value) (wasv : Value) (E : List Ent) (n : Int) (r : Bool) (V : World) : Prop where
  h4 : V.heap[b4]? = some (.cells #[.pointer (some ⟨wb, 0, none⟩)] 24 (0, 0))
  h5 : V.heap[b5]? = some (.cells #[.int .i64 (i : Int)] 3 (0, 0))
  h7 : V.heap[b7]? = some (.cells sv 46 (0, 0))
  h8 : V.heap[b8]? = some (.cells #[.bool r] 4 (0, 0))
  h9 : V.heap[b9]? = some (.cells #[wasv] 39 (0, 0))
  h10 : V.heap[b10]? = some (.cells #[.int .i64 n] 3 (0, 0))
  was : V.ownsRow lo 71 2 wasv E.length (cellsR E)
  keys : ∀ e ∈ E, V.ownsRow 0 3 1 e.kv e.key.length (ints e.key)
  lo4 : lo ≤ b4
  lo5 : lo ≤ b5
  lo7 : lo ≤ b7
  lo8 : lo ≤ b8
  lo9 : lo ≤ b9
  lo10 : lo ≤ b10
  n5 : b5 ≠ b10
section
variable {lo wb b4 b5 b7 b8 b9 b10 i : Nat} {sv : Array Value} {wasv : Value} {E : List Ent} {n : Int} {r : Bool} {V V' : World} {S : Nat → Prop}
theorem OB.fr (h : OB lo wb b4 b5 b7 b8 b9 b10 i sv wasv E n r V) (hf : Fr S V V') (h1 : ¬ S b4 ∧ ¬ S b5 ∧ ¬ S b7 ∧ ¬ S b8 ∧ ¬ S b9 ∧ ¬ S b10) (h2 : ∀ z, wasv.ownBlock = some z → ¬ S z) (h3 : ∀ z, rkblk E z → ¬ S z) : OB lo wb b4 b5 b7 b8 b9 b10 i sv wasv E n r V' :=
  ⟨(hf.block _ (lt_of_heap h.h4) h1.1).trans h.h4, (hf.block _ (lt_of_heap h.h5) h1.2.1).trans h.h5, (hf.block _ (lt_of_heap h.h7) h1.2.2.1).trans h.h7, (hf.block _ (lt_of_heap h.h8) h1.2.2.2.1).trans h.h8, (hf.block _ (lt_of_heap h.h9) h1.2.2.2.2.1).trans h.h9, (hf.block _ (lt_of_heap h.h10) h1.2.2.2.2.2).trans h.h10,
    row_frb h.was hf h2, fun e he => row_fr (h.keys e he) hf (fun a l c e' => h3 _ ⟨e, he, a, l, c, e', rfl⟩), h.lo4, h.lo5, h.lo7, h.lo8, h.lo9, h.lo10, h.n5⟩
theorem OB.kept (h : OB lo wb b4 b5 b7 b8 b9 b10 i sv wasv E n r V) (hb : Below V.heap.size V V') : OB lo wb b4 b5 b7 b8 b9 b10 i sv wasv E n r V' :=
  h.fr (S := fun _ => False) (Fr.of_below hb) ⟨fun q => q, fun q => q, fun q => q, fun q => q, fun q => q, fun q => q⟩ (fun _ _ q => q) (fun _ _ q => q)
theorem OB.ktype (h : OB lo wb b4 b5 b7 b8 b9 b10 i sv wasv E n r V) {z : Nat} (hz : rkblk E z) : ∃ cur, V.heap[z]? = some (.cells cur 3 (0, 0)) := by
  obtain ⟨e, he, a, l, c, e1, rfl⟩ := hz
  exact (row_type (h.keys e he) e1).2
/-- By types: what is written is of none of its types, but numbers that are none of its own. -/
theorem OB.typed (h : OB lo wb b4 b5 b7 b8 b9 b10 i sv wasv E n r V) (hf : Fr S V V') (hs : ∀ z, S z → ∃ cur t, V.heap[z]? = some (.cells cur t (0, 0)) ∧ t ≠ 24 ∧ t ≠ 46 ∧ t ≠ 4 ∧ t ≠ 39 ∧ (t = 3 → z ≠ b5 ∧ z ≠ b10 ∧ ¬ rkblk E z) ∧ (t = 71 → wasv.ownBlock ≠ some z)) : OB lo wb b4 b5 b7 b8 b9 b10 i sv wasv E n r V' := by
  refine h.fr hf ⟨fun q => ?_, fun q => ?_, fun q => ?_, fun q => ?_, fun q => ?_, fun q => ?_⟩ (fun z hz q => ?_) (fun z hz q => ?_)
  all_goals obtain ⟨cur, t, h1, h2, h3, h4, h5, h6, h7⟩ := hs _ q
  · exact h2 (heap_type h1 h.h4)
  · exact (h6 (heap_type h1 h.h5)).1 rfl
  · exact h3 (heap_type h1 h.h7)
  · exact h4 (heap_type h1 h.h8)
  · exact h5 (heap_type h1 h.h9)
  · exact (h6 (heap_type h1 h.h10)).2.1 rfl
  · obtain ⟨_, c, hc⟩ := own_block h.was hz
    exact h7 (heap_type h1 hc) hz
  · obtain ⟨c, hc⟩ := h.ktype hz
    exact (h6 (heap_type h1 hc)).2.2 hz
theorem OB.cells {row : Option Nat} {B : Nat} (h : OB lo wb b4 b5 b7 b8 b9 b10 i sv wasv E n r V) (hg : V.grownBy V' row) (hr : ∀ z, row = some z → B ≤ z ∧ ∃ o : Obj, V.heap[z]? = some o ∧ o.isCells = false) : OB lo wb b4 b5 b7 b8 b9 b10 i sv wasv E n r V' := by
  have no : ∀ k cur t, V.heap[k]? = some (.cells cur t (0, 0)) → ¬ some k = row := fun k cur t hc e => by
    obtain ⟨_, o, ho, hq⟩ := hr k e.symm
    rw [hc] at ho; cases ho; cases hq
  refine h.fr (S := fun k => some k = row) ⟨hg.os, hg.tape, hg.output, hg.size, fun k hk hs => hg.block k hk hs⟩ ⟨no _ _ _ h.h4, no _ _ _ h.h5, no _ _ _ h.h7, no _ _ _ h.h8, no _ _ _ h.h9, no _ _ _ h.h10⟩ (fun z hz => ?_) (fun z hz => ?_)
  · obtain ⟨_, c, hc⟩ := own_block h.was hz; exact no _ _ _ hc
  · obtain ⟨c, hc⟩ := h.ktype hz; exact no _ _ _ hc
theorem OB.setN (h : OB lo wb b4 b5 b7 b8 b9 b10 i sv wasv E n r V) (hk : ∀ z, rkblk E z → z < lo) (n' : Int) : OB lo wb b4 b5 b7 b8 b9 b10 i sv wasv E n' r (V.setCell ⟨b10, 0, none⟩ (.int .i64 n')) := by
  have hf : Fr (fun z => z = b10) V (V.setCell ⟨b10, 0, none⟩ (.int .i64 n')) := (Fr.refl (fun z => z = b10) V).setCell (p := ⟨b10, 0, none⟩) rfl _
  have h' := h.h10
  refine ⟨(hf.block _ (lt_of_heap h.h4) (ne_type h.h4 h' (by decide))).trans h.h4, (hf.block _ (lt_of_heap h.h5) h.n5).trans h.h5, (hf.block _ (lt_of_heap h.h7) (ne_type h.h7 h' (by decide))).trans h.h7, (hf.block _ (lt_of_heap h.h8) (ne_type h.h8 h' (by decide))).trans h.h8, (hf.block _ (lt_of_heap h.h9) (ne_type h.h9 h' (by decide))).trans h.h9, heap_set_in h' 0 _,
    row_frb h.was hf (fun z hz e => ?_), fun e he => row_fr (h.keys e he) hf (fun a l c e' q => ?_), h.lo4, h.lo5, h.lo7, h.lo8, h.lo9, h.lo10, h.n5⟩
  · obtain ⟨_, c, hc⟩ := own_block h.was hz
    exact ne_type hc h' (by decide) e
  · have := hk _ ⟨e, he, a, l, c, e', rfl⟩
    have := h.lo10
    omega
theorem OB.setR (h : OB lo wb b4 b5 b7 b8 b9 b10 i sv wasv E n r V) (r' : Bool) : OB lo wb b4 b5 b7 b8 b9 b10 i sv wasv E n r' (V.setCell ⟨b8, 0, none⟩ (.bool r')) := by
  have hf : Fr (fun z => z = b8) V (V.setCell ⟨b8, 0, none⟩ (.bool r')) := (Fr.refl (fun z => z = b8) V).setCell (p := ⟨b8, 0, none⟩) rfl _
  have h' := h.h8
  refine ⟨(hf.block _ (lt_of_heap h.h4) (ne_type h.h4 h' (by decide))).trans h.h4, (hf.block _ (lt_of_heap h.h5) (ne_type h.h5 h' (by decide))).trans h.h5, (hf.block _ (lt_of_heap h.h7) (ne_type h.h7 h' (by decide))).trans h.h7, heap_set_in h' 0 _, (hf.block _ (lt_of_heap h.h9) (ne_type h.h9 h' (by decide))).trans h.h9, (hf.block _ (lt_of_heap h.h10) (ne_type h.h10 h' (by decide))).trans h.h10,
    row_frb h.was hf (fun z hz e => ?_), fun e he => row_fr (h.keys e he) hf (fun a l c e' q => ?_), h.lo4, h.lo5, h.lo7, h.lo8, h.lo9, h.lo10, h.n5⟩
  · obtain ⟨_, c, hc⟩ := own_block h.was hz
    exact ne_type hc h' (by decide) e
  · obtain ⟨_, c', hc⟩ := row_type (h.keys e he) e'
    exact ne_type hc h' (by decide) q
end
end Go.Proofs.Ytmfljfedpdipiaa
