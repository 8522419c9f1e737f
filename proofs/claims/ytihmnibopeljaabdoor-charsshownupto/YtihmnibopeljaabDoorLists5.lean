/-
  Places and Decode: contracts.
-/
import Derived.Test.YtihmnibopeljaabDoorUnits2
namespace Go.Proofs.YtihmnibopeljaabDoor
open Go Go.RowKit

theorem news1 (W : World) (a : Value) (t : TypeId) : ∀ (j : Nat) (u : Value), [a][j]? = some u → (W.alloc (.cells #[a] t)).cell? ((⟨W.heap.size, 0, none⟩ : Addr).add j) = some u := by
  intro j u h
  match j, h with
  | 0, h => simp at h; subst h; simp [Addr.add]

/-- A text that is gone through beside a list of one's own (cells of the type e). -/
structure RI (s : ByteArray) (w : World) (k pos : Nat) (e : TypeId) (v : Value) (n : Nat) (L : List Value) (wr : World) : Prop where
  lo : w.heap.size ≤ k
  it : wr.heap[k]? = some (.stringIter s pos)
  own : wr.ownsRow w.heap.size e 1 v n L
  bel : Below w.heap.size w wr
theorem RI.len {s : ByteArray} {w wr : World} {k pos n : Nat} {e : TypeId} {v : Value} {L : List Value} (h : RI s w k pos e v n L wr) : w.heap.size ≤ wr.heap.size := h.bel.size
theorem own_iterAt {wr : World} {base k p p' n : Nat} {e : TypeId} {s : ByteArray} {v : Value} {L : List Value} (h : wr.ownsRow base e 1 v n L) (hk : wr.heap[k]? = some (.stringIter s p)) : (wr.iterAt k s p').ownsRow base e 1 v n L := by
  obtain ⟨h1, h2 | ⟨g, cap, cur, q1, q2, q3, q4⟩⟩ := h
  · exact ⟨h1, .inl h2⟩
  · refine ⟨h1, .inr ⟨g, cap, cur, q1, q2, ?_, q4⟩⟩
    rw [Lib.iterAt_other _ _ _ _ _ (fun q => by rw [q, hk] at q3; cases q3)]
    exact q3
theorem RI.next {s : ByteArray} {w wr : World} {k pos n : Nat} {e : TypeId} {v : Value} {L : List Value} (h : RI s w k pos e v n L wr) (p : Nat) : RI s w k p e v n L (wr.iterAt k s p) :=
  ⟨h.lo, Lib.iterAt_heap wr k s pos p h.it, own_iterAt h.own h.it, iter_below h.bel h.lo p⟩
theorem RI.app {s : ByteArray} {w wr w6 : World} {k pos n m : Nat} {e : TypeId} {v v' : Value} {L M : List Value} {o : Obj} (h : RI s w k pos e v n L wr) (hown : w6.ownsRow w.heap.size e 1 v' m M) (hg : (wr.alloc o).grownBy w6 v.ownBlock) : RI s w k pos e v' m M w6 := by
  have hk := lt_of_heap h.it
  refine ⟨h.lo, ?_, hown, ?_⟩
  · rw [hg.block k (by simp; omega) ?_, Below.heap_alloc _ _ _ hk]
    · exact h.it
    · intro q
      obtain ⟨_, _, cur, hc⟩ := ownsRow_at h.own q.symm
      rw [h.it] at hc; cases hc
  · exact chainF h.bel (((Fr.refl (fun z => v.ownBlock = some z) wr).alloc _).grown hg (fun z hz => hz)) (Nat.le_refl _) (fun z hz => (ownsRow_at h.own hz).1)
theorem RI.app0 {s : ByteArray} {w wr w6 : World} {k pos n m : Nat} {e : TypeId} {v v' : Value} {L M : List Value} (h : RI s w k pos e v n L wr) (hown : w6.ownsRow w.heap.size e 1 v' m M) (hg : wr.grownBy w6 v.ownBlock) : RI s w k pos e v' m M w6 := by
  have hk := lt_of_heap h.it
  refine ⟨h.lo, ?_, hown, ?_⟩
  · rw [hg.block k hk ?_]
    · exact h.it
    · intro q
      obtain ⟨_, _, cur, hc⟩ := ownsRow_at h.own q.symm
      rw [h.it] at hc; cases hc
  · exact chainF h.bel ((Fr.refl (fun z => v.ownBlock = some z) wr).grown hg (fun z hz => hz)) (Nat.le_refl _) (fun z hz => (ownsRow_at h.own hz).1)

/-- The places, and the characters, of units. -/
def plc (l : List (Nat × Int)) : List Int := l.map fun u => (u.1 : Int)
def chs (l : List (Nat × Int)) : List Int := l.map fun u => u.2
theorem plc_len (l : List (Nat × Int)) : (plc l).length = l.length := by simp [plc]
theorem chs_len (l : List (Nat × Int)) : (chs l).length = l.length := by simp [chs]

/-- Are all units characters? -/
def good (l : List (Nat × Int)) : Bool := l.all fun u => decide (0 ≤ u.2)
def dErr (l : List (Nat × Int)) : Int := if good l then 0 else 20
def dList (l : List (Nat × Int)) : List Int := if good l then chs l else []
end Go.Proofs.YtihmnibopeljaabDoor
