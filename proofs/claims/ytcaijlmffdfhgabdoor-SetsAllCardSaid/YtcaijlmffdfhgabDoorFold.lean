/-
  What sets.Fold answers, of any set, where the library's table lies: the world behind has new blocks alone.
-/
import Derived.Test.YtcaijlmffdfhgabDoorOf
namespace Go.Proofs.YtcaijlmffdfhgabDoor
open Go Go.RowKit Go.Shelf
attribute [local go_sem] Oper.semAt_some

/-- A letter's other case. -/
def oc (b : Int) : Int := if 65 ≤ b ∧ b ≤ 90 then b + 32 else if 97 ≤ b ∧ b ≤ 122 then b - 32 else b

def foldF (s : S) (l : List B8) : S := l.foldl (fun acc x => sor acc (sonly (oc x.1))) s
def sfold (s : S) : S := foldF s (elems s)
theorem foldF_snoc (s : S) (l : List B8) (x : B8) : foldF s (l ++ [x]) = sor (foldF s l) (sonly (oc x.1)) := by simp [foldF]

theorem SetAt.new0 (W : World) : SetAt (W.alloc (.cells #[.int .u64 0, .int .u64 0, .int .u64 0, .int .u64 0] 24)) W.heap.size (0#256) := by
  unfold SetAt
  rw [wd_nil0, wd_nil0, wd_nil0, wd_nil0]
  exact World.alloc_heap_new W _
theorem setAt_own {β : Type} (B : Nat) (f : β → S) : Own (fun pre W => SetAt W B (f pre)) := by
  intro s W W' row h hg hr
  refine (hg.block B h.lt (fun e => ?_)).trans h
  obtain ⟨_, ho, hc⟩ := hr B e.symm
  rw [show W.heap[B]? = _ from h] at ho
  cases ho
  cases hc
theorem keeps_below {W W' : World} (hb : Below W.heap.size W W') : KeepsOthers W W' :=
  ⟨hb.size, fun k _ hk _ => (hb.block k (Array.getElem?_eq_some_iff.1 hk).1).trans hk⟩
theorem keeps_set4 {W W' : World} (hk : KeepsOthers W W') (a0 a1 a2 a3 : Addr) (v0 v1 v2 v3 : Value) : KeepsOthers W ((((W'.setCell a0 v0).setCell a1 v1).setCell a2 v2).setCell a3 v3) :=
  (((hk.trans (KeepsOthers.setCell _ _ _)).trans (KeepsOthers.setCell _ _ _)).trans (KeepsOthers.setCell _ _ _)).trans (KeepsOthers.setCell _ _ _)

end Go.Proofs.YtcaijlmffdfhgabDoor
