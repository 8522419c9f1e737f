/-
  The law SetsWalk, walked: Next, gone on from, tells what All tells, as often as Count says; each is there.
-/
import Derived.Test.YtcaijlmffdfhgabDoorFold
import Derived.Test.YtcaijlmffdfhgabDoorEach
namespace Go.Proofs.YtcaijlmffdfhgabDoor
open Go Go.RowKit Go.Shelf
attribute [local go_sem] Oper.semAt_some ext_cell

/-- Where the walk goes on from: -3 at first. -/
def fr3 (pre : List B8) : Int := match pre.getLast? with | none => -3 | some b => b.1 + 1
theorem fr3_snoc (pre : List B8) (x : B8) : fr3 (pre ++ [x]) = x.1 + 1 := by simp [fr3]
theorem snext_low (s : S) (f : Int) (h : f ≤ 0) : snext s f = snext s 0 := by
  unfold snext
  congr 1
  funext n
  rw [decide_eq_true (show f ≤ (n : Int) by omega), decide_eq_true (show (0 : Int) ≤ (n : Int) by omega)]
theorem snext_fr3 (s : S) (pre : List B8) : snext s (fr3 pre) = snext s (fr pre) := by
  unfold fr3 fr
  cases pre.getLast? with
  | none => exact snext_low s (-3) (by decide)
  | some b => rfl
theorem fr3_bounds (pre : List B8) : -3 ≤ fr3 pre ∧ fr3 pre ≤ 256 := by
  unfold fr3
  cases pre.getLast? with
  | none => simp
  | some b => have := b.2; dsimp only; omega

theorem walk_step (s : S) (pre : List B8) (x : B8) (h : pre ++ [x] <+: elems s) : nextV s (fr3 pre) = x.1 ∧ nextB s (fr3 pre) = true ∧ shas s x.1 = true := by
  obtain ⟨rest, hr⟩ := h
  have h1 := next_some s pre x rest (by rw [← hr]; simp)
  have hx := x.2
  have e := snext_fr3 s pre
  unfold nextV nextB at h1 ⊢
  rw [e]
  refine ⟨h1.1, h1.2, ?_⟩
  rw [shas_eq, (mem_elems s x).1 (by rw [← hr]; simp), decide_eq_true (by omega)]; rfl
theorem walk_end (s : S) : nextB s (fr3 (elems s)) = false := by
  have := next_none s
  unfold nextB at this ⊢
  rw [snext_fr3]; exact this.2

theorem fn_nil (f : Fn) (a b : Array Value) (w : World) : (binOp .eql 29 (.func f a b) .nilFunc).run Tryd.prog w = .ok (.bool false) w := by kernel_rfl
attribute [local go_sem] fn_nil

theorem Boxed.below {W W' : World} {B : Nat} {t : TypeId} {v : Value} (h : Boxed W B t v) (hb : Below W.heap.size W W') : Boxed W' B t v := (hb.block B h.lt).trans h

end Go.Proofs.YtcaijlmffdfhgabDoor
