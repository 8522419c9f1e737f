/-
  A range over sets.All, as one rule: what a round keeps, what is so at the end, however the loop is left; the rest is walked once.
-/
import Derived.Test.YtcaijlmffdfhgabDoorFold
namespace Go.Proofs.YtcaijlmffdfhgabDoor
open Go Go.RowKit Go.Shelf

/-- The frame in a round: what All yields lies in the slot of the parameter and in that of the variable. -/
def roundAct (a : Act) (p d : Nat) (x : B8) : Act := { tmps := (a.tmps.setIfInBounds p (.int .i64 x.1)).setIfInBounds d (.int .i64 x.1), defers := [] }
/-- The frame behind the loop. -/
def behindAct (a : Act) (D : Nat) : Act := { a with defers := { target := .collected D, args := #[] } :: a.defers }

theorem all_range {g : Operand} {ps : Array Tmp} {assign body : Code} {i : Nat} {K : Act → World → Prop} {Q : Exit → Act → World → Prop} {a : Act} {w : World} {n : Nat} (hn : 3 ≤ n) (d p : Nat) (Bs n₀ : Nat) (s : S)
    (hg : a.eval g = .func (.func 16) #[] #[.pointer (some ⟨Bs, 0, none⟩)]) (hps : ps = #[p]) (hS : SetAt w Bs s) (hT : Tab w) (hn₀ : 0 < n₀) (hle : n₀ ≤ w.heap.size)
    (I : List B8 → World → Prop) (Jx : List B8 → World → Prop) (hI : OwnFrom w.heap.size I) (hJx : OwnFrom w.heap.size Jx) (h0 : I [] w) (G : Nat → World → Prop)
    (hassign : ∀ (l : Nat) (x : B8) (W : World) (K : Act → World → Prop), K (roundAct a p d x) W →
      assign.wpIn (Fence.wide.inRound l) (n - 1 - 1) Tryd.prog (Exit.then K (fun _ _ _ => False)) { tmps := a.tmps.setIfInBounds p (.int .i64 x.1), defers := [] } W)
    (hbody : ∀ (l : Nat) (pre : List B8) (x : B8) (W : World), I pre W → pre.length < (elems s).length →
      body.wpIn (Fence.wide.inRound l) (n - 1 - 1) Tryd.prog (ownPostG w.heap.size (KpS n₀ Bs s) I (fun c pre W => ¬ pre <+: elems s ∨ (c = .exit i ∧ Jx pre W)) (pre ++ [x]) W) (roundAct a p d x) W)
    (hdone : ∀ (D : Nat) (W : World), w.heap.size ≤ D → I (elems s) W → W.heap[D]? = some (.deferred (some [])) → G D W)
    (hstop : ∀ (D : Nat) (pre : List B8) (W : World), w.heap.size ≤ D → pre <+: elems s → Jx pre W → W.heap[D]? = some (.deferred (some [])) → G D W)
    (hrest : ∀ (D : Nat) (W : World), G D W → K (behindAct a D) W) :
    (Code.rangeFunc g ps assign body).wpIn Fence.wide n Tryd.prog (Exit.inBlock i (Exit.then K Q)) a w := by
  subst hps
  refine wpIn_rangeFunc_ownG rfl (by omega) (gf := 16) (lb := #[.pointer (some ⟨Bs, 0, none⟩)]) hg trivial (enters_of Tryd.func16 (by kernel_rfl) rfl)
    (all_stops (n - 1) (by omega) Bs n₀ s w hS hT hn₀ hle) kpS_t (kpS_b hle) (Below.refl _ _) (fun _ => rfl) I (fun c pre W => ¬ pre <+: elems s ∨ (c = .exit i ∧ Jx pre W)) hI ?_ h0 (roundAct a p d) (fun l x W K hK => by have := hassign l x W K hK; simpa using this) hbody ?_ ?_
  · intro c pre W W' row h hg hr
    rcases h with h | ⟨h, h'⟩
    · exact .inl h
    · exact .inr ⟨h, hJx pre W W' row h' hg hr⟩
  · rintro D xs W hD rfl hi hK
    exact hrest D W (hdone D W hD hi hK)
  · rintro D c pre W hD hp h hK
    rcases h with h | ⟨rfl, h⟩
    · exact absurd hp h
    · refine wpIn_exit ?_
      show (if i = i then _ else _)
      rw [if_pos rfl]
      exact hrest D W (hstop D pre W hD hp h hK)

end Go.Proofs.YtcaijlmffdfhgabDoor
