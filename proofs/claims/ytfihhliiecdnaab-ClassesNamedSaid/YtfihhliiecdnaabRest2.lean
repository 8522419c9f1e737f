/-
  rest, as it runs.
-/
import Derived.Test.YtfihhliiecdnaabRest
namespace Go.Proofs.Ytfihhliiecdnaab
open Go Go.RowKit

theorem below_grown {w w1 w6 : World} {v : Value} {n : Nat} {xs : List Value} {t : TypeId} {size : Nat} (B : Below w.heap.size w w1) (ho : w1.ownsRow w.heap.size t size v n xs) (hg : w1.grownBy w6 v.ownBlock) : Below w.heap.size w w6 :=
  chainF B ((Fr.refl (blk v) w1).grown hg fun _ hk => hk) (Nat.le_refl _) (fun _ hk => (ownsRow_at ho hk).1)
theorem box_kept {base : Nat} {w w6 : World} {v : Value} {n size : Nat} {xs : List Value} {t tt : TypeId} {cs : Array Value} {o2 : Obj} (ho : w.ownsRow base t size v n xs) (hg : ((w.alloc (.cells cs tt)).alloc o2).grownBy w6 v.ownBlock) : w6.heap[w.heap.size]? = some (.cells cs tt (0, 0)) := by
  refine (hg.block w.heap.size (by simp; omega) ?_).trans ((Below.heap_alloc _ _ _ (by simp)).trans (alloc_new w _))
  intro e
  have := (ownsRow_at ho e.symm).2.1
  omega
theorem rr_app {base : Nat} {w : World} {n c g : Nat} {G : List (Int × Int)} {a b : Int} (h : w.ownsRow base 33 2 (.slice (some ⟨g, 0, none⟩) (G.length + 1) c) n (cellsR G ++ [.int .i64 a, .int .i64 b])) : RR base w (.slice (some ⟨g, 0, none⟩) (G.length + 1) c) (G ++ [(a, b)]) := by
  have hn : n = G.length + 1 := by have := h.1; simp [cellsR_length] at this; omega
  subst hn
  unfold RR
  rw [List.length_append, List.length_singleton, cellsR_append]
  exact h
theorem news2b (W : World) (o : Obj) (a b : Value) (t : TypeId) : ∀ (j : Nat) (u : Value), [a, b][j]? = some u → ((W.alloc o).alloc (.cells #[a, b] t)).cell? ((⟨W.heap.size + 1, 0, none⟩ : Addr).add j) = some u := by
  have := news2 (W.alloc o) a b t
  simpa using this
end Go.Proofs.Ytfihhliiecdnaab
