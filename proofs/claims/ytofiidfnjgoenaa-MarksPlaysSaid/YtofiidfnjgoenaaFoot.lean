/-
  What the state of a script holds lies in blocks of cells: a row that is none leaves it.
-/
import Derived.Test.YtofiidfnjgoenaaHeld
import Derived.Test.YtofiidfnjgoenaaOver
namespace Go.Proofs.Ytofiidfnjgoenaa
open Go Go.RowKit Go.Shelf

theorem Fr.grownN {S : Nat → Prop} {a w w' : World} {row : Option Nat} (h : Fr S a w) (hg : w.grownBy w' row) (hr : ∀ k, row = some k → a.heap.size ≤ k) : Fr S a w' :=
  ⟨hg.os.trans h.os, hg.tape.trans h.tape, hg.output.trans h.output, Nat.le_trans h.size hg.size, fun k hk hs => (hg.block k (Nat.lt_of_lt_of_le hk h.size) (fun e => by have := hr k e.symm; omega)).trans (h.block k hk hs)⟩

theorem OutAt.heap {W : World} {ov : Value} {vs : List Value} (h : OutAt W ov vs) {g : Nat} (hg : ov.ownBlock = some g) : ∃ c, W.heap[g]? = some (.cells c 41 (0, 0)) := by
  rcases h.row.2 with ⟨rfl, _⟩ | ⟨g', cap, cur, rfl, _, h4, _⟩
  · simp [Value.ownBlock] at hg
  · simp [Value.ownBlock] at hg
    subst hg
    exact ⟨cur, h4⟩

theorem WS.grown {W W' : World} {wb B : Nat} {s : St} {row : Option Nat} (h : WS W wb s) (hg : W.grownBy W' row) (hr : ∀ r, row = some r → B ≤ r ∧ ∃ o : Obj, W.heap[r]? = some o ∧ o.isCells = false) : WS W' wb s := by
  have N : ∀ {j : Nat} {c : Array Value} {t : TypeId} {f : Nat × Nat}, W.heap[j]? = some (.cells c t f) → ¬ row = some j := fun hj e => by
    obtain ⟨_, o, ho, hq⟩ := hr _ e
    rw [hj] at ho
    injection ho with ho
    subst ho
    simp [Obj.isCells] at hq
  refine h.same (S := fun j => row = some j) ((Fr.refl _ _).grown hg (fun k e => e)) (N h.hb) (fun k => ⟨N (h.m k).hb, ?_, ?_⟩) (fun k => N (h.r k).hb) (fun k g q => ?_) (fun k => N (h.a k)) (fun g q => ?_) (fun u hu g q => ?_)
  · obtain ⟨c, e⟩ := (h.m k).heapo; exact N e
  · obtain ⟨c, e⟩ := (h.m k).heapp; exact N e
  · obtain ⟨c, e⟩ := (h.r k).ho.heap q; exact N e
  · obtain ⟨c, e⟩ := h.out.heap q; exact N e
  · obtain ⟨i, hi⟩ := List.mem_iff_getElem?.1 hu
    obtain ⟨n, _, ho⟩ := h.out.lists i u hi
    obtain ⟨c, e⟩ := ho.heap q
    exact N e

theorem WS.foot_lt {W : World} {wb : Nat} {s : St} (h : WS W wb s) {j : Nat} (hj : s.foot wb j) : j < W.heap.size := by
  rcases hj with rfl | ⟨k, q⟩ | ⟨k, rfl⟩ | ⟨k, q⟩ | q
  · exact lt_of_heap h.hb
  · rcases q with rfl | rfl | rfl
    · exact (h.m k).ltb
    · exact (h.m k).lto
    · exact (h.m k).ltp
  · exact (h.r k).ltb
  · obtain ⟨c, e⟩ := (h.r k).ho.heap q; exact lt_of_heap e
  · obtain ⟨c, e⟩ := h.out.heap q; exact lt_of_heap e

/-- An iterator is gone over, with no call in its midst. -/
theorem over0_c {w : World} {wb : Nat} {s : St} (h : WS w wb s) (heq : s.R = s.L) (k : Bool) (ab : Nat) (hB : Boxed w ab 23 (s.mv k)) (o0 o1 o2 lv tn o6 : Int) (wl : (Lit.int .i64 lv).wf = true) :
    Calls Try.prog 28 #[.pointer (some ⟨wb, 0, none⟩), .int .i64 (kN k : Int), .func (.func 26) #[] #[.pointer (some ⟨ab, 0, none⟩)], .agg #[.int .i64 o0, .int .i64 o1, .int .i64 o2, .int .i64 lv, .int .i64 tn, .int .i64 0, .int .i64 o6]] w
      fun e W' => e = .returned (.bool true) ∧ Below w.heap.size w W' := callsIn_wide.1 (over0_in 3 (Nat.le_refl _) h heq k ab hB o0 o1 o2 lv tn o6 wl)
end Go.Proofs.Ytofiidfnjgoenaa
