/-
  Parts of the proof.
-/
import Derived.Test.YtaikcnoiaaiopaaDoorPlaysProofB22
import Derived.Test.YtaikcnoiaaiopaaDoorPlaysProofB23
set_option linter.unusedSimpArgs false
namespace Go.Proofs.YtaikcnoiaaiopaaDoor
open Go Go.RowKit Go.Shelf
attribute [local go_sem] Oper.semAt_some
theorem exists_least {P : Nat → Prop} (h : ∃ n, P n) : ∃ n, P n ∧ ∀ k, P k → n ≤ k := by
  obtain ⟨n, hn⟩ := h
  induction n using Nat.strongRecOn with
  | _ n ih =>
    by_cases hk : ∃ k, k < n ∧ P k
    · obtain ⟨k, h1, h2⟩ := hk; exact ih k h1 h2
    · exact ⟨n, hn, fun k hp => by
        rcases Nat.lt_or_ge k n with q | q
        · exact absurd ⟨k, q, hp⟩ hk
        · exact q⟩
theorem least_next {K : List Nat → Kn} {y : List Nat} {n : Nat} (h : LeastK K y n) : z1_nextV (K y).ws 0 = (n : Int) := by
  have hn : n < 256 := by
    rcases Nat.lt_or_ge n 256 with q | q
    · exact q
    · have := h.1; rw [BitVec.getLsbD_of_ge _ _ q] at this; cases this
  have : z1_snext (K y).ws 0 = some n := by
    unfold z1_snext
    refine z1_find_least hn (by simp [h.1]) (fun j hj => ?_)
    have : (K y).ws.getLsbD j = false := by rw [Bool.eq_false_iff]; intro q; have := h.2 j q; omega
    simp [this]
  unfold z1_nextV
  rw [this]
set_option maxRecDepth 100000 in
set_option maxHeartbeats 2000000 in
theorem least_c {base : Nat} {w : World} {T : Pt} {D : List Nat → Prop} {R : List Nat → Nat → Prop} {K : List Nat → Kn} (h : TrM base w T D R K) (ht : z1_Tab w) {y : List Nat} (hy : D y) {n : Nat} (hn : LeastK K y n) :
    Calls Tryd.prog 28 #[nodeP T y] w fun e w' => e = .returned (.int .i64 (n : Int)) ∧ Below w.heap.size w w' := by
  obtain ⟨c0, c1, c2, c3⟩ := h.cWs hy
  have HT := hide ht
  have HN := hide (least_next hn)
  clear h ht hn
  go_enter Tryd.func28, Tryd.ntmps28
  go_wp2_with (go_at_call 42; (with_reducible refine (z1_next_any _ _ _ HT.out).mono ?_); rintro e w1 ⟨rfl, hb⟩; have HB := hide hb; clear hb)
  go_ret
  exact ⟨by rw [← HN.out]; rfl, HB.out⟩
set_option maxRecDepth 100000 in
set_option maxHeartbeats 2000000 in
theorem earlier_c (a b c d : Nat) (w : World) :
    Calls Tryd.prog 27 #[.agg #[.int .i64 (a : Int), .int .i64 (b : Int)], .agg #[.int .i64 (c : Int), .int .i64 (d : Int)]] w fun e w' => e = .returned (.agg #[.int .i64 ((earl a b c d).1 : Int), .int .i64 ((earl a b c d).2 : Int)]) ∧ Below w.heap.size w w' := by
  have HB : Hid (∀ (x y z : Obj), Below w.heap.size w (((w.alloc x).alloc y).alloc z)) := hide (fun x y z => (((Below.refl _ _).alloc (Nat.le_refl _) _).alloc (by simp) _).alloc (by simp; omega) _)
  by_cases h1 : a < c
  · have i1 : (a : Int) < (c : Int) := by omega
    have E := hide (show earl a b c d = (a, b) by simp [earl, h1])
    clear h1
    go_enter Tryd.func27, Tryd.ntmps27
    go_wp2
    refine bodyPost_ret (v := .agg #[.int .i64 (a : Int), .int .i64 (b : Int)]) (by simp [results, Tryd.results27, go_sem]) rfl ?_
    exact ⟨by rw [E.out], HB.out _ _ _⟩
  · have i1 : ¬ (a : Int) < (c : Int) := by omega
    by_cases h2 : a = c
    · subst h2
      have i2 : ((a : Int) == (a : Int)) = true := by simp
      by_cases h3 : b < d
      · have i3 : (b : Int) < (d : Int) := by omega
        have E := hide (show earl a b a d = (a, b) by simp [earl, h3])
        clear h1 h3
        go_enter Tryd.func27, Tryd.ntmps27
        go_wp2
        refine bodyPost_ret (v := .agg #[.int .i64 (a : Int), .int .i64 (b : Int)]) (by simp [results, Tryd.results27, go_sem]) rfl ?_
        exact ⟨by rw [E.out], HB.out _ _ _⟩
      · have i3 : ¬ (b : Int) < (d : Int) := by omega
        have E := hide (show earl a b a d = (a, d) by simp [earl, h3])
        clear h1 h3
        go_enter Tryd.func27, Tryd.ntmps27
        go_wp2
        refine bodyPost_ret (v := .agg #[.int .i64 (a : Int), .int .i64 (d : Int)]) (by simp [results, Tryd.results27, go_sem]) rfl ?_
        exact ⟨by rw [E.out], HB.out _ _ _⟩
    · have i2 : ((a : Int) == (c : Int)) = false := by rw [beq_eq_false_iff_ne]; omega
      have E := hide (show earl a b c d = (c, d) by simp [earl, h1, h2])
      clear h1 h2
      go_enter Tryd.func27, Tryd.ntmps27
      go_wp2
      refine bodyPost_ret (v := .agg #[.int .i64 (c : Int), .int .i64 (d : Int)]) (by simp [results, Tryd.results27, go_sem]) rfl ?_
      exact ⟨by rw [E.out], HB.out _ _ _⟩
end Go.Proofs.YtaikcnoiaaiopaaDoor
