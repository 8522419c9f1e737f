/-
  Rows of three numbers: what == says of two; what the order says of the first place at which two part.
-/
import Derived.Test.YtmfljfedpdipiaaOrdA
import Derived.Test.YtmfljfedpdipiaaCmp
namespace Go.Proofs.Ytmfljfedpdipiaa
open Go Go.RowKit

theorem eqg_row : Try.prog.eqGuardType Try.prog.depth 50 = false := by kernel_rfl
theorem eqIn_nums (x0 x1 x2 y0 y1 y2 : Int) (w : World) :
    (Op.equalIn 10000 50 (.agg #[.int .i64 x0, .int .i64 x1, .int .i64 x2]) (.agg #[.int .i64 y0, .int .i64 y1, .int .i64 y2])).run Try.prog w
      = .ok (x0 == y0 && x1 == y1 && x2 == y2) w := by
  have u22 := Try.underlying3
  have a22 := Try.isAgg3
  have z22 := Try.sizeOf3
  have hu : Try.prog.underlying 50 = some (.array 3 3) := by kernel_rfl
  rw [show (10000 : Nat) = 9999 + 1 from rfl, Op.equalIn]
  simp only [Sem.run_bind, run_underlying hu, Result.andThen_ok]
  simp only [Std.Legacy.Range.forIn_eq_forIn_range', Std.Legacy.Range.size, Nat.sub_zero, Nat.add_sub_cancel, Nat.div_one, List.range'_succ, List.range'_zero, List.forIn_cons, List.forIn_nil]
  go_simp
  by_cases h0 : x0 = y0 <;> by_cases h1 : x1 = y1 <;> by_cases h2 : x2 = y2 <;> simp [h0, h1, h2]
theorem eqIn_row (x y : Int × Int × Int) (w : World) :
    (Op.equalIn 10000 50 (.agg #[.int .i64 x.1, .int .i64 x.2.1, .int .i64 x.2.2]) (.agg #[.int .i64 y.1, .int .i64 y.2.1, .int .i64 y.2.2])).run Try.prog w = .ok (decide (x = y)) w := by
  rw [eqIn_nums]
  congr 1
  obtain ⟨a, b, c⟩ := x
  obtain ⟨d, e, f⟩ := y
  by_cases h0 : a = d <;> by_cases h1 : b = e <;> by_cases h2 : c = f <;> simp [h0, h1, h2]
/-- Two rows that are the same ahead of a place, and differ there (or it is the last one). -/
theorem lex3 {z x : Int × Int × Int} (h : lexC (k3 z) (k3 x) = -1) {k : Nat} (hk : k ≤ 2) (he : ∀ j, j < k → (k3 z)[j]? = (k3 x)[j]?) {a c : Int} (ha : (k3 z)[k]? = some a) (hc : (k3 x)[k]? = some c) (hd : k = 2 ∨ a ≠ c) : a < c := by
  obtain ⟨z0, z1, z2⟩ := z
  obtain ⟨x0, x1, x2⟩ := x
  have e0 := he 0
  have e1 := he 1
  simp only [k3, lexC] at *
  have hk' : k = 0 ∨ k = 1 ∨ k = 2 := by omega
  rcases hk' with rfl | rfl | rfl
  · simp at ha hc hd
    subst ha hc
    split at h
    · assumption
    · split at h
      · cases h
      · omega
  · simp at ha hc hd e0
    subst ha hc e0
    rw [if_neg (Int.lt_irrefl _), if_neg (Int.lt_irrefl _)] at h
    split at h
    · assumption
    · split at h
      · cases h
      · omega
  · simp at ha hc e0 e1
    subst ha hc e0 e1
    rw [if_neg (Int.lt_irrefl _), if_neg (Int.lt_irrefl _), if_neg (Int.lt_irrefl _), if_neg (Int.lt_irrefl _)] at h
    split at h
    · assumption
    · split at h <;> cases h
theorem k3_at (z : Int × Int × Int) {k : Nat} (hk : k ≤ 2) : ∃ a, (k3 z)[k]? = some a := ⟨_, List.getElem?_eq_getElem (by rw [k3_len]; omega)⟩
/-- What stands behind the range. -/
structure RS (w : World) (BL BR b NB : Nat) (sv : Value) (zs : List (Int × Int × Int)) (D : Nat) (W : World) : Prop where
  t : ∃ (N : Nat) (m : List Int → Option Int), TS w.heap.size W b 3 1000000 (firsts zs zs.length) N m
  bl : Boxed W BL 48 sv
  br : Boxed W BR 4 (.bool false)
  nb : Boxed W NB 3 (.int .i64 (firsts zs zs.length : Nat))
  d : W.heap[D]? = some (.deferred (some []))
  hd : w.heap.size ≤ D
  hr : w.heap.size ≤ BR
  bel : Below w.heap.size w W
theorem RS.kept {w : World} {BL BR b NB : Nat} {sv : Value} {zs : List (Int × Int × Int)} {D : Nat} {W W' : World} (h : RS w BL BR b NB sv zs D W) (hb : Below W.heap.size W W') : RS w BL BR b NB sv zs D W' := by
  obtain ⟨N, m, h1⟩ := h.t
  exact ⟨⟨N, m, h1.kept hb⟩, (hb.block _ h.bl.lt).trans h.bl, (hb.block _ h.br.lt).trans h.br, (hb.block _ h.nb.lt).trans h.nb, (hb.block _ (lt_of_heap h.d)).trans h.d, h.hd, h.hr, chain h.bel hb (Nat.le_refl _)⟩
end Go.Proofs.Ytmfljfedpdipiaa
