/-
  Lists of calls on cells that came in; the numbers behind Back.
-/
import Derived.Test.YtobeiigmeflbjaaKnown4
namespace Go.Proofs.Ytobeiigmeflbjaa
open Go Go.RowKit

/-- A list of calls on cells that came in. -/
def ArgL (W : World) (v : Value) (ls : List (Int × Int × Int)) : Prop :=
  (∃ p cap, v = .slice p 0 cap ∧ ls = []) ∨ ∃ g off cap, v = .slice (some ⟨g, off, none⟩) ls.length cap ∧ g < W.heap.size ∧ ls.length ≤ cap ∧ cap ≤ maxLen ∧ ∀ (i : Nat) (x : Int × Int × Int), ls[i]? = some x →
    ((Lit.int .i64 x.1).wf = true ∧ (Lit.int .i64 x.2.1).wf = true ∧ (Lit.int .i64 x.2.2).wf = true) ∧ W.cell? ⟨g, off + i * 3, none⟩ = some (.int .i64 x.1) ∧ W.cell? ⟨g, off + i * 3 + 1, none⟩ = some (.int .i64 x.2.1) ∧ W.cell? ⟨g, off + i * 3 + 2, none⟩ = some (.int .i64 x.2.2)
theorem ArgL.slice {W : World} {v : Value} {ls : List (Int × Int × Int)} (h : ArgL W v ls) : ∃ q cap, v = .slice q ls.length cap ∧ ls.length ≤ maxLen ∧ ∀ (i : Nat) (x : Int × Int × Int), ls[i]? = some x → ∃ g off, q = some ⟨g, off, none⟩ ∧ g < W.heap.size ∧
    ((Lit.int .i64 x.1).wf = true ∧ (Lit.int .i64 x.2.1).wf = true ∧ (Lit.int .i64 x.2.2).wf = true) ∧ W.cell? ⟨g, off + i * 3, none⟩ = some (.int .i64 x.1) ∧ W.cell? ⟨g, off + i * 3 + 1, none⟩ = some (.int .i64 x.2.1) ∧ W.cell? ⟨g, off + i * 3 + 2, none⟩ = some (.int .i64 x.2.2) := by
  rcases h with ⟨p, cap, rfl, rfl⟩ | ⟨g, off, cap, rfl, hg, hl, hm, hc⟩
  · exact ⟨p, cap, rfl, Nat.zero_le _, fun i x hx => by simp at hx⟩
  · exact ⟨_, cap, rfl, Nat.le_trans hl hm, fun i x hx => ⟨g, off, rfl, hg, hc i x hx⟩⟩

theorem backV_back (V : List Int) (U : List (Int × Int)) {f m : Nat} (hf : f ≤ m) : backV (backV V U m) (U.take m) f = backV V U f := by
  unfold backV
  rw [← List.foldr_append]
  congr 1
  have e : U.drop m = (U.drop f).drop (m - f) := by rw [List.drop_drop]; congr 1; omega
  rw [List.drop_take, e, List.take_append_drop]
/-- A Set, taken back. -/
theorem backV_set (V : List Int) (U : List (Int × Int)) {i : Nat} {y : Int} (hi : V[i]? = some y) (x : Int) {m : Nat} (hm : m ≤ U.length) : backV (V.set i x) (U ++ [((i : Int), y)]) m = backV V U m := by
  unfold backV
  rw [List.drop_append_of_le_length hm, List.foldr_append]
  have : List.foldr (fun (p : Int × Int) A => A.set p.1.toNat p.2) (V.set i x) [((i : Int), y)] = V := by
    simp
    obtain ⟨h1, h2⟩ := List.getElem?_eq_some_iff.1 hi
    rw [← h2]
    simp
  rw [this]

/-- Cells beside others. -/
structure Two (n : Nat) (w : World) (a ga ua : Nat) (uva : Value) (V : List Int) (U : List (Int × Int)) (b gb ub : Nat) (uvb : Value) (V' : List Int) (U' : List (Int × Int)) (wr : World) : Prop where
  ca : CA n wr a ga ua uva V U
  cb : CA n wr b gb ub uvb V' U'
  d : ∀ k, clies a ga ua uva k → ¬ clies b gb ub uvb k
  bel : Below n w wr
  hn : n ≤ w.heap.size
theorem clies_moved {b g ub : Nat} {uv uv' : Value} {n : Nat} (hm : moved uv uv' n) {k : Nat} (hk : clies b g ub uv' k) (hl : k < n) : clies b g ub uv k := by
  rcases hk with q | q | q | q
  · exact .inl q
  · exact .inr (.inl q)
  · exact .inr (.inr (.inl q))
  · exact .inr (.inr (.inr (moved_in hm hl q)))
section
variable {n : Nat} {w wr w' : World} {a ga ua : Nat} {uva uva' : Value} {V V1 : List Int} {U U1 : List (Int × Int)} {b gb ub : Nat} {uvb uvb' : Value} {V' V1' : List Int} {U' U1' : List (Int × Int)}
theorem Two.len (h : Two n w a ga ua uva V U b gb ub uvb V' U' wr) : n ≤ wr.heap.size := Nat.le_trans h.hn h.bel.size
theorem Two.left (h : Two n w a ga ua uva V U b gb ub uvb V' U' wr) (hc : CA n w' a ga ua uva' V1 U1) (hm : moved uva uva' wr.heap.size) (hf : Fr (cfoot ga ua uva) wr w') : Two n w a ga ua uva' V1 U1 b gb ub uvb V' U' w' :=
  ⟨hc, h.cb.fr hf (fun k hk q => h.d k (.inr q) hk), fun k hk q => h.d k (clies_moved hm hk (h.cb.lt k q)) q, chainF h.bel hf h.hn h.ca.lof, h.hn⟩
theorem Two.right (h : Two n w a ga ua uva V U b gb ub uvb V' U' wr) (hc : CA n w' b gb ub uvb' V1' U1') (hm : moved uvb uvb' wr.heap.size) (hf : Fr (cfoot gb ub uvb) wr w') : Two n w a ga ua uva V U b gb ub uvb' V1' U1' w' :=
  ⟨h.ca.fr hf (fun k hk q => h.d k hk (.inr q)), hc, fun k hk q => h.d k hk (clies_moved hm q (h.ca.lt k hk)), chainF h.bel hf h.hn h.cb.lof, h.hn⟩
theorem Two.kept (h : Two n w a ga ua uva V U b gb ub uvb V' U' wr) (hb : Below wr.heap.size wr w') : Two n w a ga ua uva V U b gb ub uvb V' U' w' :=
  ⟨h.ca.kept hb, h.cb.kept hb, h.d, chain h.bel hb h.hn, h.hn⟩
end
/-- New cells beside others: nothing in common. -/
theorem two_new {n : Nat} {w w1 w2 : World} {a ga ua : Nat} {uva : Value} {V : List Int} {U : List (Int × Int)} {b gb ub : Nat} {uvb : Value} {V' : List Int} {U' : List (Int × Int)} (ca : CA n w1 a ga ua uva V U) (cb : CA w1.heap.size w2 b gb ub uvb V' U') (hb : Below w1.heap.size w1 w2) (bel : Below n w w1) (hn : n ≤ w.heap.size) :
    Two n w a ga ua uva V U b gb ub uvb V' U' w2 :=
  ⟨ca.kept hb, cb.mono (Nat.le_trans hn bel.size), fun k hk q => by have := ca.lt k hk; have := cb.lo k q; omega, chain bel hb hn, hn⟩
/-- A row that is all of a block. -/
theorem row_arg {W : World} {g : Nat} {V : List Int} (h : W.heap[g]? = some (.cells (ints V).toArray 3 (0, 0))) (hl : V.length ≤ maxLen) : ArgI W (.slice (some ⟨g, 0, none⟩) V.length V.length) V :=
  .inr ⟨g, 0, _, rfl, lt_of_heap h, Nat.le_refl _, hl, fun i x hx => by rw [Nat.zero_add]; exact cell_row h (by simpa using ints_get hx)⟩
theorem pk_nat (c : Int) {n : Nat} (hn : 0 < n) : ∃ r : Nat, r < n ∧ pk c n = r := by
  have := pk_range (c := c) hn
  exact ⟨(pk c n).toNat, by omega, by omega⟩
end Go.Proofs.Ytobeiigmeflbjaa
