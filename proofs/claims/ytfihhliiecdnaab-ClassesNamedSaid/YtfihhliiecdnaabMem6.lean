/-
  Lists of ranges in memory: lists that can be read, lists of one's own.
-/
import Derived.Test.YtfihhliiecdnaabCls
import Derived.Laws.OwnMore
namespace Go.Proofs.Ytfihhliiecdnaab
open Go Go.RowKit

theorem hide {p : Prop} (h : p) : Hid p := h
theorem wf_range {x : Int} (h : (Lit.int .i64 x).wf = true) : -9223372036854775808 ≤ x ∧ x ≤ 9223372036854775807 := by
  simp [Lit.wf, IntKind.min, IntKind.max, IntKind.signed, IntKind.bits] at h
  omega
theorem size_range : (Try.prog.info? 33).map (fun i => (i.zero, i.size, i.bytes)) = some (some (.agg #[.int .i64 0, .int .i64 0]), 2, 16) := by kernel_rfl
theorem und_ranges : Try.prog.underlying 25 = some (.slice 33) := by kernel_rfl

theorem max_run (P : Program) (t : Array TypeId) (ty : TypeId) (w : World) (x y : Int) : (Builtin.max_ t ty #[.int .i64 x, .int .i64 y]).run P w = .ok (.int .i64 (max x y)) w := by
  have e : max x y = if y > x then y else x := by split <;> omega
  rw [e]
  rfl
theorem min_run (P : Program) (t : Array TypeId) (ty : TypeId) (w : World) (x y : Int) : (Builtin.min_ t ty #[.int .i64 x, .int .i64 y]).run P w = .ok (.int .i64 (min x y)) w := by
  have e : min x y = if y < x then y else x := by split <;> omega
  rw [e]
  rfl
/-- Ranges that can be read. -/
def ArgR (W : World) (v : Value) (L : List (Int × Int)) : Prop :=
  (∃ p cap, v = .slice p 0 cap ∧ L = [] ∧ (p = none → cap = 0)) ∨ ∃ g off cap, v = .slice (some ⟨g, off, none⟩) L.length cap ∧ g < W.heap.size ∧ L.length ≤ cap ∧ cap ≤ maxLen ∧ ∀ (i : Nat) (r : Int × Int), L[i]? = some r → W.cell? ⟨g, off + 2 * i, none⟩ = some (.int .i64 r.1) ∧ W.cell? ⟨g, off + 2 * i + 1, none⟩ = some (.int .i64 r.2)
theorem ArgR.kept {W W' : World} {v : Value} {L : List (Int × Int)} (h : ArgR W v L) (hb : Below W.heap.size W W') : ArgR W' v L := by
  rcases h with h | ⟨g, off, cap, h1, h2, h3, h4, h5⟩
  · exact .inl h
  · exact .inr ⟨g, off, cap, h1, Nat.lt_of_lt_of_le h2 hb.size, h3, h4, fun i x hx => ⟨(hb.cell (p := ⟨g, off + 2 * i, none⟩) h2).trans (h5 i x hx).1, (hb.cell (p := ⟨g, off + 2 * i + 1, none⟩) h2).trans (h5 i x hx).2⟩⟩
theorem ArgR.slice {W : World} {v : Value} {L : List (Int × Int)} (h : ArgR W v L) : ∃ q cap, v = .slice q L.length cap ∧ L.length ≤ maxLen ∧ L.length ≤ cap ∧
    (∀ (i : Nat) (r : Int × Int), L[i]? = some r → ∃ g off, q = some ⟨g, off, none⟩ ∧ g < W.heap.size ∧ W.cell? ⟨g, off + 2 * i, none⟩ = some (.int .i64 r.1) ∧ W.cell? ⟨g, off + 2 * i + 1, none⟩ = some (.int .i64 r.2)) := by
  rcases h with ⟨p, cap, rfl, rfl, -⟩ | ⟨g, off, cap, rfl, h2, h3, h4, h5⟩
  · exact ⟨p, cap, rfl, Nat.zero_le _, Nat.zero_le _, fun i x hx => by simp at hx⟩
  · exact ⟨_, cap, rfl, Nat.le_trans h3 h4, h3, fun i x hx => ⟨g, off, rfl, h2, h5 i x hx⟩⟩

theorem ArgR.news {W : World} {ad : Addr} {n c : Nat} {L : List (Int × Int)} (h : ArgR W (.slice (some ad) n c) L) : ∀ j u, (cellsR L)[j]? = some u → W.cell? (ad.add j) = some u := by
  intro j u hj
  have hjl : j < L.length * 2 := by have := (List.getElem?_eq_some_iff.1 hj).1; rwa [cellsR_length] at this
  rcases h with ⟨p, cap, e, rfl, -⟩ | ⟨g, off, cap, e, h2, h3, h4, h5⟩
  · simp at hjl
  · cases e
    obtain ⟨q1, q2⟩ := h5 (j / 2) _ (List.getElem?_eq_getElem (by omega))
    obtain ⟨r1, r2⟩ := cellsR_get L (j / 2) _ (List.getElem?_eq_getElem (by omega))
    have hadd : (⟨g, off, none⟩ : Addr).add j = ⟨g, off + j, none⟩ := by unfold Addr.add; split <;> simp_all
    rw [hadd]
    rcases Nat.mod_two_eq_zero_or_one j with e | e
    · rw [show 2 * (j / 2) = j by omega] at q1 r1
      rw [q1, ← r1, hj]
    · rw [show off + 2 * (j / 2) + 1 = off + j by omega] at q2
      rw [show 2 * (j / 2) + 1 = j by omega] at r2
      rw [q2, ← r2, hj]
/-- Ranges in a list of one's own. -/
def RR (base : Nat) (w : World) (v : Value) (L : List (Int × Int)) : Prop := w.ownsRow base 33 2 v L.length (cellsR L)
theorem RR.arg {base : Nat} {w : World} {v : Value} {L : List (Int × Int)} (h : RR base w v L) : ArgR w v L := by
  have h' := h
  rcases h.2 with ⟨rfl, hn⟩ | ⟨g, cap, cur, rfl, hg, hc, h1, h2, h3, h4⟩
  · exact .inl ⟨none, 0, rfl, List.eq_nil_of_length_eq_zero hn, fun _ => rfl⟩
  · exact .inr ⟨g, 0, cap, rfl, lt_of_heap hc, h1, h2, fun i x hx => by
      obtain ⟨p1, p2⟩ := cellsR_get L i x hx
      rw [Nat.zero_add]
      exact ⟨ownsRow_cell h' p1, ownsRow_cell h' p2⟩⟩
theorem RR.nil (base : Nat) (w : World) : RR base w (.slice none 0 0) [] := ⟨rfl, .inl ⟨rfl, rfl⟩⟩
theorem RR.fr {base : Nat} {w w' : World} {v : Value} {L : List (Int × Int)} {S : Nat → Prop} (h : RR base w v L) (hf : Fr S w w') (hs : ∀ k, v.ownBlock = some k → ¬ S k) : RR base w' v L := ownsRow_fr h hf hs
theorem RR.kept {base : Nat} {w w' : World} {v : Value} {L : List (Int × Int)} (h : RR base w v L) (hb : Below w.heap.size w w') : RR base w' v L := h.fr (S := fun _ => False) (Fr.of_below hb) (fun _ _ q => q)
theorem RR.mono {base base' : Nat} {w : World} {v : Value} {L : List (Int × Int)} (h : RR base w v L) (hb : base' ≤ base) : RR base' w v L := ownsRow_mono h hb
theorem RR.shape {base : Nat} {w : World} {v : Value} {L : List (Int × Int)} (h : RR base w v L) : ∃ q c, v = .slice q L.length c := ownsRow_shape h

/-- A class of the numbers of which p is so. -/
structure IsC (C : List (Int × Int)) (p : Int → Prop) : Prop where
  cls : Cls C
  fit : Fit C
  mem : ∀ c, In C c ↔ p c
theorem IsC.one {C D : List (Int × Int)} {p q : Int → Prop} (h : IsC C p) (k : IsC D q) (e : ∀ c, p c ↔ q c) : C = D :=
  cls_unique C D h.cls k.cls fun c => (h.mem c).trans ((e c).trans (k.mem c).symm)
theorem IsC.to {C : List (Int × Int)} {p q : Int → Prop} (h : IsC C p) (e : ∀ c, p c ↔ q c) : IsC C q := ⟨h.cls, h.fit, fun c => (h.mem c).trans (e c)⟩
/-- What a call answers that makes a class. -/
def Gets (w : World) (p : Int → Prop) (n : Nat) (e : Ending) (w' : World) : Prop := ∃ v C, e = .returned v ∧ RR w.heap.size w' v C ∧ IsC C p ∧ C.length ≤ n ∧ Below w.heap.size w w'
end Go.Proofs.Ytfihhliiecdnaab
