/-
  The law's world: two tables, the document's beside each, the keys that came out.
-/
import Derived.Test.YtmfljfedpdipiaaOwns4
namespace Go.Proofs.Ytmfljfedpdipiaa
open Go Go.RowKit Go.Shelf

/-- What All answered. -/
def fnV (ab : Nat) : Value := .func (.func 15) #[] #[.pointer (some ⟨ab, 0, none⟩)]
theorem OutAt.fr {n0 : Nat} {W W' : World} {ov : Value} {vs : List Value} {S : Nat → Prop} (h : OutAt n0 W ov vs) (hf : Fr S W W') (h1 : ∀ z, ov.ownBlock = some z → ¬ S z) (h2 : ∀ (i : Nat) (v : Value) (z : Nat), vs[i]? = some v → v.ownBlock = some z → ¬ S z) : OutAt n0 W' ov vs :=
  ⟨row_frb h.row hf h1, fun i v hv => by
    obtain ⟨n, hn, hr⟩ := h.lists i v hv
    exact ⟨n, hn, row_frb hr hf (fun z hz => h2 i v z hv hz)⟩⟩
theorem OutAt.ltype {n0 : Nat} {W : World} {ov : Value} {vs : List Value} (h : OutAt n0 W ov vs) {i : Nat} {v : Value} {z : Nat} (hv : vs[i]? = some v) (hz : v.ownBlock = some z) : ∃ cur, W.heap[z]? = some (.cells cur 3 (0, 0)) := by
  obtain ⟨n, _, hr⟩ := h.lists i v hv
  exact (own_block hr hz).2

structure WS (W0 : World) (wb : Nat) (s : Nat → Sd) (ov : Value) (vs : List Value) (W : World) : Prop where
  hb : W.heap[wb]? = some (.cells #[.pointer (some ⟨(s 0).b, 0, none⟩), .pointer (some ⟨(s 1).b, 0, none⟩), .pointer (some ⟨(s 0).rb, 0, none⟩), .pointer (some ⟨(s 1).rb, 0, none⟩), fnV (s 0).ab, fnV (s 1).ab, ov] 34 (0, 0))
  p : ∀ i, i < 2 → PW W (s i)
  ap : ∀ i j, i < 2 → j < 2 → i ≠ j → ∀ k, (s i).foot k → ¬ (s j).foot k
  out : OutAt W0.heap.size W ov vs
  f : ∀ i, i < 2 → ∀ k, (s i).foot k → W0.heap.size ≤ k
  hw : W0.heap.size ≤ wb
  bel : Below W0.heap.size W0 W
/-- A change of one side. -/
def setS (s : Nat → Sd) (i : Nat) (x : Sd) : Nat → Sd := fun j => if j = i then x else s j
theorem setS_same (s : Nat → Sd) (i : Nat) (x : Sd) : setS s i x i = x := if_pos rfl
theorem setS_ne {s : Nat → Sd} {i j : Nat} {x : Sd} (h : j ≠ i) : setS s i x j = s j := if_neg h
section
variable {W0 W W' : World} {wb : Nat} {s : Nat → Sd} {ov : Value} {vs : List Value} {i : Nat}
theorem WS.ct (h : WS W0 wb s ov vs W) (hi : i < 2) : W.cell? ⟨wb, i, none⟩ = some (.pointer (some ⟨(s i).b, 0, none⟩)) := by
  have : i = 0 ∨ i = 1 := by omega
  rcases this with rfl | rfl
  · exact cell_row h.hb (i := 0) rfl
  · exact cell_row h.hb (i := 1) rfl
theorem WS.cr (h : WS W0 wb s ov vs W) (hi : i < 2) : W.cell? ⟨wb, 2 + i, none⟩ = some (.pointer (some ⟨(s i).rb, 0, none⟩)) := by
  have : i = 0 ∨ i = 1 := by omega
  rcases this with rfl | rfl
  · exact cell_row h.hb (i := 2) rfl
  · exact cell_row h.hb (i := 3) rfl
theorem WS.ca (h : WS W0 wb s ov vs W) (hi : i < 2) : W.cell? ⟨wb, 4 + i, none⟩ = some (fnV (s i).ab) := by
  have : i = 0 ∨ i = 1 := by omega
  rcases this with rfl | rfl
  · exact cell_row h.hb (i := 4) rfl
  · exact cell_row h.hb (i := 5) rfl
theorem WS.size (h : WS W0 wb s ov vs W) : W0.heap.size ≤ W.heap.size := h.bel.size
/-- All blocks that it speaks of are cells. -/
def WS.blk (wb : Nat) (s : Nat → Sd) (ov : Value) (vs : List Value) (z : Nat) : Prop := z = wb ∨ (∃ i, i < 2 ∧ ((s i).foot z ∨ (s i).keys z ∨ z = (s i).ab)) ∨ ov.ownBlock = some z ∨ ∃ (i : Nat) (v : Value), vs[i]? = some v ∧ v.ownBlock = some z
theorem WS.cells (h : WS W0 wb s ov vs W) {z : Nat} (hz : WS.blk wb s ov vs z) : ∃ cur t, W.heap[z]? = some (.cells cur t (0, 0)) := by
  rcases hz with rfl | ⟨i, hi, hz | hz | rfl⟩ | hz | ⟨i, v, hv, hz⟩
  · exact ⟨_, _, h.hb⟩
  · obtain ⟨c, t, h1, _⟩ := (h.p i hi).ftype hz; exact ⟨c, t, h1⟩
  · obtain ⟨c, h1⟩ := (h.p i hi).ktype hz; exact ⟨c, _, h1⟩
  · exact ⟨_, _, (h.p i hi).a⟩
  · obtain ⟨_, c, h1⟩ := own_block h.out.row hz; exact ⟨c, _, h1⟩
  · obtain ⟨c, h1⟩ := h.out.ltype hv hz; exact ⟨c, _, h1⟩
theorem WS.lt (h : WS W0 wb s ov vs W) {z : Nat} (hz : WS.blk wb s ov vs z) : z < W.heap.size := by
  obtain ⟨c, t, h1⟩ := h.cells hz
  exact lt_of_heap h1
theorem WS.fr {S : Nat → Prop} (h : WS W0 wb s ov vs W) (hf : Fr S W W') (hs : ∀ z, WS.blk wb s ov vs z → ¬ S z) (hS : ∀ z, S z → W0.heap.size ≤ z) : WS W0 wb s ov vs W' :=
  ⟨(hf.block _ (lt_of_heap h.hb) (hs _ (.inl rfl))).trans h.hb, fun i hi => (h.p i hi).fr hf (fun k hk => hs k (.inr (.inl ⟨i, hi, .inl hk⟩))) (fun k hk => hs k (.inr (.inl ⟨i, hi, .inr (.inl hk)⟩))) (hs _ (.inr (.inl ⟨i, hi, .inr (.inr rfl)⟩))), h.ap,
    h.out.fr hf (fun z hz => hs z (.inr (.inr (.inl hz)))) (fun i v z hv hz => hs z (.inr (.inr (.inr ⟨i, v, hv, hz⟩)))), h.f, h.hw, h.bel.trans (hf.below h.bel.size hS)⟩
theorem WS.kept (h : WS W0 wb s ov vs W) (hb : Below W.heap.size W W') : WS W0 wb s ov vs W' := h.fr (S := fun _ => False) (Fr.of_below hb) (fun _ _ q => q) (fun _ q => q.elim)
theorem WS.grown {row : Option Nat} {B : Nat} (h : WS W0 wb s ov vs W) (hB : W0.heap.size ≤ B) (hg : W.grownBy W' row) (hr : ∀ r, row = some r → B ≤ r ∧ ∃ o : Obj, W.heap[r]? = some o ∧ o.isCells = false) : WS W0 wb s ov vs W' := by
  refine h.fr (S := fun k => some k = row) ⟨hg.os, hg.tape, hg.output, hg.size, fun k hk hs => hg.block k hk hs⟩ (fun z hz e => ?_) (fun z e => Nat.le_trans hB (hr z e.symm).1)
  obtain ⟨c, t, h1⟩ := h.cells hz
  obtain ⟨_, o, ho, hq⟩ := hr z e.symm
  rw [h1] at ho; cases ho; cases hq
/-- A call on one side. -/
theorem WS.does {s' : Sd} (h : WS W0 wb s ov vs W) (hi : i < 2) (hp : PW W' s') (hn : Next W.heap.size (s i) s') (hf : Fr (s i).foot W W') : WS W0 wb (setS s i s') ov vs W' := by
  have hty := fun k (hk : (s i).foot k) => (h.p i hi).ftype hk
  have nofoot : ∀ k cur t, W.heap[k]? = some (.cells cur t (0, 0)) → t ≠ 58 → t ≠ 62 → t ≠ 41 → t ≠ 71 → ¬ (s i).foot k := fun k cur t hc h1 h2 h3 h4 hk => by
    obtain ⟨c, t', h5, h6⟩ := hty k hk
    have := heap_type hc h5
    subst this
    rcases h6 with q | q | q | q
    · exact h1 q
    · exact h2 q
    · exact h3 q
    · exact h4 q
  have same : ∀ j, (setS s i s' j).b = (s j).b ∧ (setS s i s' j).rb = (s j).rb ∧ (setS s i s' j).ab = (s j).ab := fun j => by
    by_cases hj : j = i
    · subst hj; rw [setS_same]; exact ⟨hn.b, hn.rb, hn.ab⟩
    · rw [setS_ne hj]; exact ⟨rfl, rfl, rfl⟩
  refine ⟨?_, fun j hj => ?_, fun j j' hj hj' hne k hk hk' => ?_, ?_, fun j hj k hk => ?_, h.hw, h.bel.trans (hf.below h.bel.size (fun k hk => h.f i hi k hk))⟩
  · rw [(same 0).1, (same 1).1, (same 0).2.1, (same 1).2.1, (same 0).2.2, (same 1).2.2]
    exact (hf.block _ (lt_of_heap h.hb) (nofoot _ _ _ h.hb (by decide) (by decide) (by decide) (by decide))).trans h.hb
  · by_cases e : j = i
    · subst e; rw [setS_same]; exact hp
    · rw [setS_ne e]
      refine (h.p j hj).fr hf (fun k hk hk' => h.ap j i hj hi e k hk hk') (fun k hk => ?_) (nofoot _ _ _ (h.p j hj).a (by decide) (by decide) (by decide) (by decide))
      obtain ⟨c, h1⟩ := (h.p j hj).ktype hk
      exact nofoot _ _ _ h1 (by decide) (by decide) (by decide) (by decide)
  · have side : ∀ a, a < 2 → ∀ k, (setS s i s' a).foot k → (s a).foot k ∨ (a = i ∧ W.heap.size ≤ k) := fun a ha k hk => by
      by_cases e : a = i
      · subst e; rw [setS_same] at hk
        exact (hn.foot k hk).imp id (fun q => ⟨rfl, q⟩)
      · rw [setS_ne e] at hk; exact .inl hk
    rcases side j hj k hk with q | ⟨q1, q2⟩
    · rcases side j' hj' k hk' with z | ⟨_, z⟩
      · exact h.ap j j' hj hj' hne k q z
      · have := (h.p j hj).flt q; omega
    · rcases side j' hj' k hk' with z | ⟨z, _⟩
      · have := (h.p j' hj').flt z; omega
      · omega
  · refine h.out.fr hf (fun z hz => ?_) (fun a v z hv hz => ?_)
    · obtain ⟨_, c, h1⟩ := own_block h.out.row hz
      exact nofoot _ _ _ h1 (by decide) (by decide) (by decide) (by decide)
    · obtain ⟨c, h1⟩ := h.out.ltype hv hz
      exact nofoot _ _ _ h1 (by decide) (by decide) (by decide) (by decide)
  · by_cases e : j = i
    · subst e; rw [setS_same] at hk
      rcases hn.foot k hk with q | q
      · exact h.f j hj k q
      · exact Nat.le_trans h.size q
    · rw [setS_ne e] at hk; exact h.f j hj k hk
/-- A key that came out is its owner's. -/
theorem WS.owned {V0 : World} {gx n : Nat} {ov' v' : Value} (h0 : WS W0 wb s ov vs V0) (h : WS W0 wb s ov vs W) (hg : V0.heap.size ≤ gx) (hgt : ∃ cur, W.heap[gx]? = some (.cells cur 3 (0, 0)))
    (hb : W'.heap[wb]? = some (.cells #[.pointer (some ⟨(s 0).b, 0, none⟩), .pointer (some ⟨(s 1).b, 0, none⟩), .pointer (some ⟨(s 0).rb, 0, none⟩), .pointer (some ⟨(s 1).rb, 0, none⟩), fnV (s 0).ab, fnV (s 1).ab, ov'] 34 (0, 0)))
    (hrow : W'.ownsRow W0.heap.size 44 1 ov' (vs.length + 1) (vs ++ [v'])) (hl : W'.ownsRow W0.heap.size 3 1 v' n (ints (marked vs.length n))) (hn : n ≤ 1000) (hf : Fr (fun z => z = wb ∨ ov.ownBlock = some z ∨ z = gx) W W') : WS W0 wb s ov' (vs ++ [v']) W' := by
  have old : ∀ z, WS.blk wb s ov vs z → z ≠ gx := fun z hz e => by have := h0.lt hz; omega
  have apart : ∀ z cur t, W.heap[z]? = some (.cells cur t (0, 0)) → t ≠ 34 → t ≠ 44 → z ≠ gx → ¬ (z = wb ∨ ov.ownBlock = some z ∨ z = gx) := fun z cur t hc h1 h2 h3 q => by
    rcases q with rfl | q | q
    · exact h1 (heap_type hc h.hb)
    · obtain ⟨_, c, h4⟩ := own_block h.out.row q
      exact h2 (heap_type hc h4)
    · exact h3 q
  refine ⟨hb, fun i hi => (h.p i hi).fr hf (fun k hk => ?_) (fun k hk => ?_) (apart _ _ _ (h.p i hi).a (by decide) (by decide) (old _ (.inr (.inl ⟨i, hi, .inr (.inr rfl)⟩)))), h.ap, ⟨?_, fun i v hv => ?_⟩, h.f, h.hw, h.bel.trans (hf.below h.bel.size (fun z hz => ?_))⟩
  · obtain ⟨c, t, h1, h2⟩ := (h.p i hi).ftype hk
    refine apart _ _ _ h1 ?_ ?_ (old _ (.inr (.inl ⟨i, hi, .inl hk⟩))) <;> rcases h2 with rfl | rfl | rfl | rfl <;> decide
  · obtain ⟨c, h1⟩ := (h.p i hi).ktype hk
    exact apart _ _ _ h1 (by decide) (by decide) (old _ (.inr (.inl ⟨i, hi, .inr (.inl hk)⟩)))
  · rw [List.length_append]; exact hrow
  · by_cases hi : i < vs.length
    · rw [List.getElem?_append_left hi] at hv
      obtain ⟨m, hm, hr⟩ := h.out.lists i v hv
      refine ⟨m, hm, row_frb hr hf (fun z hz => ?_)⟩
      obtain ⟨c, h1⟩ := h.out.ltype hv hz
      exact apart _ _ _ h1 (by decide) (by decide) (old _ (.inr (.inr (.inr ⟨i, v, hv, hz⟩))))
    · have hl' := (List.getElem?_eq_some_iff.1 hv).1
      simp at hl'
      obtain rfl : i = vs.length := by omega
      rw [List.getElem?_append_right (Nat.le_refl _), Nat.sub_self] at hv
      simp at hv
      subst hv
      exact ⟨n, hn, hl⟩
  · rcases hz with rfl | q | rfl
    · exact h.hw
    · exact (own_block h.out.row q).1
    · exact Nat.le_trans h0.size hg
end
end Go.Proofs.Ytmfljfedpdipiaa
