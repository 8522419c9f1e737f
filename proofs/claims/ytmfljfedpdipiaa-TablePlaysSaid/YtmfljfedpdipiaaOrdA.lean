/-
  The law TableOrder: what stands between its steps.
-/
import Derived.Test.YtmfljfedpdipiaaLawWide
import Derived.Test.YtmfljfedpdipiaaNoPanic
import Derived.Test.YtmfljfedpdipiaaOrd3
import Derived.RangeFuncBox
namespace Go.Proofs.Ytmfljfedpdipiaa
open Go Go.RowKit
attribute [local go_sem] Oper.semAt_some ext_cell

theorem hide3 {P : Prop} (h : P) : Hid P := h
theorem ArgA.slice {W : World} {v : Value} {ls : List (Int × Int × Int)} (h : ArgA W v ls) : ∃ q cap, v = .slice q ls.length cap ∧ ls.length ≤ maxLen ∧ (ls ≠ [] → ls.length ≤ cap) ∧ ∀ (i : Nat) (x : Int × Int × Int), ls[i]? = some x → ∃ g off, q = some ⟨g, off, none⟩ ∧ g < W.heap.size ∧ W.cell? ⟨g, off + i * 3, none⟩ = some (.int .i64 x.1) ∧ W.cell? ⟨g, off + i * 3 + 1, none⟩ = some (.int .i64 x.2.1) ∧ W.cell? ⟨g, off + i * 3 + 2, none⟩ = some (.int .i64 x.2.2) := by
  rcases h with ⟨p, cap, rfl, rfl⟩ | ⟨g, off, cap, rfl, h1, h2, h3, h4⟩
  · exact ⟨p, cap, rfl, Nat.zero_le _, fun q => absurd rfl q, fun i x hi => by simp at hi⟩
  · exact ⟨_, cap, rfl, Nat.le_trans h2 h3, fun _ => h2, fun i x hi => ⟨g, off, rfl, h1, (h4 i x hi).2⟩⟩

/-- The list and the answer in their boxes, and the table as it is after k rows. -/
structure OS (w : World) (BL BR b : Nat) (sv : Value) (zs : List (Int × Int × Int)) (k : Nat) (W : World) : Prop where
  t : ∃ (N : Nat) (m : List Int → Option Int), LastAt zs k m ∧ TS w.heap.size W b 3 1000000 (firsts zs k) N m
  bl : Boxed W BL 48 sv
  br : Boxed W BR 4 (.bool false)
  bel : Below w.heap.size w W
section
variable {w : World} {BL BR b : Nat} {sv : Value} {zs : List (Int × Int × Int)} {k : Nat} {W W' : World}
theorem OS.kept (h : OS w BL BR b sv zs k W) (hb : Below W.heap.size W W') : OS w BL BR b sv zs k W' := by
  obtain ⟨N, m, h1, h2⟩ := h.t
  exact ⟨⟨N, m, h1, h2.kept hb⟩, (hb.block _ h.bl.lt).trans h.bl, (hb.block _ h.br.lt).trans h.br, chain h.bel hb (Nat.le_refl _)⟩
theorem OS.lt (h : OS w BL BR b sv zs k W) : b < W.heap.size := by
  obtain ⟨N, m, h1, h2⟩ := h.t
  exact h2.lt
/-- The list is cut, while the table is bare. -/
theorem OS.cutTo (h : OS w BL BR b sv zs k W) (hl : w.heap.size ≤ BL) (sv' : Value) : OS w BL BR b sv' zs k (W.setCell ⟨BL, 0, none⟩ sv') := by
  have hf : Fr (fun z => z = BL) W (W.setCell ⟨BL, 0, none⟩ sv') := (Fr.refl (fun z => z = BL) W).setCell (p := ⟨BL, 0, none⟩) rfl _
  obtain ⟨N, m, h1, h2⟩ := h.t
  obtain ⟨pb, P, hT, hc, hn, hp, he⟩ := h2.ex
  have hx := h.bl
  unfold Boxed at hx
  refine ⟨⟨N, m, h1, ⟨⟨pb, P, ⟨hT.t.fr hf (fun e => ?_) (fun hP e => ?_) (fun k hk i e hi o n' m' he => ?_), hT.p, hT.m, hT.few⟩, hc, hn, hp, he⟩, h2.hb⟩⟩, h.bl.set _, (hf.block _ h.br.lt (ne_type h.br hx (by decide))).trans h.br, h.bel.trans (hf.below h.bel.size (fun k hk => by omega))⟩
  · exact ne_type hT.t.hb hx (by decide) e
  · exact ne_type (hT.t.hp hP) hx (by decide) e
  · obtain ⟨⟨g, hg, hh⟩, _⟩ := hT.t.hk i e hi
    rw [he] at hg
    cases hg
    exact ne_type hh hx (by decide) hk
theorem box2 (w : World) (o : Obj) (t : TypeId) (v : Value) : Boxed ((w.alloc o).alloc (.cells #[v] t)) (w.heap.size + 1) t v := by
  have := Boxed.new (w.alloc o) t v
  rwa [World.size_alloc] at this
/-- One row more. -/
theorem put_row (h : OS w BL BR b sv zs k W) {x : Int × Int × Int} (hx : zs[k]? = some x) (hk : k < 300) {X : World} (hb : Below W.heap.size W X) (hK : X.heap[W.heap.size]? = some (.cells (ints (k3 x)).toArray 3 (0, 0))) :
    Calls Try.prog 11 #[.pointer (some ⟨b, 0, none⟩), .slice (some ⟨W.heap.size, 0, none⟩) 3 3, .int .i64 (k : Int)] X fun e w' => e = .returned (.int .i64 0) ∧ OS w BL BR b sv zs (k + 1) w' := by
  obtain ⟨N, m, h1, h2⟩ := h.t
  have hz : ArgI X (.slice (some ⟨W.heap.size, 0, none⟩) 3 3) (k3 x) := argI_heap hK rfl (by decide)
  have ap : Apart (.slice (some ⟨W.heap.size, 0, none⟩) 3 3) b := apart_new h2.lt
  have hX := h.kept hb
  have hf := h1.firsts hx
  have hle := firsts_le zs k
  have u1 : upd m (k3 x) (some (k : Int)) (k3 x) = some (k : Int) := upd_same _ _ _
  have u2 : ∀ key, key ≠ k3 x → upd m (k3 x) (some (k : Int)) key = m key := fun key hq => by unfold upd; rw [if_neg hq]
  cases hm : m (k3 x) with
  | none =>
    rw [if_pos hm] at hf
    refine (put_new (h2.kept hb) hz ap (k : Int) rfl hm (by omega)).mono ?_
    rintro e w3 ⟨rfl, ⟨N3, hT, _⟩, hO⟩
    refine ⟨rfl, ⟨⟨N3, _, h1.put hx u1 u2, by rw [hf]; exact hT⟩, hO.ki _ _ _ (by decide) (by decide) hX.bl, hO.ki _ _ _ (by decide) (by decide) hX.br, hX.bel.trans hO.below⟩⟩
  | some y =>
    rw [if_neg (by rw [hm]; simp)] at hf
    refine (put_old (h2.kept hb) hz ap (k : Int) rfl hm).mono ?_
    rintro e w3 ⟨rfl, hT, hO⟩
    refine ⟨rfl, ⟨⟨N, _, h1.put hx u1 u2, by rw [hf]; exact hT⟩, hO.ki _ _ _ (by decide) (by decide) hX.bl, hO.ki _ _ _ (by decide) (by decide) hX.br, hX.bel.trans hO.below⟩⟩
end
end Go.Proofs.Ytmfljfedpdipiaa
