/-
  Lists of numbers that a call owns and that may grow.
-/
import Derived.Test.YtofiidfnjgoenaaHelp
import Derived.Deep.RegionLaw
import Derived.OwnWalk
import Derived.OneCell
namespace Go.Proofs.Ytofiidfnjgoenaa
open Go Go.RowKit

/-- append to a row of the call's own, as one step of a region that draws its order. -/
theorem step_append_own {P : Program} {ops : Array Oper} {o : Oper} {a : Act} {w : World} {K : Act → World → Prop} {Q : Exit → Act → World → Prop} {E : Prop} (hgd : o.guard = none) (s x : Operand) (t : TypeId)
    (ho : o.op = .call { callee := .builtin .append, args := #[s, x], argTypes := #[t, t] })
    (base : Nat) (e : TypeId) (i : TypeInfo) (z : Value) (size bytes : Nat) (ht : P.underlying t = some (.slice e)) (hi : P.info? e = some i) (hz : i.zero = some z)
    (hsize : i.size = size) (hby : i.bytes = bytes) (hzs : z.cells.size = size) (hsz : 0 < size)
    (v : Value) (n : Nat) (xs : List Value) (hs : a.eval s = v) (hown : w.ownsRow base e size v n xs)
    (ad : Addr) (m c : Nat) (news : List Value) (hx : a.eval x = .slice (some ad) m c) (hl : news.length = m * size) (hnews : ∀ j u, news[j]? = some u → w.cell? (ad.add j) = some u) (h1 : ∀ u ∈ news, u.oneCell' = true)
    (h63 : n + m ≤ maxLen) (hbytes : (n + m) * bytes ≤ 140737488355328) (hbase : base ≤ w.heap.size)
    (h : ∀ v' w', w'.ownsRow base e size v' (n + m) (xs ++ news) → w.grownBy w' v.ownBlock → K (a.put o.dst v') w') :
    if Region.wanted o (yielded ops a.tmps) = true then Oper.wp P o a w K Q else E := by
  have hw : Region.wanted o (yielded ops a.tmps) = true := by simp [Region.wanted, hgd]
  rw [if_pos hw]
  exact wp_append_own w s x t ho base e i z size bytes ht hi hz hsize hby hzs hsz v n xs hs hown ad m c news hx hl hnews h1 h63 hbytes hbase fun v' w' h2 h3 _ => h v' w' h2 h3

/-- A list of numbers of the call's own, from block base on. -/
def OwnI (W : World) (base : Nat) (v : Value) (l : List Int) : Prop := W.ownsRow base 3 1 v l.length (ints l)
theorem OwnI.kept {W W' : World} {base : Nat} {v : Value} {l : List Int} (h : OwnI W base v l) (hb : Below W.heap.size W W') : OwnI W' base v l :=
  World.ownsRow.kept (row := none) h ⟨hb.os, hb.tape, hb.output, hb.size, fun j hj _ => hb.block j hj⟩ (by cases hv : v.ownBlock <;> simp)
theorem OwnI.slice {W : World} {base : Nat} {v : Value} {l : List Int} (h : OwnI W base v l) : ∃ q cap, v = .slice q l.length cap := by
  rcases h.2 with ⟨rfl, h0⟩ | ⟨g, cap, cur, rfl, _⟩
  · rw [h0]; exact ⟨_, _, rfl⟩
  · exact ⟨_, _, rfl⟩
theorem OwnI.cell {W : World} {base : Nat} {v : Value} {l : List Int} (h : OwnI W base v l) {i : Nat} {x : Int} (hx : l[i]? = some x) :
    ∃ g cap, v = .slice (some ⟨g, 0, none⟩) l.length cap ∧ base ≤ g ∧ g < W.heap.size ∧ W.cell? ⟨g, i, none⟩ = some (.int .i64 x) := by
  have hi : i < l.length := (List.getElem?_eq_some_iff.1 hx).1
  obtain ⟨hl, h2⟩ := h
  rcases h2 with ⟨_, h0⟩ | ⟨g, cap, cur, rfl, hb, hg, hc1, hc2, hsz, ht⟩
  · omega
  · refine ⟨g, cap, rfl, hb, lt_of_heap hg, ?_⟩
    have e := ints_get hx
    rw [← ht, List.getElem?_take_of_lt (by omega)] at e
    have : cur[i]? = some (.int .i64 x) := by simpa using e
    simp [World.cell?, hg, this]
theorem OwnI.lt {W : World} {base : Nat} {v : Value} {l : List Int} (h : OwnI W base v l) : ∀ j, v.ownBlock = some j → base ≤ j ∧ j < W.heap.size := by
  intro j hj
  rcases h.2 with ⟨rfl, _⟩ | ⟨g, cap, cur, rfl, hb, hg, _⟩
  · simp [Value.ownBlock] at hj
  · simp [Value.ownBlock] at hj
    subst hj
    exact ⟨hb, lt_of_heap hg⟩
theorem OwnI.nil (W : World) (base : Nat) : OwnI W base (.slice none 0 0) [] := World.ownsRow_nil W base _ _
/-- A box of a list is no list's block. -/
theorem OwnI.not_box {W : World} {base B : Nat} {v u : Value} {l : List Int} {t : TypeId} (h : OwnI W base v l) (hB : Boxed W B t u) (ht : t ≠ 3) : v.ownBlock ≠ some B := by
  rcases h.2 with ⟨rfl, _⟩ | ⟨g, cap, cur, rfl, hb, hg, _⟩
  · simp [Value.ownBlock]
  · intro e
    simp [Value.ownBlock] at e
    subst e
    rw [show W.heap[g]? = _ from hB] at hg
    injection hg with hg
    injection hg with _ h2 _
    exact ht h2
theorem OwnI.setBox {W : World} {base B : Nat} {v u u' : Value} {l : List Int} {t : TypeId} (h : OwnI W base v l) (hB : Boxed W B t u) (ht : t ≠ 3) : OwnI (W.setCell ⟨B, 0, none⟩ u') base v l :=
  ownsRow_setCell_other h (h.not_box hB ht) u'

/-- What is there: the numbers that were put in and are within the room. -/
theorem mem_putL {room : Nat} {L : List Int} {n x : Int} : x ∈ putL room L n ↔ x ∈ L ∨ (x = n ∧ 0 ≤ n ∧ n < room) := by
  unfold putL
  by_cases h : 0 ≤ n ∧ n < room ∧ n ∉ L
  · rw [if_pos h]; simp; constructor
    · rintro (h1 | rfl)
      · exact .inl h1
      · exact .inr ⟨rfl, h.1, h.2.1⟩
    · rintro (h1 | ⟨rfl, _⟩)
      · exact .inl h1
      · exact .inr rfl
  · rw [if_neg h]
    constructor
    · exact .inl
    · rintro (h1 | ⟨rfl, h2, h3⟩)
      · exact h1
      · exact Classical.byContradiction fun h4 => h ⟨h2, h3, h4⟩
theorem mem_foldL {room : Nat} (l : List Int) {x : Int} : ∀ L : List Int, x ∈ l.foldl (putL room) L ↔ x ∈ L ∨ (x ∈ l ∧ 0 ≤ x ∧ x < room) := by
  induction l with
  | nil => intro L; simp
  | cons n l ih =>
    intro L
    rw [List.foldl_cons, ih, mem_putL, List.mem_cons]
    constructor
    · rintro ((h | ⟨rfl, h⟩) | ⟨h1, h2⟩)
      · exact .inl h
      · exact .inr ⟨.inl rfl, h⟩
      · exact .inr ⟨.inr h1, h2⟩
    · rintro (h | ⟨rfl | h1, h2⟩)
      · exact .inl (.inl h)
      · exact .inl (.inr ⟨rfl, h2⟩)
      · exact .inr ⟨h1, h2⟩
theorem mem_fillL {room : Nat} (l : List Int) {x : Int} : x ∈ fillL room l ↔ x ∈ l ∧ 0 ≤ x ∧ x < room := by
  unfold fillL
  rw [mem_foldL]
  simp
end Go.Proofs.Ytofiidfnjgoenaa
