/-
  dredgeref06.Less: each range of a class, cut by those of another. dredgeref06.Less, as it runs. (mkref6m.py writes it.) dredgeref06.Or and Same; spoil.
-/
import Derived.Test.YtlodjinejeajcaaRightProofB4
import Derived.Test.YtlodjinejeajcaaC8
namespace Go.Proofs.Ytlodjinejeajcaa
open Go Go.RowKit
attribute [local go_sem] ext_cell

/-- One range on its way: Q is out, from l on is left. -/
structure LI (Y : List (Int × Int)) (lo hi : Int) (k : Nat) (l : Int) (left : Bool) (Q : List (Int × Int)) : Prop where
  mem : ∀ c, (lo ≤ c ∧ c ≤ hi ∧ ¬ In Y c) ↔ (In Q c ∨ (left = true ∧ l ≤ c ∧ c ≤ hi ∧ ¬ In Y c))
  free : left = true → ∀ c, l ≤ c → c ≤ hi → ¬ In (Y.take k) c
  bnd : left = true → lo ≤ l ∧ l ≤ hi
  fit : Fit Q
  len : Q.length ≤ k
theorem LI.start {Y : List (Int × Int)} {lo hi : Int} (h : lo ≤ hi) : LI Y lo hi 0 lo true [] :=
  ⟨fun c => ⟨fun q => .inr ⟨rfl, q⟩, fun q => q.elim (fun q => absurd q (in_nil c)) fun q => q.2⟩, fun _ c _ _ => by simpa using in_nil c, fun _ => ⟨Int.le_refl _, h⟩, fit_nil, Nat.le_refl _⟩
theorem LI.skip {Y : List (Int × Int)} {lo hi l : Int} {k : Nat} {Q : List (Int × Int)} {y : Int × Int} (I : LI Y lo hi k l true Q) (hy : Y[k]? = some y) (h : y.2 < l ∨ hi < y.1) : LI Y lo hi (k + 1) l true Q :=
  ⟨I.mem, fun _ c h1 h2 q => by
    rcases (in_take_next hy c).1 q with q | q
    · exact I.free rfl c h1 h2 q
    · omega, I.bnd, I.fit, by have := I.len; omega⟩
theorem in_cases {Y : List (Int × Int)} {k : Nat} {y : Int × Int} (hY : Cls Y) (hy : Y[k]? = some y) {c : Int} (h : In Y c) : In (Y.take k) c ∨ (y.1 ≤ c ∧ c ≤ y.2) ∨ y.2 < c := by
  obtain ⟨z, hz, h1, h2⟩ := h
  obtain ⟨j, hj⟩ := List.getElem?_of_mem hz
  rcases Nat.lt_trichotomy j k with q | q | q
  · exact .inl ⟨z, List.mem_of_getElem? (by rw [List.getElem?_take_of_lt q]; exact hj), h1, h2⟩
  · subst q
    rw [hy] at hj
    cases hj
    exact .inr (.inl ⟨h1, h2⟩)
  · obtain ⟨hk, rfl⟩ := List.getElem?_eq_some_iff.1 hy
    obtain ⟨hk', rfl⟩ := List.getElem?_eq_some_iff.1 hj
    have := List.pairwise_iff_getElem.1 hY.apart k j hk hk' q
    exact .inr (.inr (by omega))
theorem LI.cut {Y : List (Int × Int)} {lo hi l : Int} {k : Nat} {Q : List (Int × Int)} {y : Int × Int} (I : LI Y lo hi k l true Q) (hY : Cls Y) (fY : Fit Y) (fl : -9223372036854775808 ≤ lo) (hy : Y[k]? = some y) (h1 : ¬ y.2 < l) (h2 : ¬ hi < y.1) :
    (y.2 < hi → LI Y lo hi (k + 1) (y.2 + 1) true (gapG l y.1 Q)) ∧ (¬ y.2 < hi → ∀ l', LI Y lo hi (k + 1) l' false (gapG l y.1 Q)) := by
  have hym := List.mem_of_getElem? hy
  have fy := fY y hym
  have sy := hY.some y hym
  obtain ⟨b1, b2⟩ := I.bnd rfl
  have hg : Fit (gapG l y.1 Q) ∧ (gapG l y.1 Q).length ≤ k + 1 := by
    have := I.len
    by_cases q : l < y.1
    · rw [gapG_pos q]; exact ⟨fit_append I.fit (fit_one (by omega)), by simp; omega⟩
    · rw [gapG_neg q]; exact ⟨I.fit, by omega⟩
  have hin : ∀ c, In (gapG l y.1 Q) c ↔ In Q c ∨ (l ≤ c ∧ c < y.1) := fun c => by
    by_cases q : l < y.1
    · rw [gapG_pos q, in_append, in_one]
      exact ⟨fun p => p.imp id fun p => ⟨p.1, by have := p.2; simp only at this; omega⟩, fun p => p.imp id fun p => ⟨p.1, by simp only; omega⟩⟩
    · rw [gapG_neg q]
      exact ⟨.inl, fun p => p.elim id fun p => by omega⟩
  have hnot : ∀ c, l ≤ c → c < y.1 → ¬ In Y c := fun c q1 q2 q => by
    rcases in_cases hY hy q with p | p | p
    · exact I.free rfl c q1 (by omega) p
    · omega
    · omega
  have hiny : ∀ c, y.1 ≤ c → c ≤ y.2 → In Y c := fun c q1 q2 => ⟨y, hym, q1, q2⟩
  have key : ∀ c, (lo ≤ c ∧ c ≤ hi ∧ ¬ In Y c) ↔ (In (gapG l y.1 Q) c ∨ (y.2 < c ∧ c ≤ hi ∧ ¬ In Y c)) := fun c => by
    rw [hin, I.mem]
    constructor
    · rintro (q | ⟨_, q1, q2, q3⟩)
      · exact .inl (.inl q)
      · by_cases p : c < y.1
        · exact .inl (.inr ⟨q1, p⟩)
        · have : ¬ c ≤ y.2 := fun p2 => q3 (hiny c (by omega) p2)
          exact .inr ⟨by omega, q2, q3⟩
    · rintro ((q | ⟨q1, q2⟩) | ⟨q1, q2, q3⟩)
      · exact .inl q
      · exact .inr ⟨rfl, q1, by omega, hnot c q1 q2⟩
      · exact .inr ⟨rfl, by omega, q2, q3⟩
  constructor
  · intro hl
    refine ⟨fun c => (key c).trans ⟨fun q => q.imp id fun ⟨q1, q2, q3⟩ => ⟨rfl, by omega, q2, q3⟩, fun q => q.imp id fun ⟨_, q1, q2, q3⟩ => ⟨by omega, q2, q3⟩⟩, fun _ c q1 q2 q => ?_, fun _ => ⟨by omega, by omega⟩, hg.1, hg.2⟩
    rcases (in_take_next hy c).1 q with p | p
    · exact I.free rfl c (by omega) q2 p
    · omega
  · intro hl l'
    exact ⟨fun c => (key c).trans ⟨fun q => q.elim .inl fun ⟨q1, q2, _⟩ => (by omega), fun q => q.elim .inl fun ⟨q1, _⟩ => (by cases q1)⟩, fun q => (by cases q), fun q => (by cases q), hg.1, hg.2⟩
theorem LI.all {Y : List (Int × Int)} {lo hi l : Int} {k : Nat} {Q : List (Int × Int)} (I : LI Y lo hi k l true Q) (hk : Y.length ≤ k) (c : Int) : In (Q ++ [(l, hi)]) c ↔ (lo ≤ c ∧ c ≤ hi ∧ ¬ In Y c) := by
  have fr := I.free rfl
  rw [List.take_of_length_le hk] at fr
  rw [I.mem, in_append, in_one]
  exact ⟨fun q => q.imp id fun ⟨q1, q2⟩ => ⟨rfl, q1, q2, fr c q1 q2⟩, fun q => q.imp id fun ⟨_, q1, q2, _⟩ => ⟨q1, q2⟩⟩
theorem LI.none {Y : List (Int × Int)} {lo hi l : Int} {k : Nat} {Q : List (Int × Int)} (I : LI Y lo hi k l false Q) (c : Int) : In Q c ↔ (lo ≤ c ∧ c ≤ hi ∧ ¬ In Y c) := by
  rw [I.mem]
  exact ⟨.inl, fun q => q.elim id fun ⟨q, _⟩ => by cases q⟩

/-- A list of one's own beside a box that is not its block. -/
structure LW (W1 wr : World) (rb : Nat) (l hi : Int) (ov : Value) (L : List (Int × Int)) : Prop where
  own : RR W1.heap.size wr ov L
  box : wr.heap[rb]? = some (.cells #[.int .i64 l, .int .i64 hi] 72 (0, 0))
  ne : ov.ownBlock ≠ some rb
  bel : Below W1.heap.size W1 wr
  new : W1.heap.size ≤ rb
theorem LW.c0 {W1 wr : World} {rb : Nat} {l hi : Int} {ov : Value} {L : List (Int × Int)} (h : LW W1 wr rb l hi ov L) : wr.cell? ⟨rb, 0, none⟩ = some (.int .i64 l) := cell_row h.box (i := 0) rfl
theorem LW.c1 {W1 wr : World} {rb : Nat} {l hi : Int} {ov : Value} {L : List (Int × Int)} (h : LW W1 wr rb l hi ov L) : wr.cell? ⟨rb, 1, none⟩ = some (.int .i64 hi) := cell_row h.box (i := 1) rfl
theorem LW.lt {W1 wr : World} {rb : Nat} {l hi : Int} {ov : Value} {L : List (Int × Int)} (h : LW W1 wr rb l hi ov L) : rb < wr.heap.size := lt_of_heap h.box
theorem LW.kept {W1 wr w' : World} {rb : Nat} {l hi : Int} {ov : Value} {L : List (Int × Int)} (h : LW W1 wr rb l hi ov L) (hb : Below wr.heap.size wr w') : LW W1 w' rb l hi ov L :=
  ⟨h.own.kept hb, (hb.block rb h.lt).trans h.box, h.ne, chain h.bel hb (Nat.le_refl _), h.new⟩
theorem LW.app {W1 w w6 : World} {rb : Nat} {l hi : Int} {q : Option Addr} {co : Nat} {L : List (Int × Int)} {o : Obj} {g6 cap6 : Nat} {a b : Int} (h : LW W1 w rb l hi (.slice q L.length co) L) (hg : (w.alloc o).grownBy w6 (Value.slice q L.length co).ownBlock)
    (ho : w6.ownsRow W1.heap.size 72 2 (.slice (some ⟨g6, 0, none⟩) (L.length + 1) cap6) (L.length + 1) (cellsR L ++ [.int .i64 a, .int .i64 b]))
    (hb : (Value.slice (some ⟨g6, 0, none⟩) (L.length + 1) cap6).ownBlock = (Value.slice q L.length co).ownBlock ∨ (Value.slice (some ⟨g6, 0, none⟩) (L.length + 1) cap6).ownBlock = some (w.alloc o).heap.size) : LW W1 w6 rb l hi (.slice (some ⟨g6, 0, none⟩) (L.length + 1) cap6) (L ++ [(a, b)]) := by
  refine ⟨rr_app ho, ?_, ?_, below_grown (h.bel.alloc h.bel.size o) (World.ownsRow.alloc h.own o) hg, h.new⟩
  · exact (hg.block rb (by have := h.lt; simp; omega) (Ne.symm h.ne)).trans ((Below.heap_alloc _ _ _ h.lt).trans h.box)
  · rcases hb with hb | hb
    · rw [hb]; exact h.ne
    · rw [hb]
      intro e
      have := h.lt
      simp at e
      omega
theorem LW.put {W1 w : World} {rb : Nat} {l l' hi : Int} {ov : Value} {L : List (Int × Int)} (h : LW W1 w rb l hi ov L) : LW W1 (w.setCell ⟨rb, 0, none⟩ (.int .i64 l')) rb l' hi ov L :=
  ⟨h.own.fr ((Fr.refl (fun k => k = rb) w).setCell (p := ⟨rb, 0, none⟩) rfl _) (fun k hk e => h.ne (e ▸ hk)), by rw [heap_set_in h.box 0]; rfl, h.ne, h.bel.setCell (p := ⟨rb, 0, none⟩) h.new _, h.new⟩
end Go.Proofs.Ytlodjinejeajcaa
namespace Go.Proofs.Ytlodjinejeajcaa
open Go Go.RowKit
attribute [local go_sem] ext_cell

theorem outer_next {X Y P Q : List (Int × Int)} {k : Nat} {lo hi : Int} (hP : ∀ c, In P c ↔ In (X.take k) c ∧ ¬ In Y c) (hx : X[k]? = some (lo, hi)) (hQ : ∀ c, In Q c ↔ lo ≤ c ∧ c ≤ hi ∧ ¬ In Y c) : ∀ c, In (P ++ Q) c ↔ In (X.take (k + 1)) c ∧ ¬ In Y c := fun c => by
  rw [in_append, hP, hQ, in_take_next hx]
  constructor
  · rintro (⟨p, q⟩ | ⟨p1, p2, q⟩)
    · exact ⟨.inl p, q⟩
    · exact ⟨.inr ⟨p1, p2⟩, q⟩
  · rintro ⟨p | p, q⟩
    · exact .inl ⟨p, q⟩
    · exact .inr ⟨p.1, p.2, q⟩
end Go.Proofs.Ytlodjinejeajcaa
namespace Go.Proofs.Ytlodjinejeajcaa
open Go Go.RowKit

theorem argr_none {w : World} {n k : Nat} {L : List (Int × Int)} (h : ArgR w (.slice none n k) L) : n = 0 ∧ k = 0 ∧ L = [] := by
  rcases h with ⟨p, cap', e, e2, e3⟩ | ⟨g', off', cap', e, _⟩
  · subst e2
    cases e
    exact ⟨rfl, e3 rfl, rfl⟩
  · cases e
end Go.Proofs.Ytlodjinejeajcaa
