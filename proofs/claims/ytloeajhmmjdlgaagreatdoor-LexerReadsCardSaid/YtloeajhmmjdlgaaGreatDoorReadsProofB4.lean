/-
  dredgeref06.Less: each range of a class, cut by those of another. dredgeref06.Less, as it runs. (mkref6m.py writes it.) dredgeref06.Or and Same; spoil.
-/
import Derived.Test.YtloeajhmmjdlgaaGreatDoorReadsProofB3
import Derived.Test.YtloeajhmmjdlgaaGreatDoorC6
namespace Go.Proofs.YtloeajhmmjdlgaaGreatDoor
open Go Go.RowKit
attribute [local go_sem] ext_cell

/-- One range on its way: Q is out, from l on is left. -/
structure LI (Y : List (Int × Int)) (lo hi : Int) (k : Nat) (l : Int) (left : Bool) (Q : List (Int × Int)) : Prop where
  mem : ∀ c, (lo ≤ c ∧ c ≤ hi ∧ ¬ In Y c) ↔ (In Q c ∨ (left = true ∧ l ≤ c ∧ c ≤ hi ∧ ¬ In Y c))
  free : left = true → ∀ c, l ≤ c → c ≤ hi → ¬ In (Y.take k) c
  bnd : left = true → lo ≤ l ∧ l ≤ hi
  fit : Fit Q
  len : Q.length ≤ k
theorem LI.start {Y : List (Int × Int)} {lo hi : Int} (h : lo ≤ hi) : LI Y lo hi 0 lo true [] :=
  ⟨fun c => ⟨fun q => .inr ⟨rfl, q⟩, fun q => q.elim (fun q => absurd q (in_nil c)) fun q => q.2⟩, fun _ c _ _ => by simpa using in_nil c, fun _ => ⟨Int.le_refl _, h⟩, fit_nil, Nat.le_refl _⟩
theorem LI.skip {Y : List (Int × Int)} {lo hi l : Int} {k : Nat} {Q : List (Int × Int)} {y : Int × Int} (I : LI Y lo hi k l true Q) (hy : Y[k]? = some y) (h : y.2 < l ∨ hi < y.1) : LI Y lo hi (k + 1) l true Q :=
  ⟨I.mem, fun _ c h1 h2 q => by
    rcases (in_take_next hy c).1 q with q | q
    · exact I.free rfl c h1 h2 q
    · omega, I.bnd, I.fit, by have := I.len; omega⟩
theorem in_cases {Y : List (Int × Int)} {k : Nat} {y : Int × Int} (hY : Cls Y) (hy : Y[k]? = some y) {c : Int} (h : In Y c) : In (Y.take k) c ∨ (y.1 ≤ c ∧ c ≤ y.2) ∨ y.2 < c := by
  obtain ⟨z, hz, h1, h2⟩ := h
  obtain ⟨j, hj⟩ := List.getElem?_of_mem hz
  rcases Nat.lt_trichotomy j k with q | q | q
  · exact .inl ⟨z, List.mem_of_getElem? (by rw [List.getElem?_take_of_lt q]; exact hj), h1, h2⟩
  · subst q
    rw [hy] at hj
    cases hj
    exact .inr (.inl ⟨h1, h2⟩)
  · obtain ⟨hk, rfl⟩ := List.getElem?_eq_some_iff.1 hy
    obtain ⟨hk', rfl⟩ := List.getElem?_eq_some_iff.1 hj
    have := List.pairwise_iff_getElem.1 hY.apart k j hk hk' q
    exact .inr (.inr (by omega))
theorem LI.cut {Y : List (Int × Int)} {lo hi l : Int} {k : Nat} {Q : List (Int × Int)} {y : Int × Int} (I : LI Y lo hi k l true Q) (hY : Cls Y) (fY : Fit Y) (fl : -9223372036854775808 ≤ lo) (hy : Y[k]? = some y) (h1 : ¬ y.2 < l) (h2 : ¬ hi < y.1) :
    (y.2 < hi → LI Y lo hi (k + 1) (y.2 + 1) true (gapG l y.1 Q)) ∧ (¬ y.2 < hi → ∀ l', LI Y lo hi (k + 1) l' false (gapG l y.1 Q)) := by
  have hym := List.mem_of_getElem? hy
  have fy := fY y hym
  have sy := hY.some y hym
  obtain ⟨b1, b2⟩ := I.bnd rfl
  have hg : Fit (gapG l y.1 Q) ∧ (gapG l y.1 Q).length ≤ k + 1 := by
    have := I.len
    by_cases q : l < y.1
    · rw [gapG_pos q]; exact ⟨fit_append I.fit (fit_one (by omega)), by simp; omega⟩
    · rw [gapG_neg q]; exact ⟨I.fit, by omega⟩
  have hin : ∀ c, In (gapG l y.1 Q) c ↔ In Q c ∨ (l ≤ c ∧ c < y.1) := fun c => by
    by_cases q : l < y.1
    · rw [gapG_pos q, in_append, in_one]
      exact ⟨fun p => p.imp id fun p => ⟨p.1, by have := p.2; simp only at this; omega⟩, fun p => p.imp id fun p => ⟨p.1, by simp only; omega⟩⟩
    · rw [gapG_neg q]
      exact ⟨.inl, fun p => p.elim id fun p => by omega⟩
  have hnot : ∀ c, l ≤ c → c < y.1 → ¬ In Y c := fun c q1 q2 q => by
    rcases in_cases hY hy q with p | p | p
    · exact I.free rfl c q1 (by omega) p
    · omega
    · omega
  have hiny : ∀ c, y.1 ≤ c → c ≤ y.2 → In Y c := fun c q1 q2 => ⟨y, hym, q1, q2⟩
  have key : ∀ c, (lo ≤ c ∧ c ≤ hi ∧ ¬ In Y c) ↔ (In (gapG l y.1 Q) c ∨ (y.2 < c ∧ c ≤ hi ∧ ¬ In Y c)) := fun c => by
    rw [hin, I.mem]
    constructor
    · rintro (q | ⟨_, q1, q2, q3⟩)
      · exact .inl (.inl q)
      · by_cases p : c < y.1
        · exact .inl (.inr ⟨q1, p⟩)
        · have : ¬ c ≤ y.2 := fun p2 => q3 (hiny c (by omega) p2)
          exact .inr ⟨by omega, q2, q3⟩
    · rintro ((q | ⟨q1, q2⟩) | ⟨q1, q2, q3⟩)
      · exact .inl q
      · exact .inr ⟨rfl, q1, by omega, hnot c q1 q2⟩
      · exact .inr ⟨rfl, by omega, q2, q3⟩
  constructor
  · intro hl
    refine ⟨fun c => (key c).trans ⟨fun q => q.imp id fun ⟨q1, q2, q3⟩ => ⟨rfl, by omega, q2, q3⟩, fun q => q.imp id fun ⟨_, q1, q2, q3⟩ => ⟨by omega, q2, q3⟩⟩, fun _ c q1 q2 q => ?_, fun _ => ⟨by omega, by omega⟩, hg.1, hg.2⟩
    rcases (in_take_next hy c).1 q with p | p
    · exact I.free rfl c (by omega) q2 p
    · omega
  · intro hl l'
    exact ⟨fun c => (key c).trans ⟨fun q => q.elim .inl fun ⟨q1, q2, _⟩ => (by omega), fun q => q.elim .inl fun ⟨q1, _⟩ => (by cases q1)⟩, fun q => (by cases q), fun q => (by cases q), hg.1, hg.2⟩
theorem LI.all {Y : List (Int × Int)} {lo hi l : Int} {k : Nat} {Q : List (Int × Int)} (I : LI Y lo hi k l true Q) (hk : Y.length ≤ k) (c : Int) : In (Q ++ [(l, hi)]) c ↔ (lo ≤ c ∧ c ≤ hi ∧ ¬ In Y c) := by
  have fr := I.free rfl
  rw [List.take_of_length_le hk] at fr
  rw [I.mem, in_append, in_one]
  exact ⟨fun q => q.imp id fun ⟨q1, q2⟩ => ⟨rfl, q1, q2, fr c q1 q2⟩, fun q => q.imp id fun ⟨_, q1, q2, _⟩ => ⟨q1, q2⟩⟩
theorem LI.none {Y : List (Int × Int)} {lo hi l : Int} {k : Nat} {Q : List (Int × Int)} (I : LI Y lo hi k l false Q) (c : Int) : In Q c ↔ (lo ≤ c ∧ c ≤ hi ∧ ¬ In Y c) := by
  rw [I.mem]
  exact ⟨.inl, fun q => q.elim id fun ⟨q, _⟩ => by cases q⟩

/-- A list of one's own beside a box that is not its block. -/
structure LW (W1 wr : World) (rb : Nat) (l hi : Int) (ov : Value) (L : List (Int × Int)) : Prop where
  own : RR W1.heap.size wr ov L
  box : wr.heap[rb]? = some (.cells #[.int .i64 l, .int .i64 hi] 39 (0, 0))
  ne : ov.ownBlock ≠ some rb
  bel : Below W1.heap.size W1 wr
  new : W1.heap.size ≤ rb
theorem LW.c0 {W1 wr : World} {rb : Nat} {l hi : Int} {ov : Value} {L : List (Int × Int)} (h : LW W1 wr rb l hi ov L) : wr.cell? ⟨rb, 0, none⟩ = some (.int .i64 l) := cell_row h.box (i := 0) rfl
theorem LW.c1 {W1 wr : World} {rb : Nat} {l hi : Int} {ov : Value} {L : List (Int × Int)} (h : LW W1 wr rb l hi ov L) : wr.cell? ⟨rb, 1, none⟩ = some (.int .i64 hi) := cell_row h.box (i := 1) rfl
theorem LW.lt {W1 wr : World} {rb : Nat} {l hi : Int} {ov : Value} {L : List (Int × Int)} (h : LW W1 wr rb l hi ov L) : rb < wr.heap.size := lt_of_heap h.box
theorem LW.kept {W1 wr w' : World} {rb : Nat} {l hi : Int} {ov : Value} {L : List (Int × Int)} (h : LW W1 wr rb l hi ov L) (hb : Below wr.heap.size wr w') : LW W1 w' rb l hi ov L :=
  ⟨h.own.kept hb, (hb.block rb h.lt).trans h.box, h.ne, chain h.bel hb (Nat.le_refl _), h.new⟩
theorem LW.app {W1 w w6 : World} {rb : Nat} {l hi : Int} {q : Option Addr} {co : Nat} {L : List (Int × Int)} {o : Obj} {g6 cap6 : Nat} {a b : Int} (h : LW W1 w rb l hi (.slice q L.length co) L) (hg : (w.alloc o).grownBy w6 (Value.slice q L.length co).ownBlock)
    (ho : w6.ownsRow W1.heap.size 39 2 (.slice (some ⟨g6, 0, none⟩) (L.length + 1) cap6) (L.length + 1) (cellsR L ++ [.int .i64 a, .int .i64 b]))
    (hb : (Value.slice (some ⟨g6, 0, none⟩) (L.length + 1) cap6).ownBlock = (Value.slice q L.length co).ownBlock ∨ (Value.slice (some ⟨g6, 0, none⟩) (L.length + 1) cap6).ownBlock = some (w.alloc o).heap.size) : LW W1 w6 rb l hi (.slice (some ⟨g6, 0, none⟩) (L.length + 1) cap6) (L ++ [(a, b)]) := by
  refine ⟨rr_app ho, ?_, ?_, below_grown (h.bel.alloc h.bel.size o) (World.ownsRow.alloc h.own o) hg, h.new⟩
  · exact (hg.block rb (by have := h.lt; simp; omega) (Ne.symm h.ne)).trans ((Below.heap_alloc _ _ _ h.lt).trans h.box)
  · rcases hb with hb | hb
    · rw [hb]; exact h.ne
    · rw [hb]
      intro e
      have := h.lt
      simp at e
      omega
theorem LW.put {W1 w : World} {rb : Nat} {l l' hi : Int} {ov : Value} {L : List (Int × Int)} (h : LW W1 w rb l hi ov L) : LW W1 (w.setCell ⟨rb, 0, none⟩ (.int .i64 l')) rb l' hi ov L :=
  ⟨h.own.fr ((Fr.refl (fun k => k = rb) w).setCell (p := ⟨rb, 0, none⟩) rfl _) (fun k hk e => h.ne (e ▸ hk)), by rw [heap_set_in h.box 0]; rfl, h.ne, h.bel.setCell (p := ⟨rb, 0, none⟩) h.new _, h.new⟩
end Go.Proofs.YtloeajhmmjdlgaaGreatDoor
namespace Go.Proofs.YtloeajhmmjdlgaaGreatDoor
open Go Go.RowKit
attribute [local go_sem] ext_cell

theorem outer_next {X Y P Q : List (Int × Int)} {k : Nat} {lo hi : Int} (hP : ∀ c, In P c ↔ In (X.take k) c ∧ ¬ In Y c) (hx : X[k]? = some (lo, hi)) (hQ : ∀ c, In Q c ↔ lo ≤ c ∧ c ≤ hi ∧ ¬ In Y c) : ∀ c, In (P ++ Q) c ↔ In (X.take (k + 1)) c ∧ ¬ In Y c := fun c => by
  rw [in_append, hP, hQ, in_take_next hx]
  constructor
  · rintro (⟨p, q⟩ | ⟨p1, p2, q⟩)
    · exact ⟨.inl p, q⟩
    · exact ⟨.inr ⟨p1, p2⟩, q⟩
  · rintro ⟨p | p, q⟩
    · exact .inl ⟨p, q⟩
    · exact .inr ⟨p.1, p.2, q⟩
set_option maxRecDepth 100000 in
set_option maxHeartbeats 8000000 in
theorem rless_c {w : World} {va vb : Value} {A0 B0 : List (Int × Int)} (ha : ArgR w va A0) (hb : ArgR w vb B0) (fa : Fit A0) (fb : Fit B0) (hl1 : A0.length + 1 ≤ 8796093022208) (hl2 : B0.length + 1 ≤ 8796093022208) (hl : A0.length * (B0.length + 1) + 1 ≤ 8796093022208) :
    Calls Tryz.prog 56 #[va, vb] w (Gets w (fun c => In A0 c ∧ ¬ In B0 c) (A0.length * (B0.length + 1))) := by
  obtain ⟨t0, ti, hz0, hz1, hz2⟩ := info_parts size_range
  have H : Hid ((ArgR w va A0 ∧ Fit A0) ∧ ArgR w vb B0 ∧ Fit B0) := ⟨⟨ha, fa⟩, hb, fb⟩
  clear ha hb fa fb
  obtain ⟨N, hN⟩ : ∃ N, A0.length * (B0.length + 1) = N := ⟨_, rfl⟩
  have EN : Hid (A0.length * (B0.length + 1) = N) := hN
  rw [hN] at hl ⊢
  clear hN
  go_enter Tryz.func56, Tryz.ntmps56
  go_upto_region 5 with first
    | (go_at_call 55; have hx := X5.out; clear hx; have hih := rclass_c (H.out.2.1.kept X5.out.2.2.2) H.out.2.2 hl2; (with_reducible refine hih.mono ?_); clear hih; rintro e w6 ⟨v6, Y, rfl, h1, h2, h3, h4⟩; obtain ⟨qb, cb, rfl⟩ := h1.shape; have X6 : Hid (RR w5.heap.size w6 (.slice qb Y.length cb) Y ∧ IsC Y (In B0) ∧ Y.length ≤ B0.length ∧ Below w5.heap.size w5 w6) := ⟨h1, h2, h3, h4⟩; clear h1 h2 h3 h4)
    | (go_at_call 55; have hih := rclass_c H.out.1.1 H.out.1.2 hl1; (with_reducible refine hih.mono ?_); clear hih; rintro e w5 ⟨v5, X, rfl, h1, h2, h3, h4⟩; obtain ⟨qa, ca, rfl⟩ := h1.shape; have X5 : Hid (RR w.heap.size w5 (.slice qa X.length ca) X ∧ IsC X (In A0) ∧ X.length ≤ A0.length ∧ Below w.heap.size w w5) := ⟨h1, h2, h3, h4⟩; clear h1 h2 h3 h4)
  rename World => W1
  have hla := X5.out.2.2.1
  have hlb := X6.out.2.2.1
  have HA : Hid (∀ (i : Nat) (r : Int × Int), X[i]? = some r → ∃ g off, qa = some ⟨g, off, none⟩ ∧ g < W1.heap.size ∧ W1.cell? ⟨g, off + 2 * i, none⟩ = some (.int .i64 r.1) ∧ W1.cell? ⟨g, off + 2 * i + 1, none⟩ = some (.int .i64 r.2)) := by
    obtain ⟨q', cap', e, -, -, hc⟩ := (X5.out.1.kept X6.out.2.2.2).arg.slice
    cases e
    exact hc
  have HB : Hid (∀ (i : Nat) (r : Int × Int), Y[i]? = some r → ∃ g off, qb = some ⟨g, off, none⟩ ∧ g < W1.heap.size ∧ W1.cell? ⟨g, off + 2 * i, none⟩ = some (.int .i64 r.1) ∧ W1.cell? ⟨g, off + 2 * i + 1, none⟩ = some (.int .i64 r.2)) := by
    obtain ⟨q', cap', e, -, -, hc⟩ := X6.out.1.arg.slice
    cases e
    exact hc
  have LP : Hid (∀ i, i ≤ X.length → i * (Y.length + 1) ≤ N) := fun i hi => by
    rw [← EN.out]
    exact Nat.mul_le_mul (by omega) (by omega)
  have BW : Hid (Below w.heap.size w W1) := chain X5.out.2.2.2 X6.out.2.2.2 (Nat.le_refl _)
  go_loopw [7, 8] (fun ov i wr => ∃ (k : Nat) (P : List (Int × Int)), k ≤ X.length ∧ i = .int .i64 k ∧ RR W1.heap.size wr ov P ∧ Fit P ∧ P.length ≤ k * (Y.length + 1) ∧ (∀ c, In P c ↔ In (X.take k) c ∧ ¬ In Y c) ∧ Below W1.heap.size W1 wr) (fun _ i _ => X.length - (intOf i).toNat)
  case atStart => exact ⟨0, [], Nat.zero_le _, rfl, RR.nil _ _, fit_nil, by simp, fun c => by simp [In], Below.refl _ _⟩
  case round =>
    obtain ⟨k, P, hk, rfl, hrr, hfp, hpl, hpm, hb⟩ := hrel
    have RO : Hid (RR W1.heap.size wr u7 P) := hrr
    have BB : Hid (Below W1.heap.size W1 wr) := hb
    have PP : Hid (Fit P ∧ P.length ≤ k * (Y.length + 1) ∧ ∀ c, In P c ↔ In (X.take k) c ∧ ¬ In Y c) := ⟨hfp, hpl, hpm⟩
    clear hrr hb hfp hpl hpm
    by_cases hlt : k < X.length
    · obtain ⟨r, er⟩ : ∃ r, X[k]? = some r := ⟨_, List.getElem?_eq_getElem hlt⟩
      obtain ⟨gx, ox, rfl, hgx, x1, x2⟩ := HA.out k _ er
      have c1 := (BB.out.cell (p := ⟨gx, ox + 2 * k, none⟩) hgx).trans x1
      have c2 := (BB.out.cell (p := ⟨gx, ox + 2 * k + 1, none⟩) hgx).trans x2
      rw [Nat.mul_comm] at c1 c2
      have hrm := List.mem_of_getElem? er
      have hs := X5.out.2.1.cls.some r hrm
      have hfr := X5.out.2.1.fit r hrm
      obtain ⟨lo, hi⟩ := r
      dsimp only at c1 c2 hs hfr
      have ER : Hid (X[k]? = some (lo, hi)) := er
      have hPl : P.length + Y.length + 1 ≤ N := by have h1 := LP.out (k + 1) (by omega); rw [Nat.succ_mul] at h1; have := PP.out.2.1; omega
      have LS : Hid (LI Y lo hi 0 lo true []) := LI.start hs
      have NX : Hid (∀ Q, Fit Q → Q.length ≤ Y.length + 1 → (∀ c, In Q c ↔ lo ≤ c ∧ c ≤ hi ∧ ¬ In Y c) → Fit (P ++ Q) ∧ (P ++ Q).length ≤ (k + 1) * (Y.length + 1) ∧ ∀ c, In (P ++ Q) c ↔ In (X.take (k + 1)) c ∧ ¬ In Y c) := fun Q h1 h2 h3 => ⟨fit_append PP.out.1 h1, by rw [Nat.succ_mul, List.length_append]; have := PP.out.2.1; omega, outer_next PP.out.2.2 ER.out h3⟩
      have i0 : (0 : Int) ≤ (k : Int) := by omega
      have i1 : (k : Int) < (X.length : Int) := by omega
      rename World => W2
      have LS0 : Hid (LW W1 (W2.alloc (.cells #[.int .i64 lo, .int .i64 hi] 39)) W2.heap.size lo hi u7 (P ++ [])) := ⟨by rw [List.append_nil]; exact World.ownsRow.alloc RO.out _, alloc_new W2 _, fun e => by have := (ownsRow_at RO.out e).2.1; omega, BB.out.alloc BB.out.size _, BB.out.size⟩
      clear x1 x2 er hrm hgx RO BB
      go_wp2
      go_loopw [7, 10, 11] (fun ov lf i wr => ∃ (j : Nat) (l : Int) (left : Bool) (Q : List (Int × Int)), j ≤ Y.length ∧ i = .int .i64 j ∧ lf = .bool left ∧ LW W1 wr W2.heap.size l hi ov (P ++ Q) ∧ LI Y lo hi j l left Q) (fun _ _ i _ => Y.length - (intOf i).toNat)
      case atStart => exact ⟨0, lo, true, [], Nat.zero_le _, rfl, rfl, LS0.out, LS.out⟩
      case round =>
        clear LS0 LS c1 c2
        obtain ⟨j, l, left, Q, hj, rfl, rfl, hW, hI⟩ := hrel
        obtain ⟨O, hO⟩ : ∃ O, P ++ Q = O := ⟨_, rfl⟩
        have EO : Hid (P ++ Q = O) := hO
        have I : Hid (LI Y lo hi j l left Q) := hI
        have hql := hI.len
        have hol : O.length = P.length + Q.length := by rw [← hO, List.length_append]
        have HOL : Hid (O.length + 1 ≤ 8796093022208) := hide (by omega)
        rw [hO] at hW
        obtain ⟨qo, co, e3⟩ := hW.own.shape
        subst e3
        have M0 : Hid (LW W1 wr W2.heap.size l hi (.slice qo O.length co) O) := hW
        have b0 := hW.c0
        have b1 := hW.c1
        have s1 := hW.lt
        clear hW hI hO hol
        have j0 : (0 : Int) ≤ (j : Int) := by omega
        have hol := HOL.out
        cases left with
        | false =>
          have FF : Hid _ := NX.out Q I.out.fit (by omega) I.out.none
          by_cases hjl : j < Y.length
          · have j1 : (j : Int) < (Y.length : Int) := by omega
            go_wp2
            go_roundw
            case rel => exact ⟨k + 1, O, by omega, by go_num, M0.out.own, EO.out ▸ FF.out.1, EO.out ▸ FF.out.2.1, EO.out ▸ FF.out.2.2, M0.out.bel⟩
            case measure => simp [intOf]; omega
          · have j1 : ¬ (j : Int) < (Y.length : Int) := by omega
            go_wp2
            go_roundw
            case rel => exact ⟨k + 1, O, by omega, by go_num, M0.out.own, EO.out ▸ FF.out.1, EO.out ▸ FF.out.2.1, EO.out ▸ FF.out.2.2, M0.out.bel⟩
            case measure => simp [intOf]; omega
        | true =>
          have hbnd := I.out.bnd rfl
          by_cases hjl : j < Y.length
          · have j1 : (j : Int) < (Y.length : Int) := by omega
            obtain ⟨y, ey⟩ : ∃ r, Y[j]? = some r := ⟨_, List.getElem?_eq_getElem hjl⟩
            obtain ⟨gy, oy, rfl, hgy, z1, z2⟩ := HB.out j _ ey
            rw [Nat.mul_comm] at z1 z2
            have hfy := X6.out.2.1.fit y (List.mem_of_getElem? ey)
            obtain ⟨yl, yh⟩ := y
            dsimp only at z1 z2 hfy
            have YK : Hid (W1.cell? ⟨gy, oy + j * 2, none⟩ = some (.int .i64 yl) ∧ W1.cell? ⟨gy, oy + j * 2 + 1, none⟩ = some (.int .i64 yh) ∧ gy < W1.heap.size) := ⟨z1, z2, hgy⟩
            have EY : Hid (Y[j]? = some (yl, yh)) := ey
            have y1 := (M0.out.bel.cell (p := ⟨gy, oy + j * 2, none⟩) hgy).trans z1
            have y2 := (M0.out.bel.cell (p := ⟨gy, oy + j * 2 + 1, none⟩) hgy).trans z2
            have s2 : gy < wr.heap.size := Nat.lt_of_lt_of_le hgy M0.out.bel.size
            clear z1 z2 ey hgy
            by_cases h1 : yh < l
            · have d1 : decide (yh < l) = true := decide_eq_true h1
              have SK : Hid (LI Y lo hi (j + 1) l true Q) := I.out.skip EY.out (.inl h1)
              go_wp2
              refine wp_region_ext (by kernel_rfl) (by kernel_rfl) ?_
              repeat (go_big_quiet_step (first | exact rfl))
              refine wpQuiet_nil ?_
              intro w12 hw12
              have M12 : Hid (LW W1 w12 W2.heap.size l hi (.slice qo O.length co) O) := M0.out.kept (ext_of hw12)
              clear hw12 b0 b1 y1 y2 s1 s2
              have b0 := M12.out.c0
              have b1 := M12.out.c1
              have y1 := (M12.out.bel.cell (p := ⟨gy, oy + j * 2, none⟩) YK.out.2.2).trans YK.out.1
              have y2 := (M12.out.bel.cell (p := ⟨gy, oy + j * 2 + 1, none⟩) YK.out.2.2).trans YK.out.2.1
              have s1 := M12.out.lt
              have s2 : gy < w12.heap.size := Nat.lt_of_lt_of_le YK.out.2.2 M12.out.bel.size
              go_wp2
              go_roundw
              case rel => exact ⟨j + 1, l, true, Q, by omega, by go_num, rfl, by rw [EO.out]; exact M12.out, SK.out⟩
              case measure => simp [intOf]; omega
            · have d1 : decide (yh < l) = false := decide_eq_false h1
              by_cases h2 : hi < yl
              · have d2 : decide (hi < yl) = true := decide_eq_true h2
                have SK : Hid (LI Y lo hi (j + 1) l true Q) := I.out.skip EY.out (.inr h2)
                go_wp2
                refine wp_region_ext (by kernel_rfl) (by kernel_rfl) ?_
                repeat (go_big_quiet_step (first | exact rfl))
                refine wpQuiet_nil ?_
                intro w12 hw12
                have M12 : Hid (LW W1 w12 W2.heap.size l hi (.slice qo O.length co) O) := M0.out.kept (ext_of hw12)
                clear hw12 b0 b1 y1 y2 s1 s2
                have b0 := M12.out.c0
                have b1 := M12.out.c1
                have y1 := (M12.out.bel.cell (p := ⟨gy, oy + j * 2, none⟩) YK.out.2.2).trans YK.out.1
                have y2 := (M12.out.bel.cell (p := ⟨gy, oy + j * 2 + 1, none⟩) YK.out.2.2).trans YK.out.2.1
                have s1 := M12.out.lt
                have s2 : gy < w12.heap.size := Nat.lt_of_lt_of_le YK.out.2.2 M12.out.bel.size
                go_wp2
                go_roundw
                case rel => exact ⟨j + 1, l, true, Q, by omega, by go_num, rfl, by rw [EO.out]; exact M12.out, SK.out⟩
                case measure => simp [intOf]; omega
              · have d2 : decide (hi < yl) = false := decide_eq_false h2
                have CUT : Hid ((yh < hi → LI Y lo hi (j + 1) (yh + 1) true (gapG l yl Q)) ∧ (¬ yh < hi → ∀ l', LI Y lo hi (j + 1) l' false (gapG l yl Q))) := I.out.cut X6.out.2.1.cls X6.out.2.1.fit (by omega) EY.out h1 h2
                by_cases h3 : l < yl
                · have d3 : decide (l < yl) = true := decide_eq_true h3
                  have wl : IntKind.wrap .i64 (yl - 1) = yl - 1 := by rw [IntKind.wrap_i64]; omega
                  have EG : Hid (P ++ gapG l yl Q = O ++ [(l, yl - 1)]) := hide (by rw [gapG_pos h3, ← List.append_assoc, EO.out])
                  go_wp2
                  refine wp_region_ext (by kernel_rfl) (by kernel_rfl) ?_
                  repeat (go_big_quiet_step (first | exact rfl))
                  refine wpQuiet_nil ?_
                  intro w12 hw12
                  have M12 : Hid (LW W1 w12 W2.heap.size l hi (.slice qo O.length co) O) := M0.out.kept (ext_of hw12)
                  clear hw12 b0 b1 y1 y2 s1 s2
                  have b0 := M12.out.c0
                  have b1 := M12.out.c1
                  have y1 := (M12.out.bel.cell (p := ⟨gy, oy + j * 2, none⟩) YK.out.2.2).trans YK.out.1
                  have y2 := (M12.out.bel.cell (p := ⟨gy, oy + j * 2 + 1, none⟩) YK.out.2.2).trans YK.out.2.1
                  have s1 := M12.out.lt
                  have s2 : gy < w12.heap.size := Nat.lt_of_lt_of_le YK.out.2.2 M12.out.bel.size
                  go_wp2
                  refine wp_region_ext (by kernel_rfl) (by kernel_rfl) ?_
                  repeat (go_big_quiet_step (first | exact rfl))
                  refine wpQuiet_nil ?_
                  intro w13 hw13
                  have M13 : Hid (LW W1 w13 W2.heap.size l hi (.slice qo O.length co) O) := M12.out.kept (ext_of hw13)
                  clear hw13 b0 b1 y1 y2 s1 s2
                  have b0 := M13.out.c0
                  have b1 := M13.out.c1
                  have y1 := (M13.out.bel.cell (p := ⟨gy, oy + j * 2, none⟩) YK.out.2.2).trans YK.out.1
                  have y2 := (M13.out.bel.cell (p := ⟨gy, oy + j * 2 + 1, none⟩) YK.out.2.2).trans YK.out.2.1
                  have s1 := M13.out.lt
                  have s2 : gy < w13.heap.size := Nat.lt_of_lt_of_le YK.out.2.2 M13.out.bel.size
                  have MD : Hid (LW W1 w13.drew W2.heap.size l hi (.slice qo O.length co) O) := M13.out.kept (Below.refl _ _).drew
                  have QC : Hid (∀ w', (Below W1.heap.size W1 w' ∧ w'.heap[W2.heap.size]? = some (.cells #[.int .i64 l, .int .i64 hi] 39 (0, 0))) → w'.cell? ⟨W2.heap.size, 0, none⟩ = some (.int .i64 l) ∧ w'.cell? ⟨gy, oy + j * 2, none⟩ = some (.int .i64 yl)) := fun w' h => ⟨cell_row h.2 (i := 0) rfl, (h.1.cell (p := ⟨gy, oy + j * 2, none⟩) YK.out.2.2).trans YK.out.1⟩
                  have hz13 := M13.out.bel.size
                  go_wp2
                  refine wp_region_held_drew (S := fun w' => Below W1.heap.size W1 w' ∧ w'.heap[W2.heap.size]? = some (.cells #[.int .i64 l, .int .i64 hi] 39 (0, 0))) (by kernel_rfl) ⟨MD.out.bel, MD.out.box⟩ (fun hHeld => ?_)
                  refine wpAnyH_take (i := 0) (oi := _) (v := ?_) rfl (by kernel_rfl) (by kernel_rfl) (by kernel_rfl) (fun _ _ _ h => h) (Or.inl ⟨by rfl, ?_⟩) (by assumption) ?_
                  rotate_left
                  · intro wz hSw; obtain ⟨q1, q2⟩ := QC.out wz hSw; clear hSw; go_simp; try with_reducible rfl
                  dsimp only [Act.put, List.getElem_toArray, List.getElem_cons_zero, List.getElem_cons_succ]
                  simp only [List.setIfInBounds_toArray, List.set_cons_zero, List.set_cons_succ]
                  refine wpAnyH_take (i := 1) (oi := _) (v := ?_) rfl (by kernel_rfl) (by kernel_rfl) (by kernel_rfl) (fun _ _ _ h => h) (Or.inl ⟨by rfl, ?_⟩) (by assumption) ?_
                  rotate_left
                  · intro wz hSw; obtain ⟨q1, q2⟩ := QC.out wz hSw; clear hSw; go_simp; try with_reducible rfl
                  dsimp only [Act.put, List.getElem_toArray, List.getElem_cons_zero, List.getElem_cons_succ]
                  simp only [List.setIfInBounds_toArray, List.set_cons_zero, List.set_cons_succ]
                  refine wpAnyH_take (i := 2) (oi := _) (v := ?_) rfl (by kernel_rfl) (by kernel_rfl) (by kernel_rfl) (fun _ _ _ h => h) (Or.inl ⟨by rfl, ?_⟩) (by assumption) ?_
                  rotate_left
                  · intro wz hSw; obtain ⟨q1, q2⟩ := QC.out wz hSw; clear hSw; go_simp; try with_reducible rfl
                  dsimp only [Act.put, List.getElem_toArray, List.getElem_cons_zero, List.getElem_cons_succ]
                  simp only [List.setIfInBounds_toArray, List.set_cons_zero, List.set_cons_succ]
                  refine wpAnyH_take (i := 3) (oi := _) (v := ?_) rfl (by kernel_rfl) (by kernel_rfl) (by kernel_rfl) (fun _ _ _ h => h) (Or.inl ⟨by rfl, ?_⟩) (by assumption) ?_
                  rotate_left
                  · intro wz hSw; obtain ⟨q1, q2⟩ := QC.out wz hSw; clear hSw; go_simp; try with_reducible rfl
                  dsimp only [Act.put, List.getElem_toArray, List.getElem_cons_zero, List.getElem_cons_succ]
                  simp only [List.setIfInBounds_toArray, List.set_cons_zero, List.set_cons_succ]
                  refine wpAnyH_take (i := 4) (oi := _) (v := ?_) rfl (by kernel_rfl) (by kernel_rfl) (by kernel_rfl) (fun _ _ _ h => h) (Or.inl ⟨by rfl, ?_⟩) (by assumption) ?_
                  rotate_left
                  · intro wz hSw; obtain ⟨q1, q2⟩ := QC.out wz hSw; clear hSw; go_simp; try with_reducible rfl
                  dsimp only [Act.put, List.getElem_toArray, List.getElem_cons_zero, List.getElem_cons_succ]
                  simp only [List.setIfInBounds_toArray, List.set_cons_zero, List.set_cons_succ]
                  refine wpAnyH_take (i := 5) (oi := _) (v := ?_) rfl (by kernel_rfl) (by kernel_rfl) (by kernel_rfl) (fun _ _ _ h => h) (Or.inl ⟨by rfl, ?_⟩) (by assumption) ?_
                  rotate_left
                  · intro wz hSw; obtain ⟨q1, q2⟩ := QC.out wz hSw; clear hSw; go_simp; try with_reducible rfl
                  dsimp only [Act.put, List.getElem_toArray, List.getElem_cons_zero, List.getElem_cons_succ]
                  simp only [List.setIfInBounds_toArray, List.set_cons_zero, List.set_cons_succ]
                  refine wpAnyH_take (i := 6) (oi := _) (v := ?_) rfl (by kernel_rfl) (by kernel_rfl) (by kernel_rfl) (fun _ _ _ h => h) (Or.inl ⟨by rfl, ?_⟩) (by assumption) ?_
                  rotate_left
                  · intro wz hSw; obtain ⟨q1, q2⟩ := QC.out wz hSw; clear hSw; go_simp; try with_reducible rfl
                  dsimp only [Act.put, List.getElem_toArray, List.getElem_cons_zero, List.getElem_cons_succ]
                  simp only [List.setIfInBounds_toArray, List.set_cons_zero, List.set_cons_succ]
                  refine wpAnyH_take (i := 7) (oi := _) (v := ?_) rfl (by kernel_rfl) (by kernel_rfl) (by kernel_rfl) (fun _ _ _ h => h) (Or.inl ⟨by rfl, ?_⟩) (by assumption) ?_
                  rotate_left
                  · intro wz hSw; obtain ⟨q1, q2⟩ := QC.out wz hSw; clear hSw; go_simp; try with_reducible rfl
                  dsimp only [Act.put, List.getElem_toArray, List.getElem_cons_zero, List.getElem_cons_succ]
                  simp only [List.setIfInBounds_toArray, List.set_cons_zero, List.set_cons_succ]
                  refine wpAnyH_take (i := 8) (oi := _) (v := ?_) rfl (by kernel_rfl) (by kernel_rfl) (by kernel_rfl) (fun _ _ _ h => h) (Or.inl ⟨by rfl, ?_⟩) (by assumption) ?_
                  rotate_left
                  · intro wz hSw; obtain ⟨q1, q2⟩ := QC.out wz hSw; clear hSw; go_simp; try with_reducible rfl
                  dsimp only [Act.put, List.getElem_toArray, List.getElem_cons_zero, List.getElem_cons_succ]
                  simp only [List.setIfInBounds_toArray, List.set_cons_zero, List.set_cons_succ]
                  refine wpAnyH_take (i := 9) (oi := _) (v := ?_) rfl (by kernel_rfl) (by kernel_rfl) (by kernel_rfl) (fun _ _ _ h => h) (Or.inl ⟨by rfl, ?_⟩) (by assumption) ?_
                  rotate_left
                  · intro wz hSw; obtain ⟨q1, q2⟩ := QC.out wz hSw; clear hSw; go_simp; try with_reducible rfl
                  dsimp only [Act.put, List.getElem_toArray, List.getElem_cons_zero, List.getElem_cons_succ]
                  simp only [List.setIfInBounds_toArray, List.set_cons_zero, List.set_cons_succ]
                  refine wpAnyH_ready (rs := [10]) (by kernel_rfl) (by simp) ?_
                  refine AllReadyH.cons rfl (fun K hK => ?_) AllReadyH.nil
                  go_simp
                  refine hK.out _ _ ⟨MD.out.bel.alloc MD.out.bel.size _, (Below.heap_alloc _ _ _ MD.out.lt).trans MD.out.box⟩ (fun hHeld2 => ?_)
                  clear hK K
                  refine wpAnyH_ready (rs := [11]) (by kernel_rfl) (by simp) ?_
                  refine AllReadyH.cons rfl (fun K hK => ?_) AllReadyH.nil
                  refine step_append_at rfl _ _ 35 rfl W1.heap.size 39 t0 (.agg #[.int .i64 0, .int .i64 0]) 2 16 und_ranges ti hz0 hz1 hz2 rfl (by decide) (.slice qo O.length co) O.length (cellsR O) (by simp [Act.eval]) (World.ownsRow.alloc MD.out.own (.cells #[.int .i64 l, .int .i64 (yl - 1)] 39)) ⟨w13.heap.size, 0, none⟩ 1 1 [.int .i64 l, .int .i64 (yl - 1)] (by simp [Act.eval]) rfl (news2 _ _ _ _) (by simp [Value.oneCell']) (by unfold maxLen; omega) (by omega) (by simp; omega) ?_
                  intro v' w14 hown' hgrow hblk
                  obtain ⟨g6, cap6, rfl⟩ := ownsRow_some hown' (Nat.succ_pos _)
                  have M14 : Hid (LW W1 w14 W2.heap.size l hi (.slice (some ⟨g6, 0, none⟩) (O.length + 1) cap6) (O ++ [(l, yl - 1)])) := MD.out.app hgrow hown' hblk
                  clear hown' hgrow hblk
                  refine hK.out _ _ ⟨M14.out.bel, M14.out.box⟩ (fun hHeld3 => ?_)
                  clear hK K
                  refine wpAnyH_ready (rs := [12]) (by kernel_rfl) (by simp) ?_
                  refine AllReadyH.cons rfl (fun K hK => ?_) AllReadyH.nil
                  go_simp
                  refine hK.out _ _ ⟨M14.out.bel, M14.out.box⟩ (fun hHeld4 => ?_)
                  clear hK K
                  refine wpAnyH_done (by kernel_rfl) ?_ _
                  clear hHeld hHeld2 hHeld3 hHeld4 b0 b1 y1 y2 s1 s2
                  have b0 := M14.out.c0
                  have b1 := M14.out.c1
                  have y1 := (M14.out.bel.cell (p := ⟨gy, oy + j * 2, none⟩) YK.out.2.2).trans YK.out.1
                  have y2 := (M14.out.bel.cell (p := ⟨gy, oy + j * 2 + 1, none⟩) YK.out.2.2).trans YK.out.2.1
                  have s1 := M14.out.lt
                  have s2 : gy < w14.heap.size := Nat.lt_of_lt_of_le YK.out.2.2 M14.out.bel.size
                  by_cases h4 : yh < hi
                  · have d4 : decide (yh < hi) = true := decide_eq_true h4
                    have wy : IntKind.wrap .i64 (yh + 1) = yh + 1 := by rw [IntKind.wrap_i64]; omega
                    have CC : Hid (LI Y lo hi (j + 1) (yh + 1) true (gapG l yl Q)) := CUT.out.1 h4
                    go_wp2
                    refine wp_region_ext (by kernel_rfl) (by kernel_rfl) ?_
                    repeat (go_big_quiet_step (first | exact rfl))
                    refine wpQuiet_nil ?_
                    intro w15 hw15
                    have M15 : Hid (LW W1 w15 W2.heap.size l hi (.slice (some ⟨g6, 0, none⟩) (O.length + 1) cap6) (O ++ [(l, yl - 1)])) := M14.out.kept (ext_of hw15)
                    clear hw15 b0 b1 y1 y2 s1 s2
                    have b0 := M15.out.c0
                    have b1 := M15.out.c1
                    have y1 := (M15.out.bel.cell (p := ⟨gy, oy + j * 2, none⟩) YK.out.2.2).trans YK.out.1
                    have y2 := (M15.out.bel.cell (p := ⟨gy, oy + j * 2 + 1, none⟩) YK.out.2.2).trans YK.out.2.1
                    have s1 := M15.out.lt
                    have s2 : gy < w15.heap.size := Nat.lt_of_lt_of_le YK.out.2.2 M15.out.bel.size
                    have f0 : w15.frozen? ⟨W2.heap.size, 0, none⟩ = false := frz_row M15.out.box 0
                    go_wp2
                    go_roundw
                    case rel => exact ⟨j + 1, yh + 1, true, gapG l yl Q, by omega, by go_num, rfl, by rw [EG.out]; exact M15.out.put, CC.out⟩
                    case measure => simp [intOf]; omega
                  · have d4 : decide (yh < hi) = false := decide_eq_false h4
                    have CC : Hid (LI Y lo hi (j + 1) l false (gapG l yl Q)) := CUT.out.2 (by omega) l
                    go_wp2
                    refine wp_region_ext (by kernel_rfl) (by kernel_rfl) ?_
                    repeat (go_big_quiet_step (first | exact rfl))
                    refine wpQuiet_nil ?_
                    intro w15 hw15
                    have M15 : Hid (LW W1 w15 W2.heap.size l hi (.slice (some ⟨g6, 0, none⟩) (O.length + 1) cap6) (O ++ [(l, yl - 1)])) := M14.out.kept (ext_of hw15)
                    clear hw15 b0 b1 y1 y2 s1 s2
                    have b0 := M15.out.c0
                    have b1 := M15.out.c1
                    have y1 := (M15.out.bel.cell (p := ⟨gy, oy + j * 2, none⟩) YK.out.2.2).trans YK.out.1
                    have y2 := (M15.out.bel.cell (p := ⟨gy, oy + j * 2 + 1, none⟩) YK.out.2.2).trans YK.out.2.1
                    have s1 := M15.out.lt
                    have s2 : gy < w15.heap.size := Nat.lt_of_lt_of_le YK.out.2.2 M15.out.bel.size
                    go_wp2
                    go_roundw
                    case rel => exact ⟨j + 1, l, false, gapG l yl Q, by omega, by go_num, rfl, by rw [EG.out]; exact M15.out, CC.out⟩
                    case measure => simp [intOf]; omega
                · have d3 : decide (l < yl) = false := decide_eq_false h3
                  have EG : Hid (P ++ gapG l yl Q = O) := hide (by rw [gapG_neg h3, EO.out])
                  go_wp2
                  refine wp_region_ext (by kernel_rfl) (by kernel_rfl) ?_
                  repeat (go_big_quiet_step (first | exact rfl))
                  refine wpQuiet_nil ?_
                  intro w12 hw12
                  have M12 : Hid (LW W1 w12 W2.heap.size l hi (.slice qo O.length co) O) := M0.out.kept (ext_of hw12)
                  clear hw12 b0 b1 y1 y2 s1 s2
                  have b0 := M12.out.c0
                  have b1 := M12.out.c1
                  have y1 := (M12.out.bel.cell (p := ⟨gy, oy + j * 2, none⟩) YK.out.2.2).trans YK.out.1
                  have y2 := (M12.out.bel.cell (p := ⟨gy, oy + j * 2 + 1, none⟩) YK.out.2.2).trans YK.out.2.1
                  have s1 := M12.out.lt
                  have s2 : gy < w12.heap.size := Nat.lt_of_lt_of_le YK.out.2.2 M12.out.bel.size
                  go_wp2
                  refine wp_region_ext (by kernel_rfl) (by kernel_rfl) ?_
                  repeat (go_big_quiet_step (first | exact rfl))
                  refine wpQuiet_nil ?_
                  intro w13 hw13
                  have M13 : Hid (LW W1 w13 W2.heap.size l hi (.slice qo O.length co) O) := M12.out.kept (ext_of hw13)
                  clear hw13 b0 b1 y1 y2 s1 s2
                  have b0 := M13.out.c0
                  have b1 := M13.out.c1
                  have y1 := (M13.out.bel.cell (p := ⟨gy, oy + j * 2, none⟩) YK.out.2.2).trans YK.out.1
                  have y2 := (M13.out.bel.cell (p := ⟨gy, oy + j * 2 + 1, none⟩) YK.out.2.2).trans YK.out.2.1
                  have s1 := M13.out.lt
                  have s2 : gy < w13.heap.size := Nat.lt_of_lt_of_le YK.out.2.2 M13.out.bel.size
                  by_cases h4 : yh < hi
                  · have d4 : decide (yh < hi) = true := decide_eq_true h4
                    have wy : IntKind.wrap .i64 (yh + 1) = yh + 1 := by rw [IntKind.wrap_i64]; omega
                    have CC : Hid (LI Y lo hi (j + 1) (yh + 1) true (gapG l yl Q)) := CUT.out.1 h4
                    go_wp2
                    refine wp_region_ext (by kernel_rfl) (by kernel_rfl) ?_
                    repeat (go_big_quiet_step (first | exact rfl))
                    refine wpQuiet_nil ?_
                    intro w15 hw15
                    have M15 : Hid (LW W1 w15 W2.heap.size l hi (.slice qo O.length co) O) := M13.out.kept (ext_of hw15)
                    clear hw15 b0 b1 y1 y2 s1 s2
                    have b0 := M15.out.c0
                    have b1 := M15.out.c1
                    have y1 := (M15.out.bel.cell (p := ⟨gy, oy + j * 2, none⟩) YK.out.2.2).trans YK.out.1
                    have y2 := (M15.out.bel.cell (p := ⟨gy, oy + j * 2 + 1, none⟩) YK.out.2.2).trans YK.out.2.1
                    have s1 := M15.out.lt
                    have s2 : gy < w15.heap.size := Nat.lt_of_lt_of_le YK.out.2.2 M15.out.bel.size
                    have f0 : w15.frozen? ⟨W2.heap.size, 0, none⟩ = false := frz_row M15.out.box 0
                    go_wp2
                    go_roundw
                    case rel => exact ⟨j + 1, yh + 1, true, gapG l yl Q, by omega, by go_num, rfl, by rw [EG.out]; exact M15.out.put, CC.out⟩
                    case measure => simp [intOf]; omega
                  · have d4 : decide (yh < hi) = false := decide_eq_false h4
                    have CC : Hid (LI Y lo hi (j + 1) l false (gapG l yl Q)) := CUT.out.2 (by omega) l
                    go_wp2
                    refine wp_region_ext (by kernel_rfl) (by kernel_rfl) ?_
                    repeat (go_big_quiet_step (first | exact rfl))
                    refine wpQuiet_nil ?_
                    intro w15 hw15
                    have M15 : Hid (LW W1 w15 W2.heap.size l hi (.slice qo O.length co) O) := M13.out.kept (ext_of hw15)
                    clear hw15 b0 b1 y1 y2 s1 s2
                    have b0 := M15.out.c0
                    have b1 := M15.out.c1
                    have y1 := (M15.out.bel.cell (p := ⟨gy, oy + j * 2, none⟩) YK.out.2.2).trans YK.out.1
                    have y2 := (M15.out.bel.cell (p := ⟨gy, oy + j * 2 + 1, none⟩) YK.out.2.2).trans YK.out.2.1
                    have s1 := M15.out.lt
                    have s2 : gy < w15.heap.size := Nat.lt_of_lt_of_le YK.out.2.2 M15.out.bel.size
                    go_wp2
                    go_roundw
                    case rel => exact ⟨j + 1, l, false, gapG l yl Q, by omega, by go_num, rfl, by rw [EG.out]; exact M15.out, CC.out⟩
                    case measure => simp [intOf]; omega
          · have j1 : ¬ (j : Int) < (Y.length : Int) := by omega
            have hY : Y.length ≤ j := by omega
            have FF : Hid _ := NX.out (Q ++ [(l, hi)]) (fit_append I.out.fit (fit_one (by omega))) (by simp; omega) (I.out.all hY)
            have EF : Hid (P ++ (Q ++ [(l, hi)]) = O ++ [(l, hi)]) := hide (by rw [← List.append_assoc, EO.out])
            rw [EF.out] at FF
            go_wp2_with (at_builtin; refine wpList_append_own_at _ rfl _ _ 35 rfl W1.heap.size 39 t0 (.agg #[.int .i64 0, .int .i64 0]) 2 16 und_ranges ti hz0 hz1 hz2 rfl (by decide) (.slice qo O.length co) O.length (cellsR O) rfl (World.ownsRow.alloc M0.out.own (.cells #[.int .i64 l, .int .i64 hi] 39)) ⟨wr.heap.size, 0, none⟩ 1 1 [.int .i64 l, .int .i64 hi] rfl rfl (news2 _ _ _ _) (by simp [Value.oneCell']) (by unfold maxLen; omega) (by omega) (by have := M0.out.bel.size; simp; omega) ?_; intro v' w6 hown' hgrow _ hblk; obtain ⟨g6, cap6, rfl⟩ := ownsRow_some hown' (Nat.succ_pos _); have M6 : Hid (LW W1 w6 W2.heap.size l hi (.slice (some ⟨g6, 0, none⟩) (O.length + 1) cap6) (O ++ [(l, hi)])) := M0.out.app hgrow hown' hblk; clear hown' hgrow hblk)
            go_roundw
            case rel => exact ⟨k + 1, O ++ [(l, hi)], by omega, by go_num, M6.out.own, FF.out.1, FF.out.2.1, FF.out.2.2, M6.out.bel⟩
            case measure => simp [intOf]; omega
    · have i1 : ¬ (k : Int) < (X.length : Int) := by omega
      have LN : Hid (P.length ≤ N) := hide (by have := PP.out.2.1; have := LP.out k hk; omega)
      have PM : Hid (∀ c, In P c ↔ In X c ∧ ¬ In Y c) := fun c => by have := PP.out.2.2 c; rwa [List.take_of_length_le (by omega)] at this
      go_wp2_with (go_at_call 55; refine (rclass_c RO.out.arg PP.out.1 (by have := LN.out; omega)).mono ?_; rintro e w7 ⟨v7, C, rfl, h1, h2, h3, h4⟩; have X7 : Hid (RR wr.heap.size w7 v7 C ∧ IsC C (In P) ∧ C.length ≤ P.length ∧ Below wr.heap.size wr w7) := ⟨h1, h2, h3, h4⟩; clear h1 h2 h3 h4)
      go_ret
      have BZ := chain BW.out BB.out (Nat.le_refl _)
      refine ⟨_, _, rfl, X7.out.1.mono BZ.size, X7.out.2.1.to fun c => ?_, Nat.le_trans X7.out.2.2.1 LN.out, chain BZ X7.out.2.2.2 (Nat.le_refl _)⟩
      rw [PM.out, X5.out.2.1.mem, X6.out.2.1.mem]
end Go.Proofs.YtloeajhmmjdlgaaGreatDoor
namespace Go.Proofs.YtloeajhmmjdlgaaGreatDoor
open Go Go.RowKit

theorem argr_none {w : World} {n k : Nat} {L : List (Int × Int)} (h : ArgR w (.slice none n k) L) : n = 0 ∧ k = 0 ∧ L = [] := by
  rcases h with ⟨p, cap', e, e2, e3⟩ | ⟨g', off', cap', e, _⟩
  · subst e2
    cases e
    exact ⟨rfl, e3 rfl, rfl⟩
  · cases e
end Go.Proofs.YtloeajhmmjdlgaaGreatDoor
