/-
  same: are tokens the document's? Tokens whose lists are written over. LexerReads, whatever the two answers are that it holds against each other.
-/
import Derived.Test.YtloeajhmmjdlgaaGreatDoorC19
import Derived.Test.YtloeajhmmjdlgaaGreatDoorReadsProofB1
import Derived.Deep.DeepCutAuto
namespace Go.Proofs.YtloeajhmmjdlgaaGreatDoor
open Go Go.RowKit
attribute [local go_sem] ext_cell

theorem TL.cellS {base : Nat} {w : World} {g c : Nat} {D : List Dt} (h : TL base w (.slice (some ⟨g, 0, none⟩) D.length c) D) {i : Nat} {d : Dt} (hd : D[i]? = some d) {j : Nat} {u : Value} (hj : (tc d)[j]? = some u) : w.cell? ⟨g, i * 7 + j, none⟩ = some u := by
  have h7 : j < 7 := by have := (List.getElem?_eq_some_iff.1 hj).1; rwa [tc_length] at this
  exact ownsRow_cell h.own ((tcs_get D i d j hd h7).trans hj)
theorem same_tk {D : List Dt} {T : List Tp} (hT : D.map Prod.fst = T) {i : Nat} {d : Dt} (hd : D[i]? = some d) : T[i]? = some d.1 := by rw [← hT, List.getElem?_map, hd]; rfl
/-- A token in memory. -/
def TA (w : World) (g : Nat) (x0 x1 x2 x3 x4 x5 x6 : Value) : Prop := w.heap[g]? = some (.cells #[x0, x1, x2, x3, x4, x5, x6] 37 (0, 0))
theorem TA.all {w : World} {g : Nat} {x0 x1 x2 x3 x4 x5 x6 : Value} (h : TA w g x0 x1 x2 x3 x4 x5 x6) : w.cell? ⟨g, 0, none⟩ = some x0 ∧ w.cell? ⟨g, 1, none⟩ = some x1 ∧ w.cell? ⟨g, 2, none⟩ = some x2 ∧ w.cell? ⟨g, 3, none⟩ = some x3 ∧ w.cell? ⟨g, 4, none⟩ = some x4 ∧ w.cell? ⟨g, 5, none⟩ = some x5 ∧ w.cell? ⟨g, 6, none⟩ = some x6 :=
  ⟨cell_row h (i := 0) rfl, cell_row h (i := 1) rfl, cell_row h (i := 2) rfl, cell_row h (i := 3) rfl, cell_row h (i := 4) rfl, cell_row h (i := 5) rfl, cell_row h (i := 6) rfl⟩
theorem TA.kept {w w' : World} {g : Nat} {x0 x1 x2 x3 x4 x5 x6 : Value} (h : TA w g x0 x1 x2 x3 x4 x5 x6) (hb : Below w.heap.size w w') : TA w' g x0 x1 x2 x3 x4 x5 x6 := (hb.block g (lt_of_heap h)).trans h
theorem TA.new (w : World) (x0 x1 x2 x3 x4 x5 x6 : Value) : TA (w.alloc (.cells #[x0, x1, x2, x3, x4, x5, x6] 37)) w.heap.size x0 x1 x2 x3 x4 x5 x6 ∧ Below w.heap.size w (w.alloc (.cells #[x0, x1, x2, x3, x4, x5, x6] 37)) :=
  ⟨alloc_new _ _, (Below.refl _ _).alloc (Nat.le_refl _) _⟩
set_option maxRecDepth 100000 in
set_option maxHeartbeats 4000000 in
theorem same_yes {w : World} {ba bb : Nat} {va vb : Value} {D E : List Dt} (ha : TL ba w va D) (hb : TL bb w vb E) (hT : D.map Prod.fst = E.map Prod.fst) :
    Calls Tryz.prog 8 #[va, vb] w fun e w' => e = .returned (.bool true) ∧ Below w.heap.size w w' := by
  have hl : E.length = D.length := by have := congrArg List.length hT; simpa using this.symm
  have hmx := ownsRow_len ha.own
  obtain ⟨qa, ka, rfl⟩ := ownsRow_shape ha.own
  obtain ⟨qb, kb, rfl⟩ := ownsRow_shape hb.own
  have H : Hid (TL ba w (.slice qa D.length ka) D ∧ TL bb w (.slice qb E.length kb) E ∧ D.map Prod.fst = E.map Prod.fst ∧ E.length = D.length) := ⟨ha, hb, hT, hl⟩
  rw [hl]
  obtain ⟨n, hn⟩ : ∃ n, n = D.length := ⟨_, rfl⟩
  rw [← hn] at hmx ⊢
  have HN : Hid (n = D.length) := hn
  clear ha hb hT hl hn
  go_enter Tryz.func8, Tryz.ntmps8
  go_wp2
  go_loopw [5] (fun u wr => ∃ k : Nat, k ≤ n ∧ u = .int .i64 (k : Int) ∧ Below w.heap.size w wr) (fun u _ => n - (intOf u).toNat)
  case atStart => exact ⟨0, Nat.zero_le _, rfl, Below.refl _ _⟩
  case round =>
    obtain ⟨k, hk, rfl, hb⟩ := hrel
    have B : Hid (Below w.heap.size w wr) := hb
    clear hb
    rcases Nat.lt_or_ge k n with hlt | hge
    · obtain ⟨x, hx⟩ : ∃ x, D[k]? = some x := ⟨_, List.getElem?_eq_getElem (by rw [← HN.out]; exact hlt)⟩
      obtain ⟨y, hy⟩ : ∃ y, E[k]? = some y := ⟨_, List.getElem?_eq_getElem (by rw [H.out.2.2.2, ← HN.out]; exact hlt)⟩
      have hxy : x.1 = y.1 := by
        have h1 := same_tk H.out.2.2.1 hx
        rw [same_tk rfl hy] at h1
        exact (Option.some.inj h1).symm
      obtain ⟨ga, ca, e1⟩ := ownsRow_some (H.out.1.kept B.out).own (by rw [← HN.out]; omega)
      obtain ⟨gb, cb, e2⟩ := ownsRow_some (H.out.2.1.kept B.out).own (by rw [H.out.2.2.2, ← HN.out]; omega)
      cases e1
      cases e2
      have tA := H.out.1.kept B.out
      have tB := H.out.2.1.kept B.out
      have rA := (H.out.1.each x (List.mem_of_getElem? hx))
      have rB := (H.out.2.1.each y (List.mem_of_getElem? hy))
      have hCC : x.2.2 = y.2.2 := rA.2.one rB.2 (fun c => by rw [hxy])
      have a0 := tA.cellS hx (j := 0) rfl
      have a1 := tA.cellS hx (j := 1) rfl
      have a2 := tA.cellS hx (j := 2) rfl
      have a3 := tA.cellS hx (j := 3) rfl
      have a4 := tA.cellS hx (j := 4) rfl
      have a5 := tA.cellS hx (j := 5) rfl
      have a6 := tA.cellS hx (j := 6) rfl
      have b0 := tB.cellS hy (j := 0) rfl
      have b1 := tB.cellS hy (j := 1) rfl
      have b2 := tB.cellS hy (j := 2) rfl
      have b3 := tB.cellS hy (j := 3) rfl
      have b4 := tB.cellS hy (j := 4) rfl
      have b5 := tB.cellS hy (j := 5) rfl
      have b6 := tB.cellS hy (j := 6) rfl
      rw [hxy] at a0 a1 a2 a3 a4 a5
      have lga := (ownsRow_at tA.own rfl).2.1
      have lgb := (ownsRow_at tB.own rfl).2.1
      obtain ⟨qx, kx, ex⟩ := rA.1.shape
      obtain ⟨qy, ky, ey⟩ := rB.1.shape
      rw [ex] at a6 rA
      rw [ey] at b6 rB
      have R : Hid (RR ba w (.slice qx x.2.2.length kx) x.2.2 ∧ RR bb w (.slice qy y.2.2.length ky) y.2.2 ∧ x.2.2 = y.2.2) := ⟨rA.1, rB.1, hCC⟩
      clear hx hy hxy tA tB rA rB hCC ex ey
      rw [Nat.add_zero] at a0 b0
      generalize (y.1.1.kind : Int) = i0 at *
      generalize (y.1.2.1 : Int) = i1 at *
      generalize (y.1.2.2 : Int) = i2 at *
      generalize (y.1.1.n : Int) = i3 at *
      generalize y.1.1.mn = i4 at *
      generalize y.1.1.mx = i5 at *
      generalize x.2.2 = LX at *
      generalize y.2.2 = LY at *
      have j0 : (0 : Int) ≤ (k : Int) := by omega
      have j1 : (k : Int) < (n : Int) := by omega
      have hw1 : IntKind.wrap .i64 ((k : Int) + 1) = (k : Int) + 1 := wrap_small _ (by omega) (by unfold maxLen at hmx; omega)
      go_upto_region 7 with fail
      have N := TA.new wr (.int .i64 i0) (.int .i64 i1) (.int .i64 i2) (.int .i64 i3) (.int .i64 i4) (.int .i64 i5) (.slice qx LX.length kx)
      generalize (wr.alloc (.cells #[.int .i64 i0, .int .i64 i1, .int .i64 i2, .int .i64 i3, .int .i64 i4, .int .i64 i5, .slice qx LX.length kx] 37)) = W1 at N ⊢
      have N1 : Hid (TA W1 wr.heap.size (.int .i64 i0) (.int .i64 i1) (.int .i64 i2) (.int .i64 i3) (.int .i64 i4) (.int .i64 i5) (.slice qx LX.length kx) ∧ Below wr.heap.size wr W1) := N
      have c0 := (N.2.cell (p := ⟨gb, k * 7, none⟩) lgb).trans b0
      have c1 := (N.2.cell (p := ⟨gb, k * 7 + 1, none⟩) lgb).trans b1
      have c2 := (N.2.cell (p := ⟨gb, k * 7 + 2, none⟩) lgb).trans b2
      have c3 := (N.2.cell (p := ⟨gb, k * 7 + 3, none⟩) lgb).trans b3
      have c4 := (N.2.cell (p := ⟨gb, k * 7 + 4, none⟩) lgb).trans b4
      have c5 := (N.2.cell (p := ⟨gb, k * 7 + 5, none⟩) lgb).trans b5
      have c6 := (N.2.cell (p := ⟨gb, k * 7 + 6, none⟩) lgb).trans b6
      clear N a0 a1 a2 a3 a4 a5 a6 b0 b1 b2 b3 b4 b5 b6
      go_upto_region 8 with fail
      have N := TA.new W1 (.int .i64 i0) (.int .i64 i1) (.int .i64 i2) (.int .i64 i3) (.int .i64 i4) (.int .i64 i5) (.slice qy LY.length ky)
      generalize (W1.alloc (.cells #[.int .i64 i0, .int .i64 i1, .int .i64 i2, .int .i64 i3, .int .i64 i4, .int .i64 i5, .slice qy LY.length ky] 37)) = W2 at N ⊢
      have B2 : Hid (Below w.heap.size w W2) := chain (chain B.out N1.out.2 (Nat.le_refl _)) N.2 (Nat.le_refl _)
      have T1 := N1.out.1.kept N.2
      have T2 := N.1
      obtain ⟨p0, p1, p2, p3, p4, p5, p6⟩ := T1.all
      obtain ⟨r0, r1, r2, r3, r4, r5, r6⟩ := T2.all
      have lp := lt_of_heap T1
      have lr := lt_of_heap T2
      have TT : Hid (TA W2 wr.heap.size (.int .i64 i0) (.int .i64 i1) (.int .i64 i2) (.int .i64 i3) (.int .i64 i4) (.int .i64 i5) (.slice qx LX.length kx) ∧ TA W2 W1.heap.size (.int .i64 i0) (.int .i64 i1) (.int .i64 i2) (.int .i64 i3) (.int .i64 i4) (.int .i64 i5) (.slice qy LY.length ky)) := ⟨T1, T2⟩
      have AL := alike_c (R.out.1.arg.kept B2.out) (R.out.2.1.arg.kept B2.out)
      rw [decide_eq_true R.out.2.2] at AL
      clear N T1 T2 c0 c1 c2 c3 c4 c5 c6
      go_wp2_with (go_at_call 14; (with_reducible refine AL.mono ?_); rintro e w9 ⟨rfl, h5⟩; have X9 : Hid (Below w.heap.size w w9) := chain B2.out h5 (Nat.le_refl _); have U1 := TT.out.1.kept h5; have U2 := TT.out.2.kept h5; obtain ⟨s0, s1, s2, s3, s4, s5, s6⟩ := U1.all; obtain ⟨t0, t1, t2, t3, t4, t5, t6⟩ := U2.all; have ls := lt_of_heap U1; have lt' := lt_of_heap U2; clear h5 U1 U2)
      go_roundw
      case rel => exact ⟨k + 1, by omega, by go_num, X9.out⟩
      case measure => simp only [intOf]; omega
    · have j1 : ¬ (k : Int) < (n : Int) := by omega
      go_wp2
      go_ret
      exact ⟨rfl, B.out⟩
end Go.Proofs.YtloeajhmmjdlgaaGreatDoor
namespace Go.Proofs.YtloeajhmmjdlgaaGreatDoor
open Go Go.RowKit

structure OW (base : Nat) (W : World) (v : Value) (D : List Dt) (C : Nat → List (Int × Int)) : Prop where
  row : ∃ xs, W.ownsRow base 37 7 v D.length xs ∧ ∀ i d, D[i]? = some d → xs[i * 7 + 6]? = some d.2.1 ∧ ∃ x, xs[i * 7]? = some (.int .i64 x)
  rr : ∀ i d, D[i]? = some d → RR base W d.2.1 (C i)
  apart : D.Pairwise (fun a b => ∀ k, a.2.1.ownBlock = some k → b.2.1.ownBlock ≠ some k)
def orig (D : List Dt) (i : Nat) : List (Int × Int) := match D[i]? with
  | some d => d.2.2
  | none => []
theorem OW.of {base : Nat} {W : World} {v : Value} {D : List Dt} (h : TL base W v D) : OW base W v D (orig D) := by
  refine ⟨⟨tcs D, h.own, fun i d hd => ⟨tcs_get D i d 6 hd (by omega), _, tcs_get D i d 0 hd (by omega)⟩⟩, fun i d hd => ?_, h.apart⟩
  unfold orig
  rw [hd]
  exact (h.each d (List.mem_of_getElem? hd)).1
section
variable {base : Nat} {W W' : World} {v : Value} {D : List Dt} {C : Nat → List (Int × Int)}
theorem OW.kept (h : OW base W v D C) (hb : Below W.heap.size W W') : OW base W' v D C := by
  obtain ⟨xs, h1, h2⟩ := h.row
  exact ⟨⟨xs, ownsRow_fr h1 (S := fun _ => False) (Fr.of_below hb) (fun _ _ q => q), h2⟩, fun i d hd => (h.rr i d hd).kept hb, h.apart⟩
theorem pair_ne {α : Type} {P : α → α → Prop} {D : List α} (h : D.Pairwise P) (hs : ∀ a b, P a b → P b a) {i j : Nat} {a b : α} (ha : D[i]? = some a) (hb : D[j]? = some b) (hij : i ≠ j) : P a b := by
  rw [List.pairwise_iff_getElem] at h
  obtain ⟨a1, a2⟩ := List.getElem?_eq_some_iff.1 ha
  obtain ⟨b1, b2⟩ := List.getElem?_eq_some_iff.1 hb
  rcases Nat.lt_or_gt_of_ne hij with g | g
  · have := h i j a1 b1 g
    rw [a2, b2] at this
    exact this
  · have := h j i b1 a1 g
    rw [a2, b2] at this
    exact hs _ _ this
theorem OW.put (h : OW base W v D C) {i : Nat} {d : Dt} (hd : D[i]? = some d) {g n c : Nat} (hv : d.2.1 = .slice (some ⟨g, 0, none⟩) n c) (k : Nat) (x y : Int) :
    OW base ((W.setCell ⟨g, k * 2, none⟩ (.int .i64 x)).setCell ⟨g, k * 2 + 1, none⟩ (.int .i64 y)) v D (fun j => if j = i then (C i).set k (x, y) else C j) ∧ Fr (fun b => b = g) W ((W.setCell ⟨g, k * 2, none⟩ (.int .i64 x)).setCell ⟨g, k * 2 + 1, none⟩ (.int .i64 y)) ∧ base ≤ g := by
  have hf : Fr (fun b => b = g) W ((W.setCell ⟨g, k * 2, none⟩ (.int .i64 x)).setCell ⟨g, k * 2 + 1, none⟩ (.int .i64 y)) := ((Fr.refl (fun b => b = g) W).setCell (p := ⟨g, k * 2, none⟩) rfl _).setCell (p := ⟨g, k * 2 + 1, none⟩) rfl _
  have hr := h.rr i d hd
  rw [hv] at hr
  obtain ⟨q', k', e'⟩ := hr.shape
  cases e'
  obtain ⟨q1, q2, cur, q3⟩ := ownsRow_at hr rfl
  obtain ⟨xs, h1, h2⟩ := h.row
  refine ⟨⟨⟨xs, ownsRow_fr h1 hf (fun b hb e => ownsRow_not h1 q3 (by decide) (by rw [hb, show b = g from e])), h2⟩, fun j a ha => ?_, h.apart⟩, hf, q1⟩
  by_cases hj : j = i
  · subst hj
    rw [hd] at ha
    cases ha
    rw [if_pos rfl, hv]
    unfold RR at hr ⊢
    have := ((hr.stored (k * 2) (.int .i64 x)).1.stored (k * 2 + 1) (.int .i64 y)).1
    rw [cellsR_set] at this
    rw [List.length_set]
    exact this
  · rw [if_neg hj]
    refine (h.rr j a ha).fr hf (fun b hb e => ?_)
    have := pair_ne h.apart (fun a b q k h1 h2 => q k h2 h1) ha hd hj b hb
    rw [hv] at this
    exact this (by rw [show b = g from e]; rfl)
theorem OW.kind {g c : Nat} (h : OW base W (.slice (some ⟨g, 0, none⟩) D.length c) D C) (i : Nat) (x : Int) :
    OW base (W.setCell ⟨g, i * 7, none⟩ (.int .i64 x)) (.slice (some ⟨g, 0, none⟩) D.length c) D C ∧ Fr (fun b => b = g) W (W.setCell ⟨g, i * 7, none⟩ (.int .i64 x)) ∧ base ≤ g := by
  have hf : Fr (fun b => b = g) W (W.setCell ⟨g, i * 7, none⟩ (.int .i64 x)) := (Fr.refl (fun b => b = g) W).setCell (p := ⟨g, i * 7, none⟩) rfl _
  obtain ⟨xs, h1, h2⟩ := h.row
  obtain ⟨q1, q2, cur, q3⟩ := ownsRow_at h1 rfl
  refine ⟨⟨⟨xs.set (i * 7) (.int .i64 x), (h1.stored (i * 7) (.int .i64 x)).1, fun j d hd => ⟨?_, ?_⟩⟩, fun j d hd => ?_, h.apart⟩, hf, q1⟩
  · rw [List.getElem?_set_ne (by omega)]
    exact (h2 j d hd).1
  · obtain ⟨y, hy⟩ := (h2 j d hd).2
    by_cases e : i * 7 = j * 7
    · rw [e, List.getElem?_set_self (List.getElem?_eq_some_iff.1 hy).1]
      exact ⟨x, rfl⟩
    · rw [List.getElem?_set_ne e]
      exact ⟨y, hy⟩
  · exact (h.rr j d hd).fr hf (fun b hb e => ownsRow_not (h.rr j d hd) q3 (by decide) (by rw [hb, show b = g from e]))
/-- What the law reads of a token: its list. -/
theorem OW.at {g c : Nat} (h : OW base W (.slice (some ⟨g, 0, none⟩) D.length c) D C) {i : Nat} {d : Dt} (hd : D[i]? = some d) :
    W.cell? ⟨g, i * 7 + 6, none⟩ = some d.2.1 ∧ (∃ x, W.cell? ⟨g, i * 7, none⟩ = some (.int .i64 x)) ∧ W.frozen? ⟨g, i * 7, none⟩ = false ∧ g < W.heap.size := by
  obtain ⟨xs, h1, h2⟩ := h.row
  obtain ⟨a1, x, a2⟩ := h2 i d hd
  exact ⟨ownsRow_cell h1 a1, ⟨x, ownsRow_cell h1 a2⟩, h1.frozenAt (i * 7), (ownsRow_at h1 rfl).2.1⟩
end
end Go.Proofs.YtloeajhmmjdlgaaGreatDoor
namespace Go.Proofs.YtloeajhmmjdlgaaGreatDoor
open Go Go.RowKit
attribute [local go_sem] ext_cell

/-- What the law asks of the program's Lex. -/
def LexA (cc aa : Nat) (TT : List Tp) (W : World) (e : Ending) (w' : World) : Prop := ∃ v ev D, e = .returned (.tuple #[v, ev]) ∧ TL W.heap.size w' v D ∧ D.map Prod.fst = TT ∧ Below W.heap.size W w' ∧
  ∀ W', Below w'.heap.size w' W' → Calls Tryz.prog 7 #[ev] W' fun e w'' => e = .returned (.tuple #[.int .i64 (cc : Int), .int .i64 (aa : Int), .bool true]) ∧ Below W'.heap.size W' w''
/-- What it asks of the document's. -/
def LexB (cc aa : Nat) (TT : List Tp) (W : World) (e : Ending) (w' : World) : Prop := ∃ v D, e = .returned (.tuple #[v, .int .i64 (cc : Int), .int .i64 (aa : Int)]) ∧ TL W.heap.size w' v D ∧ D.map Prod.fst = TT ∧ Below W.heap.size W w'
abbrev boxM7 (w : World) (m : Md) : World := w.alloc (.cells #[.bool m.c, .bool m.f] 23)
/-- How it stands while the lists are written over: so far the first i, and of the next one k ranges. -/
structure OV (bs : Nat) (w6 : World) (v : Value) (D : List Dt) (i k : Nat) (C : Nat → List (Int × Int)) (V : World) : Prop where
  ow : OW bs V v D C
  len : ∀ j, (C j).length = (orig D j).length
  good : ∀ (j x : Nat) (r : Int × Int), j < i → (C j)[x]? = some r → r.1 = -1 - (j : Int)
  part : ∀ (x : Nat) (r : Int × Int), x < k → (C i)[x]? = some r → r.1 = -1 - (i : Int)
  low : Below w6.heap.size w6 V
section
variable {bs : Nat} {w6 : World} {v : Value} {D : List Dt} {i k : Nat} {C : Nat → List (Int × Int)} {V : World}
theorem OV.done (h : OV bs w6 v D i k C V) (hk : (C i).length ≤ k) : OV bs w6 v D (i + 1) 0 C V := ⟨h.ow, h.len, fun j x r hj hr => by
  rcases Nat.lt_or_ge j i with g | g
  · exact h.good j x r g hr
  · have e : j = i := by omega
    subst e
    exact h.part x r (Nat.lt_of_lt_of_le (List.getElem?_eq_some_iff.1 hr).1 hk) hr, fun x r hx => absurd hx (Nat.not_lt_zero x), h.low⟩
theorem OV.put (h : OV bs w6 v D i k C V) (hb : w6.heap.size ≤ bs) {d : Dt} (hd : D[i]? = some d) {g n c : Nat} (hv : d.2.1 = .slice (some ⟨g, 0, none⟩) n c) :
    OV bs w6 v D i (k + 1) (fun j => if j = i then (C i).set k (-1 - (i : Int), -9) else C j) ((V.setCell ⟨g, k * 2, none⟩ (.int .i64 (-1 - (i : Int)))).setCell ⟨g, k * 2 + 1, none⟩ (.int .i64 (-9))) := by
  obtain ⟨h1, h2, h3⟩ := h.ow.put hd hv k (-1 - (i : Int)) (-9)
  refine ⟨h1, fun j => ?_, fun j x r hj hr => ?_, fun x r hx hr => ?_, h.low.trans (h2.below h.low.size (fun b hb' => by have : b = g := hb'; omega))⟩
  · by_cases e : j = i
    · simp only [e, if_true, List.length_set]
      exact h.len i
    · simp only [e, if_false]
      exact h.len j
  · rw [if_neg (by omega)] at hr
    exact h.good j x r hj hr
  · rw [if_pos rfl] at hr
    by_cases e : x = k
    · subst e
      have hl := (List.getElem?_eq_some_iff.1 hr).1
      rw [List.length_set] at hl
      rw [List.getElem?_set_self hl] at hr
      cases hr
      rfl
    · rw [List.getElem?_set_ne (fun q => e q.symm)] at hr
      exact h.part x r (by omega) hr
end
set_option maxRecDepth 100000 in
set_option maxHeartbeats 16000000 in
theorem reads_core {w : World} (s : ByteArray) (m : Md) {cc aa : Nat} {TT : List Tp} (HE : Hid (∀ W, Below w.heap.size w W → Calls Tryz.prog 4 #[] W fun e w' => e = .returned (.bool true) ∧ Below W.heap.size W w'))
    (HA : Hid (∀ W, Below w.heap.size w W → Calls Tryz.prog 6 #[.string s, .agg #[.bool m.c, .bool m.f]] W (LexA cc aa TT W))) (HB : Hid (∀ W, Calls Tryz.prog 5 #[.string s, .agg #[.bool m.c, .bool m.f]] W (LexB cc aa TT W))) :
    Calls Tryz.prog 3 #[.string s, .agg #[.bool m.c, .bool m.f]] w fun e w' => e = .returned (.bool true) ∧ Below w.heap.size w w' := by
  have BX : Hid (Below w.heap.size w (boxM7 w m)) := (Below.refl _ _).alloc (Nat.le_refl _) _
  have k0 : Hid ((boxM7 w m).cell? ⟨w.heap.size, 0, none⟩ = some (.bool m.c) ∧ (boxM7 w m).cell? ⟨w.heap.size, 1, none⟩ = some (.bool m.f) ∧ w.heap.size < (boxM7 w m).heap.size) := ⟨cell_row (alloc_new w _) (i := 0) rfl, cell_row (alloc_new w _) (i := 1) rfl, lt_of_heap (alloc_new w _)⟩
  go_enter Tryz.func3, Tryz.ntmps3
  go_wp2_with first
    | (go_at_call 4; (with_reducible refine (HE.out _ BX.out).mono ?_); rintro e w5 ⟨rfl, h1⟩; have X5 : Hid (Below w.heap.size w w5) := chain BX.out h1 (Nat.le_refl _); have c0 := (h1.cell (p := ⟨w.heap.size, 0, none⟩) k0.out.2.2).trans k0.out.1; have c1 := (h1.cell (p := ⟨w.heap.size, 1, none⟩) k0.out.2.2).trans k0.out.2.1; have cl := Nat.lt_of_lt_of_le k0.out.2.2 h1.size; clear h1)
    | (go_at_call 5; (with_reducible refine (HB.out _).mono ?_); rintro e w6 ⟨vw, DW, rfl, h2, h3, h1⟩; obtain ⟨qw, kw, rfl⟩ := ownsRow_shape h2.own; have X6 : Hid (Below w.heap.size w w6 ∧ TL w5.heap.size w6 (.slice qw DW.length kw) DW ∧ DW.map Prod.fst = TT) := ⟨chain X5.out h1 (Nat.le_refl _), h2, h3⟩; have m0 := (h1.cell (p := ⟨w.heap.size, 0, none⟩) cl).trans c0; have m1 := (h1.cell (p := ⟨w.heap.size, 1, none⟩) cl).trans c1; have ml := Nat.lt_of_lt_of_le cl h1.size; clear h1 h2 h3)
  clear c0 c1 cl
  go_loopw [9] (fun u wr => ∃ k : Nat, k ≤ 2 ∧ u = .int .i64 (k : Int) ∧ Below w6.heap.size w6 wr) (fun u _ => 2 - (intOf u).toNat)
  case atStart => exact ⟨0, Nat.zero_le _, rfl, Below.refl _ _⟩
  case round =>
    obtain ⟨k, hk, rfl, hb⟩ := hrel
    have n0 := (hb.cell (p := ⟨w.heap.size, 0, none⟩) ml).trans m0
    have n1 := (hb.cell (p := ⟨w.heap.size, 1, none⟩) ml).trans m1
    have nl := Nat.lt_of_lt_of_le ml hb.size
    have B : Hid (Below w6.heap.size w6 wr) := hb
    have hw1 : IntKind.wrap .i64 ((k : Int) + 1) = (k : Int) + 1 := wrap_small _ (by omega) (by omega)
    clear hb
    rcases Nat.lt_or_ge k 2 with hlt | hge
    · have j1 : (k : Int) < 2 := by omega
      obtain ⟨bs, hbs⟩ : ∃ bs, bs = wr.heap.size := ⟨_, rfl⟩
      have hb6 : w6.heap.size ≤ bs := by rw [hbs]; exact B.out.size
      go_wp2_with first
        | (go_at_call 6; (with_reducible refine (HA.out _ (chain X6.out.1 B.out (Nat.le_refl _))).mono ?_); rintro e w7 ⟨v7, e7, D, rfl, h1, h2, h3, h4⟩; obtain ⟨q7, k7, rfl⟩ := ownsRow_shape h1.own; have X7 : Hid (TL bs w7 (.slice q7 D.length k7) D ∧ D.map Prod.fst = TT ∧ Below w6.heap.size w6 w7) := ⟨by rw [hbs]; exact h1, h2, chain B.out h3 (Nat.le_refl _)⟩; have HT : Hid (∀ W', Below w7.heap.size w7 W' → Calls Tryz.prog 7 #[e7] W' fun e w'' => e = .returned (.tuple #[.int .i64 (cc : Int), .int .i64 (aa : Int), .bool true]) ∧ Below W'.heap.size W' w'') := h4; clear h1 h2 h3 h4)
        | (go_at_call 7; (with_reducible refine (HT.out _ (Below.refl _ _)).mono ?_); rintro e w8 ⟨rfl, h1⟩; have X8 : Hid (TL bs w8 (.slice q7 D.length k7) D ∧ Below w6.heap.size w6 w8) := ⟨X7.out.1.kept h1, chain X7.out.2.2 h1 (Nat.le_refl _)⟩; clear h1)
        | (go_at_call 8; (with_reducible refine (same_yes X8.out.1 (X6.out.2.1.kept X8.out.2) (X7.out.2.1.trans X6.out.2.2.symm)).mono ?_); rintro e w9 ⟨rfl, h1⟩; have X9 : Hid (OV bs w6 (.slice q7 D.length k7) D 0 0 (orig D) w9) := ⟨OW.of (X8.out.1.kept h1), fun _ => rfl, fun j x r hj => absurd hj (Nat.not_lt_zero j), fun x r hx => absurd hx (Nat.not_lt_zero x), chain X8.out.2 h1 (Nat.le_refl _)⟩; clear h1)
      have hmx := ownsRow_len X8.out.1.own
      clear hbs n0 n1 nl
      unfold maxLen at hmx
      rename World => w9
      go_loopw [16] (fun u V => ∃ (i : Nat) (C : Nat → List (Int × Int)), i ≤ D.length ∧ u = .int .i64 (i : Int) ∧ OV bs w6 (.slice q7 D.length k7) D i 0 C V) (fun u _ => D.length - (intOf u).toNat)
      case atStart => exact ⟨0, _, Nat.zero_le _, rfl, X9.out⟩
      case round =>
        obtain ⟨i, C, hi, rfl, hov⟩ := hrel
        have O : Hid (OV bs w6 (.slice q7 D.length k7) D i 0 C wr) := hov
        clear hov
        rcases Nat.lt_or_ge i D.length with hil | hig
        · obtain ⟨d, hd⟩ : ∃ d, D[i]? = some d := ⟨_, List.getElem?_eq_getElem hil⟩
          obtain ⟨xs, hx1, -⟩ := O.out.ow.row
          obtain ⟨g, c7, e7'⟩ := ownsRow_some hx1 (by omega)
          cases e7'
          clear hx1
          obtain ⟨ln, hln⟩ : ∃ ln, ln = (orig D i).length := ⟨_, rfl⟩
          have HD : Hid (D[i]? = some d ∧ ln = (orig D i).length) := ⟨hd, hln⟩
          have hlm : ln ≤ maxLen := by rw [hln, ← O.out.len i]; exact ownsRow_len (O.out.ow.rr i d hd)
          unfold maxLen at hlm
          have i0 : (0 : Int) ≤ (i : Int) := by omega
          have i1 : (i : Int) < (D.length : Int) := by omega
          have hwi : IntKind.wrap .i64 (-1 - (i : Int)) = -1 - (i : Int) := by rw [IntKind.wrap_i64]; omega
          have hwi1 : IntKind.wrap .i64 ((i : Int) + 1) = (i : Int) + 1 := wrap_small _ (by omega) (by omega)
          clear hd hln
          go_wp2
          rename World => wi
          go_loopw [17] (fun u V => ∃ (x : Nat) (C : Nat → List (Int × Int)), x ≤ ln ∧ u = .int .i64 (x : Int) ∧ OV bs w6 (.slice (some ⟨g, 0, none⟩) D.length k7) D i x C V) (fun u _ => ln - (intOf u).toNat)
          case atStart => exact ⟨0, _, Nat.zero_le _, rfl, O.out⟩
          case round =>
            obtain ⟨x, C2, hx, rfl, hov⟩ := hrel
            have P : Hid (OV bs w6 (.slice (some ⟨g, 0, none⟩) D.length k7) D i x C2 wr) := hov
            have hcl : (C2 i).length = ln := by rw [HD.out.2]; exact hov.len i
            obtain ⟨t6, -, -, tg⟩ := hov.ow.at HD.out.1
            have hrr := hov.ow.rr i d HD.out.1
            clear hov
            have x0 : (0 : Int) ≤ (x : Int) := by omega
            rcases Nat.lt_or_ge x ln with hxl | hxg
            · have hwx : IntKind.wrap .i64 ((x : Int) + 1) = (x : Int) + 1 := wrap_small _ (by omega) (by omega)
              obtain ⟨gd, kd, ed⟩ := ownsRow_some hrr (by omega)
              obtain ⟨r, hr⟩ : ∃ r, (C2 i)[x]? = some r := ⟨_, List.getElem?_eq_getElem (by omega)⟩
              obtain ⟨z1, z2⟩ := cellsR_get _ x r hr
              have HV : Hid (d.2.1 = .slice (some ⟨gd, 0, none⟩) (C2 i).length kd) := ed
              rw [ed] at hrr t6
              have d1 := ownsRow_cell hrr z1
              have d2 := ownsRow_cell hrr z2
              rw [Nat.mul_comm] at d1 d2
              have f1 := World.ownsRow.frozenAt hrr (x * 2)
              have f2 := World.ownsRow.frozenAt hrr (x * 2 + 1)
              have hgs := (ownsRow_at hrr rfl).2.1
              rw [hcl] at t6
              have x1 : (x : Int) < (ln : Int) := by omega
              clear z1 z2 hr hrr ed hcl
              go_wp2
              go_roundw
              case rel => exact ⟨x + 1, _, by omega, by go_num, P.out.put hb6 HD.out.1 HV.out⟩
              case measure => simp only [intOf]; omega
            · obtain ⟨qd, kd, ed⟩ := hrr.shape
              rw [ed, hcl] at t6
              have x1 : ¬ (x : Int) < (ln : Int) := by omega
              have HQ : Hid ((C2 i).length ≤ x) := hide (by omega)
              clear hrr ed hcl
              go_wp2
              go_roundw
              case rel => exact ⟨i + 1, C2, by omega, by go_num, P.out.done HQ.out⟩
              case measure => simp only [intOf]; omega
        · have i1 : ¬ (i : Int) < (D.length : Int) := by omega
          have HI : Hid (i = D.length) := hide (by omega)
          go_wp2
          rename World => w10
          go_loopw [18] (fun u V => ∃ y : Nat, y ≤ D.length ∧ u = .int .i64 (y : Int) ∧ OW bs V (.slice q7 D.length k7) D C ∧ Below w6.heap.size w6 V) (fun u _ => D.length - (intOf u).toNat)
          case atStart => exact ⟨0, Nat.zero_le _, rfl, O.out.ow, O.out.low⟩
          case round =>
            obtain ⟨y, hy, rfl, how, hbl⟩ := hrel
            have Q : Hid (OW bs wr (.slice q7 D.length k7) D C ∧ Below w6.heap.size w6 wr) := ⟨how, hbl⟩
            clear how hbl
            rcases Nat.lt_or_ge y D.length with hyl | hyg
            · obtain ⟨d, hd⟩ : ∃ d, D[y]? = some d := ⟨_, List.getElem?_eq_getElem hyl⟩
              obtain ⟨xs, hx1, -⟩ := Q.out.1.row
              obtain ⟨g, c7, e7'⟩ := ownsRow_some hx1 (by omega)
              cases e7'
              clear hx1
              obtain ⟨t6, ⟨tk, t0⟩, tf, tg⟩ := Q.out.1.at hd
              have hrr := Q.out.1.rr y d hd
              obtain ⟨qd, kd, ed⟩ := hrr.shape
              rw [ed] at t6 hrr
              have hlm : (C y).length ≤ maxLen := ownsRow_len hrr
              unfold maxLen at hlm
              have RR7 : Hid (RR bs wr (.slice qd (C y).length kd) (C y)) := hrr
              have KD : Hid (OW bs (wr.setCell ⟨g, y * 7, none⟩ (.int .i64 (-4))) (.slice (some ⟨g, 0, none⟩) D.length k7) D C ∧ Below w6.heap.size w6 (wr.setCell ⟨g, y * 7, none⟩ (.int .i64 (-4)))) := by
                obtain ⟨h1, h2, h3⟩ := Q.out.1.kind y (-4)
                exact ⟨h1, Q.out.2.trans (h2.below Q.out.2.size (fun b hb' => by have : b = g := hb'; omega))⟩
              have GD : Hid (∀ (x : Nat) (r : Int × Int), (C y)[x]? = some r → r.1 = -1 - (y : Int)) := fun x r hr => O.out.good y x r (by have := HI.out; omega) hr
              have y0 : (0 : Int) ≤ (y : Int) := by omega
              have y1 : (y : Int) < (D.length : Int) := by omega
              have hwy : IntKind.wrap .i64 (-1 - (y : Int)) = -1 - (y : Int) := by rw [IntKind.wrap_i64]; omega
              have hwy1 : IntKind.wrap .i64 ((y : Int) + 1) = (y : Int) + 1 := wrap_small _ (by omega) (by omega)
              clear hrr ed hd
              generalize C y = LY at *
              go_wp2
              rename World => w11
              go_loopw [19] (fun u V => ∃ x : Nat, x ≤ LY.length ∧ u = .int .i64 (x : Int) ∧ V = w11) (fun u _ => LY.length - (intOf u).toNat)
              case atStart => exact ⟨0, Nat.zero_le _, rfl, rfl⟩
              case round =>
                obtain ⟨x, hx, rfl, hV⟩ := hrel
                subst wr
                have x0 : (0 : Int) ≤ (x : Int) := by omega
                rcases Nat.lt_or_ge x LY.length with hxl | hxg
                · have hwx : IntKind.wrap .i64 ((x : Int) + 1) = (x : Int) + 1 := wrap_small _ (by omega) (by omega)
                  obtain ⟨r, hr⟩ : ∃ r, LY[x]? = some r := ⟨_, List.getElem?_eq_getElem hxl⟩
                  obtain ⟨gd, kd', ed⟩ := ownsRow_some RR7.out (by omega)
                  cases ed
                  obtain ⟨z1, z2⟩ := cellsR_get _ x r hr
                  have d1 := ownsRow_cell RR7.out z1
                  rw [Nat.mul_comm] at d1
                  rw [GD.out x r hr] at d1
                  have hgs := (ownsRow_at RR7.out rfl).2.1
                  have x1 : (x : Int) < (LY.length : Int) := by omega
                  clear z1 z2 hr
                  go_wp2
                  go_roundw
                  case rel => exact ⟨x + 1, by omega, by go_num, by first | rfl | trivial⟩
                  case measure => simp only [intOf]; omega
                · have x1 : ¬ (x : Int) < (LY.length : Int) := by omega
                  go_wp2
                  go_roundw
                  case rel => exact ⟨y + 1, by omega, by go_num, KD.out.1, KD.out.2⟩
                  case measure => simp only [intOf]; omega
            · have y1 : ¬ (y : Int) < (D.length : Int) := by omega
              go_wp2
              go_roundw
              case rel => exact ⟨k + 1, by omega, by go_num, Q.out.2⟩
              case measure => simp only [intOf]; omega
    · have j1 : ¬ (k : Int) < 2 := by omega
      go_wp2
      go_ret
      exact ⟨rfl, chain X6.out.1 B.out (Nat.le_refl _)⟩
end Go.Proofs.YtloeajhmmjdlgaaGreatDoor
