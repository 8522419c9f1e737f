/-
  How many nodes a tree has; too many? The checker in memory: its mode, its counts, and the nodes around. Clones of lists of ranges and of nodes; where a tree lies.
-/
import Derived.Test.YtlodjinejeajcaaC1
import Derived.Test.YtlodjinejeajcaaC0
import Derived.Laws.AppendOwnNone
namespace Go.Proofs.Ytlodjinejeajcaa
open Go Go.RowKit Go.Shelf
attribute [local go_sem] Oper.semAt_some

/-- A box that holds a number. -/
def BoxI (W : World) (b : Nat) (x : Int) : Prop := W.heap[b]? = some (.cells #[.int .i64 x] 3 (0, 0))
theorem BoxI.cell {W : World} {b : Nat} {x : Int} (h : BoxI W b x) : W.cell? ⟨b, 0, none⟩ = some (.int .i64 x) := cell_row h (i := 0) rfl
theorem BoxI.row {W W' : World} {b B : Nat} {x : Int} {row : Option Nat} (h : BoxI W b x) (hg : W.grownBy W' row) (hr : ∀ r, row = some r → B ≤ r ∧ ∃ o : Obj, W.heap[r]? = some o ∧ o.isCells = false) : BoxI W' b x := cells_kept hg hr h
theorem BoxI.set {W : World} {b : Nat} {x : Int} (h : BoxI W b x) (y : Int) : BoxI (W.setCell ⟨b, 0, none⟩ (.int .i64 y)) b y := heap_set_in h 0 _
theorem BoxI.fr {W : World} {b : Nat} (v : Value) : Fr (fun z => z = b) W (W.setCell ⟨b, 0, none⟩ v) := (Fr.refl (fun z => z = b) W).setCell (p := ⟨b, 0, none⟩) rfl _
/-- The answer of Count. -/
def cntT (t : Tr) : Nat := min (pp [] t).length 2001
theorem bel_grown {n B : Nat} {w W W' : World} {row : Option Nat} (h : Below n w W) (hn : n ≤ w.heap.size) (hB : n ≤ B) (hg : W.grownBy W' row) (hr : ∀ r, row = some r → B ≤ r ∧ ∃ o : Obj, W.heap[r]? = some o ∧ o.isCells = false) : Below n w W' :=
  h.trans ⟨hg.os, hg.tape, hg.output, hg.size, fun k hk => hg.block k (by have := h.size; omega) (fun e => by have := (hr k e.symm).1; omega)⟩
theorem bel_put {n : Nat} {w W : World} {D : Nat} (o : Obj) (h : Below n w W) (hD : n ≤ D) : Below n w (W.putObj D o) :=
  h.trans ⟨rfl, rfl, rfl, (grownBy_putObj' W D o).size, fun k hk => World.putObj_heap_other (by omega)⟩
set_option maxRecDepth 100000 in
set_option maxHeartbeats 4000000 in
theorem cnt_in (n : Nat) (hn : 3 ≤ n) {w : World} {t : Tr} (hta : TA w t) :
    CallsIn Fence.wide n Try.prog 12 #[.agg #[.int .i64 t.f.k, .int .i64 t.f.n, .int .i64 t.f.mn, .int .i64 t.f.mx, .slice t.f.rq t.f.rs.length t.f.rc, .slice t.f.kq t.f.kl t.f.kc]] w fun e w' => e = .returned (.int .i64 (cntT t : Int)) ∧ Below w.heap.size w w' := by
  have hfn : ∀ f, Fence.wide.fn f := fun _ => trivial
  refine callsIn_of_wp_marks Try.func12 rfl trivial ?_ rfl
  simp only [Try.ntmps12, List.size_toArray, List.length_cons, List.length_nil, Nat.reduceAdd, Nat.reduceSub, Array.replicate_succ, Array.replicate_zero, List.push_toArray, List.append_toArray, List.nil_append, List.cons_append]
  refine wpIn_wide.2 ?_
  have HTA := hide hta
  have B1 : Hid (Below w.heap.size w ((w.alloc (.cells #[.int .i64 t.f.k, .int .i64 t.f.n, .int .i64 t.f.mn, .int .i64 t.f.mx, .slice t.f.rq t.f.rs.length t.f.rc, .slice t.f.kq t.f.kl t.f.kc] 25)).alloc (.cells #[.int .i64 0] 3))) := ((Below.refl _ _).alloc (Nat.le_refl _) _).alloc (by simp) _
  have N1 : Hid (BoxN ((w.alloc (.cells #[.int .i64 t.f.k, .int .i64 t.f.n, .int .i64 t.f.mn, .int .i64 t.f.mx, .slice t.f.rq t.f.rs.length t.f.rc, .slice t.f.kq t.f.kl t.f.kc] 25)).alloc (.cells #[.int .i64 0] 3)) w.heap.size t.f) := (Below.heap_alloc _ _ _ (by simp)).trans (alloc_new w _)
  have N2 : Hid (BoxI ((w.alloc (.cells #[.int .i64 t.f.k, .int .i64 t.f.n, .int .i64 t.f.mn, .int .i64 t.f.mx, .slice t.f.rq t.f.rs.length t.f.rc, .slice t.f.kq t.f.kl t.f.kc] 25)).alloc (.cells #[.int .i64 0] 3)) (w.heap.size + 1) 0) := (by
    have := alloc_new (w.alloc (.cells #[.int .i64 t.f.k, .int .i64 t.f.n, .int .i64 t.f.mn, .int .i64 t.f.mx, .slice t.f.rq t.f.rs.length t.f.rc, .slice t.f.kq t.f.kl t.f.kc] 25)) (.cells #[.int .i64 0] 3)
    rwa [World.size_alloc] at this)
  obtain ⟨c0, c1, c2, c3, c4, c5⟩ := N1.out.six
  simp only [Nat.zero_add] at c1 c2 c3 c4 c5
  go_wp2_with (go_at_call 29; (with_reducible refine (nodes_c _ _).mono ?_); rintro e w3 ⟨rfl, rfl⟩)
  have N3 : BoxN (((w.alloc (.cells #[.int .i64 t.f.k, .int .i64 t.f.n, .int .i64 t.f.mn, .int .i64 t.f.mx, .slice t.f.rq t.f.rs.length t.f.rc, .slice t.f.kq t.f.kl t.f.kc] 25)).alloc (.cells #[.int .i64 0] 3)).alloc (.cells #[.int .i64 t.f.k, .int .i64 t.f.n, .int .i64 t.f.mn, .int .i64 t.f.mx, .slice t.f.rq t.f.rs.length t.f.rc, .slice t.f.kq t.f.kl t.f.kc] 25)) (w.heap.size + 1 + 1) t.f := (by
    have := alloc_new ((w.alloc (.cells #[.int .i64 t.f.k, .int .i64 t.f.n, .int .i64 t.f.mn, .int .i64 t.f.mx, .slice t.f.rq t.f.rs.length t.f.rc, .slice t.f.kq t.f.kl t.f.kc] 25)).alloc (.cells #[.int .i64 0] 3)) (.cells #[.int .i64 t.f.k, .int .i64 t.f.n, .int .i64 t.f.mn, .int .i64 t.f.mx, .slice t.f.rq t.f.rs.length t.f.rc, .slice t.f.kq t.f.kl t.f.kc] 25)
    rwa [World.size_alloc, World.size_alloc] at this)
  have I3 : BoxI (((w.alloc (.cells #[.int .i64 t.f.k, .int .i64 t.f.n, .int .i64 t.f.mn, .int .i64 t.f.mx, .slice t.f.rq t.f.rs.length t.f.rc, .slice t.f.kq t.f.kl t.f.kc] 25)).alloc (.cells #[.int .i64 0] 3)).alloc (.cells #[.int .i64 t.f.k, .int .i64 t.f.n, .int .i64 t.f.mn, .int .i64 t.f.mx, .slice t.f.rq t.f.rs.length t.f.rc, .slice t.f.kq t.f.kl t.f.kc] 25)) (w.heap.size + 1) 0 := (Below.heap_alloc _ _ _ (by simp)).trans N2.out
  have B3 : Below w.heap.size w (((w.alloc (.cells #[.int .i64 t.f.k, .int .i64 t.f.n, .int .i64 t.f.mn, .int .i64 t.f.mx, .slice t.f.rq t.f.rs.length t.f.rc, .slice t.f.kq t.f.kl t.f.kc] 25)).alloc (.cells #[.int .i64 0] 3)).alloc (.cells #[.int .i64 t.f.k, .int .i64 t.f.n, .int .i64 t.f.mn, .int .i64 t.f.mx, .slice t.f.rq t.f.rs.length t.f.rc, .slice t.f.kq t.f.kl t.f.kc] 25)) := B1.out.alloc (by simp; omega) _
  generalize (((w.alloc (.cells #[.int .i64 t.f.k, .int .i64 t.f.n, .int .i64 t.f.mn, .int .i64 t.f.mx, .slice t.f.rq t.f.rs.length t.f.rc, .slice t.f.kq t.f.kl t.f.kc] 25)).alloc (.cells #[.int .i64 0] 3)).alloc (.cells #[.int .i64 t.f.k, .int .i64 t.f.n, .int .i64 t.f.mn, .int .i64 t.f.mx, .slice t.f.rq t.f.rs.length t.f.rc, .slice t.f.kq t.f.kl t.f.kc] 25)) = w4 at N3 I3 B3 ⊢
  have L3 := lt_of_heap N3
  have L4 := lt_of_heap I3
  obtain ⟨bi, hbi⟩ : ∃ bi, w.heap.size + 1 = bi := ⟨_, rfl⟩
  rw [hbi] at I3 N3 L3 L4 ⊢
  obtain ⟨bn, hbn⟩ : ∃ bn, bi + 1 = bn := ⟨_, rfl⟩
  rw [hbn] at N3 L3 ⊢
  have hwi : w.heap.size ≤ bi := by omega
  clear N1 N2 B1 c0 c1 c2 c3 c4 c5 hbi hbn
  refine (wpIn_wide (n := n)).1 ?_
  refine rangeN (by omega) 6 7 bn rfl rfl N3 HTA.out (CK.of_below B3) (fun pre V => BoxI V bi (pre.length : Int) ∧ pre.length ≤ 2000 ∧ Below w.heap.size w V) (fun c pre V => c = .exit 0 ∧ BoxI V bi 2001 ∧ pre.length = 2001 ∧ Below w.heap.size w V)
    ?_ ?_ (fun pre W h => by omega) ⟨I3, by simp, B3⟩ Ax0 (ax0_own _) ?_ ?_ ?_ ?_
  · rintro pre A A' row ⟨h1, h2, h3⟩ hg hr
    exact ⟨h1.row hg hr, h2, bel_grown h3 (Nat.le_refl _) B3.size hg hr⟩
  · rintro c pre A A' row ⟨h0, h1, h2, h3⟩ hg hr
    exact ⟨h0, h1.row hg hr, h2, bel_grown h3 (Nat.le_refl _) B3.size hg hr⟩
  · intro l pre x V K _ _ _ _ hK
    gi_wp2
    exact hK _ _ (Below.refl _ _) rfl
  · rintro l pre x a' V ⟨h1, h2, h3⟩ hck hsz ht rfl
    have H1 := hide h1
    have H3 := hide h3
    have k0 := h1.cell
    have fz := frz_row h1 0
    have HS := hide hsz
    clear h1 h3 hck ht hsz
    have F1 : Hid (Fr (fun z => z = bi) V (V.setCell ⟨bi, 0, none⟩ (.int .i64 ((pre.length : Int) + 1)))) := BoxI.fr _
    have X1 : Hid (BoxI (V.setCell ⟨bi, 0, none⟩ (.int .i64 ((pre.length : Int) + 1))) bi ((pre.length : Int) + 1)) := H1.out.set _
    have HP : Hid (KeepsFrom w4.heap.size V (V.setCell ⟨bi, 0, none⟩ (.int .i64 ((pre.length : Int) + 1))) ∧ CKeep (Nn w.heap.size w4.heap.size) V (V.setCell ⟨bi, 0, none⟩ (.int .i64 ((pre.length : Int) + 1))) ∧ Below w.heap.size w (V.setCell ⟨bi, 0, none⟩ (.int .i64 ((pre.length : Int) + 1)))) :=
      ⟨F1.out.keepsFrom (fun k hk => by omega), F1.out.ckeep (fun k hk => by rintro (z | z) <;> omega), chainF H3.out F1.out (Nat.le_refl _) (fun k e => by omega)⟩
    have k1 := X1.out.cell
    simp only [roundN]
    by_cases hlt : 2000 ≤ pre.length
    · have e1 : (2000 : Int) < (pre.length : Int) + 1 := by omega
      gi_wp2
      refine ⟨HP.out.1, rfl, by have := X1.out; rwa [show (pre.length : Int) + 1 = 2001 by omega] at this ⊢, by simp; omega, HP.out.2.2⟩
    · have e1 : ¬ (2000 : Int) < (pre.length : Int) + 1 := by omega
      gi_wp2
      refine ⟨HP.out.1, HP.out.2.1, by simpa using X1.out, by simp; omega, HP.out.2.2⟩
  · rintro D V hD ⟨h1, h2, h3⟩ hck hK
    have k0 := h1.cell
    have e1 : cntT t = (pp [] t).length := by unfold cntT; omega
    have H3 := hide h3
    have HK := hide hK
    have HD := hide hD
    simp only [behindN]
    go_wp2
    refine ⟨by simp, .inl ⟨_, _, rfl, run_takeDeferred HK.out, ?_⟩⟩
    refine ⟨.int .i64 (cntT t : Int), by simp [results, Try.results12, go_sem, e1], rfl, bel_put _ H3.out (Nat.le_trans B3.size HD.out)⟩
  · rintro D c pre V hD hpre ⟨rfl, h1, h2, h3⟩ hK
    have k0 := h1.cell
    have e1 : cntT t = 2001 := by unfold cntT; have := hpre.length_le; omega
    have H3 := hide h3
    have HK := hide hK
    have HD := hide hD
    refine (wpIn_wide (n := n)).2 ?_
    simp only [behindN]
    go_wp2
    refine ⟨by simp, .inl ⟨_, _, rfl, run_takeDeferred HK.out, ?_⟩⟩
    refine ⟨.int .i64 (cntT t : Int), by simp [results, Try.results12, go_sem, e1], rfl, bel_put _ H3.out (Nat.le_trans B3.size HD.out)⟩
theorem cnt_c {w : World} {t : Tr} (hta : TA w t) : Calls Try.prog 12 #[.agg #[.int .i64 t.f.k, .int .i64 t.f.n, .int .i64 t.f.mn, .int .i64 t.f.mx, .slice t.f.rq t.f.rs.length t.f.rc, .slice t.f.kq t.f.kl t.f.kc]] w fun e w' => e = .returned (.int .i64 (cntT t : Int)) ∧ Below w.heap.size w w' := callsIn_wide.1 (cnt_in 3 (by decide) hta)
set_option maxHeartbeats 1000000 in
theorem tooMany_c {w : World} {t : Tr} (hta : TA w t) : Calls Try.prog 33 #[.agg #[.int .i64 t.f.k, .int .i64 t.f.n, .int .i64 t.f.mn, .int .i64 t.f.mx, .slice t.f.rq t.f.rs.length t.f.rc, .slice t.f.kq t.f.kl t.f.kc]] w fun e w' => e = .returned (.bool (decide (2000 < (pp [] t).length))) ∧ Below w.heap.size w w' := by
  have HTA := hide hta
  have B1 : Hid (Below w.heap.size w (w.alloc (.cells #[.int .i64 t.f.k, .int .i64 t.f.n, .int .i64 t.f.mn, .int .i64 t.f.mx, .slice t.f.rq t.f.rs.length t.f.rc, .slice t.f.kq t.f.kl t.f.kc] 25))) := (Below.refl _ _).alloc (Nat.le_refl _) _
  have N1 : Hid (BoxN (w.alloc (.cells #[.int .i64 t.f.k, .int .i64 t.f.n, .int .i64 t.f.mn, .int .i64 t.f.mx, .slice t.f.rq t.f.rs.length t.f.rc, .slice t.f.kq t.f.kl t.f.kc] 25)) w.heap.size t.f) := alloc_new w _
  obtain ⟨c0, c1, c2, c3, c4, c5⟩ := N1.out.six
  simp only [Nat.zero_add] at c1 c2 c3 c4 c5
  have e1 : (decide ((2000 : Int) < (cntT t : Int))) = decide (2000 < (pp [] t).length) := by
    rw [decide_eq_decide]
    unfold cntT
    omega
  clear hta
  go_enter Try.func33, Try.ntmps33
  go_wp2_with (go_at_call 12; (with_reducible refine (cnt_c (HTA.out.kept B1.out)).mono ?_); rintro e w3 ⟨rfl, h3⟩; have B3 : Hid (Below w.heap.size w w3) := chain B1.out h3 (Nat.le_refl _); clear h3)
  go_ret
  exact ⟨by rw [← e1]; rfl, B3.out⟩
end Go.Proofs.Ytlodjinejeajcaa
namespace Go.Proofs.Ytlodjinejeajcaa
open Go Go.RowKit

/-- A spot of the checker's: a node, and how many of its Kids have come up. -/
structure Spot where
  f : Fl
  s : Int
def Seven (W : World) (g o : Nat) (x : Spot) : Prop := Six W g o x.f ∧ W.cell? ⟨g, o + 6, none⟩ = some (.int .i64 x.s)
structure CB (W : World) (b : Nat) (c f : Bool) (ah gr : Int) (A : Nat → Spot) : Prop where
  blk : ∃ cur, W.heap[b]? = some (.cells cur 50 (0, 0))
  c0 : W.cell? ⟨b, 0, none⟩ = some (.bool c)
  c1 : W.cell? ⟨b, 1, none⟩ = some (.bool f)
  c2 : W.cell? ⟨b, 2, none⟩ = some (.int .i64 ah)
  c3 : W.cell? ⟨b, 3, none⟩ = some (.int .i64 gr)
  sp : ∀ d, d < 41 → Seven W b (4 + d * 7) (A d)
theorem CB.lt {W : World} {b : Nat} {c f : Bool} {ah gr : Int} {A : Nat → Spot} (h : CB W b c f ah gr A) : b < W.heap.size := by
  obtain ⟨cur, h⟩ := h.blk
  exact lt_of_heap h
theorem CB.ck {N : Nat → Prop} {W W' : World} {b : Nat} {c f : Bool} {ah gr : Int} {A : Nat → Spot} (h : CB W b c f ah gr A) (hk : CKeep N W W') (hb : N b) : CB W' b c f ah gr A := by
  obtain ⟨cur, hc⟩ := h.blk
  exact ⟨⟨cur, hk.same _ _ _ _ hb hc⟩, cell_ck hk (p := ⟨b, 0, none⟩) hb h.c0, cell_ck hk (p := ⟨b, 1, none⟩) hb h.c1, cell_ck hk (p := ⟨b, 2, none⟩) hb h.c2, cell_ck hk (p := ⟨b, 3, none⟩) hb h.c3, fun d hd => ⟨(h.sp d hd).1.ck hk hb, cell_ck hk (p := ⟨b, 4 + d * 7 + 6, none⟩) hb (h.sp d hd).2⟩⟩
theorem CB.kept {W W' : World} {b : Nat} {c f : Bool} {ah gr : Int} {A : Nat → Spot} (h : CB W b c f ah gr A) (hb : Below W.heap.size W W') : CB W' b c f ah gr A := h.ck (CK.of_below hb) h.lt
theorem CB.row {W W' : World} {b B : Nat} {c f : Bool} {ah gr : Int} {A : Nat → Spot} {row : Option Nat} (h : CB W b c f ah gr A) (hg : W.grownBy W' row) (hr : ∀ r, row = some r → B ≤ r ∧ ∃ o : Obj, W.heap[r]? = some o ∧ o.isCells = false) : CB W' b c f ah gr A :=
  h.ck (N := fun _ => True) ⟨hg.size, fun _ _ _ _ _ hc => cells_kept hg hr hc⟩ trivial
theorem off_ne {b i j : Nat} (h : i ≠ j) : (⟨b, i, none⟩ : Addr) ≠ ⟨b, j, none⟩ := fun e => h (by injection e)
theorem cell_off {W : World} {b i j : Nat} {u v : Value} (h : W.cell? ⟨b, i, none⟩ = some v) (hij : i ≠ j) : (W.setCell ⟨b, j, none⟩ u).cell? ⟨b, i, none⟩ = some v := by
  rw [World.cell?_setCell_other]
  · exact h
  · exact off_ne hij.symm
theorem Six.off {W : World} {b o j : Nat} {u : Value} {f : Fl} (h : Six W b o f) (hj : j < o ∨ o + 6 ≤ j) : Six (W.setCell ⟨b, j, none⟩ u) b o f :=
  ⟨cell_off h.1 (by omega), cell_off h.2.1 (by omega), cell_off h.2.2.1 (by omega), cell_off h.2.2.2.1 (by omega), cell_off h.2.2.2.2.1 (by omega), cell_off h.2.2.2.2.2 (by omega)⟩
theorem blk_set {W : World} {b : Nat} {t : TypeId} (h : ∃ cur, W.heap[b]? = some (.cells cur t (0, 0))) (j : Nat) (u : Value) : ∃ cur, (W.setCell ⟨b, j, none⟩ u).heap[b]? = some (.cells cur t (0, 0)) := by
  obtain ⟨cur, hc⟩ := h
  exact ⟨_, heap_set_in hc j u⟩
theorem Seven.off {W : World} {b o j : Nat} {u : Value} {x : Spot} (h : Seven W b o x) (hj : j < o ∨ o + 7 ≤ j) : Seven (W.setCell ⟨b, j, none⟩ u) b o x :=
  ⟨h.1.off (by omega), cell_off h.2 (by omega)⟩
theorem CB.setAh {W : World} {b : Nat} {c f : Bool} {ah gr : Int} {A : Nat → Spot} (h : CB W b c f ah gr A) (x : Int) : CB (W.setCell ⟨b, 2, none⟩ (.int .i64 x)) b c f x gr A :=
  ⟨blk_set h.blk _ _, cell_off h.c0 (by omega), cell_off h.c1 (by omega), World.cell?_setCell_same _ _ _ h.c2, cell_off h.c3 (by omega), fun d hd => (h.sp d hd).off (by omega)⟩
theorem CB.setGr {W : World} {b : Nat} {c f : Bool} {ah gr : Int} {A : Nat → Spot} (h : CB W b c f ah gr A) (x : Int) : CB (W.setCell ⟨b, 3, none⟩ (.int .i64 x)) b c f ah x A :=
  ⟨blk_set h.blk _ _, cell_off h.c0 (by omega), cell_off h.c1 (by omega), cell_off h.c2 (by omega), World.cell?_setCell_same _ _ _ h.c3, fun d hd => (h.sp d hd).off (by omega)⟩
def setS (A : Nat → Spot) (d : Nat) (x : Spot) : Nat → Spot := fun i => if i = d then x else A i
theorem CB.setSeen {W : World} {b : Nat} {c f : Bool} {ah gr : Int} {A : Nat → Spot} (h : CB W b c f ah gr A) {d : Nat} (hd : d < 41) (x : Int) : CB (W.setCell ⟨b, 4 + d * 7 + 6, none⟩ (.int .i64 x)) b c f ah gr (setS A d ⟨(A d).f, x⟩) :=
  ⟨blk_set h.blk _ _, cell_off h.c0 (by omega), cell_off h.c1 (by omega), cell_off h.c2 (by omega), cell_off h.c3 (by omega), fun i hi => by
    unfold setS
    by_cases e : i = d
    · subst e
      rw [if_pos rfl]
      exact ⟨(h.sp i hi).1.off (by omega), World.cell?_setCell_same _ _ _ (h.sp i hi).2⟩
    · rw [if_neg e]
      exact (h.sp i hi).off (by omega)⟩
/-- Seven cells are written over. -/
def put7 (W : World) (b o : Nat) (x : Spot) : World :=
  ((((((W.setCell ⟨b, o, none⟩ (.int .i64 x.f.k)).setCell ⟨b, o + 1, none⟩ (.int .i64 x.f.n)).setCell ⟨b, o + 2, none⟩ (.int .i64 x.f.mn)).setCell ⟨b, o + 3, none⟩ (.int .i64 x.f.mx)).setCell ⟨b, o + 4, none⟩ (.slice x.f.rq x.f.rs.length x.f.rc)).setCell ⟨b, o + 5, none⟩ (.slice x.f.kq x.f.kl x.f.kc)).setCell ⟨b, o + 6, none⟩ (.int .i64 x.s)
theorem CB.setSpot {W : World} {b : Nat} {c f : Bool} {ah gr : Int} {A : Nat → Spot} (h : CB W b c f ah gr A) {d : Nat} (hd : d < 41) (x : Spot) : CB (put7 W b (4 + d * 7) x) b c f ah gr (setS A d x) := by
  have off : ∀ {i : Nat} {v : Value}, W.cell? ⟨b, i, none⟩ = some v → (i < 4 + d * 7 ∨ 4 + d * 7 + 7 ≤ i) → (put7 W b (4 + d * 7) x).cell? ⟨b, i, none⟩ = some v := by
    intro i v hv hi
    unfold put7
    exact cell_off (cell_off (cell_off (cell_off (cell_off (cell_off (cell_off hv (by omega)) (by omega)) (by omega)) (by omega)) (by omega)) (by omega)) (by omega)
  refine ⟨?_, off h.c0 (by omega), off h.c1 (by omega), off h.c2 (by omega), off h.c3 (by omega), fun i hi => ?_⟩
  · unfold put7
    exact blk_set (blk_set (blk_set (blk_set (blk_set (blk_set (blk_set h.blk _ _) _ _) _ _) _ _) _ _) _ _) _ _
  · unfold setS
    by_cases e : i = d
    · subst e
      rw [if_pos rfl]
      obtain ⟨⟨k0, k1, k2, k3, k4, k5⟩, k6⟩ := h.sp i hi
      unfold put7
      refine ⟨⟨?_, ?_, ?_, ?_, ?_, ?_⟩, ?_⟩
      · exact cell_off (cell_off (cell_off (cell_off (cell_off (cell_off (World.cell?_setCell_same _ _ _ k0) (by omega)) (by omega)) (by omega)) (by omega)) (by omega)) (by omega)
      · exact cell_off (cell_off (cell_off (cell_off (cell_off (World.cell?_setCell_same _ _ _ (cell_off k1 (by omega))) (by omega)) (by omega)) (by omega)) (by omega)) (by omega)
      · exact cell_off (cell_off (cell_off (cell_off (World.cell?_setCell_same _ _ _ (cell_off (cell_off k2 (by omega)) (by omega))) (by omega)) (by omega)) (by omega)) (by omega)
      · exact cell_off (cell_off (cell_off (World.cell?_setCell_same _ _ _ (cell_off (cell_off (cell_off k3 (by omega)) (by omega)) (by omega))) (by omega)) (by omega)) (by omega)
      · exact cell_off (cell_off (World.cell?_setCell_same _ _ _ (cell_off (cell_off (cell_off (cell_off k4 (by omega)) (by omega)) (by omega)) (by omega))) (by omega)) (by omega)
      · exact cell_off (World.cell?_setCell_same _ _ _ (cell_off (cell_off (cell_off (cell_off (cell_off k5 (by omega)) (by omega)) (by omega)) (by omega)) (by omega))) (by omega)
      · exact World.cell?_setCell_same _ _ _ (cell_off (cell_off (cell_off (cell_off (cell_off (cell_off k6 (by omega)) (by omega)) (by omega)) (by omega)) (by omega)) (by omega))
    · rw [if_neg e]
      obtain ⟨⟨k0, k1, k2, k3, k4, k5⟩, k6⟩ := h.sp i hi
      exact ⟨⟨off k0 (by omega), off k1 (by omega), off k2 (by omega), off k3 (by omega), off k4 (by omega), off k5 (by omega)⟩, off k6 (by omega)⟩
theorem put7_fr (W : World) (b o : Nat) (x : Spot) : Fr (fun z => z = b) W (put7 W b o x) := by
  unfold put7
  exact (((((((Fr.refl (fun z => z = b) W).setCell (p := ⟨b, o, none⟩) rfl _).setCell (p := ⟨b, o + 1, none⟩) rfl _).setCell (p := ⟨b, o + 2, none⟩) rfl _).setCell (p := ⟨b, o + 3, none⟩) rfl _).setCell (p := ⟨b, o + 4, none⟩) rfl _).setCell (p := ⟨b, o + 5, none⟩) rfl _).setCell (p := ⟨b, o + 6, none⟩) rfl _
end Go.Proofs.Ytlodjinejeajcaa
namespace Go.Proofs.Ytlodjinejeajcaa
open Go Go.RowKit

def Fl.cells (f : Fl) : List Value := [.int .i64 f.k, .int .i64 f.n, .int .i64 f.mn, .int .i64 f.mx, .slice f.rq f.rs.length f.rc, .slice f.kq f.kl f.kc]
def cellsK (ks : List Tr) : List Value := ks.flatMap fun t => t.f.cells
theorem cellsK_cons (t : Tr) (ks : List Tr) : cellsK (t :: ks) = t.f.cells ++ cellsK ks := by simp [cellsK]
theorem cellsK_append (a b : List Tr) : cellsK (a ++ b) = cellsK a ++ cellsK b := by simp [cellsK]
theorem cellsK_length (ks : List Tr) : (cellsK ks).length = ks.length * 6 := by
  induction ks with
  | nil => rfl
  | cons t ks ih => rw [cellsK_cons, List.length_append, ih, List.length_cons]; simp [Fl.cells]; omega
theorem cellsK_one (ks : List Tr) : ∀ u ∈ cellsK ks, u.oneCell' = true := by
  intro u hu
  unfold cellsK at hu
  rw [List.mem_flatMap] at hu
  obtain ⟨t, -, ht⟩ := hu
  simp [Fl.cells] at ht
  rcases ht with rfl | rfl | rfl | rfl | rfl | rfl <;> rfl
theorem cellsK_get : ∀ (ks : List Tr) (i j : Nat) (t : Tr), ks[i]? = some t → j < 6 → (cellsK ks)[i * 6 + j]? = t.f.cells[j]?
  | t :: ks, 0, j, u, h, hj => by
    simp at h
    subst h
    rw [cellsK_cons, Nat.zero_mul, Nat.zero_add, List.getElem?_append_left (by simpa [Fl.cells] using hj)]
  | t :: ks, i + 1, j, u, h, hj => by
    rw [cellsK_cons, List.getElem?_append_right (by simp [Fl.cells]; omega), show (i + 1) * 6 + j - t.f.cells.length = i * 6 + j by simp [Fl.cells]; omega]
    exact cellsK_get ks i j u (by simpa using h) hj
theorem add_lit (b o j : Nat) : (⟨b, o, none⟩ : Addr).add j = ⟨b, o + j, none⟩ := by unfold Addr.add; split <;> simp_all
theorem Six.at {W : World} {g o : Nat} {f : Fl} (h : Six W g o f) {j : Nat} {u : Value} (hj : f.cells[j]? = some u) : W.cell? ⟨g, o + j, none⟩ = some u := by
  obtain ⟨h0, h1, h2, h3, h4, h5⟩ := h
  match j, hj with
  | 0, hj => simp [Fl.cells] at hj; subst hj; exact h0
  | 1, hj => simp [Fl.cells] at hj; subst hj; exact h1
  | 2, hj => simp [Fl.cells] at hj; subst hj; exact h2
  | 3, hj => simp [Fl.cells] at hj; subst hj; exact h3
  | 4, hj => simp [Fl.cells] at hj; subst hj; exact h4
  | 5, hj => simp [Fl.cells] at hj; subst hj; exact h5
  | j + 6, hj => simp [Fl.cells] at hj
theorem ArgK.news {W : World} {ad : Addr} {n c : Nat} {ks : List Tr} (h : ArgK W (.slice (some ad) n c) ks) : ∀ j u, (cellsK ks)[j]? = some u → W.cell? (ad.add j) = some u := by
  intro j u hj
  have hjl : j < ks.length * 6 := by have := (List.getElem?_eq_some_iff.1 hj).1; rwa [cellsK_length] at this
  rcases h with ⟨p, cap, e, rfl, -⟩ | ⟨g, off, cap, e, h2, h3, h4, h5⟩
  · simp at hjl
  · cases e
    obtain ⟨t, ht⟩ : ∃ t, ks[j / 6]? = some t := ⟨_, List.getElem?_eq_getElem (by omega)⟩
    have hg := cellsK_get ks (j / 6) (j % 6) t ht (by omega)
    rw [show j / 6 * 6 + j % 6 = j by omega, hj] at hg
    have := (h5 (j / 6) t ht).at hg.symm
    rw [add_lit, ← this]
    congr 2
    omega
theorem eql_nil_R (W : World) (a : Option Addr) (l c : Nat) : (binOp .eql 22 (.slice a l c) (.slice none 0 0)).run Try.prog W = .ok (.bool a.isNone) W := by
  unfold binOp
  simp [run_equal_slice_nil W _ _ a l c und_ranges]
theorem eql_nil_N (W : World) (a : Option Addr) (l c : Nat) : (binOp .eql 23 (.slice a l c) (.slice none 0 0)).run Try.prog W = .ok (.bool a.isNone) W := by
  unfold binOp
  simp [run_equal_slice_nil W _ _ a l c und_nodes]

set_option maxRecDepth 100000 in
set_option maxHeartbeats 1000000 in
theorem cloneR_c {w : World} {q : Option Addr} {k : Nat} {L : List (Int × Int)} (h : ArgR w (.slice q L.length k) L) (hl : L.length + 3 ≤ 8796093022208) :
    Calls Try.prog 54 #[.slice q L.length k] w fun e w' => ∃ q' k', e = .returned (.slice q' L.length k') ∧ RR w.heap.size w' (.slice q' L.length k') L ∧ Below w.heap.size w w' := by
  obtain ⟨t0, hi, hz0, hz1, hz2⟩ := info_parts size_range
  cases q with
  | none =>
    have hLn : L = [] ∧ k = 0 := by
      rcases h with ⟨p, cap, e, rfl, hp⟩ | ⟨g, off, cap, e, -⟩
      · cases e; exact ⟨rfl, hp rfl⟩
      · cases e
    obtain ⟨rfl, rfl⟩ := hLn
    have hq := fun W => eql_nil_R W none 0 0
    clear h
    go_enter Try.func54, Try.ntmps54
    go_wp2
    go_ret
    exact ⟨none, 0, rfl, RR.nil _ _, Below.refl _ _⟩
  | some ad =>
    have hq := fun W => eql_nil_R W (some ad) L.length k
    have B0 : Below w.heap.size w (w.alloc (.cells #[] 72)) := (Below.refl _ _).alloc (Nat.le_refl _) _
    have OW : Hid ((w.alloc (.cells #[] 72)).ownsRow w.heap.size 72 2 (.slice (some ⟨w.heap.size, 0, none⟩) 0 0) 0 []) := ⟨rfl, .inr ⟨w.heap.size, 0, #[], rfl, Nat.le_refl _, alloc_new w _, Nat.le_refl _, Nat.zero_le _, rfl, rfl⟩⟩
    have HG := hide (h.kept B0).news
    clear h B0
    go_enter Try.func54, Try.ntmps54
    go_wp2_with (at_builtin; refine wpList_append_own_at _ rfl _ _ 22 rfl w.heap.size 72 t0 (.agg #[.int .i64 0, .int .i64 0]) 2 16 und_ranges hi hz0 hz1 hz2 rfl (by decide) (.slice (some ⟨w.heap.size, 0, none⟩) 0 0) 0 [] rfl OW.out ad L.length k (cellsR L) rfl (by rw [cellsR_length]) HG.out (cellsR_one L) (by unfold maxLen; omega) (by omega) (by simp) ?_; intro v' w6 hown' hgrow _ hblk; obtain ⟨q6, cap6, rfl⟩ := ownsRow_shape hown'; have O6 : Hid (w6.ownsRow w.heap.size 72 2 (.slice q6 (0 + L.length) cap6) (0 + L.length) ([] ++ cellsR L)) := hown'; have B6 : Hid (Below w.heap.size w w6) := ((((Fr.refl (fun k => k = w.heap.size) w).alloc _).grown hgrow (fun k hk => by (simp [Value.ownBlock] at hk; exact hk.symm))).below (Nat.le_refl _) (fun k hk => by omega)); clear hown' hgrow hblk)
    go_ret
    have := O6.out
    rw [Nat.zero_add, List.nil_append] at this
    exact ⟨q6, cap6, by simp, this, B6.out⟩
set_option maxRecDepth 100000 in
set_option maxHeartbeats 1000000 in
theorem cloneN_c {w : World} {q : Option Addr} {k : Nat} {ks : List Tr} (h : ArgK w (.slice q ks.length k) ks) (hl : ks.length ≤ 1000000) :
    Calls Try.prog 65 #[.slice q ks.length k] w fun e w' => ∃ q' k', e = .returned (.slice q' ks.length k') ∧ w'.ownsRow w.heap.size 25 6 (.slice q' ks.length k') ks.length (cellsK ks) ∧ Below w.heap.size w w' := by
  obtain ⟨t0, hi, hz0, hz1, hz2⟩ := info_parts size_node
  cases q with
  | none =>
    have hLn : ks = [] ∧ k = 0 := by
      rcases h with ⟨p, cap, e, rfl, hp⟩ | ⟨g, off, cap, e, -⟩
      · cases e; exact ⟨rfl, hp rfl⟩
      · cases e
    obtain ⟨rfl, rfl⟩ := hLn
    have hq := fun W => eql_nil_N W none 0 0
    clear h
    go_enter Try.func65, Try.ntmps65
    go_wp2
    go_ret
    exact ⟨none, 0, rfl, World.ownsRow_nil _ _ _ _, Below.refl _ _⟩
  | some ad =>
    have hq := fun W => eql_nil_N W (some ad) ks.length k
    have B0 : Below w.heap.size w (w.alloc (.cells #[] 25)) := (Below.refl _ _).alloc (Nat.le_refl _) _
    have OW : Hid ((w.alloc (.cells #[] 25)).ownsRow w.heap.size 25 6 (.slice (some ⟨w.heap.size, 0, none⟩) 0 0) 0 []) := ⟨rfl, .inr ⟨w.heap.size, 0, #[], rfl, Nat.le_refl _, alloc_new w _, Nat.le_refl _, Nat.zero_le _, rfl, rfl⟩⟩
    have HG := hide (h.ck (CK.of_below B0)).news
    clear h B0
    go_enter Try.func65, Try.ntmps65
    go_wp2_with (at_builtin; refine wpList_append_own_at _ rfl _ _ 23 rfl w.heap.size 25 t0 (.agg #[.int .i64 0, .int .i64 0, .int .i64 0, .int .i64 0, .slice none 0 0, .slice none 0 0]) 6 80 und_nodes hi hz0 hz1 hz2 rfl (by decide) (.slice (some ⟨w.heap.size, 0, none⟩) 0 0) 0 [] rfl OW.out ad ks.length k (cellsK ks) rfl (by rw [cellsK_length]) HG.out (cellsK_one ks) (by unfold maxLen; omega) (by omega) (by simp) ?_; intro v' w6 hown' hgrow _ hblk; obtain ⟨q6, cap6, rfl⟩ := ownsRow_shape hown'; have O6 : Hid (w6.ownsRow w.heap.size 25 6 (.slice q6 (0 + ks.length) cap6) (0 + ks.length) ([] ++ cellsK ks)) := hown'; have B6 : Hid (Below w.heap.size w w6) := ((((Fr.refl (fun k => k = w.heap.size) w).alloc _).grown hgrow (fun k hk => by (simp [Value.ownBlock] at hk; exact hk.symm))).below (Nat.le_refl _) (fun k hk => by omega)); clear hown' hgrow hblk)
    go_ret
    have := O6.out
    rw [Nat.zero_add, List.nil_append] at this
    exact ⟨q6, cap6, by simp, this, B6.out⟩

/-- The blocks in which a node's lists lie. -/
def footP (N : Nat → Prop) (t : Tr) : Prop := (∀ a, t.f.rq = some a → t.f.rs ≠ [] → N a.block) ∧ (∀ a, t.f.kq = some a → t.ks ≠ [] → N a.block)
def Foot (N : Nat → Prop) (t : Tr) : Prop := Every (footP N) t
theorem Foot.mono {N M : Nat → Prop} {t : Tr} (h : Foot N t) (hm : ∀ k, N k → M k) : Foot M t := every_imp (fun _ q => ⟨fun a e z => hm _ (q.1 a e z), fun a e z => hm _ (q.2 a e z)⟩) t h
theorem NA.foot {W : World} {t : Tr} (h : NA W t) : footP (fun k => k < W.heap.size) t := by
  refine ⟨fun a e hz => ?_, fun a e hz => ?_⟩
  · rcases h.r with ⟨p, cap, -, e2, -⟩ | ⟨g, off, cap, e2, hg, -⟩
    · exact absurd e2 hz
    · injection e2 with e3
      rw [e] at e3
      cases e3
      exact hg
  · rcases h.k with ⟨p, cap, -, e2, -⟩ | ⟨g, off, cap, e2, hg, -⟩
    · exact absurd e2 hz
    · injection e2 with e3
      rw [e] at e3
      cases e3
      exact hg
theorem TA.foot {W : World} {t : Tr} (h : TA W t) : Foot (fun k => k < W.heap.size) t := every_imp (fun _ => NA.foot) t h
theorem NA.ckN {N : Nat → Prop} {W W' : World} {t : Tr} (h : NA W t) (hf : footP N t) (hc : CKeep N W W') : NA W' t := by
  refine ⟨?_, ?_, h.fit, h.len⟩
  · rcases h.r with q | ⟨g, off, cap, e, hg, h1, h2, h3⟩
    · exact .inl q
    · injection e with e1 e2 e3
      refine .inr ⟨g, off, cap, by rw [e1, e3], Nat.lt_of_lt_of_le hg hc.size, h1, h2, fun i x hx => ?_⟩
      have hN : N g := hf.1 _ e1 (fun z => by rw [z] at hx; simp at hx)
      exact ⟨cell_ck hc (p := ⟨g, off + 2 * i, none⟩) hN (h3 i x hx).1, cell_ck hc (p := ⟨g, off + 2 * i + 1, none⟩) hN (h3 i x hx).2⟩
  · rcases h.k with q | ⟨g, off, cap, e, hg, h1, h2, h3⟩
    · exact .inl q
    · injection e with e1 e2 e3
      refine .inr ⟨g, off, cap, by rw [e1, e2, e3], Nat.lt_of_lt_of_le hg hc.size, h1, h2, fun i x hx => (h3 i x hx).ck hc (hf.2 _ e1 (fun z => by rw [z] at hx; simp at hx))⟩
theorem every_two {P Q R : Tr → Prop} (h : ∀ t, P t → Q t → R t) (t : Tr) : Every P t → Every Q t → Every R t := by
  refine Tr.ind (P := fun t => Every P t → Every Q t → Every R t) (fun t ih hp hq => ?_) t
  exact (every_eq t).2 ⟨h t ((every_eq t).1 hp).1 ((every_eq t).1 hq).1, (everyL_iff _).2 fun u hu => ih u hu (every_kid hp hu) (every_kid hq hu)⟩
theorem TA.ckN {N : Nat → Prop} {W W' : World} {t : Tr} (h : TA W t) (hf : Foot N t) (hc : CKeep N W W') : TA W' t := every_two (fun _ a b => NA.ckN a b hc) t h hf
/-- A row of nodes. -/
structure KR (W : World) (g : Nat) (ks : List Tr) : Prop where
  blk : ∃ cur, W.heap[g]? = some (.cells cur 25 (0, 0))
  six : ∀ (i : Nat) (t : Tr), ks[i]? = some t → Six W g (i * 6) t.f
theorem KR.of_row {W : World} {base g n c : Nat} {ks : List Tr} (h : W.ownsRow base 25 6 (.slice (some ⟨g, 0, none⟩) n c) n (cellsK ks)) : KR W g ks := by
  obtain ⟨-, -, cur, hc⟩ := ownsRow_at h (g := g) rfl
  have at' : ∀ (i j : Nat) (t : Tr) (u : Value), ks[i]? = some t → t.f.cells[j]? = some u → W.cell? ⟨g, i * 6 + j, none⟩ = some u := fun i j t u hi hj =>
    ownsRow_cell h ((cellsK_get ks i j t hi (by have := (List.getElem?_eq_some_iff.1 hj).1; simpa [Fl.cells] using this)).trans hj)
  exact ⟨⟨cur, hc⟩, fun i t hi => ⟨at' i 0 t _ hi rfl, at' i 1 t _ hi rfl, at' i 2 t _ hi rfl, at' i 3 t _ hi rfl, at' i 4 t _ hi rfl, at' i 5 t _ hi rfl⟩⟩
theorem KR.arg {W : World} {g c : Nat} {ks : List Tr} (h : KR W g ks) (h1 : ks.length ≤ c) (h2 : c ≤ maxLen) : ArgK W (.slice (some ⟨g, 0, none⟩) ks.length c) ks := by
  obtain ⟨cur, hc⟩ := h.blk
  exact .inr ⟨g, 0, c, rfl, lt_of_heap hc, h1, h2, fun i t hi => by rw [Nat.zero_add]; exact h.six i t hi⟩
theorem KR.ck {N : Nat → Prop} {W W' : World} {g : Nat} {ks : List Tr} (h : KR W g ks) (hc : CKeep N W W') (hg : N g) : KR W' g ks := by
  obtain ⟨cur, hb⟩ := h.blk
  exact ⟨⟨cur, hc.same _ _ _ _ hg hb⟩, fun i t hi => (h.six i t hi).ck hc hg⟩
theorem KR.kept {W W' : World} {g : Nat} {ks : List Tr} (h : KR W g ks) (hb : Below W.heap.size W W') : KR W' g ks := by
  obtain ⟨cur, hc⟩ := h.blk
  exact h.ck (CK.of_below hb) (lt_of_heap hc)
theorem KR.frz {W : World} {g : Nat} {ks : List Tr} (h : KR W g ks) (j : Nat) : W.frozen? ⟨g, j, none⟩ = false := by
  obtain ⟨cur, hc⟩ := h.blk
  exact frz_row hc j
theorem KR.lt {W : World} {g : Nat} {ks : List Tr} (h : KR W g ks) : g < W.heap.size := by
  obtain ⟨cur, hc⟩ := h.blk
  exact lt_of_heap hc
def put6 (W : World) (b o : Nat) (f : Fl) : World :=
  (((((W.setCell ⟨b, o, none⟩ (.int .i64 f.k)).setCell ⟨b, o + 1, none⟩ (.int .i64 f.n)).setCell ⟨b, o + 2, none⟩ (.int .i64 f.mn)).setCell ⟨b, o + 3, none⟩ (.int .i64 f.mx)).setCell ⟨b, o + 4, none⟩ (.slice f.rq f.rs.length f.rc)).setCell ⟨b, o + 5, none⟩ (.slice f.kq f.kl f.kc)
theorem put6_fr (W : World) (b o : Nat) (f : Fl) : Fr (fun z => z = b) W (put6 W b o f) := by
  unfold put6
  exact ((((((Fr.refl (fun z => z = b) W).setCell (p := ⟨b, o, none⟩) rfl _).setCell (p := ⟨b, o + 1, none⟩) rfl _).setCell (p := ⟨b, o + 2, none⟩) rfl _).setCell (p := ⟨b, o + 3, none⟩) rfl _).setCell (p := ⟨b, o + 4, none⟩) rfl _).setCell (p := ⟨b, o + 5, none⟩) rfl _
theorem put6_six {W : World} {b o : Nat} {f g : Fl} (h : Six W b o f) : Six (put6 W b o g) b o g := by
  obtain ⟨k0, k1, k2, k3, k4, k5⟩ := h
  unfold put6
  refine ⟨?_, ?_, ?_, ?_, ?_, ?_⟩
  · exact cell_off (cell_off (cell_off (cell_off (cell_off (World.cell?_setCell_same _ _ _ k0) (by omega)) (by omega)) (by omega)) (by omega)) (by omega)
  · exact cell_off (cell_off (cell_off (cell_off (World.cell?_setCell_same _ _ _ (cell_off k1 (by omega))) (by omega)) (by omega)) (by omega)) (by omega)
  · exact cell_off (cell_off (cell_off (World.cell?_setCell_same _ _ _ (cell_off (cell_off k2 (by omega)) (by omega))) (by omega)) (by omega)) (by omega)
  · exact cell_off (cell_off (World.cell?_setCell_same _ _ _ (cell_off (cell_off (cell_off k3 (by omega)) (by omega)) (by omega))) (by omega)) (by omega)
  · exact cell_off (World.cell?_setCell_same _ _ _ (cell_off (cell_off (cell_off (cell_off k4 (by omega)) (by omega)) (by omega)) (by omega))) (by omega)
  · exact World.cell?_setCell_same _ _ _ (cell_off (cell_off (cell_off (cell_off (cell_off k5 (by omega)) (by omega)) (by omega)) (by omega)) (by omega))
theorem put6_off {W : World} {b o i : Nat} {f : Fl} {v : Value} (h : W.cell? ⟨b, i, none⟩ = some v) (hi : i < o ∨ o + 6 ≤ i) : (put6 W b o f).cell? ⟨b, i, none⟩ = some v := by
  unfold put6
  exact cell_off (cell_off (cell_off (cell_off (cell_off (cell_off h (by omega)) (by omega)) (by omega)) (by omega)) (by omega)) (by omega)
theorem KR.set {W : World} {g : Nat} {ks : List Tr} (h : KR W g ks) {i : Nat} (hi : i < ks.length) (t : Tr) : KR (put6 W g (i * 6) t.f) g (ks.set i t) := by
  refine ⟨?_, fun j u hj => ?_⟩
  · unfold put6
    exact blk_set (blk_set (blk_set (blk_set (blk_set (blk_set h.blk _ _) _ _) _ _) _ _) _ _) _ _
  · by_cases e : j = i
    · subst e
      rw [List.getElem?_set_self hi] at hj
      cases hj
      exact put6_six (h.six j _ (List.getElem?_eq_getElem hi))
    · rw [List.getElem?_set_ne (Ne.symm e)] at hj
      obtain ⟨k0, k1, k2, k3, k4, k5⟩ := h.six j u hj
      exact ⟨put6_off k0 (by omega), put6_off k1 (by omega), put6_off k2 (by omega), put6_off k3 (by omega), put6_off k4 (by omega), put6_off k5 (by omega)⟩
end Go.Proofs.Ytlodjinejeajcaa
