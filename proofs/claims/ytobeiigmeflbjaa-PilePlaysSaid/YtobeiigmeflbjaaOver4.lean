/-
  All of the pile gone over, with a call in its midst.
-/
import Derived.Test.YtobeiigmeflbjaaPlayO
import Derived.Test.YtobeiigmeflbjaaHeld4
namespace Go.Proofs.Ytobeiigmeflbjaa
open Go Go.RowKit Go.Shelf
attribute [local go_sem] Oper.semAt_some ext_cell

/-- A step as cells. -/
def stepC (k m lv : Int) (s : ByteArray) (tn ii : Int) : Array Value := #[.int .i64 k, .int .i64 m, .int .i64 lv, .string s, .int .i64 tn, .int .i64 ii]

theorem equalIn_func_nil {P : Program} (d : Nat) (t : TypeId) {x y : Array TypeId} {z : Bool} (f : Fn) (b l : Array Value) (W : World) (h : P.underlying t = some (.func x y z)) : (Op.equalIn (d + 1) t (.func f b l) .nilFunc).run P W = .ok false W := by
  simp [Op.equalIn, run_underlying h]
theorem eql_func_nil (f : Fn) (b l : Array Value) (W : World) : (binOp .eql 31 (.func f b l) .nilFunc).run Try.prog W = .ok (.bool false) W := by
  have e : (Op.equal 31 (.func f b l) .nilFunc).run Try.prog W = .ok false W := equalIn_func_nil 9999 _ f b l W Try.underlying31
  simp only [binOp]
  simp [e]
/-- A range within a range: without a call in its midst nothing is changed. -/
def OverOK (n wb pb ab : Nat) (v lv : Value) (L : List Th) (le : Int) : Prop := ∀ (V : World) (ax : Nat), HW n wb pb ab v lv L L V → n ≤ V.heap.size → V.heap[ax]? = some (.cells #[.pointer (some ⟨pb, 0, none⟩)] 25 (0, 0)) →
  Calls Try.prog 12 #[.pointer (some ⟨wb, 0, none⟩), .func (.func 38) #[] #[.pointer (some ⟨ax, 0, none⟩)], .agg (stepC 0 0 le ⟨#[]⟩ 0 0)] V fun e W' => e = .returned (.bool true) ∧ Below V.heap.size V W'
/-- How the range stands: what came, whether the call in its midst was made (c). -/
structure RI (n wb pb ab : Nat) (v lv : Value) (L : List Th) (W : World) (b5 b6 b7 b8 : Nat) (sv : Array Value) (wasv : Value) (tt : Nat) (ii : Int) (k : Nat) (V : World) : Prop where
  ob : OB W.heap.size wb W.heap.size b5 b6 b7 b8 sv wasv L (k : Int) false V
  dp : DP n wb pb ab v lv L W V
  nc : ¬ (ii ≠ 0 ∧ tt < k) → HW n wb pb ab v lv L L V ∧ Below W.heap.size W V
structure RX (n wb pb ab : Nat) (v lv : Value) (L : List Th) (W : World) (b5 b6 b7 b8 : Nat) (sv : Array Value) (wasv : Value) (ii : Int) (V : World) : Prop where
  ob : ∃ k, OB W.heap.size wb W.heap.size b5 b6 b7 b8 sv wasv L k true V
  dp : DP n wb pb ab v lv L W V
  nc : ii = 0 → Below W.heap.size W V
theorem dp_chain {n wb pb ab : Nat} {v lv : Value} {L : List Th} {W V V' : World} (hb : Below W.heap.size W V) (h : DP n wb pb ab v lv L V V') : DP n wb pb ab v lv L W V' := by
  obtain ⟨v1, l1, L1, h1, h2, h3, h4, h5⟩ := h
  exact ⟨v1, l1, L1, h1, h2, moved_le h3 hb.size, moved_le h4 hb.size, (Fr.of_below hb).trans h5⟩
/-- What lies there ahead of the range. -/
structure Pre7 (n wb pb ab : Nat) (v lv : Value) (L : List Th) (W : World) (b5 b6 b7 : Nat) (sv : Array Value) (wasv : Value) (V : World) : Prop where
  hw : HW n wb pb ab v lv L L V
  bel : Below W.heap.size W V
  h3 : V.heap[W.heap.size]? = some (.cells #[.pointer (some ⟨wb, 0, none⟩)] 24 (0, 0))
  h5 : V.heap[b5]? = some (.cells sv 36 (0, 0))
  h6 : V.heap[b6]? = some (.cells #[.bool false] 4 (0, 0))
  h7 : V.heap[b7]? = some (.cells #[wasv] 29 (0, 0))
  was : V.ownsRow W.heap.size 28 2 wasv L.length (cellsT L)
  l5 : W.heap.size ≤ b5
  l6 : W.heap.size ≤ b6
  l7 : W.heap.size ≤ b7

set_option maxRecDepth 100000 in
set_option maxHeartbeats 16000000 in
theorem over_in (n wb pb ab : Nat) {v lv : Value} {L : List Th} {W : World} (h : HW n wb pb ab v lv L L W) (hn : n ≤ W.heap.size) (hl : L.length ≤ 100000) (ax : Nat) (hax : W.heap[ax]? = some (.cells #[.pointer (some ⟨pb, 0, none⟩)] 25 (0, 0)))
    (k m le : Int) (s : ByteArray) (tn ii : Int) (wfl : (Lit.int .i64 le).wf = true) (wft : (Lit.int .i64 tn).wf = true) (hov : ii = 6 → OverOK n wb pb ab v lv L le) :
    Calls Try.prog 12 #[.pointer (some ⟨wb, 0, none⟩), .func (.func 38) #[] #[.pointer (some ⟨ax, 0, none⟩)], .agg (stepC k m le s tn ii)] W fun e W' => e = .returned (.bool true) ∧ DP n wb pb ab v lv L W W' ∧ (ii = 0 → Below W.heap.size W W') := by
  have hfn : ∀ f, Fence.wide.fn f := fun _ => trivial
  have H : Hid (HW n wb pb ab v lv L L W) := h
  have HA : Hid (W.heap[ax]? = some (.cells #[.pointer (some ⟨pb, 0, none⟩)] 25 (0, 0))) := hax
  clear h hax
  refine (callsIn_wide (n := 5)).1 (callsIn_of_wp_marks Try.func12 rfl trivial ?_ rfl)
  simp only [Try.ntmps12, List.size_toArray, List.length_cons, List.length_nil, Nat.reduceAdd, Nat.reduceSub, Array.replicate_succ, Array.replicate_zero, List.push_toArray, List.append_toArray, List.nil_append, List.cons_append]
  refine wpIn_wide.2 (Code.wp_mono noPanicF_imp ?_)
  have hqf := fun W' => eql_func_nil (.func 38) #[] #[.pointer (some ⟨ax, 0, none⟩)] W'
  unfold stepC
  go_upto_region 3 with fail
  obtain ⟨sv, hsv⟩ : ∃ sv : Array Value, #[.int .i64 k, .int .i64 m, .int .i64 le, .string s, .int .i64 tn, .int .i64 ii] = sv := ⟨_, rfl⟩
  have HSV : Hid (#[.int .i64 k, .int .i64 m, .int .i64 le, .string s, .int .i64 tn, .int .i64 ii] = sv) := hsv
  have P0 : Hid (Below W.heap.size W (((W.alloc (.cells #[.pointer (some ⟨wb, 0, none⟩)] 24)).alloc (.cells sv 36)).alloc (.cells #[.bool false] 4)) ∧ (((W.alloc (.cells #[.pointer (some ⟨wb, 0, none⟩)] 24)).alloc (.cells sv 36)).alloc (.cells #[.bool false] 4)).heap[W.heap.size]? = some (.cells #[.pointer (some ⟨wb, 0, none⟩)] 24 (0, 0)) ∧ (((W.alloc (.cells #[.pointer (some ⟨wb, 0, none⟩)] 24)).alloc (.cells sv 36)).alloc (.cells #[.bool false] 4)).heap[W.heap.size + 1]? = some (.cells sv 36 (0, 0)) ∧ (((W.alloc (.cells #[.pointer (some ⟨wb, 0, none⟩)] 24)).alloc (.cells sv 36)).alloc (.cells #[.bool false] 4)).heap[W.heap.size + 1 + 1]? = some (.cells #[.bool false] 4 (0, 0))) := by
    have z1 : (W.alloc (.cells #[.pointer (some ⟨wb, 0, none⟩)] 24)).heap.size = W.heap.size + 1 := by simp
    have z2 : ((W.alloc (.cells #[.pointer (some ⟨wb, 0, none⟩)] 24)).alloc (.cells sv 36)).heap.size = W.heap.size + 1 + 1 := by simp
    refine ⟨(((Below.refl _ _).alloc (Nat.le_refl _) _).alloc (by omega) _).alloc (by omega) _, (Below.heap_alloc _ _ _ (by omega)).trans ((Below.heap_alloc _ _ _ (by omega)).trans (alloc_new W _)), ?_, ?_⟩
    · have := alloc_new (W.alloc (.cells #[.pointer (some ⟨wb, 0, none⟩)] 24)) (.cells sv 36)
      rw [z1] at this
      exact (Below.heap_alloc _ _ _ (by omega)).trans this
    · have := alloc_new ((W.alloc (.cells #[.pointer (some ⟨wb, 0, none⟩)] 24)).alloc (.cells sv 36)) (.cells #[.bool false] 4)
      rw [z2] at this
      exact this
  rw [hsv]
  generalize (((W.alloc (.cells #[.pointer (some ⟨wb, 0, none⟩)] 24)).alloc (.cells sv 36)).alloc (.cells #[.bool false] 4)) = V0 at P0 ⊢
  have LB : Hid (W.heap.size ≤ W.heap.size + 1 ∧ W.heap.size ≤ W.heap.size + 1 + 1) := ⟨by omega, by omega⟩
  generalize W.heap.size + 1 + 1 = b6 at P0 LB ⊢
  generalize W.heap.size + 1 = b5 at P0 LB ⊢
  have H0 : Hid (HW n wb pb ab v lv L L V0) := H.out.kept P0.out.1
  have c3 : V0.cell? ⟨W.heap.size, 0, none⟩ = some (.pointer (some ⟨wb, 0, none⟩)) := cell_row P0.out.2.1 (i := 0) rfl
  have cw := H0.out.c1
  have z0 : W.heap.size ≤ V0.heap.size := P0.out.1.size
  have lb := lt_of_heap H0.out.hw
  clear hsv
  go_cut [7] from 13 to 17 (fun t V => ∃ b7 wasv, t = .pointer (some ⟨b7, 0, none⟩) ∧ Pre7 n wb pb ab v lv L W b5 b6 b7 sv wasv V)
  case first =>
    obtain ⟨t0', hi, hz0, hz1, hz2⟩ := info_parts size_T
    rcases H0.out.o.2 with ⟨rfl, hl0⟩ | ⟨g, cl, cur, rfl, hlo, hg, hcap, hmx, hsz, htk⟩
    · have hLn : L = [] := List.eq_nil_of_length_eq_zero hl0
      subst hLn
      go_wp2
      go_meet
      have hb : Below V0.heap.size V0 (V0.alloc (.cells #[.slice none 0 0] 29)) := (Below.refl _ _).alloc (Nat.le_refl _) _
      exact ⟨_, _, rfl, H0.out.kept hb, chain P0.out.1 hb (Nat.le_refl _), (hb.block _ (lt_of_heap P0.out.2.1)).trans P0.out.2.1, (hb.block _ (lt_of_heap P0.out.2.2.1)).trans P0.out.2.2.1, (hb.block _ (lt_of_heap P0.out.2.2.2)).trans P0.out.2.2.2, alloc_new V0 _, World.ownsRow_nil _ _ _ _, LB.out.1, LB.out.2, z0⟩
    · have HG : Hid (∀ j u, (cellsT L)[j]? = some u → V0.cell? ((⟨g, 0, none⟩ : Addr).add j) = some u) := fun j u hj => by
        rw [Addr.add_lit, Nat.zero_add]
        exact ownsRow_cell H0.out.o hj
      clear hg hsz htk hlo
      go_wp2_with (at_builtin; refine wpList_append_own_at _ rfl _ _ 29 rfl W.heap.size 28 t0' (.agg #[.int .i64 0, .string ⟨#[]⟩]) 2 24 und_T hi hz0 hz1 hz2 rfl (by decide) (.slice none 0 0) 0 [] rfl (World.ownsRow_nil _ _ _ _) ⟨g, 0, none⟩ L.length cl (cellsT L) rfl (by rw [cellsT_length]) HG.out (cellsT_one L) (by unfold maxLen; omega) (by omega) z0 ?_; intro v' V6 hown' hgrow _ hblk; obtain ⟨q6, cap6, rfl⟩ := ownsRow_shape hown'; have B6 : Hid (Below V0.heap.size V0 V6) := ((Fr.refl (fun _ => False) V0).grown hgrow (fun z hz => by cases hz)).below (Nat.le_refl _) (fun _ q => q.elim); have O6 : Hid (V6.ownsRow W.heap.size 28 2 (.slice q6 (0 + L.length) cap6) (0 + L.length) ([] ++ cellsT L)) := hown'; clear hown' hgrow hblk)
      go_meet
      have O7 := O6.out
      rw [Nat.zero_add, List.nil_append] at O7
      have hb : Below V0.heap.size V0 (V6.alloc (.cells #[.slice q6 L.length cap6] 29)) := B6.out.alloc B6.out.size _
      exact ⟨_, _, rfl, H0.out.kept hb, chain P0.out.1 hb (Nat.le_refl _), (hb.block _ (lt_of_heap P0.out.2.1)).trans P0.out.2.1, (hb.block _ (lt_of_heap P0.out.2.2.1)).trans P0.out.2.2.1, (hb.block _ (lt_of_heap P0.out.2.2.2)).trans P0.out.2.2.2, alloc_new V6 _, World.ownsRow.alloc O7 _, LB.out.1, LB.out.2, Nat.le_trans z0 B6.out.size⟩
  case rest =>
    obtain ⟨b7, wasv, rfl, hP7⟩ := hcut
    have Q7 : Hid (Pre7 n wb pb ab v lv L W b5 b6 b7 sv wasv wc) := hP7
    clear hP7 c3 cw H0 P0 z0
    go_upto_region 5 with fail
    have D8 : Hid (Below W.heap.size W (wc.alloc (.cells #[.int .i64 0] 3)) ∧ HW n wb pb ab v lv L L (wc.alloc (.cells #[.int .i64 0] 3)) ∧ OB W.heap.size wb W.heap.size b5 b6 b7 wc.heap.size sv wasv L 0 false (wc.alloc (.cells #[.int .i64 0] 3))) := by
      have hb : Below wc.heap.size wc (wc.alloc (.cells #[.int .i64 0] 3)) := (Below.refl _ _).alloc (Nat.le_refl _) _
      have Q := Q7.out
      exact ⟨chain Q.bel hb (Nat.le_refl _), Q.hw.kept hb, (hb.block _ (lt_of_heap Q.h3)).trans Q.h3, (hb.block _ (lt_of_heap Q.h5)).trans Q.h5, (hb.block _ (lt_of_heap Q.h6)).trans Q.h6, (hb.block _ (lt_of_heap Q.h7)).trans Q.h7, alloc_new wc _, World.ownsRow.alloc Q.was _, Nat.le_refl _, Q.l5, Q.l6, Q.l7, Q.bel.size⟩
    generalize (wc.alloc (.cells #[.int .i64 0] 3)) = V4 at D8 ⊢
    generalize wc.heap.size = b8 at D8 ⊢
    clear Q7
    go_wp2
    obtain ⟨tt, htt, hpt⟩ := pk_nat tn (n := 4) (by decide)
    obtain ⟨lf, hlf, hpl⟩ := pk_nat le (n := 9) (by decide)
    have PT4 : Hid (∀ W : World, Calls Try.prog 17 #[.int .i64 tn, .int .i64 4] W fun e w' => e = .returned (.int .i64 (tt : Int)) ∧ w' = W) := fun W => by
      have := pick_i tn 4 (by decide) (by decide) wft W
      rw [show pk tn 4 = (tt : Int) from hpt] at this
      exact this
    have PL9 : Hid (∀ W : World, Calls Try.prog 17 #[.int .i64 le, .int .i64 9] W fun e w' => e = .returned (.int .i64 (lf : Int)) ∧ w' = W) := fun W => by
      have := pick_i le 9 (by decide) (by decide) wfl W
      rw [show pk le 9 = (lf : Int) from hpl] at this
      exact this
    have A4 : V4.heap[ax]? = some (.cells #[.pointer (some ⟨pb, 0, none⟩)] 25 (0, 0)) := (D8.out.1.block _ (lt_of_heap HA.out)).trans HA.out
    have z4 : W.heap.size ≤ V4.heap.size := D8.out.1.size
    clear hpt hpl hqf
    refine (wpIn_wide (n := 5)).1 ?_
    refine rangeT (by decide) 19 9 ax rfl rfl A4 D8.out.2.1.p (by omega)
      (fun pre V => RI n wb pb ab v lv L W b5 b6 b7 b8 sv wasv tt ii pre.length V) (fun c _ V => c = .ret ∧ RX n wb pb ab v lv L W b5 b6 b7 b8 sv wasv ii V) ?_ ?_
      ⟨D8.out.2.2, H.out.same D8.out.1, fun _ => ⟨D8.out.2.1, D8.out.1⟩⟩ ?_ ?_ ?_ ?_
    · intro pre A A' row hi hg hr
      exact ⟨hi.ob.cells (fun _ _ _ hc => cells_kept hg hr hc), hi.dp.cells z4 hg hr, fun hc => ⟨(hi.nc hc).1.cells (fun _ _ _ hc => cells_kept hg hr hc), below_row (hi.nc hc).2 (Nat.le_refl _) z4 hg hr⟩⟩
    · intro c pre A A' row hi hg hr
      obtain ⟨k', hob⟩ := hi.2.ob
      exact ⟨hi.1, ⟨k', hob.cells (fun _ _ _ hc => cells_kept hg hr hc)⟩, hi.2.dp.cells z4 hg hr, fun hc => below_row (hi.2.nc hc) (Nat.le_refl _) z4 hg hr⟩
    · intro l x V K hK
      gi_wp2
      exact hK
    · rintro l pre x bx V hRI ⟨ht1, ht2⟩ hbx hbn
      have hpl : pre.length < L.length := by have := (List.getElem?_eq_some_iff.1 ht2).1; simpa using this
      obtain ⟨j, hj⟩ : ∃ j, L.length - 1 - pre.length = j := ⟨_, rfl⟩
      have hxj : L[j]? = some x := by rw [List.getElem?_reverse hpl, hj] at ht2; exact ht2
      obtain ⟨gw, cw, rfl⟩ := ownsRow_some hRI.ob.was (by omega)
      have ej : (L.length : Int) - 1 - (pre.length : Int) = (j : Int) := by omega
      have RV : Hid (RI n wb pb ab v lv L W b5 b6 b7 b8 sv (.slice (some ⟨gw, 0, none⟩) L.length cw) tt ii pre.length V) := hRI
      have HLT : Hid (∀ z, (wfoot wb pb v lv z ∨ z = b8 ∨ z = b6) → z < V4.heap.size) := fun z hz => by
        rcases hz with q | rfl | rfl
        · have := H.out.lt z q; omega
        · exact lt_of_heap D8.out.2.2.h8
        · exact lt_of_heap D8.out.2.2.h6
      have c7 : V.cell? ⟨b7, 0, none⟩ = some (.slice (some ⟨gw, 0, none⟩) L.length cw) := cell_row hRI.ob.h7 (i := 0) rfl
      have c8 : V.cell? ⟨b8, 0, none⟩ = some (.int .i64 (pre.length : Int)) := cell_row hRI.ob.h8 (i := 0) rfl
      have k0 : V.cell? ⟨gw, j * 2, none⟩ = some (.int .i64 x.1) := ownsRow_cell hRI.ob.was (cellsT_get hxj).1
      have k1 : V.cell? ⟨gw, j * 2 + 1, none⟩ = some (.string x.2) := ownsRow_cell hRI.ob.was (cellsT_get hxj).2
      have e0 : V.cell? ⟨bx, 0, none⟩ = some (.int .i64 x.1) := cell_row hbx (i := 0) rfl
      have e1 : V.cell? ⟨bx, 1, none⟩ = some (.string x.2) := cell_row hbx (i := 1) rfl
      have l7 : b7 < V.heap.size := lt_of_heap hRI.ob.h7
      have l8 : b8 < V.heap.size := lt_of_heap hRI.ob.h8
      have lg : gw < V.heap.size := (ownsRow_at hRI.ob.was (g := gw) rfl).2.1
      have lx : bx < V.heap.size := lt_of_heap hbx
      have d0 : decide (L.length ≤ pre.length) = false := by simp; omega
      have i0 : (0 : Int) ≤ (j : Int) := by omega
      have i1 : (j : Int) < (L.length : Int) := by omega
      have i2 : (L.length : Int) ≤ 100000 := by omega
      have i3 : (pre.length : Int) < (L.length : Int) := by omega
      have i4 : (0 : Int) ≤ (pre.length : Int) := by omega
      have i5 : (0 : Int) ≤ (L.length : Int) - 1 := by omega
      have iw1 : IntKind.i64.wrap ((L.length : Int) - 1) = (L.length : Int) - 1 := by rw [IntKind.wrap_i64]; omega
      have iw2 : IntKind.i64.wrap ((L.length : Int) - 1 - (pre.length : Int)) = (j : Int) := by rw [IntKind.wrap_i64]; omega
      clear hRI ht1 ht2 hbx hxj hj hpl
      simp only [roundT, List.setIfInBounds_toArray, List.set_cons_succ, List.set_cons_zero]
      gi_wp2
      refine wpIn_region_ext (by kernel_rfl) (by kernel_rfl) (by kernel_rfl) (fun ⟨_, _, h⟩ => h) ?_
      repeat (go_big_quiet_step (first | exact rfl))
      refine wpQuiet_nil ?_
      intro V1 hw
      have B1 : Hid (Below V.heap.size V V1) := ext_of hw
      have R1 : Hid (RI n wb pb ab v lv L W b5 b6 b7 b8 sv (.slice (some ⟨gw, 0, none⟩) L.length cw) tt ii pre.length V1) := ⟨RV.out.ob.kept B1.out, RV.out.dp.then B1.out, fun hc => ⟨(RV.out.nc hc).1.kept B1.out, chain (RV.out.nc hc).2 B1.out (Nat.le_refl _)⟩⟩
      clear hw c7 c8 k0 k1 e0 e1 l7 l8 lg lx d0 i0 i1 i5 iw1 iw2 ej RV
      have c8 : V1.cell? ⟨b8, 0, none⟩ = some (.int .i64 (pre.length : Int)) := cell_row R1.out.ob.h8 (i := 0) rfl
      have c54 : V1.cell? ⟨b5, 4, none⟩ = some (.int .i64 tn) := cell_row R1.out.ob.h5 (i := 4) (by rw [← HSV.out]; rfl)
      have c55 : V1.cell? ⟨b5, 5, none⟩ = some (.int .i64 ii) := cell_row R1.out.ob.h5 (i := 5) (by rw [← HSV.out]; rfl)
      have l8 : b8 < V1.heap.size := lt_of_heap R1.out.ob.h8
      have l5 : b5 < V1.heap.size := lt_of_heap R1.out.ob.h5
      by_cases h0 : ii = 0
      · as_aux_lemma =>
        have en : (ii != 0) = false := by simp [h0]
        have H0' : Hid (ii = 0) := h0
        clear h0
        gi_wp2
        refine wpIn_region_ext (by kernel_rfl) (by kernel_rfl) (by kernel_rfl) (fun ⟨_, _, h⟩ => h) ?_
        repeat (go_big_quiet_step (first | exact rfl | (go_at_call 17; with_reducible exact ext_call_same (PT4.out _))))
        refine wpQuiet_nil ?_
        intro V5 hw
        have X5 : Hid (OB W.heap.size wb W.heap.size b5 b6 b7 b8 sv (.slice (some ⟨gw, 0, none⟩) L.length cw) L (pre.length : Int) false V5 ∧ DP n wb pb ab v lv L W V5 ∧ (¬ (ii ≠ 0 ∧ tt < pre.length + 1) → HW n wb pb ab v lv L L V5 ∧ Below W.heap.size W V5) ∧ Fr (fun z => wfoot wb pb v lv z ∨ z = b8 ∨ z = b6) V V5) := ⟨R1.out.ob.kept (ext_of hw), R1.out.dp.then (ext_of hw), (fun _ => ⟨(R1.out.nc (fun hc => hc.1 H0'.out)).1.kept (ext_of hw), chain (R1.out.nc (fun hc => hc.1 H0'.out)).2 (ext_of hw) (Nat.le_refl _)⟩), (Fr.of_below B1.out).trans (Fr.of_below (ext_of hw))⟩
        clear hw c8 c54 c55 l8 l5
        have c8 : V5.cell? ⟨b8, 0, none⟩ = some (.int .i64 (pre.length : Int)) := cell_row X5.out.1.h8 (i := 0) rfl
        have f8 := frz_row X5.out.1.h8 0
        have Y6 : Hid (OB W.heap.size wb W.heap.size b5 b6 b7 b8 sv (.slice (some ⟨gw, 0, none⟩) L.length cw) L ((pre.length : Int) + 1) false (V5.setCell ⟨b8, 0, none⟩ (.int .i64 ((pre.length : Int) + 1)))) := X5.out.1.setK _
        have G6 : Hid (Fr (fun z => z = b8) V5 (V5.setCell ⟨b8, 0, none⟩ (.int .i64 ((pre.length : Int) + 1)))) := (Fr.refl (fun z => z = b8) V5).setCell (p := ⟨b8, 0, none⟩) rfl _
        have U6 : Hid (DP n wb pb ab v lv L W (V5.setCell ⟨b8, 0, none⟩ (.int .i64 ((pre.length : Int) + 1)))) := X5.out.2.1.more G6.out (fun z e => e ▸ X5.out.1.l8) (fun z e => by subst e; exact ⟨_, _, X5.out.1.h8, by decide, by decide, by decide, by decide⟩)
        generalize hV6 : (V5.setCell ⟨b8, 0, none⟩ (.int .i64 ((pre.length : Int) + 1))) = V6 at Y6 G6 U6
        gi_wp2
        subst hV6
        generalize hV6 : (V5.setCell ⟨b8, 0, none⟩ (.int .i64 ((pre.length : Int) + 1))) = V6 at Y6 G6 U6 ⊢
        clear c8 f8 hV6
        have c8 : V6.cell? ⟨b8, 0, none⟩ = some (.int .i64 ((pre.length : Int) + 1)) := cell_row Y6.out.h8 (i := 0) rfl
        have c52 : V6.cell? ⟨b5, 2, none⟩ = some (.int .i64 le) := cell_row Y6.out.h5 (i := 2) (by rw [← HSV.out]; rfl)
        have l8 : b8 < V6.heap.size := lt_of_heap Y6.out.h8
        have l5 : b5 < V6.heap.size := lt_of_heap Y6.out.h5
        refine wpIn_region_ext (by kernel_rfl) (by kernel_rfl) (by kernel_rfl) (fun ⟨_, _, h⟩ => h) ?_
        repeat (go_big_quiet_step (first | exact rfl | (go_at_call 17; with_reducible exact ext_call_same (PL9.out _))))
        refine wpQuiet_nil ?_
        intro V7 hw
        have B7 : Hid (Below V6.heap.size V6 V7) := ext_of hw
        have Y7 : Hid (OB W.heap.size wb W.heap.size b5 b6 b7 b8 sv (.slice (some ⟨gw, 0, none⟩) L.length cw) L ((pre.length : Int) + 1) false V7) := Y6.out.kept B7.out
        have U7 : Hid (DP n wb pb ab v lv L W V7) := U6.out.then B7.out
        have G7 : Hid (Fr (fun z => wfoot wb pb v lv z ∨ z = b8 ∨ z = b6) V V7) := (X5.out.2.2.2.trans (G6.out.mono (fun _ q => .inr (.inl q)))).trans (Fr.of_below B7.out)
        have C7 : Hid (¬ (ii ≠ 0 ∧ tt < pre.length + 1) → HW n wb pb ab v lv L L V7 ∧ Below W.heap.size W V7) := fun hc => by
          have hq := X5.out.2.2.1 hc
          have hb6 : Fr (fun z => z = b8) V5 V7 := G6.out.trans (Fr.of_below B7.out)
          refine ⟨hq.1.fr hb6 (fun z hz e => ?_) (fun e => ne_type hq.1.ha X5.out.1.h8 (by decide) e), chainF hq.2 hb6 (Nat.le_refl _) (fun z e => e ▸ X5.out.1.l8)⟩
          have := H.out.lt z hz
          have := X5.out.1.l8
          omega
        clear hw c8 c52
        by_cases hlv : (pre.length : Int) + 1 = (lf : Int)
        · have elv : (((pre.length : Int) + 1) == (lf : Int)) = true := by simpa using hlv
          have c6 : V7.cell? ⟨b6, 0, none⟩ = some (.bool false) := cell_row Y7.out.h6 (i := 0) rfl
          have f6 := frz_row Y7.out.h6 0
          have hRX : Hid (RX n wb pb ab v lv L W b5 b6 b7 b8 sv (.slice (some ⟨gw, 0, none⟩) L.length cw) ii (V7.setCell ⟨b6, 0, none⟩ (.bool true)) ∧ Fr (fun z => wfoot wb pb v lv z ∨ z = b8 ∨ z = b6) V (V7.setCell ⟨b6, 0, none⟩ (.bool true))) := by
            have hf6 : Fr (fun z => z = b6) V7 (V7.setCell ⟨b6, 0, none⟩ (.bool true)) := (Fr.refl (fun z => z = b6) V7).setCell (p := ⟨b6, 0, none⟩) rfl _
            refine ⟨⟨⟨_, Y7.out.setR true⟩, U7.out.more hf6 (fun z e => e ▸ Y7.out.l6) (fun z e => by subst e; exact ⟨_, _, Y7.out.h6, by decide, by decide, by decide, by decide⟩), fun h0 => chainF (C7.out (fun hc => hc.1 h0)).2 hf6 (Nat.le_refl _) (fun z e => e ▸ Y7.out.l6)⟩, G7.out.trans (hf6.mono (fun _ q => .inr (.inr q)))⟩
          clear hlv
          gi_wp2
          exact ⟨hRX.out.2.keepsFrom HLT.out, rfl, hRX.out.1⟩
        · have elv : (((pre.length : Int) + 1) == (lf : Int)) = false := by simpa using hlv
          clear hlv
          gi_wp2
          have e1 : (((pre ++ [x]).length : Nat) : Int) = (pre.length : Int) + 1 := by simp
          refine ⟨G7.out.keepsFrom HLT.out, G7.out.ckeep (fun z hz hN => by have := HLT.out z hz; omega), ⟨by rw [e1]; exact Y7.out, U7.out, by rw [List.length_append, List.length_singleton]; exact C7.out⟩⟩
      · have en : (ii != 0) = true := by simp [h0]
        by_cases ht : (pre.length : Int) = (tt : Int)
        · have et : ((pre.length : Int) == (tt : Int)) = true := by simpa using ht
          have HT : Hid (pre.length = tt) := (by omega : pre.length = tt)
          have NC : Hid (HW n wb pb ab v lv L L V1 ∧ Below W.heap.size W V1) := R1.out.nc (fun hc => by have := hc.2; have := HT.out; omega)
          have HI0 : Hid (ii ≠ 0) := h0
          clear h0 ht
          gi_wp2
          refine wpIn_region_ext (by kernel_rfl) (by kernel_rfl) (by kernel_rfl) (fun ⟨_, _, h⟩ => h) ?_
          repeat (go_big_quiet_step (first | exact rfl | (go_at_call 17; with_reducible exact ext_call_same (PT4.out _))))
          refine wpQuiet_nil ?_
          intro V2 hw
          have B2 : Hid (Below V1.heap.size V1 V2) := ext_of hw
          have N2 : Hid (HW n wb pb ab v lv L L V2 ∧ Below W.heap.size W V2) := ⟨NC.out.1.kept B2.out, chain NC.out.2 B2.out (Nat.le_refl _)⟩
          have O2 : Hid (OB W.heap.size wb W.heap.size b5 b6 b7 b8 sv (.slice (some ⟨gw, 0, none⟩) L.length cw) L (pre.length : Int) false V2) := R1.out.ob.kept B2.out
          have hn2 : n ≤ V2.heap.size := Nat.le_trans hn N2.out.2.size
          clear hw c8 c54 c55 l8 l5
          have c3 : V2.cell? ⟨W.heap.size, 0, none⟩ = some (.pointer (some ⟨wb, 0, none⟩)) := cell_row O2.out.h3 (i := 0) rfl
          have c55 : V2.cell? ⟨b5, 5, none⟩ = some (.int .i64 ii) := cell_row O2.out.h5 (i := 5) (by rw [← HSV.out]; rfl)
          by_cases h6 : ii = 6
          · as_aux_lemma =>
            subst h6
            have e6 : ((6 : Int) == 6) = true := rfl
            have OV6 : Hid (∀ (V : World) (ax : Nat), HW n wb pb ab v lv L L V → n ≤ V.heap.size → V.heap[ax]? = some (.cells #[.pointer (some ⟨pb, 0, none⟩)] 25 (0, 0)) → Calls Try.prog 12 #[.pointer (some ⟨wb, 0, none⟩), .func (.func 38) #[] #[.pointer (some ⟨ax, 0, none⟩)], .agg #[.int .i64 0, .int .i64 0, .int .i64 le, .string ⟨#[]⟩, .int .i64 0, .int .i64 0]] V fun e W' => e = .returned (.bool true) ∧ Below V.heap.size V W') := hov rfl
            have c52 : V2.cell? ⟨b5, 2, none⟩ = some (.int .i64 le) := cell_row O2.out.h5 (i := 2) (by rw [← HSV.out]; rfl)
            have cp0 := N2.out.1.c0
            have l3 : W.heap.size < V2.heap.size := lt_of_heap O2.out.h3
            have l5 : b5 < V2.heap.size := lt_of_heap O2.out.h5
            have lw : wb < V2.heap.size := lt_of_heap N2.out.1.hw
            clear hov
            gi_wp2
            refine wpIn_region_held (S := fun w' => Below V2.heap.size V2 w') (by kernel_rfl) (by kernel_rfl) (fun ⟨_, _, h⟩ => h) ((Below.refl _ _).drew) (fun hHeld => ?_)
            have QC : Hid (∀ w', Below V2.heap.size V2 w' → w'.cell? ⟨W.heap.size, 0, none⟩ = some (.pointer (some ⟨wb, 0, none⟩)) ∧ w'.cell? ⟨wb, 0, none⟩ = some (.pointer (some ⟨pb, 0, none⟩)) ∧ w'.cell? ⟨b5, 2, none⟩ = some (.int .i64 le)) := fun w' hb => ⟨(hb.cell (p := ⟨W.heap.size, 0, none⟩) l3).trans c3, (hb.cell (p := ⟨wb, 0, none⟩) lw).trans cp0, (hb.cell (p := ⟨b5, 2, none⟩) l5).trans c52⟩
            refine wpAnyH_take (i := 0) (oi := _) (v := ?_) rfl (by kernel_rfl) (by kernel_rfl) (by kernel_rfl) (fun _ _ _ h => h) (Or.inl ⟨by rfl, ?_⟩) (by assumption) ?_
            rotate_left
            · intro wz hSw; obtain ⟨q1, q2, q3⟩ := QC.out wz hSw; clear hSw; go_simp; try with_reducible rfl
            dsimp only [Act.put, List.getElem_toArray, List.getElem_cons_zero, List.getElem_cons_succ]
            simp only [List.setIfInBounds_toArray, List.set_cons_zero, List.set_cons_succ]
            refine wpAnyH_take (i := 1) (oi := _) (v := ?_) rfl (by kernel_rfl) (by kernel_rfl) (by kernel_rfl) (fun _ _ _ h => h) (Or.inl ⟨by rfl, ?_⟩) (by assumption) ?_
            rotate_left
            · intro wz hSw; obtain ⟨q1, q2, q3⟩ := QC.out wz hSw; clear hSw; go_simp; try with_reducible rfl
            dsimp only [Act.put, List.getElem_toArray, List.getElem_cons_zero, List.getElem_cons_succ]
            simp only [List.setIfInBounds_toArray, List.set_cons_zero, List.set_cons_succ]
            refine wpAnyH_take (i := 2) (oi := _) (v := ?_) rfl (by kernel_rfl) (by kernel_rfl) (by kernel_rfl) (fun _ _ _ h => h) (Or.inl ⟨by rfl, ?_⟩) (by assumption) ?_
            rotate_left
            · intro wz hSw; obtain ⟨q1, q2, q3⟩ := QC.out wz hSw; clear hSw; go_simp; try with_reducible rfl
            dsimp only [Act.put, List.getElem_toArray, List.getElem_cons_zero, List.getElem_cons_succ]
            simp only [List.setIfInBounds_toArray, List.set_cons_zero, List.set_cons_succ]
            refine wpAnyH_take (i := 3) (oi := _) (v := ?_) rfl (by kernel_rfl) (by kernel_rfl) (by kernel_rfl) (fun _ _ _ h => h) (Or.inl ⟨by rfl, ?_⟩) (by assumption) ?_
            rotate_left
            · intro wz hSw; obtain ⟨q1, q2, q3⟩ := QC.out wz hSw; clear hSw; go_simp; try with_reducible rfl
            dsimp only [Act.put, List.getElem_toArray, List.getElem_cons_zero, List.getElem_cons_succ]
            simp only [List.setIfInBounds_toArray, List.set_cons_zero, List.set_cons_succ]
            refine wpAnyH_take (i := 4) (oi := _) (v := ?_) rfl (by kernel_rfl) (by kernel_rfl) (by kernel_rfl) (fun _ _ _ h => h) (Or.inl ⟨by rfl, ?_⟩) (by assumption) ?_
            rotate_left
            · intro wz hSw; obtain ⟨q1, q2, q3⟩ := QC.out wz hSw; clear hSw; go_simp; try with_reducible rfl
            dsimp only [Act.put, List.getElem_toArray, List.getElem_cons_zero, List.getElem_cons_succ]
            simp only [List.setIfInBounds_toArray, List.set_cons_zero, List.set_cons_succ]
            refine wpAnyH_take (i := 6) (oi := _) (v := ?_) rfl (by kernel_rfl) (by kernel_rfl) (by kernel_rfl) (fun _ _ _ h => h) (Or.inl ⟨by rfl, ?_⟩) (by assumption) ?_
            rotate_left
            · intro wz hSw; obtain ⟨q1, q2, q3⟩ := QC.out wz hSw; clear hSw; go_simp; try with_reducible rfl
            dsimp only [Act.put, List.getElem_toArray, List.getElem_cons_zero, List.getElem_cons_succ]
            simp only [List.setIfInBounds_toArray, List.set_cons_zero, List.set_cons_succ]
            refine wpAnyH_take (i := 7) (oi := _) (v := ?_) rfl (by kernel_rfl) (by kernel_rfl) (by kernel_rfl) (fun _ _ _ h => h) (Or.inl ⟨by rfl, ?_⟩) (by assumption) ?_
            rotate_left
            · intro wz hSw; obtain ⟨q1, q2, q3⟩ := QC.out wz hSw; clear hSw; go_simp; try with_reducible rfl
            dsimp only [Act.put, List.getElem_toArray, List.getElem_cons_zero, List.getElem_cons_succ]
            simp only [List.setIfInBounds_toArray, List.set_cons_zero, List.set_cons_succ]
            refine wpAnyH_take (i := 8) (oi := _) (v := ?_) rfl (by kernel_rfl) (by kernel_rfl) (by kernel_rfl) (fun _ _ _ h => h) (Or.inl ⟨by rfl, ?_⟩) (by assumption) ?_
            rotate_left
            · intro wz hSw; obtain ⟨q1, q2, q3⟩ := QC.out wz hSw; clear hSw; go_simp; try with_reducible rfl
            dsimp only [Act.put, List.getElem_toArray, List.getElem_cons_zero, List.getElem_cons_succ]
            simp only [List.setIfInBounds_toArray, List.set_cons_zero, List.set_cons_succ]
            refine wpAnyH_ready (rs := [5]) (by kernel_rfl) (by simp) ?_
            refine AllReadyH.cons rfl (fun K hK => ?_) AllReadyH.nil
            go_simp
            go_wp2_with (go_at_call 11; refine (allT pb _).mono ?_; rintro e w9 ⟨rfl, h9⟩; subst w9)
            refine hK.out _ _ ((Below.refl _ _).alloc (Nat.le_refl _) _).drew (fun hHeld2 => ?_)
            clear hK K
            have SA : Hid (HW n wb pb ab v lv L L (V2.alloc (.cells #[.pointer (some ⟨pb, 0, none⟩)] 25)).drew) := N2.out.1.kept hHeld2
            have BA : Hid ((V2.alloc (.cells #[.pointer (some ⟨pb, 0, none⟩)] 25)).drew.heap[V2.heap.size]? = some (.cells #[.pointer (some ⟨pb, 0, none⟩)] 25 (0, 0))) := alloc_new V2 _
            have NA : Hid (n ≤ (V2.alloc (.cells #[.pointer (some ⟨pb, 0, none⟩)] 25)).drew.heap.size) := Nat.le_trans hn2 hHeld2.size
            refine wpAnyH_ready (rs := [9]) (by kernel_rfl) (by simp) ?_
            refine AllReadyH.cons rfl (fun K hK => ?_) AllReadyH.nil
            go_simp
            go_wp2_with (go_at_call 12; refine (OV6.out _ V2.heap.size SA.out NA.out BA.out).mono ?_; rintro e V5 ⟨rfl, hb9⟩)
            have hb5 : Below V2.heap.size V2 V5 := hHeld2.trans (hb9.mono (by simp))
            refine hK.out _ _ hb5 (fun hHeld3 => ?_)
            clear hK K
            refine wpAnyH_ready (rs := [10]) (by kernel_rfl) (by simp) ?_
            refine AllReadyH.cons rfl (fun K hK => ?_) AllReadyH.nil
            go_simp
            refine hK.out _ _ hb5 (fun hHeld4 => ?_)
            clear hK K
            refine wpAnyH_done (by kernel_rfl) ?_ _
            have X5 : Hid (OB W.heap.size wb W.heap.size b5 b6 b7 b8 sv (.slice (some ⟨gw, 0, none⟩) L.length cw) L (pre.length : Int) false V5 ∧ DP n wb pb ab v lv L W V5 ∧ (¬ ((6 : Int) ≠ 0 ∧ tt < pre.length + 1) → HW n wb pb ab v lv L L V5 ∧ Below W.heap.size W V5) ∧ Fr (fun z => wfoot wb pb v lv z ∨ z = b8 ∨ z = b6) V V5) := ⟨O2.out.kept hb5, H.out.same (chain N2.out.2 hb5 (Nat.le_refl _)), (fun hc => absurd ⟨HI0.out, by have := HT.out; omega⟩ hc), ((Fr.of_below B1.out).trans (Fr.of_below B2.out)).trans (Fr.of_below hb5)⟩
            clear hb5 hHeld hHeld2 hHeld3 hHeld4 SA BA NA QC hb9 c3 c52 c55 cp0 l3 l5 lw
            have c8 : V5.cell? ⟨b8, 0, none⟩ = some (.int .i64 (pre.length : Int)) := cell_row X5.out.1.h8 (i := 0) rfl
            have f8 := frz_row X5.out.1.h8 0
            gi_wp2
            have Y6 : Hid (OB W.heap.size wb W.heap.size b5 b6 b7 b8 sv (.slice (some ⟨gw, 0, none⟩) L.length cw) L ((pre.length : Int) + 1) false (V5.setCell ⟨b8, 0, none⟩ (.int .i64 ((pre.length : Int) + 1)))) := X5.out.1.setK _
            have G6 : Hid (Fr (fun z => z = b8) V5 (V5.setCell ⟨b8, 0, none⟩ (.int .i64 ((pre.length : Int) + 1)))) := (Fr.refl (fun z => z = b8) V5).setCell (p := ⟨b8, 0, none⟩) rfl _
            have U6 : Hid (DP n wb pb ab v lv L W (V5.setCell ⟨b8, 0, none⟩ (.int .i64 ((pre.length : Int) + 1)))) := X5.out.2.1.more G6.out (fun z e => e ▸ X5.out.1.l8) (fun z e => by subst e; exact ⟨_, _, X5.out.1.h8, by decide, by decide, by decide, by decide⟩)
            generalize hV6 : (V5.setCell ⟨b8, 0, none⟩ (.int .i64 ((pre.length : Int) + 1))) = V6 at Y6 G6 U6 ⊢
            clear c8 f8 hV6
            have c8 : V6.cell? ⟨b8, 0, none⟩ = some (.int .i64 ((pre.length : Int) + 1)) := cell_row Y6.out.h8 (i := 0) rfl
            have c52 : V6.cell? ⟨b5, 2, none⟩ = some (.int .i64 le) := cell_row Y6.out.h5 (i := 2) (by rw [← HSV.out]; rfl)
            have l8 : b8 < V6.heap.size := lt_of_heap Y6.out.h8
            have l5 : b5 < V6.heap.size := lt_of_heap Y6.out.h5
            refine wpIn_region_ext (by kernel_rfl) (by kernel_rfl) (by kernel_rfl) (fun ⟨_, _, h⟩ => h) ?_
            repeat (go_big_quiet_step (first | exact rfl | (go_at_call 17; with_reducible exact ext_call_same (PL9.out _))))
            refine wpQuiet_nil ?_
            intro V7 hw
            have B7 : Hid (Below V6.heap.size V6 V7) := ext_of hw
            have Y7 : Hid (OB W.heap.size wb W.heap.size b5 b6 b7 b8 sv (.slice (some ⟨gw, 0, none⟩) L.length cw) L ((pre.length : Int) + 1) false V7) := Y6.out.kept B7.out
            have U7 : Hid (DP n wb pb ab v lv L W V7) := U6.out.then B7.out
            have G7 : Hid (Fr (fun z => wfoot wb pb v lv z ∨ z = b8 ∨ z = b6) V V7) := (X5.out.2.2.2.trans (G6.out.mono (fun _ q => .inr (.inl q)))).trans (Fr.of_below B7.out)
            have C7 : Hid (¬ ((6 : Int) ≠ 0 ∧ tt < pre.length + 1) → HW n wb pb ab v lv L L V7 ∧ Below W.heap.size W V7) := fun hc => by
              have hq := X5.out.2.2.1 hc
              have hb6 : Fr (fun z => z = b8) V5 V7 := G6.out.trans (Fr.of_below B7.out)
              refine ⟨hq.1.fr hb6 (fun z hz e => ?_) (fun e => ne_type hq.1.ha X5.out.1.h8 (by decide) e), chainF hq.2 hb6 (Nat.le_refl _) (fun z e => e ▸ X5.out.1.l8)⟩
              have := H.out.lt z hz
              have := X5.out.1.l8
              omega
            clear hw c8 c52
            by_cases hlv : (pre.length : Int) + 1 = (lf : Int)
            · have elv : (((pre.length : Int) + 1) == (lf : Int)) = true := by simpa using hlv
              have c6 : V7.cell? ⟨b6, 0, none⟩ = some (.bool false) := cell_row Y7.out.h6 (i := 0) rfl
              have f6 := frz_row Y7.out.h6 0
              have hRX : Hid (RX n wb pb ab v lv L W b5 b6 b7 b8 sv (.slice (some ⟨gw, 0, none⟩) L.length cw) 6 (V7.setCell ⟨b6, 0, none⟩ (.bool true)) ∧ Fr (fun z => wfoot wb pb v lv z ∨ z = b8 ∨ z = b6) V (V7.setCell ⟨b6, 0, none⟩ (.bool true))) := by
                have hf6 : Fr (fun z => z = b6) V7 (V7.setCell ⟨b6, 0, none⟩ (.bool true)) := (Fr.refl (fun z => z = b6) V7).setCell (p := ⟨b6, 0, none⟩) rfl _
                refine ⟨⟨⟨_, Y7.out.setR true⟩, U7.out.more hf6 (fun z e => e ▸ Y7.out.l6) (fun z e => by subst e; exact ⟨_, _, Y7.out.h6, by decide, by decide, by decide, by decide⟩), fun h0 => chainF (C7.out (fun hc => hc.1 h0)).2 hf6 (Nat.le_refl _) (fun z e => e ▸ Y7.out.l6)⟩, G7.out.trans (hf6.mono (fun _ q => .inr (.inr q)))⟩
              clear hlv
              gi_wp2
              exact ⟨hRX.out.2.keepsFrom HLT.out, rfl, hRX.out.1⟩
            · have elv : (((pre.length : Int) + 1) == (lf : Int)) = false := by simpa using hlv
              clear hlv
              gi_wp2
              have e1 : (((pre ++ [x]).length : Nat) : Int) = (pre.length : Int) + 1 := by simp
              refine ⟨G7.out.keepsFrom HLT.out, G7.out.ckeep (fun z hz hN => by have := HLT.out z hz; omega), ⟨by rw [e1]; exact Y7.out, U7.out, by rw [List.length_append, List.length_singleton]; exact C7.out⟩⟩
          · as_aux_lemma =>
            have e6 : (ii == 6) = false := by simpa using h6
            have c51 : V2.cell? ⟨b5, 1, none⟩ = some (.int .i64 m) := cell_row O2.out.h5 (i := 1) (by rw [← HSV.out]; rfl)
            have c53 : V2.cell? ⟨b5, 3, none⟩ = some (.string s) := cell_row O2.out.h5 (i := 3) (by rw [← HSV.out]; rfl)
            clear h6 hov
            gi_wp2_with (gi_at_call 13; refine (CallsIn.inRound l (callsIn_wide.2 (does_c N2.out.1 hn2 hl ii m s))).mono ?_; rintro e V5 ⟨rfl, hdp⟩; have X5 : Hid (OB W.heap.size wb W.heap.size b5 b6 b7 b8 sv (.slice (some ⟨gw, 0, none⟩) L.length cw) L (pre.length : Int) false V5 ∧ DP n wb pb ab v lv L W V5 ∧ (¬ (ii ≠ 0 ∧ tt < pre.length + 1) → HW n wb pb ab v lv L L V5 ∧ Below W.heap.size W V5) ∧ Fr (fun z => wfoot wb pb v lv z ∨ z = b8 ∨ z = b6) V V5) := ⟨O2.out.fr hdp.choose_spec.choose_spec.choose_spec.2.2.2.2 (fun z hz => H.out.lt z hz), dp_chain N2.out.2 hdp, (fun hc => absurd ⟨HI0.out, by have := HT.out; omega⟩ hc), ((Fr.of_below B1.out).trans (Fr.of_below B2.out)).trans (hdp.choose_spec.choose_spec.choose_spec.2.2.2.2.mono (fun _ q => .inl q))⟩; clear hdp c3 c55 c51 c53; have c8 : V5.cell? ⟨b8, 0, none⟩ = some (.int .i64 (pre.length : Int)) := cell_row X5.out.1.h8 (i := 0) rfl; have f8 := frz_row X5.out.1.h8 0)
            have Y6 : Hid (OB W.heap.size wb W.heap.size b5 b6 b7 b8 sv (.slice (some ⟨gw, 0, none⟩) L.length cw) L ((pre.length : Int) + 1) false (V5.setCell ⟨b8, 0, none⟩ (.int .i64 ((pre.length : Int) + 1)))) := X5.out.1.setK _
            have G6 : Hid (Fr (fun z => z = b8) V5 (V5.setCell ⟨b8, 0, none⟩ (.int .i64 ((pre.length : Int) + 1)))) := (Fr.refl (fun z => z = b8) V5).setCell (p := ⟨b8, 0, none⟩) rfl _
            have U6 : Hid (DP n wb pb ab v lv L W (V5.setCell ⟨b8, 0, none⟩ (.int .i64 ((pre.length : Int) + 1)))) := X5.out.2.1.more G6.out (fun z e => e ▸ X5.out.1.l8) (fun z e => by subst e; exact ⟨_, _, X5.out.1.h8, by decide, by decide, by decide, by decide⟩)
            generalize hV6 : (V5.setCell ⟨b8, 0, none⟩ (.int .i64 ((pre.length : Int) + 1))) = V6 at Y6 G6 U6 ⊢
            clear c8 f8 hV6
            have c8 : V6.cell? ⟨b8, 0, none⟩ = some (.int .i64 ((pre.length : Int) + 1)) := cell_row Y6.out.h8 (i := 0) rfl
            have c52 : V6.cell? ⟨b5, 2, none⟩ = some (.int .i64 le) := cell_row Y6.out.h5 (i := 2) (by rw [← HSV.out]; rfl)
            have l8 : b8 < V6.heap.size := lt_of_heap Y6.out.h8
            have l5 : b5 < V6.heap.size := lt_of_heap Y6.out.h5
            refine wpIn_region_ext (by kernel_rfl) (by kernel_rfl) (by kernel_rfl) (fun ⟨_, _, h⟩ => h) ?_
            repeat (go_big_quiet_step (first | exact rfl | (go_at_call 17; with_reducible exact ext_call_same (PL9.out _))))
            refine wpQuiet_nil ?_
            intro V7 hw
            have B7 : Hid (Below V6.heap.size V6 V7) := ext_of hw
            have Y7 : Hid (OB W.heap.size wb W.heap.size b5 b6 b7 b8 sv (.slice (some ⟨gw, 0, none⟩) L.length cw) L ((pre.length : Int) + 1) false V7) := Y6.out.kept B7.out
            have U7 : Hid (DP n wb pb ab v lv L W V7) := U6.out.then B7.out
            have G7 : Hid (Fr (fun z => wfoot wb pb v lv z ∨ z = b8 ∨ z = b6) V V7) := (X5.out.2.2.2.trans (G6.out.mono (fun _ q => .inr (.inl q)))).trans (Fr.of_below B7.out)
            have C7 : Hid (¬ (ii ≠ 0 ∧ tt < pre.length + 1) → HW n wb pb ab v lv L L V7 ∧ Below W.heap.size W V7) := fun hc => by
              have hq := X5.out.2.2.1 hc
              have hb6 : Fr (fun z => z = b8) V5 V7 := G6.out.trans (Fr.of_below B7.out)
              refine ⟨hq.1.fr hb6 (fun z hz e => ?_) (fun e => ne_type hq.1.ha X5.out.1.h8 (by decide) e), chainF hq.2 hb6 (Nat.le_refl _) (fun z e => e ▸ X5.out.1.l8)⟩
              have := H.out.lt z hz
              have := X5.out.1.l8
              omega
            clear hw c8 c52
            by_cases hlv : (pre.length : Int) + 1 = (lf : Int)
            · have elv : (((pre.length : Int) + 1) == (lf : Int)) = true := by simpa using hlv
              have c6 : V7.cell? ⟨b6, 0, none⟩ = some (.bool false) := cell_row Y7.out.h6 (i := 0) rfl
              have f6 := frz_row Y7.out.h6 0
              have hRX : Hid (RX n wb pb ab v lv L W b5 b6 b7 b8 sv (.slice (some ⟨gw, 0, none⟩) L.length cw) ii (V7.setCell ⟨b6, 0, none⟩ (.bool true)) ∧ Fr (fun z => wfoot wb pb v lv z ∨ z = b8 ∨ z = b6) V (V7.setCell ⟨b6, 0, none⟩ (.bool true))) := by
                have hf6 : Fr (fun z => z = b6) V7 (V7.setCell ⟨b6, 0, none⟩ (.bool true)) := (Fr.refl (fun z => z = b6) V7).setCell (p := ⟨b6, 0, none⟩) rfl _
                refine ⟨⟨⟨_, Y7.out.setR true⟩, U7.out.more hf6 (fun z e => e ▸ Y7.out.l6) (fun z e => by subst e; exact ⟨_, _, Y7.out.h6, by decide, by decide, by decide, by decide⟩), fun h0 => chainF (C7.out (fun hc => hc.1 h0)).2 hf6 (Nat.le_refl _) (fun z e => e ▸ Y7.out.l6)⟩, G7.out.trans (hf6.mono (fun _ q => .inr (.inr q)))⟩
              clear hlv
              gi_wp2
              exact ⟨hRX.out.2.keepsFrom HLT.out, rfl, hRX.out.1⟩
            · have elv : (((pre.length : Int) + 1) == (lf : Int)) = false := by simpa using hlv
              clear hlv
              gi_wp2
              have e1 : (((pre ++ [x]).length : Nat) : Int) = (pre.length : Int) + 1 := by simp
              refine ⟨G7.out.keepsFrom HLT.out, G7.out.ckeep (fun z hz hN => by have := HLT.out z hz; omega), ⟨by rw [e1]; exact Y7.out, U7.out, by rw [List.length_append, List.length_singleton]; exact C7.out⟩⟩
        · as_aux_lemma =>
          have et : ((pre.length : Int) == (tt : Int)) = false := by simpa using ht
          have HT : Hid (pre.length ≠ tt) := (by omega : pre.length ≠ tt)
          clear h0 ht
          gi_wp2
          refine wpIn_region_ext (by kernel_rfl) (by kernel_rfl) (by kernel_rfl) (fun ⟨_, _, h⟩ => h) ?_
          repeat (go_big_quiet_step (first | exact rfl | (go_at_call 17; with_reducible exact ext_call_same (PT4.out _))))
          refine wpQuiet_nil ?_
          intro V5 hw
          have X5 : Hid (OB W.heap.size wb W.heap.size b5 b6 b7 b8 sv (.slice (some ⟨gw, 0, none⟩) L.length cw) L (pre.length : Int) false V5 ∧ DP n wb pb ab v lv L W V5 ∧ (¬ (ii ≠ 0 ∧ tt < pre.length + 1) → HW n wb pb ab v lv L L V5 ∧ Below W.heap.size W V5) ∧ Fr (fun z => wfoot wb pb v lv z ∨ z = b8 ∨ z = b6) V V5) := ⟨R1.out.ob.kept (ext_of hw), R1.out.dp.then (ext_of hw), (fun hc => ⟨(R1.out.nc (fun q => hc ⟨q.1, by omega⟩)).1.kept (ext_of hw), chain (R1.out.nc (fun q => hc ⟨q.1, by omega⟩)).2 (ext_of hw) (Nat.le_refl _)⟩), (Fr.of_below B1.out).trans (Fr.of_below (ext_of hw))⟩
          clear hw c8 c54 c55 l8 l5
          have c8 : V5.cell? ⟨b8, 0, none⟩ = some (.int .i64 (pre.length : Int)) := cell_row X5.out.1.h8 (i := 0) rfl
          have f8 := frz_row X5.out.1.h8 0
          have Y6 : Hid (OB W.heap.size wb W.heap.size b5 b6 b7 b8 sv (.slice (some ⟨gw, 0, none⟩) L.length cw) L ((pre.length : Int) + 1) false (V5.setCell ⟨b8, 0, none⟩ (.int .i64 ((pre.length : Int) + 1)))) := X5.out.1.setK _
          have G6 : Hid (Fr (fun z => z = b8) V5 (V5.setCell ⟨b8, 0, none⟩ (.int .i64 ((pre.length : Int) + 1)))) := (Fr.refl (fun z => z = b8) V5).setCell (p := ⟨b8, 0, none⟩) rfl _
          have U6 : Hid (DP n wb pb ab v lv L W (V5.setCell ⟨b8, 0, none⟩ (.int .i64 ((pre.length : Int) + 1)))) := X5.out.2.1.more G6.out (fun z e => e ▸ X5.out.1.l8) (fun z e => by subst e; exact ⟨_, _, X5.out.1.h8, by decide, by decide, by decide, by decide⟩)
          generalize hV6 : (V5.setCell ⟨b8, 0, none⟩ (.int .i64 ((pre.length : Int) + 1))) = V6 at Y6 G6 U6
          gi_wp2
          subst hV6
          generalize hV6 : (V5.setCell ⟨b8, 0, none⟩ (.int .i64 ((pre.length : Int) + 1))) = V6 at Y6 G6 U6 ⊢
          clear c8 f8 hV6
          have c8 : V6.cell? ⟨b8, 0, none⟩ = some (.int .i64 ((pre.length : Int) + 1)) := cell_row Y6.out.h8 (i := 0) rfl
          have c52 : V6.cell? ⟨b5, 2, none⟩ = some (.int .i64 le) := cell_row Y6.out.h5 (i := 2) (by rw [← HSV.out]; rfl)
          have l8 : b8 < V6.heap.size := lt_of_heap Y6.out.h8
          have l5 : b5 < V6.heap.size := lt_of_heap Y6.out.h5
          refine wpIn_region_ext (by kernel_rfl) (by kernel_rfl) (by kernel_rfl) (fun ⟨_, _, h⟩ => h) ?_
          repeat (go_big_quiet_step (first | exact rfl | (go_at_call 17; with_reducible exact ext_call_same (PL9.out _))))
          refine wpQuiet_nil ?_
          intro V7 hw
          have B7 : Hid (Below V6.heap.size V6 V7) := ext_of hw
          have Y7 : Hid (OB W.heap.size wb W.heap.size b5 b6 b7 b8 sv (.slice (some ⟨gw, 0, none⟩) L.length cw) L ((pre.length : Int) + 1) false V7) := Y6.out.kept B7.out
          have U7 : Hid (DP n wb pb ab v lv L W V7) := U6.out.then B7.out
          have G7 : Hid (Fr (fun z => wfoot wb pb v lv z ∨ z = b8 ∨ z = b6) V V7) := (X5.out.2.2.2.trans (G6.out.mono (fun _ q => .inr (.inl q)))).trans (Fr.of_below B7.out)
          have C7 : Hid (¬ (ii ≠ 0 ∧ tt < pre.length + 1) → HW n wb pb ab v lv L L V7 ∧ Below W.heap.size W V7) := fun hc => by
            have hq := X5.out.2.2.1 hc
            have hb6 : Fr (fun z => z = b8) V5 V7 := G6.out.trans (Fr.of_below B7.out)
            refine ⟨hq.1.fr hb6 (fun z hz e => ?_) (fun e => ne_type hq.1.ha X5.out.1.h8 (by decide) e), chainF hq.2 hb6 (Nat.le_refl _) (fun z e => e ▸ X5.out.1.l8)⟩
            have := H.out.lt z hz
            have := X5.out.1.l8
            omega
          clear hw c8 c52
          by_cases hlv : (pre.length : Int) + 1 = (lf : Int)
          · have elv : (((pre.length : Int) + 1) == (lf : Int)) = true := by simpa using hlv
            have c6 : V7.cell? ⟨b6, 0, none⟩ = some (.bool false) := cell_row Y7.out.h6 (i := 0) rfl
            have f6 := frz_row Y7.out.h6 0
            have hRX : Hid (RX n wb pb ab v lv L W b5 b6 b7 b8 sv (.slice (some ⟨gw, 0, none⟩) L.length cw) ii (V7.setCell ⟨b6, 0, none⟩ (.bool true)) ∧ Fr (fun z => wfoot wb pb v lv z ∨ z = b8 ∨ z = b6) V (V7.setCell ⟨b6, 0, none⟩ (.bool true))) := by
              have hf6 : Fr (fun z => z = b6) V7 (V7.setCell ⟨b6, 0, none⟩ (.bool true)) := (Fr.refl (fun z => z = b6) V7).setCell (p := ⟨b6, 0, none⟩) rfl _
              refine ⟨⟨⟨_, Y7.out.setR true⟩, U7.out.more hf6 (fun z e => e ▸ Y7.out.l6) (fun z e => by subst e; exact ⟨_, _, Y7.out.h6, by decide, by decide, by decide, by decide⟩), fun h0 => chainF (C7.out (fun hc => hc.1 h0)).2 hf6 (Nat.le_refl _) (fun z e => e ▸ Y7.out.l6)⟩, G7.out.trans (hf6.mono (fun _ q => .inr (.inr q)))⟩
            clear hlv
            gi_wp2
            exact ⟨hRX.out.2.keepsFrom HLT.out, rfl, hRX.out.1⟩
          · have elv : (((pre.length : Int) + 1) == (lf : Int)) = false := by simpa using hlv
            clear hlv
            gi_wp2
            have e1 : (((pre ++ [x]).length : Nat) : Int) = (pre.length : Int) + 1 := by simp
            refine ⟨G7.out.keepsFrom HLT.out, G7.out.ckeep (fun z hz hN => by have := HLT.out z hz; omega), ⟨by rw [e1]; exact Y7.out, U7.out, by rw [List.length_append, List.length_singleton]; exact C7.out⟩⟩
    · intro D V hD hI hK
      rw [List.length_reverse] at hI
      obtain ⟨qs, cs, rfl⟩ := ownsRow_shape hI.ob.was
      have RV : Hid (RI n wb pb ab v lv L W b5 b6 b7 b8 sv (.slice qs L.length cs) tt ii L.length V) := hI
      have HK : Hid (V.heap[D]? = some (.deferred (some []))) := hK
      have c7 : V.cell? ⟨b7, 0, none⟩ = some (.slice qs L.length cs) := cell_row hI.ob.h7 (i := 0) rfl
      have c8 : V.cell? ⟨b8, 0, none⟩ = some (.int .i64 (L.length : Int)) := cell_row hI.ob.h8 (i := 0) rfl
      have c6 : V.cell? ⟨b6, 0, none⟩ = some (.bool false) := cell_row hI.ob.h6 (i := 0) rfl
      have f6 := frz_row hI.ob.h6 0
      have ell : ((L.length : Int) == (L.length : Int)) = true := by simp
      have hf6 : Hid (Fr (fun z => z = b6) V (V.setCell ⟨b6, 0, none⟩ (.bool true))) := (Fr.refl (fun z => z = b6) V).setCell (p := ⟨b6, 0, none⟩) rfl _
      have hDB : Hid (D ≠ b6) := fun e => by
        have h1 := HK.out
        rw [e, RV.out.ob.h6] at h1
        cases h1
      clear hI hK A4
      simp only [behindT]
      go_wp2
      have U := RV.out.dp.more hf6.out (fun z e => e ▸ RV.out.ob.l6) (fun z e => by subst e; exact ⟨_, _, RV.out.ob.h6, by decide, by decide, by decide, by decide⟩)
      have KD : (V.setCell ⟨b6, 0, none⟩ (.bool true)).heap[D]? = some (.deferred (some [])) := (Below.heap_setCell _ _ _ _ hDB.out).trans HK.out
      refine ⟨by simp, .inl ⟨_, _, rfl, run_takeDeferred KD, ?_⟩⟩
      have cr : ((V.setCell ⟨b6, 0, none⟩ (.bool true)).putObj D (.deferred none)).cell? ⟨b6, 0, none⟩ = some (.bool true) := cell_row ((World.putObj_heap_other (Ne.symm hDB.out)).trans (heap_set_in RV.out.ob.h6 0 _)) (i := 0) rfl
      refine ⟨.bool true, by simp [results, Try.results12, go_sem, cr], rfl, U.cells z4 (grownBy_putObj' _ D _) (fun r e => by cases e; exact ⟨hD, _, KD, rfl⟩), fun h0 => ?_⟩
      exact below_row (chainF (RV.out.nc (fun hc => hc.1 h0)).2 hf6.out (Nat.le_refl _) (fun z e => e ▸ RV.out.ob.l6)) (Nat.le_refl _) z4 (grownBy_putObj' _ D _) (fun r e => by cases e; exact ⟨hD, _, KD, rfl⟩)
    · rintro D c pre V hD - ⟨rfl, hX⟩ hK
      obtain ⟨k', hob⟩ := hX.ob
      have hDB : D ≠ b6 := fun e => by
        have h1 := hK
        rw [e, hob.h6] at h1
        cases h1
      simp only [behindT]
      refine (wpIn_wide (n := 5)).2 ?_
      go_wp2
      refine ⟨by simp, .inl ⟨_, _, rfl, run_takeDeferred hK, ?_⟩⟩
      have cr : (V.putObj D (.deferred none)).cell? ⟨b6, 0, none⟩ = some (.bool true) := cell_row ((World.putObj_heap_other (Ne.symm hDB)).trans hob.h6) (i := 0) rfl
      exact ⟨.bool true, by simp [results, Try.results12, go_sem, cr], rfl, hX.dp.cells z4 (grownBy_putObj' _ D _) (fun r e => by cases e; exact ⟨hD, _, hK, rfl⟩), fun h0 => below_row (hX.nc h0) (Nat.le_refl _) z4 (grownBy_putObj' _ D _) (fun r e => by cases e; exact ⟨hD, _, hK, rfl⟩)⟩

theorem over_zero {n wb pb ab : Nat} {v lv : Value} {L : List Th} (hl : L.length ≤ 100000) (le : Int) (wfl : (Lit.int .i64 le).wf = true) : OverOK n wb pb ab v lv L le := fun V ax h hn hax =>
  (over_in n wb pb ab h hn hl ax hax 0 0 le ⟨#[]⟩ 0 0 wfl rfl (fun q => by cases q)).mono fun _ _ ⟨h1, _, h3⟩ => ⟨h1, h3 rfl⟩
theorem over_c {n wb pb ab : Nat} {v lv : Value} {L : List Th} {W : World} (h : HW n wb pb ab v lv L L W) (hn : n ≤ W.heap.size) (hl : L.length ≤ 100000) (ax : Nat) (hax : W.heap[ax]? = some (.cells #[.pointer (some ⟨pb, 0, none⟩)] 25 (0, 0)))
    (k m le : Int) (s : ByteArray) (tn ii : Int) (wfl : (Lit.int .i64 le).wf = true) (wft : (Lit.int .i64 tn).wf = true) :
    Calls Try.prog 12 #[.pointer (some ⟨wb, 0, none⟩), .func (.func 38) #[] #[.pointer (some ⟨ax, 0, none⟩)], .agg #[.int .i64 k, .int .i64 m, .int .i64 le, .string s, .int .i64 tn, .int .i64 ii]] W fun e W' => e = .returned (.bool true) ∧ DP n wb pb ab v lv L W W' :=
  (over_in n wb pb ab h hn hl ax hax k m le s tn ii wfl wft (fun _ => over_zero hl le wfl)).mono fun _ _ ⟨h1, h2, _⟩ => ⟨h1, h2⟩
end Go.Proofs.Ytobeiigmeflbjaa
