/-
  The builder's branches. Going over a tree: descend, nodes; a range over it. How many nodes a tree has; too many? The checker in memory: its mode, its counts, and the nodes around.
-/
import Derived.Test.YtpfdapnfkghgkaaGreatDoorC2
import Derived.Test.YtpfdapnfkghgkaaGreatDoorC1
import Derived.Test.YtpfdapnfkghgkaaGreatDoorC0
namespace Go.Proofs.YtpfdapnfkghgkaaGreatDoor
open Go Go.RowKit
attribute [local go_sem] ext_cell

theorem size_part : (Tryz.prog.info? 58).map (fun i => (i.zero, i.size, i.bytes)) = some (some .nilIface, 1, 16) := by kernel_rfl
theorem und_parts : Tryz.prog.underlying 115 = some (.slice 58) := by kernel_rfl
/-- A row of parts that grows: its block is none of its parts'. -/
structure PRow (base lo : Nat) (w : World) (v : Value) (l : List Ps) (vs : List Value) : Prop where
  own : w.ownsRow lo 58 1 v l.length vs
  len : vs.length = l.length
  each : ∀ (i : Nat) (x : Ps) (u : Value), l[i]? = some x → vs[i]? = some u → PV base (fun k => lo ≤ k ∧ v.ownBlock ≠ some k) w x u
theorem PRow.nil (base lo : Nat) (w : World) : PRow base lo w (.slice none 0 0) [] [] := ⟨World.ownsRow_nil _ _ _ _, rfl, fun i x u h => by simp at h⟩
theorem PRow.kept {base lo : Nat} {w w' : World} {v : Value} {l : List Ps} {vs : List Value} (h : PRow base lo w v l vs) (hb : Below w.heap.size w w') : PRow base lo w' v l vs :=
  ⟨ownsRow_fr h.own (Fr.of_below (S := fun _ => False) hb) (fun _ _ q => q), h.len, fun i x u h1 h2 => (h.each i x u h1 h2).kept hb⟩
theorem PRow.at {base lo b p g : Nat} {w w' : World} {tv : Value} {D : List Dt} {v : Value} {l : List Ps} {vs : List Value} (h : PRow base lo w v l vs) (hB : PB base w b tv D p g) (hf : Fr (At b) w w') : PRow base lo w' v l vs :=
  ⟨ownsRow_fr h.own hf (fun k hk e => by obtain rfl : k = b := e; exact ownsRow_not h.own hB.bd (by decide) hk), h.len, fun i x u h1 h2 => (h.each i x u h1 h2).fr hf (hB.apt _)⟩
theorem Fr.over {S T : Nat → Prop} {a w c : World} (h : Fr S a w) (k : Fr T w c) (hT : ∀ i, T i → S i ∨ a.heap.size ≤ i) : Fr S a c :=
  ⟨k.os.trans h.os, k.tape.trans h.tape, k.output.trans h.output, Nat.le_trans h.size k.size, fun i hi hn => (k.block i (Nat.lt_of_lt_of_le hi h.size) (fun z => by rcases hT i z with q | q; exact hn q; omega)).trans (h.block i hi hn)⟩
theorem PB.grow {base b p g : Nat} {w w' : World} {tv : Value} {D : List Dt} {S : Nat → Prop} (h : PB base w b tv D p g) (hf : Fr S w w') (hS : ∀ k, S k → ∃ cs, w.heap[k]? = some (.cells cs 58 (0, 0))) : PB base w' b tv D p g :=
  ⟨(hf.block _ h.lt (fun z => by obtain ⟨cs, q⟩ := hS b z; exact ne_type h.bd q (by decide) rfl)).trans h.bd, h.tl.of hf (fun k hk => by obtain ⟨cs, q⟩ := hS k hk; exact ⟨cs, _, q, by decide, by decide⟩), h.le, h.few, h.gp, h.ok, h.bs⟩
/-- A part more. -/
theorem PRow.snoc {base lo b p g n0 : Nat} {w w2 w3 w4 : World} {tv : Value} {D : List Dt} {v v' : Value} {l : List Ps} {vs : List Value} {x : Ps} {u : Value} (h : PRow base lo w v l vs) (hB : PB base w b tv D p g) (hlo : lo ≤ w.heap.size)
    (hf : Fr (At b) w w2) (hn : n0 = w.heap.size) (hx : PV base (fun k => n0 ≤ k) w2 x u) (hb : Below w2.heap.size w2 w3) (ho : w4.ownsRow lo 58 1 v' (l.length + 1) (vs ++ [u])) (hg : w3.grownBy w4 v.ownBlock) (hv : v'.ownBlock = v.ownBlock ∨ v'.ownBlock = some w3.heap.size) :
    PRow base lo w4 v' (l ++ [x]) (vs ++ [u]) := by
  subst hn
  have h3 := (h.at hB hf).kept hb
  have hF : Fr (fun k => v.ownBlock = some k) w3 w4 := Fr.grown (Fr.refl _ _) hg (fun k hk => hk)
  have hs23 := hb.size
  have hsw := hf.size
  have hvk : ∀ k, v.ownBlock = some k → k < w.heap.size := fun k hk => (ownsRow_at h.own hk).2.1
  refine ⟨by rw [List.length_append]; exact ho, by rw [List.length_append, List.length_append, h.len]; rfl, fun i y z hy hz => ?_⟩
  rcases Nat.lt_trichotomy i l.length with q | q | q
  · rw [List.getElem?_append_left q] at hy
    rw [List.getElem?_append_left (by rw [h.len]; exact q)] at hz
    have e := h3.each i y z hy hz
    refine (e.lt.fr hF (fun k hk => ?_)).mono (fun k hk => ⟨hk.1.1, fun e4 => ?_⟩)
    · obtain ⟨-, -, cur, hc⟩ := ownsRow_at h3.own hk
      exact ⟨cur, _, hc, by decide, .inr fun z => z.1.2 hk⟩
    · rcases hv with hv | hv
      · rw [hv] at e4; exact hk.1.2 e4
      · rw [hv] at e4; cases e4; exact absurd hk.2 (by omega)
  · subst q
    rw [List.getElem?_append_right (Nat.le_refl _), Nat.sub_self] at hy
    rw [List.getElem?_append_right (by rw [h.len]; exact Nat.le_refl _), h.len, Nat.sub_self] at hz
    simp at hy hz
    subst hy hz
    refine (((hx.kept hb).lt).fr hF (fun k hk => ?_)).mono (fun k hk => ⟨by omega, fun e4 => ?_⟩)
    · obtain ⟨-, -, cur, hc⟩ := ownsRow_at h3.own hk
      exact ⟨cur, _, hc, by decide, .inr fun z => by have := hvk k hk; omega⟩
    · rcases hv with hv | hv
      · rw [hv] at e4; have := hvk k e4; omega
      · rw [hv] at e4; cases e4; omega
  · rw [List.getElem?_append_right (by omega), List.getElem?_eq_none (by simp; omega)] at hy
    cases hy
/-- A branch, or a pattern, of a row that is whole. -/
theorem PRow.each' {base lo : Nat} {w : World} {v : Value} {l : List Ps} {vs : List Value} (h : PRow base lo w v l vs) : ∀ (i : Nat) (x : Ps) (u : Value), l[i]? = some x → vs[i]? = some u → PV base (fun k => lo ≤ k) w x u := fun i x u h1 h2 => (h.each i x u h1 h2).mono fun _ q => q.1
theorem PRow.row {base lo c : Nat} {w : World} {q : Option Addr} {l : List Ps} {vs : List Value} (h : PRow base lo w (.slice q l.length c) l vs) (hb : base ≤ lo) : PV base (fun k => lo ≤ k) w (.row l) (.iface 127 (.agg #[.slice q l.length c])) :=
  .row l vs q c h.len (ownsRow_mono h.own hb) (fun _ hg => (ownsRow_at h.own hg).1) h.each'
theorem PRow.alt {base lo c : Nat} {w : World} {q : Option Addr} {l : List Ps} {vs : List Value} (h : PRow base lo w (.slice q l.length c) l vs) (hb : base ≤ lo) : PV base (fun k => lo ≤ k) w (.alt l) (.iface 117 (.agg #[.slice q l.length c])) :=
  .alt l vs q c h.len (ownsRow_mono h.own hb) (fun _ hg => (ownsRow_at h.own hg).1) h.each'
theorem PRow.one {base lo : Nat} {w : World} {v : Value} {x : Ps} {vs : List Value} (h : PRow base lo w v [x] vs) : ∃ g c t u, v = .slice (some ⟨g, 0, none⟩) 1 c ∧ g < w.heap.size ∧ w.cell? ⟨g, 0, none⟩ = some (.iface t u) ∧ PV base (fun k => lo ≤ k) w x (.iface t u) := by
  obtain ⟨g, c, rfl⟩ := ownsRow_some h.own (by simp)
  match vs, h.len with
  | [u], _ =>
    have := h.each' 0 x u rfl rfl
    obtain ⟨t, y, rfl⟩ := this.shape
    exact ⟨g, c, t, y, rfl, (ownsRow_at h.own rfl).2.1, ownsRow_cell h.own (j := 0) rfl, this⟩
theorem hd_itm (x : Ps) : isItm x = true → wf x → ∃ s t, pfl x = s :: t ∧ (skd s == 4) = false ∧ (skd s == 5) = false ∧ ∀ a b, s ≠ .rp a b := by
  refine Ps.ind (P := fun x => isItm x = true → wf x → ∃ s t, pfl x = s :: t ∧ (skd s == 4) = false ∧ (skd s == 5) = false ∧ ∀ a b, s ≠ .rp a b) (fun x ih h hw => ?_) x
  cases x with
  | lf k n rs =>
    refine ⟨_, [], by rw [pfl], ?_, ?_, fun a b e => by cases e⟩ <;> (simp only [skd]; repeat' split) <;> rfl
  | grp n z => exact ⟨_, _, by rw [pfl], rfl, rfl, fun a b e => by cases e⟩
  | rep a b k =>
    rw [wf] at hw
    obtain ⟨s, t, e, h1⟩ := ih k (by simp [Ps.kids]) (thg_itm hw.1).1 hw.2
    exact ⟨s, t ++ [.rp a b], by rw [pfl, e]; rfl, h1⟩
  | row => simp [isItm] at h
  | alt => simp [isItm] at h
theorem rest_itms {l : List Ps} {r : List Sgn} (hi : ∀ x ∈ l, isItm x = true ∧ wf x) (hr : restB r) : restI (pfls l ++ r) := by
  intro a b r' e
  cases l with
  | nil =>
    rw [pfls, List.nil_append] at e
    rcases hr with rfl | ⟨_, rfl⟩ | ⟨_, rfl⟩ <;> cases e
  | cons x l =>
    obtain ⟨s, t, e1, -, -, h3⟩ := hd_itm x (hi x (List.mem_cons_self ..)).1 (hi x (List.mem_cons_self ..)).2
    rw [pfls, e1] at e
    injection e with e2
    exact h3 a b e2
set_option maxRecDepth 100000 in
set_option maxHeartbeats 8000000 in
theorem branch_c {l : List Ps} (hl : ∀ x ∈ l, ItC x ∧ isItm x = true ∧ wf x) {base b p g : Nat} {w : World} {tv : Value} {D : List Dt} {r : List Sgn} (h : PB base w b tv D p g) (hle : left D p g = pfls l ++ r) (hr : restB r) :
    Calls Tryz.prog 52 #[.pointer (some ⟨b, 0, none⟩)] w (PPost base w b tv D p g (mkB l)) := by
  obtain ⟨t0, hi, hz0, hz1, hz2⟩ := info_parts size_part
  have HL := hide hl
  have HLE := hide hle
  have HR := hide hr
  have HB := hide h
  have hlb := h.lt
  have hfw := h.few
  have hbs : base ≤ w.heap.size := Nat.le_trans h.bs (Nat.le_of_lt h.lt)
  obtain ⟨X, hX⟩ : ∃ X, PPost base w b tv D p g (mkB l) = X := ⟨_, rfl⟩
  have HX := hide hX
  rw [hX]
  clear hX h hle hr hl
  go_enter Tryz.func52, Tryz.ntmps52
  go_wp2
  go_loopw [3] (fun v wr => ∃ l1 l2 vs, l = l1 ++ l2 ∧ PRow base w.heap.size wr v l1 vs ∧ PB base wr b tv D (p + (pfls l1).length) (g + nop (pfls l1)) ∧ Fr (At b) w wr) (fun _ wr => D.length + 1 - atP wr b)
  case atStart => exact ⟨[], l, [], rfl, PRow.nil _ _ _, by simpa [pfls, nop] using HB.out, Fr.refl _ _⟩
  case round =>
    obtain ⟨l1, l2, vs, e, g1, g2, g3⟩ := hrel
    obtain ⟨q, c, rfl⟩ := ownsRow_shape g1.own
    have hleft : left D (p + (pfls l1).length) (g + nop (pfls l1)) = pfls l2 ++ r := by
      have h1 := HLE.out
      rw [e, pfls_append, List.append_assoc] at h1
      exact (left_app h1).1
    have S5 : ∀ y : Ext wr, Calls Tryz.prog 53 #[.pointer (some ⟨b, 0, none⟩), .int .i64 5] y.val fun e w' => e = .returned (.bool (seesB D (p + (pfls l1).length) 5)) ∧ Below y.val.heap.size y.val w' := fun y => psees_c (g2.kept y.2) 5
    have S4 : ∀ y : Ext wr, Calls Tryz.prog 53 #[.pointer (some ⟨b, 0, none⟩), .int .i64 4] y.val fun e w' => e = .returned (.bool (seesB D (p + (pfls l1).length) 4)) ∧ Below y.val.heap.size y.val w' := fun y => psees_c (g2.kept y.2) 4
    have c0 := g2.c0
    have c1 := g2.c1
    have lb := g2.lt
    obtain ⟨tq, tcap, htv⟩ := ownsRow_shape g2.tl.own
    rw [htv] at c0
    have hat := hide g2.atP
    have hle2 := g2.le
    have R6 := hide g1
    have H6 := hide g2
    have F6 := hide g3
    have HE := hide e
    have HTV := hide htv
    clear g1 g2 g3 e htv
    generalize hpos : p + (pfls l1).length = P1 at *
    have HPO := hide hpos
    clear hpos
    cases l2 with
    | nil =>
      have hcond : decide (P1 < D.length) = false ∨ (seesB D P1 5 = true ∧ decide (P1 < D.length) = true) ∨ (seesB D P1 5 = false ∧ seesB D P1 4 = true ∧ decide (P1 < D.length) = true) := by
        rw [pfls, List.nil_append] at hleft
        rcases HR.out with rfl | ⟨r', rfl⟩ | ⟨r', rfl⟩
        · have := left_nil hleft
          exact .inl (decide_eq_false (by omega))
        · obtain ⟨d, -, -, -, hp⟩ := left_cons hleft
          exact .inr (.inr ⟨by rw [H6.out.seeing hleft]; rfl, by rw [H6.out.seeing hleft]; rfl, decide_eq_true hp⟩)
        · obtain ⟨d, -, -, -, hp⟩ := left_cons hleft
          exact .inr (.inl ⟨by rw [H6.out.seeing hleft]; rfl, decide_eq_true hp⟩)
      clear hleft
      have HCD := hide hcond
      clear hcond
      have e2 := HE.out
      rw [List.append_nil] at e2
      have POST : Hid (∀ (v : Value) (w' : World), PV base (fun k => w.heap.size ≤ k) w' (mkB l) v → Below wr.heap.size wr w' → X (.returned v) w') := fun v w' h1 h2 => by
        rw [← HX.out]
        refine ⟨v, rfl, h1, ?_, F6.out.trans (Fr.of_below h2)⟩
        rw [mkB_flat, e2, HPO.out]
        exact H6.out.kept h2
      by_cases hn : l1.length = 1
      · have n1 : ((l1.length : Int) == 1) = true := by rw [hn]; rfl
        have n2 : (l1.length : Int) = 1 := by omega
        have ONE : Hid (∀ W, Below wr.heap.size wr W → ∃ gg t u, q = some ⟨gg, 0, none⟩ ∧ gg < W.heap.size ∧ W.cell? ⟨gg, 0, none⟩ = some (.iface t u) ∧ PV base (fun k => w.heap.size ≤ k) W (mkB l) (.iface t u)) := fun W hW => by
          match l1, hn with
          | [x], _ =>
            obtain ⟨gg, cc, t, u, f1, f2, f3, f4⟩ := (R6.out.kept hW).one
            injection f1 with f1
            rw [e2]
            exact ⟨gg, t, u, f1, f2, f3, f4⟩
        rcases HCD.out with hc | ⟨s5, hc⟩ | ⟨s5, s4, hc⟩
        all_goals (
          try rw [s5] at S5
          try rw [s4] at S4
          have hc2 : decide ((P1 : Int) < (D.length : Int)) = decide (P1 < D.length) := by simp
          rw [hc] at hc2
          go_wp2
          refine wp_region_ext (by kernel_rfl) (by kernel_rfl) ?_
          repeat (go_big_quiet_step (first | exact rfl | (go_at_call 53; with_reducible exact ext_call (S5 _)) | (go_at_call 53; with_reducible exact ext_call (S4 _))))
          refine wpQuiet_nil ?_
          intro w5 hw5
          have B5 : Hid (Below wr.heap.size wr w5) := ext_of hw5
          clear hw5
          obtain ⟨gg, t5, u5, rfl, f2, f3, f4⟩ := ONE.out w5 B5.out
          have V5 := hide f4
          clear f4
          go_wp2
          exact POST.out _ _ V5.out B5.out)
      · have n1 : ((l1.length : Int) == 1) = false := by rw [beq_eq_false_iff_ne]; omega
        have ROW : Hid (∀ W, Below wr.heap.size wr W → PV base (fun k => w.heap.size ≤ k) W (mkB l) (.iface 127 (.agg #[.slice q l1.length c]))) := fun W hW => by
          have f := (R6.out.kept hW).row hbs
          rw [e2]
          unfold mkB
          split
          · simp at hn
          · exact f
        have HN := hide hn
        clear hn
        rcases HCD.out with hc | ⟨s5, hc⟩ | ⟨s5, s4, hc⟩
        all_goals (
          try rw [s5] at S5
          try rw [s4] at S4
          have hc2 : decide ((P1 : Int) < (D.length : Int)) = decide (P1 < D.length) := by simp
          rw [hc] at hc2
          go_wp2
          refine wp_region_ext (by kernel_rfl) (by kernel_rfl) ?_
          repeat (go_big_quiet_step (first | exact rfl | (go_at_call 53; with_reducible exact ext_call (S5 _)) | (go_at_call 53; with_reducible exact ext_call (S4 _))))
          refine wpQuiet_nil ?_
          intro w5 hw5
          have B5 : Hid (Below wr.heap.size wr w5) := ext_of hw5
          clear hw5
          go_wp2
          exact POST.out _ _ (ROW.out _ B5.out) B5.out)
    | cons x l2 =>
      have hxm := HL.out x (by rw [HE.out]; simp)
      have hxl : ∀ y ∈ l2, isItm y = true ∧ wf y := fun y hy => (HL.out y (by rw [HE.out]; simp [hy])).2
      rw [pfls, List.append_assoc] at hleft
      obtain ⟨s, t, e1, k4, k5, -⟩ := hd_itm x hxm.2.1 hxm.2.2
      have hleft' := hleft
      rw [e1, List.cons_append] at hleft'
      have s5 : seesB D P1 5 = false := by rw [H6.out.seeing hleft', k5]
      have s4 : seesB D P1 4 = false := by rw [H6.out.seeing hleft', k4]
      obtain ⟨d, -, -, -, hp⟩ := left_cons hleft'
      have hc : decide (P1 < D.length) = true := decide_eq_true hp
      have hc2 : decide ((P1 : Int) < (D.length : Int)) = true := decide_eq_true (by omega)
      rw [s5] at S5
      rw [s4] at S4
      have IT : Hid (∀ W, Below wr.heap.size wr W → Calls Tryz.prog 86 #[.pointer (some ⟨b, 0, none⟩)] W (PPost base W b tv D P1 (g + nop (pfls l1)) x)) := fun W hW => hxm.1 base b P1 _ W tv D _ (H6.out.kept hW) hleft (rest_itms hxl HR.out)
      have hll : l1.length ≤ 2000 := by
        have : ∀ m : List Ps, (∀ y ∈ m, isItm y = true ∧ wf y) → m.length ≤ (pfls m).length := by
          intro m
          induction m with
          | nil => intro _; simp
          | cons y m ih =>
            intro h
            obtain ⟨s, t, e1, -⟩ := hd_itm y (h y (List.mem_cons_self ..)).1 (h y (List.mem_cons_self ..)).2
            have := ih (fun z hz => h z (List.mem_cons_of_mem _ hz))
            rw [pfls, e1]
            simp
            omega
        have := this l1 (fun y hy => (HL.out y (by rw [HE.out]; simp [hy])).2)
        have := HPO.out
        omega
      have HXF := hide (show 0 < (pfl x).length by rw [e1]; simp)
      clear hleft hleft' s5 s4 e1 k4 k5 hxm hxl hp
      go_wp2
      refine wp_region_ext (by kernel_rfl) (by kernel_rfl) ?_
      repeat (go_big_quiet_step (first | exact rfl | (go_at_call 53; with_reducible exact ext_call (S5 _)) | (go_at_call 53; with_reducible exact ext_call (S4 _))))
      refine wpQuiet_nil ?_
      intro w5 hw5
      have B5 : Hid (Below wr.heap.size wr w5) := ext_of hw5
      clear hw5 S5 S4 c0 c1 hc hc2
      go_wp2_with first
        | (go_at_call 86; (with_reducible refine (IT.out _ B5.out).mono ?_); rintro e w6 ⟨v6, rfl, h1, h2, h3⟩; obtain ⟨T6, x6, rfl⟩ := h1.shape; have V6 := hide h1; have H7 := hide h2; have F7 := hide h3; have B7 : Hid (Below w6.heap.size w6 (w6.alloc (.cells #[.iface T6 x6] 58))) := (Below.refl _ _).alloc (Nat.le_refl _) _; have R7 := hide (((R6.out.kept B5.out).at (H6.out.kept B5.out) F7.out).kept B7.out); have N7 := hide (alloc_new w6 (.cells #[.iface T6 x6] 58)); clear h1 h2 h3)
        | (at_builtin; refine wpList_append_own_at _ rfl _ _ 115 rfl w.heap.size 58 t0 .nilIface 1 16 und_parts hi hz0 hz1 hz2 rfl (by decide) (.slice q l1.length c) l1.length vs rfl R7.out.own ⟨w6.heap.size, 0, none⟩ 1 1 [.iface T6 x6] rfl rfl (fun j u hj => by (match j, hj with | 0, hj => (simp at hj; subst hj; exact cell_row N7.out (i := 0) rfl))) (fun u hu => by simp at hu; subst hu; rfl) (by unfold maxLen; omega) (by omega) (by have := B7.out.size; have := F7.out.size; have := B5.out.size; have := F6.out.size; omega) ?_; intro v' w8 hown' hgrow _ hblk; obtain ⟨q8, c8, rfl⟩ := ownsRow_shape hown'; have R8 := hide ((R6.out.kept B5.out).snoc (H6.out.kept B5.out) (by have := B5.out.size; have := F6.out.size; omega) F7.out rfl V6.out B7.out hown' hgrow hblk); have F8 : Hid (Fr (fun k => (Value.slice q l1.length c).ownBlock = some k) (w6.alloc (.cells #[.iface T6 x6] 58)) w8) := Fr.grown (Fr.refl _ _) hgrow (fun k hk => hk); clear hown' hgrow hblk)
      go_roundw
      case rel =>
        refine ⟨l1 ++ [x], l2, _, by rw [HE.out]; simp, R8.out, ?_, ?_⟩
        · have e4 : p + (pfls (l1 ++ [x])).length = P1 + (pfl x).length := by rw [pfls_append, pfls_one, List.length_append, ← HPO.out]; omega
          have e5 : g + nop (pfls (l1 ++ [x])) = g + nop (pfls l1) + nop (pfl x) := by rw [pfls_append, pfls_one, nop_append]; omega
          rw [e4, e5]
          exact (H7.out.kept B7.out).grow F8.out (fun k hk => (ownsRow_at R7.out.own hk).2.2)
        · exact (((F6.out.trans (Fr.of_below B5.out)).trans F7.out).trans (Fr.of_below B7.out)).over F8.out (fun k hk => .inr (ownsRow_at R7.out.own hk).1)
      case measure =>
        have m1 := ((H7.out.kept B7.out).grow F8.out (fun k hk => (ownsRow_at R7.out.own hk).2.2)).atP
        have m2 := hat.out
        have m3 := H7.out.le
        have m4 := HXF.out
        omega
end Go.Proofs.YtpfdapnfkghgkaaGreatDoor
namespace Go.Proofs.YtpfdapnfkghgkaaGreatDoor
open Go Go.RowKit Go.Shelf

/-- What a range over a tree is handed. -/
def encN (x : El) : Array Value := #[.int .i64 ((x.1.length : Int) + 1), .agg #[.int .i64 x.2.f.k, .int .i64 x.2.f.n, .int .i64 x.2.f.mn, .int .i64 x.2.f.mx, .slice x.2.f.rq x.2.f.rs.length x.2.f.rc, .slice x.2.f.kq x.2.f.kl x.2.f.kc]]
theorem pps_append (par : Tr) (p : Way) (a b : List Tr) : ∀ i, pps par p i (a ++ b) = pps par p i a ++ pps par p (i + a.length) b := by
  induction a with
  | nil => intro i; rw [pps_nil]; rfl
  | cons x a ih => intro i; rw [List.cons_append, pps_cons, pps_cons, ih (i + 1), List.append_assoc, List.length_cons, show i + 1 + a.length = i + (a.length + 1) by omega]
theorem pps_take {par : Tr} {p : Way} {ks : List Tr} {j : Nat} {u : Tr} (h : ks[j]? = some u) : pps par p 0 (ks.take (j + 1)) = pps par p 0 (ks.take j) ++ pp ((par, j) :: p) u := by
  have hj := (List.getElem?_eq_some_iff.1 h).1
  rw [List.take_add_one, h, Option.toList_some, pps_append, pps_cons, pps_nil, List.append_nil, List.length_take, Nat.zero_add, Nat.min_eq_left (by omega)]
theorem pps_pre {par : Tr} {p : Way} {ks : List Tr} (j : Nat) : pps par p 0 (ks.take j) <+: pps par p 0 ks := by
  have := pps_append par p (ks.take j) (ks.drop j) 0
  rw [List.take_append_drop] at this
  rw [this]
  exact List.prefix_append _ _
/-- Blocks that a body leaves: those of the tree, and those that were made since the range began. -/
def Nn (b0 b1 : Nat) : Nat → Prop := fun k => k < b0 ∨ b1 ≤ k

theorem pre_cons {L pre : List El} {p : Way} {t : Tr} {r : List El} (h : pre ++ pp p t <+: L) (hr : r <+: pps t p 0 t.ks) : pre ++ (p, t) :: r <+: L := by
  refine List.IsPrefix.trans ?_ h
  rw [pp_eq]
  exact (List.prefix_append_right_inj _).2 (List.cons_prefix_cons.2 ⟨rfl, hr⟩)

/-- What descend answers. -/
def DescPost (w0 : World) (b1 : Nat) (L : List El) (J Jx : List El → World → Prop) (xs : List El) (e : Ending) (V' : World) : Prop :=
  ∃ r : Bool, e = .returned (.bool r) ∧ ((r = true ∧ J xs V' ∧ CK w0 V' ∧ b1 ≤ V'.heap.size) ∨ (r = false ∧ ∃ pre', pre' <+: L ∧ Jx pre' V'))
set_option maxRecDepth 100000 in
set_option maxHeartbeats 4000000 in
theorem desc_c {w0 : World} {L : List El} {l b1 : Nat} {J Jx : List El → World → Prop} {B : Nat} (hJ : OwnFrom B J) (n : Nat) (hL : ∀ pre V, J pre V → pre.length ≤ 1000000)
    (hY : ∀ pre x V, J pre V → pre ++ [x] <+: L → YieldAt Fence.wide (n - 1) Tryz.prog l (encN x) V fun e V' => KeepsFrom B V V' ∧ ((e = .returned (.bool true) ∧ J (pre ++ [x]) V' ∧ CKeep (Nn w0.heap.size b1) V V') ∨ (e = .returned (.bool false) ∧ Jx (pre ++ [x]) V'))) :
    ∀ (m : Nat) (t : Tr) (p : Way) (pre : List El) (V : World), t.sz ≤ m → pre ++ pp p t <+: L → TA w0 t → CK w0 V → J pre V → p.length ≤ pre.length → b1 ≤ V.heap.size →
      CallsIn Fence.wide n Tryz.prog 58 #[.agg #[.int .i64 t.f.k, .int .i64 t.f.n, .int .i64 t.f.mn, .int .i64 t.f.mx, .slice t.f.rq t.f.rs.length t.f.rc, .slice t.f.kq t.f.kl t.f.kc], .int .i64 ((p.length : Int) + 1), .func (.yield l) #[] #[]] V (DescPost w0 b1 L J Jx (pre ++ pp p t)) := by
  intro m
  induction m with
  | zero => intro t p pre V hm; exact absurd (sz_pos t) (by omega)
  | succ m ih =>
    intro t p pre V hm hpre hta hck hj hpl hb1
    have hfn : ∀ f, Fence.wide.fn f := fun _ => trivial
    have IH := hide ih
    have HL := hide hL
    have HPRE := hide hpre
    have HTA := hide hta
    have HM := hide hm
    have hlen := hL pre V hj
    obtain ⟨q, cap, hkv, hk1, hk2, hk3⟩ := hta.node.k.slice
    injection hkv with hkq hkl hkc
    subst hkq
    have HKL := hide hkl
    have HK3 := hide hk3
    have hkm : t.ks.length ≤ 9223372036854775807 := hk1
    clear hkl hkc hk3 hk1
    have B1 : Hid (Below V.heap.size V (V.alloc (.cells #[.int .i64 t.f.k, .int .i64 t.f.n, .int .i64 t.f.mn, .int .i64 t.f.mx, .slice t.f.rq t.f.rs.length t.f.rc, .slice t.f.kq t.f.kl t.f.kc] 28))) := (Below.refl _ _).alloc (Nat.le_refl _) _
    have N1 : Hid (BoxN (V.alloc (.cells #[.int .i64 t.f.k, .int .i64 t.f.n, .int .i64 t.f.mn, .int .i64 t.f.mx, .slice t.f.rq t.f.rs.length t.f.rc, .slice t.f.kq t.f.kl t.f.kc] 28)) V.heap.size t.f) := alloc_new V _
    have J1 : Hid (J pre (V.alloc (.cells #[.int .i64 t.f.k, .int .i64 t.f.n, .int .i64 t.f.mn, .int .i64 t.f.mx, .slice t.f.rq t.f.rs.length t.f.rc, .slice t.f.kq t.f.kl t.f.kc] 28))) := hJ.alloc _ hj
    have C1 : Hid (CK w0 (V.alloc (.cells #[.int .i64 t.f.k, .int .i64 t.f.n, .int .i64 t.f.mn, .int .i64 t.f.mx, .slice t.f.rq t.f.rs.length t.f.rc, .slice t.f.kq t.f.kl t.f.kc] 28))) := hck.trans (CK.of_below B1.out)
    have Hb1 := hide hb1
    clear ih hL hpre hta hm hj hck hb1
    refine callsIn_of_wp Tryz.func58 rfl trivial ?_ rfl
    simp only [Tryz.ntmps58, List.size_toArray, List.length_cons, List.length_nil, Nat.reduceAdd, Nat.reduceSub, Array.replicate_succ, Array.replicate_zero, List.push_toArray, List.append_toArray, List.nil_append, List.cons_append]
    have cs := N1.out.six
    obtain ⟨fn, tmps, assign, body, hy, hR⟩ := hY pre (p, t) _ J1.out (pre_cons HPRE.out List.nil_prefix)
    simp only [encN] at hy
    obtain ⟨c0, c1, c2, c3, c4, c5⟩ := cs
    simp only [Nat.zero_add] at c1 c2 c3 c4 c5
    gi_wp2
    refine ⟨(fun z => by cases z), hR.mono ?_⟩
    rintro e W3 ⟨-, (⟨rfl, hJ3, hk3⟩ | ⟨rfl, hJx3⟩)⟩
    · have cc5 : W3.cell? ⟨V.heap.size, 5, none⟩ = some (.slice t.f.kq t.f.kl t.f.kc) := cell_ck hk3 (p := ⟨V.heap.size, 5, none⟩) (.inr Hb1.out) c5
      have J3 := hide hJ3
      have C3 : Hid (CK w0 W3) := C1.out.step ⟨hk3.size, fun i cur ty fr hi hc => hk3.same i cur ty fr (.inl hi) hc⟩
      have S3 : Hid (b1 ≤ W3.heap.size) := Nat.le_trans Hb1.out (Nat.le_trans B1.out.size hk3.size)
      rw [HKL.out] at cc5
      clear hJ3 hk3 hy hR c0 c1 c2 c3 c4 c5 J1 C1 N1 B1
      gi_wp2
      gi_loopw [17] (fun i wr => ∃ j : Nat, j ≤ t.ks.length ∧ i = .int .i64 (j : Int) ∧ J (pre ++ (p, t) :: pps t p 0 (t.ks.take j)) wr ∧ CK w0 wr ∧ b1 ≤ wr.heap.size) (fun i _ => t.ks.length - (intOf i).toNat)
      case atStart => exact ⟨0, Nat.zero_le _, rfl, by rw [List.take_zero, pps_nil]; exact J3.out, C3.out, S3.out⟩
      case round =>
        clear J3 C3 S3 cc5
        obtain ⟨j, hj, rfl, hj1, hj2, hj3⟩ := hrel
        have HJ := hide hj1
        have HC := hide hj2
        have HS := hide hj3
        clear hj1 hj2 hj3
        by_cases hjl : j < t.ks.length
        · have e0 : (j : Int) < (t.ks.length : Int) := by omega
          obtain ⟨u, hu⟩ : ∃ u, t.ks[j]? = some u := ⟨_, List.getElem?_eq_getElem hjl⟩
          obtain ⟨g, off, hq, hg, hsix⟩ := HK3.out j u hu
          rw [hq]
          have HU := hide hu
          have hin : u ∈ t.ks := List.mem_of_getElem? hu
          obtain ⟨c0, c1, c2, c3, c4, c5⟩ := hsix.ck HC.out hg
          have B4 : Hid (Below wr.heap.size wr (wr.alloc (.cells #[.int .i64 u.f.k, .int .i64 u.f.n, .int .i64 u.f.mn, .int .i64 u.f.mx, .slice u.f.rq u.f.rs.length u.f.rc, .slice u.f.kq u.f.kl u.f.kc] 28))) := (Below.refl _ _).alloc (Nat.le_refl _) _
          have N4 : Hid (BoxN (wr.alloc (.cells #[.int .i64 u.f.k, .int .i64 u.f.n, .int .i64 u.f.mn, .int .i64 u.f.mx, .slice u.f.rq u.f.rs.length u.f.rc, .slice u.f.kq u.f.kl u.f.kc] 28)) wr.heap.size u.f) := alloc_new wr _
          obtain ⟨d0, d1, d2, d3, d4, d5⟩ := N4.out.six
          simp only [Nat.zero_add] at d1 d2 d3 d4 d5
          have hj1 := HL.out _ _ HJ.out
          have IHU := hide (IH.out u ((t, j) :: p) (pre ++ (p, t) :: pps t p 0 (t.ks.take j)) (wr.alloc (.cells #[.int .i64 u.f.k, .int .i64 u.f.n, .int .i64 u.f.mn, .int .i64 u.f.mx, .slice u.f.rq u.f.rs.length u.f.rc, .slice u.f.kq u.f.kl u.f.kc] 28)) (by have := sz_kid hin; have := HM.out; omega)
            (by rw [List.append_assoc, List.cons_append, ← pps_take hu]; exact pre_cons HPRE.out (pps_pre _)) (HTA.out.kid hin) (HC.out.trans (CK.of_below B4.out)) (hJ.alloc _ HJ.out) (by simp; omega) (Nat.le_trans HS.out B4.out.size))
          have e1 : ((((t, j) :: p).length : Nat) : Int) + 1 = ((p.length : Int) + 1) + 1 := by simp
          rw [e1] at IHU
          clear hsix hu
          gi_wp2
          refine ⟨(fun z => by cases z), (callsIn_wide.2 (callsIn_wide.1 IHU.out)).mono ?_⟩
          rintro e W5 ⟨r5, rfl, h5⟩
          have H5 := hide h5
          clear h5 c0 c1 c2 c3 c4 c5 d0 d1 d2 d3 d4 d5 IHU N4 B4
          cases r5 with
          | true =>
            rcases H5.out with ⟨-, h51, h52, h53⟩ | ⟨z, -⟩
            · have HN : Hid (J (pre ++ (p, t) :: pps t p 0 (t.ks.take (j + 1))) W5) := (by rw [pps_take HU.out, ← List.cons_append, ← List.append_assoc]; exact h51)
              have H52 := hide h52
              have H53 := hide h53
              clear h51 h52 h53 H5
              gi_wp2
              go_roundw
              case rel => exact ⟨j + 1, by omega, by go_num, HN.out, H52.out, H53.out⟩
              case measure => simp only [intOf]; omega
            · cases z
          | false =>
            rcases H5.out with ⟨z, -⟩ | ⟨-, pre', h51, h52⟩
            · cases z
            · have HN := hide (⟨pre', h51, h52⟩ : ∃ pre', pre' <+: L ∧ Jx pre' W5)
              clear H5 h51 h52
              gi_wp2
              go_ret
              exact ⟨false, rfl, .inr ⟨rfl, HN.out⟩⟩
        · have e0 : ¬ (j : Int) < (t.ks.length : Int) := by omega
          have HN : Hid (J (pre ++ pp p t) wr) := (by rw [pp_eq, show t.ks = t.ks.take j by rw [List.take_of_length_le (by omega)]]; exact HJ.out)
          gi_wp2
          go_ret
          exact ⟨true, rfl, .inl ⟨rfl, HN.out, HC.out, HS.out⟩⟩
    · have HN := hide hJx3
      clear hJx3
      gi_wp2
      go_ret
      exact ⟨false, rfl, .inr ⟨rfl, _, pre_cons HPRE.out List.nil_prefix, HN.out⟩⟩

set_option maxHeartbeats 1000000 in
theorem nodes_c (f : Fl) (w : World) :
    Calls Tryz.prog 28 #[.agg #[.int .i64 f.k, .int .i64 f.n, .int .i64 f.mn, .int .i64 f.mx, .slice f.rq f.rs.length f.rc, .slice f.kq f.kl f.kc]] w fun e w' => e = .returned (.func (.func 57) #[] #[.pointer (some ⟨w.heap.size, 0, none⟩)]) ∧ w' = w.alloc (.cells #[.int .i64 f.k, .int .i64 f.n, .int .i64 f.mn, .int .i64 f.mx, .slice f.rq f.rs.length f.rc, .slice f.kq f.kl f.kc] 28) := by
  go_enter Tryz.func28, Tryz.ntmps28
  go_wp2
  go_ret
  exact ⟨rfl, rfl⟩

/-- What a round is told. -/
def ToldN (t : Tr) (pre : List El) (x : El) (_ : World) : Prop := pre ++ [x] <+: pp [] t

set_option maxRecDepth 100000 in
set_option maxHeartbeats 2000000 in
theorem nodes_tells (n : Nat) {w0 w : World} {b : Nat} {t : Tr} (hB : BoxN w b t.f) (hta : TA w0 t) (hck : CK w0 w) :
    Tells n Tryz.prog 57 #[.pointer (some ⟨b, 0, none⟩)] encN (Nn w0.heap.size w.heap.size) (ToldN t) (fun xs => xs = pp [] t) (fun pre => pre <+: pp [] t) w := by
  intro l J Jx V hV hJ hJx hb hY h0
  have hfn : ∀ f, Fence.wide.fn f := fun _ => trivial
  have D := hide (desc_c (w0 := w0) (L := pp [] t) (b1 := w.heap.size) (Jx := Jx) hJ n hb (fun pre x V => hY pre x V) t.sz t [] [] V (Nat.le_refl _) (by rw [List.nil_append]; exact List.prefix_refl _) hta (hck.step ⟨hV.size, fun k _ _ _ _ hc => (hV.block k (lt_of_heap hc)).trans hc⟩) h0 (Nat.le_refl _) hV.size)
  have HB : Hid (BoxN V b t.f) := (hV.block _ (lt_of_heap hB)).trans hB
  obtain ⟨c0, c1, c2, c3, c4, c5⟩ := HB.out.six
  simp only [Nat.zero_add] at c1 c2 c3 c4 c5
  clear hJ hJx hb hY h0 hB hta hck hV
  refine callsIn_of_wp Tryz.func57 rfl trivial ?_ rfl
  simp only [Tryz.ntmps57, List.size_toArray, List.length_cons, List.length_nil, Nat.reduceAdd, Nat.reduceSub, Array.replicate_succ, Array.replicate_zero, List.push_toArray, List.append_toArray, List.nil_append, List.cons_append]
  gi_wp2
  refine ⟨(fun z => by cases z), (callsIn_wide.2 (callsIn_wide.1 D.out)).mono ?_⟩
  rintro e W5 ⟨r5, rfl, h5⟩
  have H5 := hide h5
  clear h5 D
  gi_wp2
  go_end0
  refine ⟨⟨_, rfl⟩, ?_⟩
  rcases H5.out with ⟨-, h51, -, -⟩ | ⟨-, pre', h51, h52⟩
  · exact .inl ⟨_, rfl, by rw [List.nil_append] at h51; exact h51⟩
  · exact .inr ⟨pre', h51, h52⟩

theorem ck_row {w0 W W' : World} {B : Nat} {row : Option Nat} (h : CK w0 W) (hg : W.grownBy W' row) (hr : ∀ r, row = some r → B ≤ r ∧ ∃ o : Obj, W.heap[r]? = some o ∧ o.isCells = false) : CK w0 W' :=
  ⟨Nat.le_trans h.size hg.size, fun k cur t fr hk hc => cells_kept hg hr (h.same k cur t fr hk hc)⟩
/-- The frame of a round over nodes. -/
def roundN (a : Act) (q d : Nat) (x : El) : Act := { tmps := (a.tmps.setIfInBounds q (.int .i64 ((x.1.length : Int) + 1))).setIfInBounds d (.agg #[.int .i64 x.2.f.k, .int .i64 x.2.f.n, .int .i64 x.2.f.mn, .int .i64 x.2.f.mx, .slice x.2.f.rq x.2.f.rs.length x.2.f.rc, .slice x.2.f.kq x.2.f.kl x.2.f.kc]), defers := [] }
def behindN (a : Act) (D : Nat) : Act := { a with defers := { target := .collected D, args := #[] } :: a.defers }
/-- A range over a tree's nodes. -/
theorem rangeN {g : Operand} {ps : Array Tmp} {assign body : Code} {Q : Exit → Act → World → Prop} {a : Act} {w : World} {n : Nat} (hn : 1 ≤ n) (q d : Nat) (b : Nat) {w0 : World} {t : Tr}
    (hg : a.eval g = .func (.func 57) #[] #[.pointer (some ⟨b, 0, none⟩)]) (hps : ps = #[q, d]) (hB : BoxN w b t.f) (hta : TA w0 t) (hck : CK w0 w)
    (I : List El → World → Prop) (Ix : Code → List El → World → Prop) (hI : OwnFrom w.heap.size I) (hIx : ∀ c, OwnFrom w.heap.size (Ix c)) (hbd : ∀ pre W, I pre W → pre.length ≤ 1000000) (h0 : I [] w)
    (Ax : Act → El → Act → World → Prop) (hAx : ∀ y x a', OwnFrom w.heap.size (fun (_ : Unit) W => Ax y x a' W))
    (hassign : ∀ (l : Nat) (pre : List El) (x : El) (W : World) (K : Act → World → Prop), I pre W → CK w0 W → w.heap.size ≤ W.heap.size → ToldN t pre x W → (∀ a' W', Below W.heap.size W W' → Ax (roundN a q d x) x a' W' → K a' W') →
      assign.wpIn (Fence.wide.inRound l) (n - 1 - 1) Tryz.prog (Exit.then K (fun _ _ _ => False)) (roundN a q d x) W)
    (hbody : ∀ (l : Nat) (pre : List El) (x : El) (a' : Act) (V : World), I pre V → CK w0 V → w.heap.size ≤ V.heap.size → ToldN t pre x V → Ax (roundN a q d x) x a' V → body.wpIn (Fence.wide.inRound l) (n - 1 - 1) Tryz.prog (ownPostG w.heap.size (CKeep (Nn w0.heap.size w.heap.size)) I Ix (pre ++ [x]) V) a' V)
    (hdone : ∀ (D : Nat) (V : World), w.heap.size ≤ D → I (pp [] t) V → CK w0 V → V.heap[D]? = some (.deferred (some [])) → Q .normal (behindN a D) V)
    (hstop : ∀ (D : Nat) (c : Code) (pre : List El) (V : World), w.heap.size ≤ D → pre <+: pp [] t → Ix c pre V → V.heap[D]? = some (.deferred (some [])) → c.wpIn Fence.wide n Tryz.prog Q (behindN a D) V) :
    (Code.rangeFunc g ps assign body).wpIn Fence.wide n Tryz.prog Q a w := by
  subst hps
  refine range_told (α := El) hn (gf := 57) hg (enters_of Tryz.func57 (by kernel_rfl) rfl) (encs := encN) (fun _ => rfl)
    (nodes_tells (n - 1) hB hta hck) (fun pre V => I pre V ∧ CK w0 V ∧ w.heap.size ≤ V.heap.size) Ix ?_ hIx (fun pre x _ _ _ _ h _ _ => h) (fun pre W h => hbd pre W h.1) ⟨h0, hck, Nat.le_refl _⟩ (fun x => Ax (roundN a q d x) x) (fun x => hAx _ x) ?_ ?_ ?_ hstop
  · intro pre A A' row hi hg hr
    exact ⟨hI pre A A' row hi.1 hg hr, ck_row hi.2.1 hg hr, Nat.le_trans hi.2.2 hg.size⟩
  · intro l pre x V K hi ht hK
    have := hassign l pre x V K hi.1 hi.2.1 hi.2.2 ht hK
    simpa [encN, roundN] using this
  · intro l pre x a' V hi ht hax
    refine wpIn_mono (hbody l pre x a' V hi.1 hi.2.1 hi.2.2 ht hax) fun e a3 W3 hp => ?_
    cases e with
    | normal => exact ⟨hp.1, hp.2.1, hp.2.2, hi.2.1.step ⟨hp.2.1.size, fun k cur ty fr hk hc => hp.2.1.same k cur ty fr (.inl hk) hc⟩, Nat.le_trans hi.2.2 hp.1.size⟩
    | ret => exact hp
    | exit id => exact hp
    | goto t => exact hp
    | panic ch => exact hp
    | outgrown => exact hp
  · rintro D xs V hD rfl hi hK
    exact hdone D V hD hi.1 hi.2.1 hK
/-- A round that takes what it is handed as it is. -/
def Ax0 (y : Act) (_ : El) (a' : Act) (_ : World) : Prop := a' = y
theorem ax0_own (B : Nat) (y : Act) (x : El) (a' : Act) : OwnFrom B (fun (_ : Unit) W => Ax0 y x a' W) := fun _ _ _ _ h _ _ => h
end Go.Proofs.YtpfdapnfkghgkaaGreatDoor
namespace Go.Proofs.YtpfdapnfkghgkaaGreatDoor
open Go Go.RowKit Go.Shelf
attribute [local go_sem] Oper.semAt_some

/-- A box that holds a number. -/
def BoxI (W : World) (b : Nat) (x : Int) : Prop := W.heap[b]? = some (.cells #[.int .i64 x] 3 (0, 0))
theorem BoxI.cell {W : World} {b : Nat} {x : Int} (h : BoxI W b x) : W.cell? ⟨b, 0, none⟩ = some (.int .i64 x) := cell_row h (i := 0) rfl
theorem BoxI.row {W W' : World} {b B : Nat} {x : Int} {row : Option Nat} (h : BoxI W b x) (hg : W.grownBy W' row) (hr : ∀ r, row = some r → B ≤ r ∧ ∃ o : Obj, W.heap[r]? = some o ∧ o.isCells = false) : BoxI W' b x := cells_kept hg hr h
theorem BoxI.set {W : World} {b : Nat} {x : Int} (h : BoxI W b x) (y : Int) : BoxI (W.setCell ⟨b, 0, none⟩ (.int .i64 y)) b y := heap_set_in h 0 _
theorem BoxI.fr {W : World} {b : Nat} (v : Value) : Fr (fun z => z = b) W (W.setCell ⟨b, 0, none⟩ v) := (Fr.refl (fun z => z = b) W).setCell (p := ⟨b, 0, none⟩) rfl _
/-- The answer of Count. -/
def cntT (t : Tr) : Nat := min (pp [] t).length 2001
theorem bel_grown {n B : Nat} {w W W' : World} {row : Option Nat} (h : Below n w W) (hn : n ≤ w.heap.size) (hB : n ≤ B) (hg : W.grownBy W' row) (hr : ∀ r, row = some r → B ≤ r ∧ ∃ o : Obj, W.heap[r]? = some o ∧ o.isCells = false) : Below n w W' :=
  h.trans ⟨hg.os, hg.tape, hg.output, hg.size, fun k hk => hg.block k (by have := h.size; omega) (fun e => by have := (hr k e.symm).1; omega)⟩
theorem bel_put {n : Nat} {w W : World} {D : Nat} (o : Obj) (h : Below n w W) (hD : n ≤ D) : Below n w (W.putObj D o) :=
  h.trans ⟨rfl, rfl, rfl, (grownBy_putObj' W D o).size, fun k hk => World.putObj_heap_other (by omega)⟩
set_option maxRecDepth 100000 in
set_option maxHeartbeats 4000000 in
theorem cnt_in (n : Nat) (hn : 3 ≤ n) {w : World} {t : Tr} (hta : TA w t) :
    CallsIn Fence.wide n Tryz.prog 64 #[.agg #[.int .i64 t.f.k, .int .i64 t.f.n, .int .i64 t.f.mn, .int .i64 t.f.mx, .slice t.f.rq t.f.rs.length t.f.rc, .slice t.f.kq t.f.kl t.f.kc]] w fun e w' => e = .returned (.int .i64 (cntT t : Int)) ∧ Below w.heap.size w w' := by
  have hfn : ∀ f, Fence.wide.fn f := fun _ => trivial
  refine callsIn_of_wp_marks Tryz.func64 rfl trivial ?_ rfl
  simp only [Tryz.ntmps64, List.size_toArray, List.length_cons, List.length_nil, Nat.reduceAdd, Nat.reduceSub, Array.replicate_succ, Array.replicate_zero, List.push_toArray, List.append_toArray, List.nil_append, List.cons_append]
  refine wpIn_wide.2 ?_
  have HTA := hide hta
  have B1 : Hid (Below w.heap.size w ((w.alloc (.cells #[.int .i64 t.f.k, .int .i64 t.f.n, .int .i64 t.f.mn, .int .i64 t.f.mx, .slice t.f.rq t.f.rs.length t.f.rc, .slice t.f.kq t.f.kl t.f.kc] 28)).alloc (.cells #[.int .i64 0] 3))) := ((Below.refl _ _).alloc (Nat.le_refl _) _).alloc (by simp) _
  have N1 : Hid (BoxN ((w.alloc (.cells #[.int .i64 t.f.k, .int .i64 t.f.n, .int .i64 t.f.mn, .int .i64 t.f.mx, .slice t.f.rq t.f.rs.length t.f.rc, .slice t.f.kq t.f.kl t.f.kc] 28)).alloc (.cells #[.int .i64 0] 3)) w.heap.size t.f) := (Below.heap_alloc _ _ _ (by simp)).trans (alloc_new w _)
  have N2 : Hid (BoxI ((w.alloc (.cells #[.int .i64 t.f.k, .int .i64 t.f.n, .int .i64 t.f.mn, .int .i64 t.f.mx, .slice t.f.rq t.f.rs.length t.f.rc, .slice t.f.kq t.f.kl t.f.kc] 28)).alloc (.cells #[.int .i64 0] 3)) (w.heap.size + 1) 0) := (by
    have := alloc_new (w.alloc (.cells #[.int .i64 t.f.k, .int .i64 t.f.n, .int .i64 t.f.mn, .int .i64 t.f.mx, .slice t.f.rq t.f.rs.length t.f.rc, .slice t.f.kq t.f.kl t.f.kc] 28)) (.cells #[.int .i64 0] 3)
    rwa [World.size_alloc] at this)
  obtain ⟨c0, c1, c2, c3, c4, c5⟩ := N1.out.six
  simp only [Nat.zero_add] at c1 c2 c3 c4 c5
  go_wp2_with (go_at_call 28; (with_reducible refine (nodes_c _ _).mono ?_); rintro e w3 ⟨rfl, rfl⟩)
  have N3 : BoxN (((w.alloc (.cells #[.int .i64 t.f.k, .int .i64 t.f.n, .int .i64 t.f.mn, .int .i64 t.f.mx, .slice t.f.rq t.f.rs.length t.f.rc, .slice t.f.kq t.f.kl t.f.kc] 28)).alloc (.cells #[.int .i64 0] 3)).alloc (.cells #[.int .i64 t.f.k, .int .i64 t.f.n, .int .i64 t.f.mn, .int .i64 t.f.mx, .slice t.f.rq t.f.rs.length t.f.rc, .slice t.f.kq t.f.kl t.f.kc] 28)) (w.heap.size + 1 + 1) t.f := (by
    have := alloc_new ((w.alloc (.cells #[.int .i64 t.f.k, .int .i64 t.f.n, .int .i64 t.f.mn, .int .i64 t.f.mx, .slice t.f.rq t.f.rs.length t.f.rc, .slice t.f.kq t.f.kl t.f.kc] 28)).alloc (.cells #[.int .i64 0] 3)) (.cells #[.int .i64 t.f.k, .int .i64 t.f.n, .int .i64 t.f.mn, .int .i64 t.f.mx, .slice t.f.rq t.f.rs.length t.f.rc, .slice t.f.kq t.f.kl t.f.kc] 28)
    rwa [World.size_alloc, World.size_alloc] at this)
  have I3 : BoxI (((w.alloc (.cells #[.int .i64 t.f.k, .int .i64 t.f.n, .int .i64 t.f.mn, .int .i64 t.f.mx, .slice t.f.rq t.f.rs.length t.f.rc, .slice t.f.kq t.f.kl t.f.kc] 28)).alloc (.cells #[.int .i64 0] 3)).alloc (.cells #[.int .i64 t.f.k, .int .i64 t.f.n, .int .i64 t.f.mn, .int .i64 t.f.mx, .slice t.f.rq t.f.rs.length t.f.rc, .slice t.f.kq t.f.kl t.f.kc] 28)) (w.heap.size + 1) 0 := (Below.heap_alloc _ _ _ (by simp)).trans N2.out
  have B3 : Below w.heap.size w (((w.alloc (.cells #[.int .i64 t.f.k, .int .i64 t.f.n, .int .i64 t.f.mn, .int .i64 t.f.mx, .slice t.f.rq t.f.rs.length t.f.rc, .slice t.f.kq t.f.kl t.f.kc] 28)).alloc (.cells #[.int .i64 0] 3)).alloc (.cells #[.int .i64 t.f.k, .int .i64 t.f.n, .int .i64 t.f.mn, .int .i64 t.f.mx, .slice t.f.rq t.f.rs.length t.f.rc, .slice t.f.kq t.f.kl t.f.kc] 28)) := B1.out.alloc (by simp; omega) _
  generalize (((w.alloc (.cells #[.int .i64 t.f.k, .int .i64 t.f.n, .int .i64 t.f.mn, .int .i64 t.f.mx, .slice t.f.rq t.f.rs.length t.f.rc, .slice t.f.kq t.f.kl t.f.kc] 28)).alloc (.cells #[.int .i64 0] 3)).alloc (.cells #[.int .i64 t.f.k, .int .i64 t.f.n, .int .i64 t.f.mn, .int .i64 t.f.mx, .slice t.f.rq t.f.rs.length t.f.rc, .slice t.f.kq t.f.kl t.f.kc] 28)) = w4 at N3 I3 B3 ⊢
  have L3 := lt_of_heap N3
  have L4 := lt_of_heap I3
  obtain ⟨bi, hbi⟩ : ∃ bi, w.heap.size + 1 = bi := ⟨_, rfl⟩
  rw [hbi] at I3 N3 L3 L4 ⊢
  obtain ⟨bn, hbn⟩ : ∃ bn, bi + 1 = bn := ⟨_, rfl⟩
  rw [hbn] at N3 L3 ⊢
  have hwi : w.heap.size ≤ bi := by omega
  clear N1 N2 B1 c0 c1 c2 c3 c4 c5 hbi hbn
  refine (wpIn_wide (n := n)).1 ?_
  refine rangeN (by omega) 6 7 bn rfl rfl N3 HTA.out (CK.of_below B3) (fun pre V => BoxI V bi (pre.length : Int) ∧ pre.length ≤ 2000 ∧ Below w.heap.size w V) (fun c pre V => c = .exit 0 ∧ BoxI V bi 2001 ∧ pre.length = 2001 ∧ Below w.heap.size w V)
    ?_ ?_ (fun pre W h => by omega) ⟨I3, by simp, B3⟩ Ax0 (ax0_own _) ?_ ?_ ?_ ?_
  · rintro pre A A' row ⟨h1, h2, h3⟩ hg hr
    exact ⟨h1.row hg hr, h2, bel_grown h3 (Nat.le_refl _) B3.size hg hr⟩
  · rintro c pre A A' row ⟨h0, h1, h2, h3⟩ hg hr
    exact ⟨h0, h1.row hg hr, h2, bel_grown h3 (Nat.le_refl _) B3.size hg hr⟩
  · intro l pre x V K _ _ _ _ hK
    gi_wp2
    exact hK _ _ (Below.refl _ _) rfl
  · rintro l pre x a' V ⟨h1, h2, h3⟩ hck hsz ht rfl
    have H1 := hide h1
    have H3 := hide h3
    have k0 := h1.cell
    have fz := frz_row h1 0
    have HS := hide hsz
    clear h1 h3 hck ht hsz
    have F1 : Hid (Fr (fun z => z = bi) V (V.setCell ⟨bi, 0, none⟩ (.int .i64 ((pre.length : Int) + 1)))) := BoxI.fr _
    have X1 : Hid (BoxI (V.setCell ⟨bi, 0, none⟩ (.int .i64 ((pre.length : Int) + 1))) bi ((pre.length : Int) + 1)) := H1.out.set _
    have HP : Hid (KeepsFrom w4.heap.size V (V.setCell ⟨bi, 0, none⟩ (.int .i64 ((pre.length : Int) + 1))) ∧ CKeep (Nn w.heap.size w4.heap.size) V (V.setCell ⟨bi, 0, none⟩ (.int .i64 ((pre.length : Int) + 1))) ∧ Below w.heap.size w (V.setCell ⟨bi, 0, none⟩ (.int .i64 ((pre.length : Int) + 1)))) :=
      ⟨F1.out.keepsFrom (fun k hk => by omega), F1.out.ckeep (fun k hk => by rintro (z | z) <;> omega), chainF H3.out F1.out (Nat.le_refl _) (fun k e => by omega)⟩
    have k1 := X1.out.cell
    simp only [roundN]
    by_cases hlt : 2000 ≤ pre.length
    · have e1 : (2000 : Int) < (pre.length : Int) + 1 := by omega
      gi_wp2
      refine ⟨HP.out.1, rfl, by have := X1.out; rwa [show (pre.length : Int) + 1 = 2001 by omega] at this ⊢, by simp; omega, HP.out.2.2⟩
    · have e1 : ¬ (2000 : Int) < (pre.length : Int) + 1 := by omega
      gi_wp2
      refine ⟨HP.out.1, HP.out.2.1, by simpa using X1.out, by simp; omega, HP.out.2.2⟩
  · rintro D V hD ⟨h1, h2, h3⟩ hck hK
    have k0 := h1.cell
    have e1 : cntT t = (pp [] t).length := by unfold cntT; omega
    have H3 := hide h3
    have HK := hide hK
    have HD := hide hD
    simp only [behindN]
    go_wp2
    refine ⟨by simp, .inl ⟨_, _, rfl, run_takeDeferred HK.out, ?_⟩⟩
    refine ⟨.int .i64 (cntT t : Int), by simp [results, Tryz.results64, go_sem, e1], rfl, bel_put _ H3.out (Nat.le_trans B3.size HD.out)⟩
  · rintro D c pre V hD hpre ⟨rfl, h1, h2, h3⟩ hK
    have k0 := h1.cell
    have e1 : cntT t = 2001 := by unfold cntT; have := hpre.length_le; omega
    have H3 := hide h3
    have HK := hide hK
    have HD := hide hD
    refine (wpIn_wide (n := n)).2 ?_
    simp only [behindN]
    go_wp2
    refine ⟨by simp, .inl ⟨_, _, rfl, run_takeDeferred HK.out, ?_⟩⟩
    refine ⟨.int .i64 (cntT t : Int), by simp [results, Tryz.results64, go_sem, e1], rfl, bel_put _ H3.out (Nat.le_trans B3.size HD.out)⟩
theorem cnt_c {w : World} {t : Tr} (hta : TA w t) : Calls Tryz.prog 64 #[.agg #[.int .i64 t.f.k, .int .i64 t.f.n, .int .i64 t.f.mn, .int .i64 t.f.mx, .slice t.f.rq t.f.rs.length t.f.rc, .slice t.f.kq t.f.kl t.f.kc]] w fun e w' => e = .returned (.int .i64 (cntT t : Int)) ∧ Below w.heap.size w w' := callsIn_wide.1 (cnt_in 3 (by decide) hta)
set_option maxHeartbeats 1000000 in
theorem tooMany_c {w : World} {t : Tr} (hta : TA w t) : Calls Tryz.prog 30 #[.agg #[.int .i64 t.f.k, .int .i64 t.f.n, .int .i64 t.f.mn, .int .i64 t.f.mx, .slice t.f.rq t.f.rs.length t.f.rc, .slice t.f.kq t.f.kl t.f.kc]] w fun e w' => e = .returned (.bool (decide (2000 < (pp [] t).length))) ∧ Below w.heap.size w w' := by
  have HTA := hide hta
  have B1 : Hid (Below w.heap.size w (w.alloc (.cells #[.int .i64 t.f.k, .int .i64 t.f.n, .int .i64 t.f.mn, .int .i64 t.f.mx, .slice t.f.rq t.f.rs.length t.f.rc, .slice t.f.kq t.f.kl t.f.kc] 28))) := (Below.refl _ _).alloc (Nat.le_refl _) _
  have N1 : Hid (BoxN (w.alloc (.cells #[.int .i64 t.f.k, .int .i64 t.f.n, .int .i64 t.f.mn, .int .i64 t.f.mx, .slice t.f.rq t.f.rs.length t.f.rc, .slice t.f.kq t.f.kl t.f.kc] 28)) w.heap.size t.f) := alloc_new w _
  obtain ⟨c0, c1, c2, c3, c4, c5⟩ := N1.out.six
  simp only [Nat.zero_add] at c1 c2 c3 c4 c5
  have e1 : (decide ((2000 : Int) < (cntT t : Int))) = decide (2000 < (pp [] t).length) := by
    rw [decide_eq_decide]
    unfold cntT
    omega
  clear hta
  go_enter Tryz.func30, Tryz.ntmps30
  go_wp2_with (go_at_call 64; (with_reducible refine (cnt_c (HTA.out.kept B1.out)).mono ?_); rintro e w3 ⟨rfl, h3⟩; have B3 : Hid (Below w.heap.size w w3) := chain B1.out h3 (Nat.le_refl _); clear h3)
  go_ret
  exact ⟨by rw [← e1]; rfl, B3.out⟩
end Go.Proofs.YtpfdapnfkghgkaaGreatDoor
namespace Go.Proofs.YtpfdapnfkghgkaaGreatDoor
open Go Go.RowKit

/-- A spot of the checker's: a node, and how many of its Kids have come up. -/
structure Spot where
  f : Fl
  s : Int
def Seven (W : World) (g o : Nat) (x : Spot) : Prop := Six W g o x.f ∧ W.cell? ⟨g, o + 6, none⟩ = some (.int .i64 x.s)
structure CB (W : World) (b : Nat) (c f : Bool) (ah gr : Int) (A : Nat → Spot) : Prop where
  blk : ∃ cur, W.heap[b]? = some (.cells cur 70 (0, 0))
  c0 : W.cell? ⟨b, 0, none⟩ = some (.bool c)
  c1 : W.cell? ⟨b, 1, none⟩ = some (.bool f)
  c2 : W.cell? ⟨b, 2, none⟩ = some (.int .i64 ah)
  c3 : W.cell? ⟨b, 3, none⟩ = some (.int .i64 gr)
  sp : ∀ d, d < 41 → Seven W b (4 + d * 7) (A d)
theorem CB.lt {W : World} {b : Nat} {c f : Bool} {ah gr : Int} {A : Nat → Spot} (h : CB W b c f ah gr A) : b < W.heap.size := by
  obtain ⟨cur, h⟩ := h.blk
  exact lt_of_heap h
theorem CB.ck {N : Nat → Prop} {W W' : World} {b : Nat} {c f : Bool} {ah gr : Int} {A : Nat → Spot} (h : CB W b c f ah gr A) (hk : CKeep N W W') (hb : N b) : CB W' b c f ah gr A := by
  obtain ⟨cur, hc⟩ := h.blk
  exact ⟨⟨cur, hk.same _ _ _ _ hb hc⟩, cell_ck hk (p := ⟨b, 0, none⟩) hb h.c0, cell_ck hk (p := ⟨b, 1, none⟩) hb h.c1, cell_ck hk (p := ⟨b, 2, none⟩) hb h.c2, cell_ck hk (p := ⟨b, 3, none⟩) hb h.c3, fun d hd => ⟨(h.sp d hd).1.ck hk hb, cell_ck hk (p := ⟨b, 4 + d * 7 + 6, none⟩) hb (h.sp d hd).2⟩⟩
theorem CB.kept {W W' : World} {b : Nat} {c f : Bool} {ah gr : Int} {A : Nat → Spot} (h : CB W b c f ah gr A) (hb : Below W.heap.size W W') : CB W' b c f ah gr A := h.ck (CK.of_below hb) h.lt
theorem CB.row {W W' : World} {b B : Nat} {c f : Bool} {ah gr : Int} {A : Nat → Spot} {row : Option Nat} (h : CB W b c f ah gr A) (hg : W.grownBy W' row) (hr : ∀ r, row = some r → B ≤ r ∧ ∃ o : Obj, W.heap[r]? = some o ∧ o.isCells = false) : CB W' b c f ah gr A :=
  h.ck (N := fun _ => True) ⟨hg.size, fun _ _ _ _ _ hc => cells_kept hg hr hc⟩ trivial
theorem off_ne {b i j : Nat} (h : i ≠ j) : (⟨b, i, none⟩ : Addr) ≠ ⟨b, j, none⟩ := fun e => h (by injection e)
theorem cell_off {W : World} {b i j : Nat} {u v : Value} (h : W.cell? ⟨b, i, none⟩ = some v) (hij : i ≠ j) : (W.setCell ⟨b, j, none⟩ u).cell? ⟨b, i, none⟩ = some v := by
  rw [World.cell?_setCell_other]
  · exact h
  · exact off_ne hij.symm
theorem Six.off {W : World} {b o j : Nat} {u : Value} {f : Fl} (h : Six W b o f) (hj : j < o ∨ o + 6 ≤ j) : Six (W.setCell ⟨b, j, none⟩ u) b o f :=
  ⟨cell_off h.1 (by omega), cell_off h.2.1 (by omega), cell_off h.2.2.1 (by omega), cell_off h.2.2.2.1 (by omega), cell_off h.2.2.2.2.1 (by omega), cell_off h.2.2.2.2.2 (by omega)⟩
theorem blk_set {W : World} {b : Nat} {t : TypeId} (h : ∃ cur, W.heap[b]? = some (.cells cur t (0, 0))) (j : Nat) (u : Value) : ∃ cur, (W.setCell ⟨b, j, none⟩ u).heap[b]? = some (.cells cur t (0, 0)) := by
  obtain ⟨cur, hc⟩ := h
  exact ⟨_, heap_set_in hc j u⟩
theorem Seven.off {W : World} {b o j : Nat} {u : Value} {x : Spot} (h : Seven W b o x) (hj : j < o ∨ o + 7 ≤ j) : Seven (W.setCell ⟨b, j, none⟩ u) b o x :=
  ⟨h.1.off (by omega), cell_off h.2 (by omega)⟩
theorem CB.setAh {W : World} {b : Nat} {c f : Bool} {ah gr : Int} {A : Nat → Spot} (h : CB W b c f ah gr A) (x : Int) : CB (W.setCell ⟨b, 2, none⟩ (.int .i64 x)) b c f x gr A :=
  ⟨blk_set h.blk _ _, cell_off h.c0 (by omega), cell_off h.c1 (by omega), World.cell?_setCell_same _ _ _ h.c2, cell_off h.c3 (by omega), fun d hd => (h.sp d hd).off (by omega)⟩
theorem CB.setGr {W : World} {b : Nat} {c f : Bool} {ah gr : Int} {A : Nat → Spot} (h : CB W b c f ah gr A) (x : Int) : CB (W.setCell ⟨b, 3, none⟩ (.int .i64 x)) b c f ah x A :=
  ⟨blk_set h.blk _ _, cell_off h.c0 (by omega), cell_off h.c1 (by omega), cell_off h.c2 (by omega), World.cell?_setCell_same _ _ _ h.c3, fun d hd => (h.sp d hd).off (by omega)⟩
def setS (A : Nat → Spot) (d : Nat) (x : Spot) : Nat → Spot := fun i => if i = d then x else A i
theorem CB.setSeen {W : World} {b : Nat} {c f : Bool} {ah gr : Int} {A : Nat → Spot} (h : CB W b c f ah gr A) {d : Nat} (hd : d < 41) (x : Int) : CB (W.setCell ⟨b, 4 + d * 7 + 6, none⟩ (.int .i64 x)) b c f ah gr (setS A d ⟨(A d).f, x⟩) :=
  ⟨blk_set h.blk _ _, cell_off h.c0 (by omega), cell_off h.c1 (by omega), cell_off h.c2 (by omega), cell_off h.c3 (by omega), fun i hi => by
    unfold setS
    by_cases e : i = d
    · subst e
      rw [if_pos rfl]
      exact ⟨(h.sp i hi).1.off (by omega), World.cell?_setCell_same _ _ _ (h.sp i hi).2⟩
    · rw [if_neg e]
      exact (h.sp i hi).off (by omega)⟩
/-- Seven cells are written over. -/
def put7c (W : World) (b o : Nat) (x : Spot) : World :=
  ((((((W.setCell ⟨b, o, none⟩ (.int .i64 x.f.k)).setCell ⟨b, o + 1, none⟩ (.int .i64 x.f.n)).setCell ⟨b, o + 2, none⟩ (.int .i64 x.f.mn)).setCell ⟨b, o + 3, none⟩ (.int .i64 x.f.mx)).setCell ⟨b, o + 4, none⟩ (.slice x.f.rq x.f.rs.length x.f.rc)).setCell ⟨b, o + 5, none⟩ (.slice x.f.kq x.f.kl x.f.kc)).setCell ⟨b, o + 6, none⟩ (.int .i64 x.s)
theorem CB.setSpot {W : World} {b : Nat} {c f : Bool} {ah gr : Int} {A : Nat → Spot} (h : CB W b c f ah gr A) {d : Nat} (hd : d < 41) (x : Spot) : CB (put7c W b (4 + d * 7) x) b c f ah gr (setS A d x) := by
  have off : ∀ {i : Nat} {v : Value}, W.cell? ⟨b, i, none⟩ = some v → (i < 4 + d * 7 ∨ 4 + d * 7 + 7 ≤ i) → (put7c W b (4 + d * 7) x).cell? ⟨b, i, none⟩ = some v := by
    intro i v hv hi
    unfold put7c
    exact cell_off (cell_off (cell_off (cell_off (cell_off (cell_off (cell_off hv (by omega)) (by omega)) (by omega)) (by omega)) (by omega)) (by omega)) (by omega)
  refine ⟨?_, off h.c0 (by omega), off h.c1 (by omega), off h.c2 (by omega), off h.c3 (by omega), fun i hi => ?_⟩
  · unfold put7c
    exact blk_set (blk_set (blk_set (blk_set (blk_set (blk_set (blk_set h.blk _ _) _ _) _ _) _ _) _ _) _ _) _ _
  · unfold setS
    by_cases e : i = d
    · subst e
      rw [if_pos rfl]
      obtain ⟨⟨k0, k1, k2, k3, k4, k5⟩, k6⟩ := h.sp i hi
      unfold put7c
      refine ⟨⟨?_, ?_, ?_, ?_, ?_, ?_⟩, ?_⟩
      · exact cell_off (cell_off (cell_off (cell_off (cell_off (cell_off (World.cell?_setCell_same _ _ _ k0) (by omega)) (by omega)) (by omega)) (by omega)) (by omega)) (by omega)
      · exact cell_off (cell_off (cell_off (cell_off (cell_off (World.cell?_setCell_same _ _ _ (cell_off k1 (by omega))) (by omega)) (by omega)) (by omega)) (by omega)) (by omega)
      · exact cell_off (cell_off (cell_off (cell_off (World.cell?_setCell_same _ _ _ (cell_off (cell_off k2 (by omega)) (by omega))) (by omega)) (by omega)) (by omega)) (by omega)
      · exact cell_off (cell_off (cell_off (World.cell?_setCell_same _ _ _ (cell_off (cell_off (cell_off k3 (by omega)) (by omega)) (by omega))) (by omega)) (by omega)) (by omega)
      · exact cell_off (cell_off (World.cell?_setCell_same _ _ _ (cell_off (cell_off (cell_off (cell_off k4 (by omega)) (by omega)) (by omega)) (by omega))) (by omega)) (by omega)
      · exact cell_off (World.cell?_setCell_same _ _ _ (cell_off (cell_off (cell_off (cell_off (cell_off k5 (by omega)) (by omega)) (by omega)) (by omega)) (by omega))) (by omega)
      · exact World.cell?_setCell_same _ _ _ (cell_off (cell_off (cell_off (cell_off (cell_off (cell_off k6 (by omega)) (by omega)) (by omega)) (by omega)) (by omega)) (by omega))
    · rw [if_neg e]
      obtain ⟨⟨k0, k1, k2, k3, k4, k5⟩, k6⟩ := h.sp i hi
      exact ⟨⟨off k0 (by omega), off k1 (by omega), off k2 (by omega), off k3 (by omega), off k4 (by omega), off k5 (by omega)⟩, off k6 (by omega)⟩
theorem put7_fr (W : World) (b o : Nat) (x : Spot) : Fr (fun z => z = b) W (put7c W b o x) := by
  unfold put7c
  exact (((((((Fr.refl (fun z => z = b) W).setCell (p := ⟨b, o, none⟩) rfl _).setCell (p := ⟨b, o + 1, none⟩) rfl _).setCell (p := ⟨b, o + 2, none⟩) rfl _).setCell (p := ⟨b, o + 3, none⟩) rfl _).setCell (p := ⟨b, o + 4, none⟩) rfl _).setCell (p := ⟨b, o + 5, none⟩) rfl _).setCell (p := ⟨b, o + 6, none⟩) rfl _
end Go.Proofs.YtpfdapnfkghgkaaGreatDoor
