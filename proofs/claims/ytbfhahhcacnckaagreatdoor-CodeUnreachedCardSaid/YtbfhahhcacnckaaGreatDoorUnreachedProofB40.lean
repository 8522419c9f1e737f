/-
  Parts of the proof.
-/
import Derived.Test.YtbfhahhcacnckaaGreatDoorUnreachedProofB39
set_option linter.unusedSimpArgs false
namespace Go.Proofs.YtbfhahhcacnckaaGreatDoor
open Go Go.RowKit
attribute [local go_sem] Oper.semAt_some ext_cell
theorem reach_k {w : World} {p : Pg} (h : PgI w p) (hr : rtE p = (0, 0)) {R : List Int} (hR : rcM p = R) : Calls Tryz.prog 16 #[.agg #[.slice p.q p.L.length p.c, .int .i64 p.g, .int .i64 p.k, .bool p.f]] w fun e w' => ∃ g, e = .returned (.tuple #[.slice (some ⟨g, 0, none⟩) R.length R.length, .int .i64 0]) ∧ RowG w' g R.length (sortI R) ∧ w.heap.size ≤ g ∧ Below w.heap.size w w' := by
  subst hR
  exact (reach_ok h (by rw [hr])).mono fun e w' ⟨h1, g, h2, h3, h4⟩ => ⟨g, h2, h3, h4, h1⟩
structure US (w W : World) (n1 bp gp cp : Nat) (K : List Ins) (f : Bool) (gr : Nat) (R : List Int) (bt : Nat) (th : Nat → Bool) : Prop where
  mb : MB n1 W bp gp cp K f
  rg : RowG W gr R.length (sortI R)
  bo : Bo W bt K.length th
  bl : Below w.heap.size w W
  l1 : w.heap.size ≤ n1
  l2 : w.heap.size ≤ bt
theorem US.kept {w W W' : World} {n1 bp gp cp gr bt : Nat} {K : List Ins} {f : Bool} {R : List Int} {th : Nat → Bool} (h : US w W n1 bp gp cp K f gr R bt th) (hb : Below W.heap.size W W') : US w W' n1 bp gp cp K f gr R bt th :=
  ⟨h.mb.kept hb, h.rg.kept hb, h.bo.kept hb, chain h.bl hb (Nat.le_refl _), h.l1, h.l2⟩
theorem rowG_ne {W : World} {g c b : Nat} {l : List Int} {cs : Array Value} {t : TypeId} (h : RowG W g c l) (hb : W.heap[b]? = some (.cells cs t (0, 0))) (ht : t ≠ 3) : g ≠ b := fun e => by
  obtain ⟨cur, h1, _⟩ := h
  rw [e, hb] at h1
  injection h1 with h1
  injection h1 with _ h2
  exact ht h2
theorem own_ne {W : World} {n0 g c n : Nat} {M : List Ins} {b : Nat} {cs : Array Value} {t : TypeId} (h : W.ownsRow n0 35 10 (.slice (some ⟨g, 0, none⟩) n c) n (ceI14 M)) (hb : W.heap[b]? = some (.cells cs t (0, 0))) (ht : t ≠ 35) : g ≠ b := fun e => ownsRow_not h hb ht (by rw [← e]; rfl)
theorem US.set {w W : World} {n1 bp gp cp gr bt : Nat} {K : List Ins} {f : Bool} {R : List Int} {th : Nat → Bool} (h : US w W n1 bp gp cp K f gr R bt th) (k : Nat) {th' : Nat → Bool} (ht : ∀ x, x < K.length → th' x = if x = k then true else th x) : US w (W.setCell ⟨bt, k, none⟩ (.bool true)) n1 bp gp cp K f gr R bt th' := by
  have hf : Fr (At1 bt) W (W.setCell ⟨bt, k, none⟩ (.bool true)) := (Fr.refl (At1 bt) W).setCell (p := ⟨bt, k, none⟩) rfl _
  have e1 : bp ≠ bt := fun e => ne_type h.mb.box h.bo (by decide) e
  have e2 : gp ≠ bt := own_ne h.mb.own h.bo (by decide)
  have e3 : gr ≠ bt := rowG_ne h.rg h.bo (by decide)
  exact ⟨⟨(hf.block _ (lt_of_heap h.mb.box) e1).trans h.mb.box, ownsRow_fr h.mb.own hf (fun z hz e => e2 (by have hz2 : gp = z := Option.some.inj hz; rw [hz2]; exact e)), h.mb.lb⟩, h.rg.fr hf e3, h.bo.set k ht, h.bl.trans (hf.below h.bl.size (fun z hz => by have : z = bt := hz; have := h.l2; omega)), h.l1, h.l2⟩
theorem US.fr {w W W' : World} {n1 bp gp cp gr bt b : Nat} {K : List Ins} {f : Bool} {R : List Int} {th : Nat → Bool} (h : US w W n1 bp gp cp K f gr R bt th) (hf : Fr (At1 b) W W') (e1 : bp ≠ b) (e2 : gp ≠ b) (e3 : gr ≠ b) (e4 : bt ≠ b) (hb : w.heap.size ≤ b) : US w W' n1 bp gp cp K f gr R bt th :=
  ⟨⟨(hf.block _ (lt_of_heap h.mb.box) e1).trans h.mb.box, ownsRow_fr h.mb.own hf (fun z hz e => e2 (by have hz2 : gp = z := Option.some.inj hz; rw [hz2]; exact e)), h.mb.lb⟩, h.rg.fr hf e3, h.bo.fr hf e4, h.bl.trans (hf.below h.bl.size (fun z hz => by have : z = b := hz; omega)), h.l1, h.l2⟩
abbrev tenY (W : World) (g o : Nat) : World := (((((((((W.setCell ⟨g, o, none⟩ (.int .i64 11)).setCell ⟨g, o + 1, none⟩ (.int .i64 0)).setCell ⟨g, o + 2, none⟩ (.int .i64 0)).setCell ⟨g, o + 3, none⟩ (.int .i64 0)).setCell ⟨g, o + 4, none⟩ (.int .i64 0)).setCell ⟨g, o + 5, none⟩ (.int .i64 0)).setCell ⟨g, o + 6, none⟩ (.int .u64 0)).setCell ⟨g, o + 7, none⟩ (.int .u64 0)).setCell ⟨g, o + 8, none⟩ (.int .u64 0)).setCell ⟨g, o + 9, none⟩ (.int .u64 0)
theorem tenY_eq (W : World) (g o : Nat) : tenY W g o = tenW W g o ⟨11, 0, 0, 0, 0, 0, 0#256⟩ := by simp only [tenY, tenW, z1_wd_nil]
theorem MB.teny {n0 : Nat} {W : World} {b g c m : Nat} {M : List Ins} {f : Bool} (h : MB n0 W b g c M f) (hm : m < M.length) : MB n0 (tenY W g (m * 10)) b g c (M.set m ⟨11, 0, 0, 0, 0, 0, 0#256⟩) f ∧ Fr (At1 g) W (tenY W g (m * 10)) := by
  rw [tenY_eq]
  exact h.ten hm _
set_option maxRecDepth 100000 in
set_option maxHeartbeats 16000000 in
theorem un_law {w : World} {q : Option Addr} {L : List Rw} {c : Nat} {f : Bool} (hT : z1_Tab w) (h : LR w q L) (hm : L.length ≤ maxLen) :
    Calls Tryz.prog 5 #[.slice q L.length c, .bool f] w fun e w' => e = .returned (.bool true) ∧ Below w.heap.size w w' := by
  have H := hide h
  have HT := hide hT
  have HM := hide hm
  clear h hT hm
  have hl := mdL_len L
  have hl2 : (mdL L).length ≤ 201 := by omega
  have hl0 : 0 < (mdL L).length := by omega
  have HMK := hide (make_bools (mdL L).length (by omega))
  clear hl
  go_enter Tryz.func5, Tryz.ntmps5
  go_upto_region 2 with (go_at_call 7; (with_reducible refine (known_c HT.out).mono ?_); rintro e w1 ⟨rfl, h1⟩; have B1 := hide h1; have H1 := hide (H.out.kept h1); clear h1)
  go_upto_region 3 with (go_at_call 11; (with_reducible refine (made_c H1.out HM.out).mono ?_); rintro e w2 ⟨g, c2, rfl, h21, h22⟩; have O2 := hide h21; have B2 := hide (chain B1.out h22 (Nat.le_refl _)); have S2 := hide h22.size; clear h21 h22)
  have M3 := hide (MB.new (f := f) O2.out S2.out)
  have B3 : Hid (Below w.heap.size w (w2.alloc (.cells #[.slice (some ⟨g, 0, none⟩) (mdL L).length c2, .int .i64 2, .int .i64 2, .bool f] 24))) := hide (B2.out.alloc B2.out.size _)
  have S1 := B1.out.size
  clear O2 H1 HT
  generalize (w2.alloc (.cells #[.slice (some ⟨g, 0, none⟩) (mdL L).length c2, .int .i64 2, .int .i64 2, .bool f] 24)) = W3 at M3 B3 ⊢
  obtain ⟨R, hR⟩ : ∃ R, rcM ⟨some ⟨g, 0, none⟩, mdL L, c2, 2, 2, f⟩ = R := ⟨_, rfl⟩
  have HR := hide hR
  have hn : mdL L ≠ [] := fun e => by rw [e] at hl0; simp at hl0
  have BD := hide (rcM_bd (p := ⟨some ⟨g, 0, none⟩, mdL L, c2, 2, 2, f⟩) hn)
  rw [hR] at BD
  have RC : Hid (∀ V, PgI V ⟨some ⟨g, 0, none⟩, mdL L, c2, 2, 2, f⟩ → Calls Tryz.prog 16 #[.agg #[.slice (some ⟨g, 0, none⟩) (mdL L).length c2, .int .i64 2, .int .i64 2, .bool f]] V fun e w' => ∃ g, e = .returned (.tuple #[.slice (some ⟨g, 0, none⟩) R.length R.length, .int .i64 0]) ∧ RowG w' g R.length (sortI R) ∧ V.heap.size ≤ g ∧ Below V.heap.size V w') := hide fun V hV => reach_k hV (rt_made L _ _ _) HR.out
  have hR2 : R.length ≤ 201 := by have h1 : R.length ≤ (mdL L).length := BD.out.len; omega
  clear hR
  have y0 := cell_row M3.out.box (i := 0) rfl
  have y1 := cell_row M3.out.box (i := 1) rfl
  have y2 := cell_row M3.out.box (i := 2) rfl
  have y3 := cell_row M3.out.box (i := 3) rfl
  have ly := lt_of_heap M3.out.box
  go_upto_region 6 with (go_at_call 16; (with_reducible refine (RC.out _ M3.out.pg).mono ?_); rintro e w4 ⟨gr, rfl, h41, h42, h43⟩; have G4 := hide h41; have M4 := hide (M3.out.kept h43); have B4 := hide (chain B3.out h43 (Nat.le_refl _)); have N4 := hide h42; have z0 := cell_row M4.out.box (i := 0) rfl; have lz := lt_of_heap M4.out.box; clear h41 h42 h43)
  have MK := HMK.out w4
  clear y0 y1 y2 y3 ly
  go_upto_region 7 with fail
  have BA : Below w4.heap.size w4 (w4.alloc (.cells (boA (mdL L).length fun _ => false) 4)) := (Below.refl _ _).alloc (Nat.le_refl _) _
  have U5 : Hid (US w (w4.alloc (.cells (boA (mdL L).length fun _ => false) 4)) w1.heap.size w2.heap.size g c2 (mdL L) f gr R w4.heap.size (fun x => decide ((x : Int) ∈ (sortI R).take 0))) := hide ⟨M4.out.kept BA, G4.out.kept BA, by
    have e : (fun x : Nat => decide ((x : Int) ∈ (sortI R).take 0)) = fun _ => false := by funext x; simp
    rw [e]
    exact alloc_new w4 _, chain B4.out BA (Nat.le_refl _), S1, B4.out.size⟩
  obtain ⟨bt, hbt⟩ : ∃ bt, w4.heap.size = bt := ⟨_, rfl⟩
  rw [hbt] at U5 ⊢
  clear BA M4 G4 B4 N4 z0 lz MK M3 B3 RC hbt
  generalize (w4.alloc (.cells (boA (mdL L).length fun _ => false) 4)) = W5 at U5 ⊢
  have hsl : (sortI R).length = R.length := sortI_length R
  go_wp2
  go_loopg [10] R.length (fun k i wr => ∃ j : Nat, j + k = R.length ∧ i = .int .i64 (j : Int) ∧ US w wr w1.heap.size w2.heap.size g c2 (mdL L) f gr R bt (fun x => decide ((x : Int) ∈ (sortI R).take j)))
  case atStart => exact ⟨0, by omega, rfl, U5.out⟩
  case round =>
    obtain ⟨j, hjk, rfl, hU⟩ := hrel
    have U := hide hU
    clear hU U5
    by_cases hj : j < R.length
    · obtain ⟨x, hx⟩ : ∃ x, (sortI R)[j]? = some x := ⟨_, List.getElem?_eq_getElem (by omega)⟩
      have hxm := BD.out.bd x ((sortI_mem R x).1 (List.mem_of_getElem? hx))
      obtain ⟨y, rfl⟩ : ∃ y : Nat, x = y := ⟨x.toNat, by omega⟩
      have hy : y < (mdL L).length := by have h2 : (y : Int) < ((mdL L).length : Int) := hxm.2; omega
      have c1 := U.out.rg.cell hx
      have l1 := U.out.rg.lt
      have d1 := U.out.bo.cell hy
      have l2 := lt_of_heap U.out.bo
      have fz := frz_row U.out.bo y
      have j0 : (0 : Int) ≤ (j : Int) := by omega
      have j1 : (j : Int) < (R.length : Int) := by omega
      have n0 : ¬ (y : Int) < 0 := by omega
      have n1 : ¬ ((mdL L).length : Int) ≤ (y : Int) := by omega
      have n2 : (y : Int) < ((mdL L).length : Int) := by omega
      have n3 : (0 : Int) ≤ (y : Int) := by omega
      have b0 : decide ((y : Int) < 0) = false := decide_eq_false n0
      have b1 : decide (((mdL L).length : Int) ≤ (y : Int)) = false := decide_eq_false n1
      have US2 := hide (U.out.set y (th' := fun x => decide ((x : Int) ∈ (sortI R).take (j + 1))) (fun z _ => by
        rw [List.take_add_one, hx]
        by_cases e : z = y
        · subst e; simp
        · have e' : ¬ ((z : Int) = (y : Int)) := by omega
          simp [e, e']))
      clear hx hxm
      go_wp2
      go_roundg (R.length - (j + 1))
      case measure => omega
      case rel => exact ⟨j + 1, by omega, by go_num, US2.out⟩
    · have j1 : ¬ (j : Int) < (R.length : Int) := by omega
      obtain rfl : j = R.length := by omega
      obtain ⟨th, hth⟩ : ∃ th : Nat → Bool, th = fun x : Nat => decide ((x : Int) ∈ R) := ⟨_, rfl⟩
      have TH : Hid (∀ x : Nat, th x = decide ((x : Int) ∈ R)) := hide fun x => by rw [hth]
      have U6 : Hid (US w wr w1.heap.size w2.heap.size g c2 (mdL L) f gr R bt th) := hide (by
        have e : (fun x : Nat => decide ((x : Int) ∈ (sortI R).take R.length)) = th := by
          rw [hth]
          funext x
          rw [List.take_of_length_le (by omega)]
          exact decide_eq_decide.2 (sortI_mem R _)
        rw [← e]
        exact U.out)
      have HL := hide (H.out.kept U6.out.bl)
      clear hth U j1
      go_upto_region 14 with (go_at_call 11; (with_reducible refine (made_c HL.out HM.out).mono ?_); rintro e w7 ⟨g3, c3, rfl, h71, h72⟩; have O7 := hide h71; have U7 := hide (U6.out.kept h72); have S7 := hide h72.size; clear h71 h72)
      have BA : Below w7.heap.size w7 (w7.alloc (.cells #[.slice (some ⟨g3, 0, none⟩) (mdL L).length c3, .int .i64 2, .int .i64 2, .bool f] 24)) := (Below.refl _ _).alloc (Nat.le_refl _) _
      have Q8 := hide (MB.new (f := f) O7.out S7.out)
      have U8 := hide (U7.out.kept BA)
      have gp3 : g < wr.heap.size := U6.out.mb.gle.2.1
      have ws3 : w.heap.size ≤ wr.heap.size := U6.out.bl.size
      obtain ⟨n3, hn3⟩ : ∃ n3, wr.heap.size = n3 := ⟨_, rfl⟩
      rw [hn3] at Q8 gp3 ws3
      obtain ⟨b3, hb3⟩ : ∃ b3, w7.heap.size = b3 := ⟨_, rfl⟩
      rw [hb3] at Q8 ⊢
      clear O7 U7 S7 BA U6 HL hn3 hb3
      generalize (w7.alloc (.cells #[.slice (some ⟨g3, 0, none⟩) (mdL L).length c3, .int .i64 2, .int .i64 2, .bool f] 24)) = W8 at Q8 U8 ⊢
      go_wp2
      go_loopg [12] (mdL L).length (fun k i wr => ∃ (j : Nat) (M : List Ins), j + k = (mdL L).length ∧ i = .int .i64 (j : Int) ∧ US w wr w1.heap.size w2.heap.size g c2 (mdL L) f gr R bt th ∧ MB n3 wr b3 g3 c3 M f ∧ Un (mdL L) M th j)
      case atStart => exact ⟨0, _, by omega, rfl, U8.out, Q8.out, ⟨rfl, fun x hx => absurd hx (Nat.not_lt_zero _), fun x _ => rfl⟩⟩
      case round =>
        obtain ⟨j, M, hjk, rfl, hU, hQ, hN⟩ := hrel
        have U := hide hU
        have Q := hide hQ
        have UN := hide hN
        have ml := hN.len
        clear hU hQ hN U8 Q8
        by_cases hj : j < (mdL L).length
        · obtain ⟨i, hi⟩ : ∃ i, (mdL L)[j]? = some i := ⟨_, List.getElem?_eq_getElem hj⟩
          have HI := hide hi
          have T := hide (own_ten U.out.mb.own)
          have lg := U.out.mb.gle.2.1
          have y0 := cell_row U.out.mb.box (i := 0) rfl
          have ly := lt_of_heap U.out.mb.box
          have d0 := T.out.2.2.2 j i hi 0 _ rfl
          rw [Nat.add_zero] at d0
          have d1 := T.out.2.2.2 j i hi 1 _ rfl
          have d2 := T.out.2.2.2 j i hi 2 _ rfl
          have d3 := T.out.2.2.2 j i hi 3 _ rfl
          have d4 := T.out.2.2.2 j i hi 4 _ rfl
          have d5 := T.out.2.2.2 j i hi 5 _ rfl
          have d6 := T.out.2.2.2 j i hi 6 _ rfl
          have d7 := T.out.2.2.2 j i hi 7 _ rfl
          have d8 := T.out.2.2.2 j i hi 8 _ rfl
          have d9 := T.out.2.2.2 j i hi 9 _ rfl
          have j0 : (0 : Int) ≤ (j : Int) := by omega
          have j1 : (j : Int) < ((mdL L).length : Int) := by omega
          clear hi ml
          go_upto_region 18 with fail
          have BA : Below wr.heap.size wr (wr.alloc (.cells #[.int .i64 i.op, .int .i64 i.x, .int .i64 i.y, .int .i64 i.n, .int .i64 i.mn, .int .i64 i.mx, .int .u64 (z1_wd i.s 0), .int .u64 (z1_wd i.s 1), .int .u64 (z1_wd i.s 2), .int .u64 (z1_wd i.s 3)] 35)) := (Below.refl _ _).alloc (Nat.le_refl _) _
          have U2 := hide (U.out.kept BA)
          have Q2 := hide (Q.out.kept BA)
          have X2 : Hid ((wr.alloc (.cells #[.int .i64 i.op, .int .i64 i.x, .int .i64 i.y, .int .i64 i.n, .int .i64 i.mn, .int .i64 i.mx, .int .u64 (z1_wd i.s 0), .int .u64 (z1_wd i.s 1), .int .u64 (z1_wd i.s 2), .int .u64 (z1_wd i.s 3)] 35)).heap[wr.heap.size]? = some (.cells #[.int .i64 i.op, .int .i64 i.x, .int .i64 i.y, .int .i64 i.n, .int .i64 i.mn, .int .i64 i.mx, .int .u64 (z1_wd i.s 0), .int .u64 (z1_wd i.s 1), .int .u64 (z1_wd i.s 2), .int .u64 (z1_wd i.s 3)] 35 (0, 0))) := hide (alloc_new wr _)
          obtain ⟨bi, hbi⟩ : ∃ bi, wr.heap.size = bi := ⟨_, rfl⟩
          rw [hbi] at X2 ⊢
          clear BA T lg y0 ly d0 d1 d2 d3 d4 d5 d6 d7 d8 d9 hbi U Q
          generalize (wr.alloc (.cells #[.int .i64 i.op, .int .i64 i.x, .int .i64 i.y, .int .i64 i.n, .int .i64 i.mn, .int .i64 i.mx, .int .u64 (z1_wd i.s 0), .int .u64 (z1_wd i.s 1), .int .u64 (z1_wd i.s 2), .int .u64 (z1_wd i.s 3)] 35)) = W9 at U2 Q2 X2 ⊢
          have t0 := U2.out.bo.cell hj
          have lt := lt_of_heap U2.out.bo
          cases hth : th j with
          | false =>
            rw [hth] at t0
            have NX := hide (UN.out.put hth)
            have T := hide (own_ten Q2.out.own)
            have lg := Q2.out.gle.2.1
            have y0 := cell_row Q2.out.box (i := 0) rfl
            rw [UN.out.len] at y0
            have ly := lt_of_heap Q2.out.box
            have hi := (UN.out.hi j (Nat.le_refl _)).trans HI.out
            have d0 := T.out.2.2.2 j i hi 0 _ rfl
            rw [Nat.add_zero] at d0
            have d1 := T.out.2.2.2 j i hi 1 _ rfl
            have d2 := T.out.2.2.2 j i hi 2 _ rfl
            have d3 := T.out.2.2.2 j i hi 3 _ rfl
            have d4 := T.out.2.2.2 j i hi 4 _ rfl
            have d5 := T.out.2.2.2 j i hi 5 _ rfl
            have d6 := T.out.2.2.2 j i hi 6 _ rfl
            have d7 := T.out.2.2.2 j i hi 7 _ rfl
            have d8 := T.out.2.2.2 j i hi 8 _ rfl
            have d9 := T.out.2.2.2 j i hi 9 _ rfl
            have f0 := T.out.2.2.1 (j * 10)
            have f1 := T.out.2.2.1 (j * 10 + 1)
            have f2 := T.out.2.2.1 (j * 10 + 2)
            have f3 := T.out.2.2.1 (j * 10 + 3)
            have f4 := T.out.2.2.1 (j * 10 + 4)
            have f5 := T.out.2.2.1 (j * 10 + 5)
            have f6 := T.out.2.2.1 (j * 10 + 6)
            have f7 := T.out.2.2.1 (j * 10 + 7)
            have f8 := T.out.2.2.1 (j * 10 + 8)
            have f9 := T.out.2.2.1 (j * 10 + 9)
            have TY := hide (Q2.out.teny (m := j) (by rw [UN.out.len]; exact hj))
            have GE := hide Q2.out.gle
            have UY := hide (U2.out.fr TY.out.2 (fun e => ownsRow_not Q2.out.own U2.out.mb.box (by decide) (by rw [e]; rfl)) (fun e => by have := GE.out.1; omega) (fun e => own_ne Q2.out.own (show W9.heap[gr]? = some (.cells _ 3 (0, 0)) from U2.out.rg.choose_spec.1) (by decide) e.symm) (fun e => own_ne Q2.out.own U2.out.bo (by decide) e.symm) (by have := GE.out.1; omega))
            clear hi hth
            go_wp2
            go_roundg ((mdL L).length - (j + 1))
            case measure => omega
            case rel => exact ⟨j + 1, _, by omega, by go_num, UY.out, TY.out.1, NX.out⟩
          | true =>
            rw [hth] at t0
            have NX := hide (UN.out.keep hth)
            have HKJ : (j : Int) ∈ rcM ⟨some ⟨g, 0, none⟩, mdL L, c2, 2, 2, f⟩ := by
              rw [HR.out]
              have := TH.out j
              rw [hth] at this
              exact of_decide_eq_true this.symm
            have LD := hide (led HI.out HKJ)
            rw [HR.out] at LD
            have HO := mdL_op HI.out
            clear hth HKJ
            obtain ⟨op, x, y, n, mn, mx, sx⟩ := i
            have ho : op = 1 ∨ op = 2 ∨ op = 3 ∨ op = 4 ∨ op = 5 ∨ op = 6 ∨ op = 7 ∨ op = 8 ∨ op = 9 ∨ op = 10 ∨ op = 11 := by
              have h1 : 1 ≤ op := HO.1
              have h2 : op ≤ 11 := HO.2
              omega
            have lx := lt_of_heap X2.out
            clear HO HI
            rcases ho with rfl | rfl | rfl | rfl | rfl | rfl | rfl | rfl | rfl | rfl | rfl
            · obtain ⟨k1, k2⟩ := LD.out.1 (show hsT (shT 1) 64 = true by decide)
              have t1 := U2.out.bo.cell k1
              rw [TH.out, decide_eq_true k2] at t1
              have n1 : (j : Int) + 1 < ((mdL L).length : Int) := by omega
              have n2 : (0 : Int) ≤ (j : Int) + 1 := by omega
              clear k2
              have i0 := cell_row X2.out (i := 0) rfl
              have i1 := cell_row X2.out (i := 1) rfl
              have i2 := cell_row X2.out (i := 2) rfl
              clear LD
              go_wp2
              go_roundg ((mdL L).length - (j + 1))
              case measure => omega
              case rel => exact ⟨j + 1, _, by omega, by go_num, U2.out, Q2.out, NX.out⟩
            · obtain ⟨xn, hxe, hx1, hx2⟩ := LD.out.2.1 (show hsT (shT 2) 2 = true by decide)
              have hxe2 : x = (xn : Int) := hxe
              subst hxe2
              have t2 := U2.out.bo.cell hx1
              rw [TH.out, decide_eq_true hx2] at t2
              have n3 : (xn : Int) < ((mdL L).length : Int) := by omega
              have n4 : (0 : Int) ≤ (xn : Int) := by omega
              clear hx2 hxe
              obtain ⟨yn, hye, hy1, hy2⟩ := LD.out.2.2 (show hsT (shT 2) 4 = true by decide)
              have hye2 : y = (yn : Int) := hye
              subst hye2
              have t3 := U2.out.bo.cell hy1
              rw [TH.out, decide_eq_true hy2] at t3
              have n5 : (yn : Int) < ((mdL L).length : Int) := by omega
              have n6 : (0 : Int) ≤ (yn : Int) := by omega
              clear hy2 hye
              have i0 := cell_row X2.out (i := 0) rfl
              have i1 := cell_row X2.out (i := 1) rfl
              have i2 := cell_row X2.out (i := 2) rfl
              clear LD
              go_wp2
              go_roundg ((mdL L).length - (j + 1))
              case measure => omega
              case rel => exact ⟨j + 1, _, by omega, by go_num, U2.out, Q2.out, NX.out⟩
            · obtain ⟨xn, hxe, hx1, hx2⟩ := LD.out.2.1 (show hsT (shT 3) 2 = true by decide)
              have hxe2 : x = (xn : Int) := hxe
              subst hxe2
              have t2 := U2.out.bo.cell hx1
              rw [TH.out, decide_eq_true hx2] at t2
              have n3 : (xn : Int) < ((mdL L).length : Int) := by omega
              have n4 : (0 : Int) ≤ (xn : Int) := by omega
              clear hx2 hxe
              have i0 := cell_row X2.out (i := 0) rfl
              have i1 := cell_row X2.out (i := 1) rfl
              have i2 := cell_row X2.out (i := 2) rfl
              clear LD
              go_wp2
              go_roundg ((mdL L).length - (j + 1))
              case measure => omega
              case rel => exact ⟨j + 1, _, by omega, by go_num, U2.out, Q2.out, NX.out⟩
            · obtain ⟨k1, k2⟩ := LD.out.1 (show hsT (shT 4) 64 = true by decide)
              have t1 := U2.out.bo.cell k1
              rw [TH.out, decide_eq_true k2] at t1
              have n1 : (j : Int) + 1 < ((mdL L).length : Int) := by omega
              have n2 : (0 : Int) ≤ (j : Int) + 1 := by omega
              clear k2
              have i0 := cell_row X2.out (i := 0) rfl
              have i1 := cell_row X2.out (i := 1) rfl
              have i2 := cell_row X2.out (i := 2) rfl
              clear LD
              go_wp2
              go_roundg ((mdL L).length - (j + 1))
              case measure => omega
              case rel => exact ⟨j + 1, _, by omega, by go_num, U2.out, Q2.out, NX.out⟩
            · obtain ⟨k1, k2⟩ := LD.out.1 (show hsT (shT 5) 64 = true by decide)
              have t1 := U2.out.bo.cell k1
              rw [TH.out, decide_eq_true k2] at t1
              have n1 : (j : Int) + 1 < ((mdL L).length : Int) := by omega
              have n2 : (0 : Int) ≤ (j : Int) + 1 := by omega
              clear k2
              have i0 := cell_row X2.out (i := 0) rfl
              have i1 := cell_row X2.out (i := 1) rfl
              have i2 := cell_row X2.out (i := 2) rfl
              clear LD
              go_wp2
              go_roundg ((mdL L).length - (j + 1))
              case measure => omega
              case rel => exact ⟨j + 1, _, by omega, by go_num, U2.out, Q2.out, NX.out⟩
            · obtain ⟨k1, k2⟩ := LD.out.1 (show hsT (shT 6) 64 = true by decide)
              have t1 := U2.out.bo.cell k1
              rw [TH.out, decide_eq_true k2] at t1
              have n1 : (j : Int) + 1 < ((mdL L).length : Int) := by omega
              have n2 : (0 : Int) ≤ (j : Int) + 1 := by omega
              clear k2
              have i0 := cell_row X2.out (i := 0) rfl
              have i1 := cell_row X2.out (i := 1) rfl
              have i2 := cell_row X2.out (i := 2) rfl
              clear LD
              go_wp2
              go_roundg ((mdL L).length - (j + 1))
              case measure => omega
              case rel => exact ⟨j + 1, _, by omega, by go_num, U2.out, Q2.out, NX.out⟩
            · obtain ⟨k1, k2⟩ := LD.out.1 (show hsT (shT 7) 64 = true by decide)
              have t1 := U2.out.bo.cell k1
              rw [TH.out, decide_eq_true k2] at t1
              have n1 : (j : Int) + 1 < ((mdL L).length : Int) := by omega
              have n2 : (0 : Int) ≤ (j : Int) + 1 := by omega
              clear k2
              have i0 := cell_row X2.out (i := 0) rfl
              have i1 := cell_row X2.out (i := 1) rfl
              have i2 := cell_row X2.out (i := 2) rfl
              clear LD
              go_wp2
              go_roundg ((mdL L).length - (j + 1))
              case measure => omega
              case rel => exact ⟨j + 1, _, by omega, by go_num, U2.out, Q2.out, NX.out⟩
            · obtain ⟨k1, k2⟩ := LD.out.1 (show hsT (shT 8) 64 = true by decide)
              have t1 := U2.out.bo.cell k1
              rw [TH.out, decide_eq_true k2] at t1
              have n1 : (j : Int) + 1 < ((mdL L).length : Int) := by omega
              have n2 : (0 : Int) ≤ (j : Int) + 1 := by omega
              clear k2
              have i0 := cell_row X2.out (i := 0) rfl
              have i1 := cell_row X2.out (i := 1) rfl
              have i2 := cell_row X2.out (i := 2) rfl
              clear LD
              go_wp2
              go_roundg ((mdL L).length - (j + 1))
              case measure => omega
              case rel => exact ⟨j + 1, _, by omega, by go_num, U2.out, Q2.out, NX.out⟩
            · obtain ⟨k1, k2⟩ := LD.out.1 (show hsT (shT 9) 64 = true by decide)
              have t1 := U2.out.bo.cell k1
              rw [TH.out, decide_eq_true k2] at t1
              have n1 : (j : Int) + 1 < ((mdL L).length : Int) := by omega
              have n2 : (0 : Int) ≤ (j : Int) + 1 := by omega
              clear k2
              have i0 := cell_row X2.out (i := 0) rfl
              have i1 := cell_row X2.out (i := 1) rfl
              have i2 := cell_row X2.out (i := 2) rfl
              clear LD
              go_wp2
              go_roundg ((mdL L).length - (j + 1))
              case measure => omega
              case rel => exact ⟨j + 1, _, by omega, by go_num, U2.out, Q2.out, NX.out⟩
            · obtain ⟨xn, hxe, hx1, hx2⟩ := LD.out.2.1 (show hsT (shT 10) 2 = true by decide)
              have hxe2 : x = (xn : Int) := hxe
              subst hxe2
              have t2 := U2.out.bo.cell hx1
              rw [TH.out, decide_eq_true hx2] at t2
              have n3 : (xn : Int) < ((mdL L).length : Int) := by omega
              have n4 : (0 : Int) ≤ (xn : Int) := by omega
              clear hx2 hxe
              obtain ⟨yn, hye, hy1, hy2⟩ := LD.out.2.2 (show hsT (shT 10) 4 = true by decide)
              have hye2 : y = (yn : Int) := hye
              subst hye2
              have t3 := U2.out.bo.cell hy1
              rw [TH.out, decide_eq_true hy2] at t3
              have n5 : (yn : Int) < ((mdL L).length : Int) := by omega
              have n6 : (0 : Int) ≤ (yn : Int) := by omega
              clear hy2 hye
              have i0 := cell_row X2.out (i := 0) rfl
              have i1 := cell_row X2.out (i := 1) rfl
              have i2 := cell_row X2.out (i := 2) rfl
              clear LD
              go_wp2
              go_roundg ((mdL L).length - (j + 1))
              case measure => omega
              case rel => exact ⟨j + 1, _, by omega, by go_num, U2.out, Q2.out, NX.out⟩
            · have i0 := cell_row X2.out (i := 0) rfl
              have i1 := cell_row X2.out (i := 1) rfl
              have i2 := cell_row X2.out (i := 2) rfl
              clear LD
              go_wp2
              go_roundg ((mdL L).length - (j + 1))
              case measure => omega
              case rel => exact ⟨j + 1, _, by omega, by go_num, U2.out, Q2.out, NX.out⟩
        · have j1 : ¬ (j : Int) < ((mdL L).length : Int) := by omega
          obtain rfl : j = (mdL L).length := by omega
          have RR := hide (un_right UN.out (some ⟨g3, 0, none⟩) c3 f)
          have RE := hide (un_reach (q := some ⟨g, 0, none⟩) (c := c2) (q' := some ⟨g3, 0, none⟩) (c' := c3) (f := f) UN.out (fun x hx => by rw [HR.out] at hx; rw [TH.out, decide_eq_true hx]))
          rw [HR.out] at RE
          have RC : Hid (∀ V, PgI V ⟨some ⟨g3, 0, none⟩, M, c3, 2, 2, f⟩ → Calls Tryz.prog 16 #[.agg #[.slice (some ⟨g3, 0, none⟩) (mdL L).length c3, .int .i64 2, .int .i64 2, .bool f]] V fun e w' => ∃ g, e = .returned (.tuple #[.slice (some ⟨g, 0, none⟩) R.length R.length, .int .i64 0]) ∧ RowG w' g R.length (sortI R) ∧ V.heap.size ≤ g ∧ Below V.heap.size V w') := hide fun V hV => by
            have := reach_k hV RR.out RE.out
            change Calls _ _ #[.agg #[.slice (some ⟨g3, 0, none⟩) M.length c3, .int .i64 2, .int .i64 2, .bool f]] _ _ at this
            rw [ml] at this
            exact this
          have NC : Hid (∀ (V : World) (a b : Nat), RowG V a R.length (sortI R) → RowG V b R.length (sortI R) → Calls Tryz.prog 17 #[.slice (some ⟨a, 0, none⟩) R.length R.length, .slice (some ⟨b, 0, none⟩) R.length R.length] V fun e w' => e = .returned (.bool true) ∧ Below V.heap.size V w') := hide fun V a b h1 h2 => by
            have := numbers_c h1 h2 (by omega)
            rw [hsl] at this
            exact this
          have y0 := cell_row Q.out.box (i := 0) rfl
          rw [ml] at y0
          have y1 := cell_row Q.out.box (i := 1) rfl
          have y2 := cell_row Q.out.box (i := 2) rfl
          have y3 := cell_row Q.out.box (i := 3) rfl
          have ly := lt_of_heap Q.out.box
          clear ml UN RR RE hsl hjk
          go_wp2_with first
            | (go_at_call 16; (with_reducible refine (RC.out _ Q.out.pg).mono ?_); rintro e v4 ⟨ga, rfl, h41, h42, h43⟩; have G4 := hide h41; have U4 := hide (U.out.kept h43); clear h41 h42 h43)
            | (go_at_call 17; (with_reducible refine (NC.out _ _ _ U4.out.rg G4.out).mono ?_); rintro e v5 ⟨rfl, h5⟩; have B5 := hide (chain U4.out.bl h5 (Nat.le_refl _)); clear h5)
          go_ret
          exact ⟨rfl, B5.out⟩
end Go.Proofs.YtbfhahhcacnckaaGreatDoor
