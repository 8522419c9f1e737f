/-
  Right: the first that is wrong.
-/
import Derived.Test.YtpfdapnfkghgkaaGreatDoorC11
import Derived.Test.YtpfdapnfkghgkaaGreatDoorC12
import Derived.Deep.WholeRow
namespace Go.Proofs.YtpfdapnfkghgkaaGreatDoor
open Go Go.RowKit Go.Shelf
attribute [local go_sem] Oper.semAt_some

def noL : List Value := [.int .i64 0, .int .i64 0, .int .i64 0, .int .i64 0, .slice none 0 0, .slice none 0 0, .int .i64 0]
def chkL (c f : Bool) : List Value := .bool c :: .bool f :: .int .i64 0 :: .int .i64 0 :: (List.replicate 41 noL).flatten
theorem rep7 (j : Nat) (hj : j < 7) : ∀ (n d : Nat), d < n → ((List.replicate n noL).flatten)[d * 7 + j]? = noL[j]?
  | 0, d, h => absurd h (by omega)
  | n + 1, 0, _ => by rw [List.replicate_succ, List.flatten_cons, Nat.zero_mul, Nat.zero_add, List.getElem?_append_left (by simpa [noL] using hj)]
  | n + 1, d + 1, h => by
    rw [List.replicate_succ, List.flatten_cons, List.getElem?_append_right (by simp [noL]; omega), show (d + 1) * 7 + j - noL.length = d * 7 + j by simp [noL]; omega]
    exact rep7 j hj n d (by omega)
theorem chkL_at (c f : Bool) {d j : Nat} (hd : d < 41) (hj : j < 7) : (chkL c f)[4 + d * 7 + j]? = noL[j]? := by
  rw [show 4 + d * 7 + j = d * 7 + j + 1 + 1 + 1 + 1 by omega]
  exact rep7 j hj 41 d hd
theorem zero_chk : Tryz.zeroCells70.toList = chkL false false := by kernel_rfl
theorem store_chk (w1 : World) (c f : Bool) : Sem.run Tryz.prog (storeCells ⟨w1.heap.size, 0, none⟩ ((Tryz.zeroCells70.toList.set 0 (.bool c)).set 1 (.bool f))) (w1.alloc (.cells Tryz.zeroCells70 70)) = .ok () (w1.alloc (.cells (chkL c f).toArray 70)) := by
  have e : (Tryz.zeroCells70.toList.set 0 (.bool c)).set 1 (.bool f) = (chkL c f).toArray.toList := by rw [zero_chk]; rfl
  rw [e]
  exact run_storeCells_new w1 _ _ _ (by kernel_rfl) (by kernel_rfl) (by cases c <;> cases f <;> kernel_rfl)
theorem new_chk (w1 : World) (c f : Bool) : CB (w1.alloc (.cells (chkL c f).toArray 70)) w1.heap.size c f 0 0 (fun _ => ⟨noFl, 0⟩) := by
  have N := alloc_new w1 (.cells (chkL c f).toArray 70)
  have at' : ∀ (i : Nat) (v : Value), (chkL c f)[i]? = some v → (w1.alloc (.cells (chkL c f).toArray 70)).cell? ⟨w1.heap.size, i, none⟩ = some v := fun i v hv => cell_row N (i := i) (by simpa using hv)
  refine ⟨⟨_, N⟩, at' 0 _ rfl, at' 1 _ rfl, at' 2 _ rfl, at' 3 _ rfl, fun d hd => ⟨⟨?_, ?_, ?_, ?_, ?_, ?_⟩, ?_⟩⟩
  · exact at' _ _ ((chkL_at c f hd (j := 0) (by omega)).trans rfl)
  · exact at' _ _ ((chkL_at c f hd (j := 1) (by omega)).trans rfl)
  · exact at' _ _ ((chkL_at c f hd (j := 2) (by omega)).trans rfl)
  · exact at' _ _ ((chkL_at c f hd (j := 3) (by omega)).trans rfl)
  · exact at' _ _ ((chkL_at c f hd (j := 4) (by omega)).trans rfl)
  · exact at' _ _ ((chkL_at c f hd (j := 5) (by omega)).trans rfl)
  · exact at' _ _ ((chkL_at c f hd (j := 6) (by omega)).trans rfl)
/-- The answer of Right: of the nodes that are still to come. -/
noncomputable def rightM (c f : Bool) : Nat → Nat → List El → Int
  | _, _, [] => 0
  | ah, gr, x :: r => if lookM c f x.1 x.2 ah gr ≠ 0 then lookM c f x.1 x.2 ah gr else rightM c f (ah + 1) (gr + (if x.2.f.k = 7 then 1 else 0)) r

theorem every_way {P : Tr → Prop} (t : Tr) : ∀ p, Every P t → (∀ x ∈ p, P x.1) → ∀ z ∈ pp p t, ∀ x ∈ z.1, P x.1 := by
  refine Tr.ind (P := fun t => ∀ p, Every P t → (∀ x ∈ p, P x.1) → ∀ z ∈ pp p t, ∀ x ∈ z.1, P x.1) (fun t ih p he hp z hz => ?_) t
  rw [pp_eq] at hz
  rcases List.mem_cons.1 hz with q | q
  · subst q; exact hp
  · have : ∀ (ks : List Tr) (i : Nat), (∀ u ∈ ks, u ∈ t.ks) → z ∈ pps t p i ks → ∀ x ∈ z.1, P x.1 := by
      intro ks
      induction ks with
      | nil => intro i _ h; rw [pps_nil] at h; cases h
      | cons u us ih2 =>
        intro i hs h
        rw [pps_cons] at h
        rcases List.mem_append.1 h with g | g
        · exact ih u (hs u (List.mem_cons_self ..)) _ (every_kid he (hs u (List.mem_cons_self ..))) (fun x hx => by
            rcases List.mem_cons.1 hx with e | e
            · rw [e]; exact ((every_eq t).1 he).1
            · exact hp x e) z g
        · exact ih2 (i + 1) (fun v hv => hs v (List.mem_cons_of_mem _ hv)) g
    exact this t.ks 0 (fun _ h => h) q
/-- How the spots stand behind some nodes. -/
structure Inv (A : Nat → Spot) (pre : List El) : Prop where
  bd : ∀ d, 0 ≤ (A d).s ∧ (A d).s ≤ (pre.length : Int)
  nx : ∀ t x, pre ++ [x] <+: pp [] t → BA A x.1
theorem Inv.nil : Inv (fun _ => ⟨noFl, 0⟩) [] := ⟨fun d => by simp, fun t x h => by
  rw [List.nil_append] at h
  rw [told_first h]
  exact rfl⟩
theorem Inv.step {A : Nat → Spot} {pre : List El} {x : El} (h : Inv A pre) (hb : BA A x.1) : Inv (enterA A x.1.length x.2.f) (pre ++ [x]) :=
  ⟨fun d => by
    have h1 := h.bd d
    have h2 := h.bd x.1.length
    simp only [enterA, setS, List.length_append, List.length_cons, List.length_nil]
    split
    · simp; omega
    · split
      · simp; omega
      · omega, fun t y hy => BA.next (told_next hy) (SA.enter hb).1 (SA.enter hb).2⟩
/-- How Right's range stands. -/
structure RI (w : World) (t : Tr) (c f : Bool) (b be : Nat) (pre : List El) (V : World) : Prop where
  chk : ∃ A, CB V b c f (pre.length : Int) (grpM pre : Int) A ∧ Inv A pre
  pfx : pre <+: pp [] t
  len : pre.length ≤ 2000
  res : V.heap[be]? = some (.cells #[.int .i64 0] 35 (0, 0))
  bel : Below w.heap.size w V
  ans : ∀ rest, pp [] t = pre ++ rest → rightM c f 0 0 (pp [] t) = rightM c f pre.length (grpM pre) rest
/-- A round that lays the node that it is handed into a box, and its depth into a slot. -/
def Ax2 (r s B : Nat) (y : Act) (x : El) (a' : Act) (W : World) : Prop := ∃ bx, BoxN W bx x.2.f ∧ B ≤ bx ∧ a' = { y with tmps := (y.tmps.setIfInBounds r (.int .i64 ((x.1.length : Int) + 1))).setIfInBounds s (.pointer (some ⟨bx, 0, none⟩)) }
theorem ax2_own (r s B : Nat) (y : Act) (x : El) (a' : Act) : OwnFrom B (fun (_ : Unit) W => Ax2 r s B y x a' W) := fun _ _ _ _ h hg hr => by
  obtain ⟨bx, h1, h2, h3⟩ := h
  exact ⟨bx, cells_kept hg hr h1, h2, h3⟩
set_option maxRecDepth 100000 in
set_option maxHeartbeats 4000000 in
theorem right_in (n : Nat) (hn : 3 ≤ n) {w : World} {t : Tr} (c f : Bool) (hta : TA w t) :
    CallsIn Fence.wide n Tryz.prog 11 #[.agg #[.int .i64 t.f.k, .int .i64 t.f.n, .int .i64 t.f.mn, .int .i64 t.f.mx, .slice t.f.rq t.f.rs.length t.f.rc, .slice t.f.kq t.f.kl t.f.kc], .agg #[.bool c, .bool f]] w fun e w' => e = .returned (.int .i64 (rightM c f 0 0 (pp [] t))) ∧ Below w.heap.size w w' := by
  have hfn : ∀ f, Fence.wide.fn f := fun _ => trivial
  refine callsIn_of_wp_marks Tryz.func11 rfl trivial ?_ rfl
  simp only [Tryz.ntmps11, List.size_toArray, List.length_cons, List.length_nil, Nat.reduceAdd, Nat.reduceSub, Array.replicate_succ, Array.replicate_zero, List.push_toArray, List.append_toArray, List.nil_append, List.cons_append]
  refine wpIn_wide.2 ?_
  have HTA := hide hta
  go_upto_region 1 with fail
  have N0 : Hid (BoxN (((w.alloc (.cells #[.int .i64 t.f.k, .int .i64 t.f.n, .int .i64 t.f.mn, .int .i64 t.f.mx, .slice t.f.rq t.f.rs.length t.f.rc, .slice t.f.kq t.f.kl t.f.kc] 28)).alloc (.cells #[.bool c, .bool f] 23)).alloc (.cells #[.int .i64 0] 35)) w.heap.size t.f) := (Below.heap_alloc _ _ _ (by simp; omega)).trans ((Below.heap_alloc _ _ _ (by simp)).trans (alloc_new w _))
  have M0 : Hid ((((w.alloc (.cells #[.int .i64 t.f.k, .int .i64 t.f.n, .int .i64 t.f.mn, .int .i64 t.f.mx, .slice t.f.rq t.f.rs.length t.f.rc, .slice t.f.kq t.f.kl t.f.kc] 28)).alloc (.cells #[.bool c, .bool f] 23)).alloc (.cells #[.int .i64 0] 35)).heap[w.heap.size + 1]? = some (.cells #[.bool c, .bool f] 23 (0, 0))) := (Below.heap_alloc _ _ _ (by simp)).trans (by have := alloc_new (w.alloc (.cells #[.int .i64 t.f.k, .int .i64 t.f.n, .int .i64 t.f.mn, .int .i64 t.f.mx, .slice t.f.rq t.f.rs.length t.f.rc, .slice t.f.kq t.f.kl t.f.kc] 28)) (.cells #[.bool c, .bool f] 23); rwa [World.size_alloc] at this)
  have E0 : Hid ((((w.alloc (.cells #[.int .i64 t.f.k, .int .i64 t.f.n, .int .i64 t.f.mn, .int .i64 t.f.mx, .slice t.f.rq t.f.rs.length t.f.rc, .slice t.f.kq t.f.kl t.f.kc] 28)).alloc (.cells #[.bool c, .bool f] 23)).alloc (.cells #[.int .i64 0] 35)).heap[w.heap.size + 1 + 1]? = some (.cells #[.int .i64 0] 35 (0, 0))) := (by have := alloc_new ((w.alloc (.cells #[.int .i64 t.f.k, .int .i64 t.f.n, .int .i64 t.f.mn, .int .i64 t.f.mx, .slice t.f.rq t.f.rs.length t.f.rc, .slice t.f.kq t.f.kl t.f.kc] 28)).alloc (.cells #[.bool c, .bool f] 23)) (.cells #[.int .i64 0] 35); rwa [World.size_alloc, World.size_alloc] at this)
  have B0 : Hid (Below w.heap.size w (((w.alloc (.cells #[.int .i64 t.f.k, .int .i64 t.f.n, .int .i64 t.f.mn, .int .i64 t.f.mx, .slice t.f.rq t.f.rs.length t.f.rc, .slice t.f.kq t.f.kl t.f.kc] 28)).alloc (.cells #[.bool c, .bool f] 23)).alloc (.cells #[.int .i64 0] 35))) := (((Below.refl _ _).alloc (Nat.le_refl _) _).alloc (by simp) _).alloc (by simp; omega) _
  generalize (((w.alloc (.cells #[.int .i64 t.f.k, .int .i64 t.f.n, .int .i64 t.f.mn, .int .i64 t.f.mx, .slice t.f.rq t.f.rs.length t.f.rc, .slice t.f.kq t.f.kl t.f.kc] 28)).alloc (.cells #[.bool c, .bool f] 23)).alloc (.cells #[.int .i64 0] 35)) = w1 at N0 M0 E0 B0 ⊢
  generalize hbm : w.heap.size + 1 = bm at M0 E0 ⊢
  generalize hbe : bm + 1 = be at E0 ⊢
  have m0 : w1.cell? ⟨bm, 0, none⟩ = some (.bool c) := cell_row M0.out (i := 0) rfl
  have m1 : w1.cell? ⟨bm, 1, none⟩ = some (.bool f) := cell_row M0.out (i := 1) rfl
  have hst := store_chk w1 c f
  go_upto_region 2 with fail
  have C2 : Hid (CB (w1.alloc (.cells (chkL c f).toArray 70)) w1.heap.size c f 0 0 (fun _ => ⟨noFl, 0⟩)) := new_chk w1 c f
  have K2 : Below w1.heap.size w1 (w1.alloc (.cells (chkL c f).toArray 70)) := (Below.refl _ _).alloc (Nat.le_refl _) _
  have N2 : Hid (BoxN (w1.alloc (.cells (chkL c f).toArray 70)) w.heap.size t.f) := (K2.block _ (lt_of_heap N0.out)).trans N0.out
  have E2 : Hid ((w1.alloc (.cells (chkL c f).toArray 70)).heap[be]? = some (.cells #[.int .i64 0] 35 (0, 0))) := (K2.block _ (lt_of_heap E0.out)).trans E0.out
  have B2 : Hid (Below w.heap.size w (w1.alloc (.cells (chkL c f).toArray 70))) := chain B0.out K2 (Nat.le_refl _)
  have hbb : w.heap.size ≤ w1.heap.size := B0.out.size
  have hbe2 : w.heap.size ≤ be := by omega
  have hbl := lt_of_heap E0.out
  generalize (w1.alloc (.cells (chkL c f).toArray 70)) = w2 at C2 K2 N2 E2 B2 ⊢
  clear hst m0 m1 N0 M0 E0 K2
  generalize w1.heap.size = b at C2 hbb hbl ⊢
  obtain ⟨c0, c1, c2, c3, c4, c5⟩ := N2.out.six
  simp only [Nat.zero_add] at c1 c2 c3 c4 c5
  go_wp2_with (go_at_call 28; (with_reducible refine (nodes_c _ _).mono ?_); rintro e w3 ⟨rfl, rfl⟩)
  have K3 : Below w2.heap.size w2 (w2.alloc (.cells #[.int .i64 t.f.k, .int .i64 t.f.n, .int .i64 t.f.mn, .int .i64 t.f.mx, .slice t.f.rq t.f.rs.length t.f.rc, .slice t.f.kq t.f.kl t.f.kc] 28)) := (Below.refl _ _).alloc (Nat.le_refl _) _
  have N3 : BoxN (w2.alloc (.cells #[.int .i64 t.f.k, .int .i64 t.f.n, .int .i64 t.f.mn, .int .i64 t.f.mx, .slice t.f.rq t.f.rs.length t.f.rc, .slice t.f.kq t.f.kl t.f.kc] 28)) w2.heap.size t.f := alloc_new w2 _
  have C3 := C2.out.kept K3
  have E3 := (K3.block _ (lt_of_heap E2.out)).trans E2.out
  have B3 := chain B2.out K3 (Nat.le_refl _)
  generalize (w2.alloc (.cells #[.int .i64 t.f.k, .int .i64 t.f.n, .int .i64 t.f.mn, .int .i64 t.f.mx, .slice t.f.rq t.f.rs.length t.f.rc, .slice t.f.kq t.f.kl t.f.kc] 28)) = w4 at K3 N3 C3 E3 B3 ⊢
  generalize w2.heap.size = bn at N3 ⊢
  clear c0 c1 c2 c3 c4 c5 C2 N2 E2 B2 K3
  have L4 := C3.lt
  have L5 := lt_of_heap E3
  refine (wpIn_wide (n := n)).1 ?_
  refine rangeN (by omega) 13 14 bn rfl rfl N3 HTA.out (CK.of_below B3) (RI w t c f b be) (fun k pre V => k = .ret ∧ V.heap[be]? = some (.cells #[.int .i64 (rightM c f 0 0 (pp [] t))] 35 (0, 0)) ∧ Below w.heap.size w V)
    ?_ ?_ (fun pre W h => by have := h.len; omega) ⟨⟨_, C3, Inv.nil⟩, List.nil_prefix, by simp, E3, B3, fun rest hr => by rw [hr]; rfl⟩ (Ax2 6 7 w4.heap.size) (ax2_own _ _ _) ?_ ?_ ?_ ?_
  · rintro pre V V' row h hg hr
    obtain ⟨A, hA, hI⟩ := h.chk
    exact ⟨⟨A, hA.row hg hr, hI⟩, h.pfx, h.len, cells_kept hg hr h.res, bel_grown h.bel (Nat.le_refl _) B3.size hg hr, h.ans⟩
  · rintro k pre V V' row ⟨h0, h1, h2⟩ hg hr
    exact ⟨h0, cells_kept hg hr h1, bel_grown h2 (Nat.le_refl _) B3.size hg hr⟩
  · intro l pre x V K _ _ hs _ hK
    have HS := hide hs
    simp only [roundN]
    gi_wp2
    exact hK _ _ ((Below.refl _ _).alloc (Nat.le_refl _) _) ⟨_, alloc_new V _, HS.out, rfl⟩
  · rintro l pre x a' V h hck hsz ht ⟨bx, hbx, hbl2, rfl⟩
    obtain ⟨A, hA, hI⟩ := h.chk
    have hba := hI.nx t x ht
    obtain ⟨rest, hrest⟩ := ht
    have hin : x ∈ pp [] t := by rw [← hrest]; simp
    have hway : ∀ y ∈ x.1, NA w y.1 := every_way t [] HTA.out (fun _ z => by cases z) x hin
    have hkl : (A x.1.length).f.kl ≤ 9223372036854775807 := by
      cases hx : x.1 with
      | nil =>
        rw [hx] at hba
        have : (A 0).f = noFl := hba
        rw [List.length_nil, this]
        simp [noFl]
      | cons y ys =>
        rw [hx] at hba hway
        have e := hba.1
        rw [List.length_cons, e]
        have hy := hway y (List.mem_cons_self ..)
        obtain ⟨q, cap, -, hm, -⟩ := hy.k.slice
        show y.1.f.kl ≤ _
        rw [hy.kl]
        exact hm
    have hbd := hI.bd x.1.length
    have hdp := told_deep (t := t) (pre := pre) (x := x) ⟨rest, hrest⟩
    have hlen := h.len
    have hgl := grpM_le pre
    have LK := hide (look_c (t := x.2) hA hba (fun y hy => (hway y hy).kl) hkl ⟨hbd.1, by omega⟩ ((HTA.out.at hin).node.ck hck) hlen (by omega) (by omega))
    have HE := hide (show pp [] t = pre ++ x :: rest by rw [← hrest]; simp)
    have HA2 := hide (h.ans (x :: rest) HE.out)
    have HH := hide h
    have HBA := hide hba
    have HI := hide hI
    obtain ⟨k0, k1, k2, k3, k4, k5⟩ := hbx.six
    simp only [Nat.zero_add] at k1 k2 k3 k4 k5
    obtain ⟨m, hm⟩ : ∃ m, lookM c f x.1 x.2 pre.length (grpM pre) = m := ⟨_, rfl⟩
    have HM := hide hm
    have HBX := hide hbx
    clear h hck hsz hbx hba hrest hin hway hkl hbd hm hI hgl
    simp only [roundN]
    by_cases hm0 : m = 0
    · have e0 : (m != 0) = false := by simpa using hm0
      gi_wp2
      refine ⟨(fun z => by cases z), (CallsIn.inRound l (callsIn_wide.2 (LK.out))).mono ?_⟩
      rintro e V5 ⟨he5, h51, h52⟩
      rw [HM.out] at he5 h51
      subst he5
      have X5 := hide (h51 hm0)
      have F5 := hide h52
      clear h51 h52
      gi_wp2
      subst hm0
      have hl2 : pre.length < 2000 := by
        rcases Nat.lt_or_ge pre.length 2000 with z | z
        · exact z
        · have := HM.out
          unfold lookM at this
          rw [if_pos (by omega)] at this
          cases this
      refine ⟨F5.out.keepsFrom (fun k hk => by omega), F5.out.ckeep (fun k hk => by rintro (z | z) <;> omega), ⟨⟨_, ?_, HI.out.step HBA.out⟩, ?_, by simp; omega, (F5.out.block _ (lt_of_heap HH.out.res) (by omega)).trans HH.out.res, chainF HH.out.bel F5.out (Nat.le_refl _) (fun k e => by omega), fun rest' hr' => ?_⟩⟩
      · have := X5.out
        rw [grpM_snoc, Int.natCast_add, show (((if x.2.f.k = 7 then 1 else 0 : Nat)) : Int) = (if x.2.f.k = 7 then 1 else 0) by split <;> rfl]
        simpa using this
      · exact ⟨rest, by rw [HE.out]; simp⟩
      · rw [HE.out, List.append_assoc, List.append_cancel_left_eq] at hr'
        simp at hr'
        subst hr'
        rw [HA2.out]
        simp only [rightM, HM.out, ne_eq, not_true, if_false, List.length_append, List.length_cons, List.length_nil, grpM_snoc]
    · have e0 : (m != 0) = true := by simpa using hm0
      have HR := hide (show m = rightM c f 0 0 (pp [] t) by rw [HA2.out]; simp only [rightM, HM.out, ne_eq, hm0, not_false_eq_true, if_true])
      gi_wp2
      refine ⟨(fun z => by cases z), (CallsIn.inRound l (callsIn_wide.2 (LK.out))).mono ?_⟩
      rintro e V5 ⟨he5, h51, h52⟩
      rw [HM.out] at he5
      subst he5
      have F5 := hide h52
      have E5 : V5.heap[be]? = some (.cells #[.int .i64 0] 35 (0, 0)) := (h52.block _ (lt_of_heap HH.out.res) (by omega)).trans HH.out.res
      have fz := frz_row E5 0
      have cz := cell_row E5 (i := 0) rfl
      have E6 := hide (heap_set_in E5 0 (.int .i64 m))
      have F6 := hide ((Fr.refl (fun z => z = be) V5).setCell (p := ⟨be, 0, none⟩) rfl (.int .i64 m))
      clear h51 h52 E5
      gi_wp2
      refine ⟨(F5.out.keepsFrom (fun k hk => by omega)).trans (F6.out.keepsFrom (fun k hk => by omega)), rfl, by rw [← HR.out]; exact E6.out, chainF (chainF HH.out.bel F5.out (Nat.le_refl _) (fun k e => by omega)) F6.out (Nat.le_refl _) (fun k e => by omega)⟩
  · rintro D V hD h hck hK
    have e1 : rightM c f 0 0 (pp [] t) = 0 := by rw [h.ans [] (by simp)]; rfl
    have HH := hide h
    have HK := hide hK
    have HD := hide hD
    have fz := frz_row h.res 0
    have cz := cell_row h.res (i := 0) rfl
    have E6 := hide (heap_set_in h.res 0 (.int .i64 0))
    have F6 := hide ((Fr.refl (fun z => z = be) V).setCell (p := ⟨be, 0, none⟩) rfl (.int .i64 0))
    clear h hck hK hD
    simp only [behindN]
    go_wp2
    have hDb : be ≠ D := by have := HD.out; omega
    have cw : ((V.setCell ⟨be, 0, none⟩ (.int .i64 0)).putObj D (.deferred none)).cell? ⟨be, 0, none⟩ = some (.int .i64 0) := cell_row ((World.putObj_heap_other hDb).trans E6.out) (i := 0) rfl
    refine ⟨by simp, .inl ⟨_, _, rfl, run_takeDeferred ((F6.out.block _ (lt_of_heap HK.out) (by have := HD.out; omega)).trans HK.out), ?_⟩⟩
    exact ⟨.int .i64 (rightM c f 0 0 (pp [] t)), by simp [results, Tryz.results11, go_sem, cw, e1], rfl, bel_put _ (chainF HH.out.bel F6.out (Nat.le_refl _) (fun k e => by omega)) (Nat.le_trans B3.size HD.out)⟩
  · rintro D k pre V hD hpre ⟨rfl, h1, h2⟩ hK
    refine (wpIn_wide (n := n)).2 ?_
    have H1 := hide h1
    have H2 := hide h2
    have HK := hide hK
    have hDb : be ≠ D := by omega
    have cw : (V.putObj D (.deferred none)).cell? ⟨be, 0, none⟩ = some (.int .i64 (rightM c f 0 0 (pp [] t))) := cell_row ((World.putObj_heap_other hDb).trans H1.out) (i := 0) rfl
    clear h1 h2 hK
    simp only [behindN]
    go_wp2
    refine ⟨by simp, .inl ⟨_, _, rfl, run_takeDeferred HK.out, ?_⟩⟩
    exact ⟨.int .i64 (rightM c f 0 0 (pp [] t)), by simp [results, Tryz.results11, go_sem, cw], rfl, bel_put _ H2.out (Nat.le_trans B3.size hD)⟩
theorem right8_c {w : World} {t : Tr} (c f : Bool) (hta : TA w t) : Calls Tryz.prog 11 #[.agg #[.int .i64 t.f.k, .int .i64 t.f.n, .int .i64 t.f.mn, .int .i64 t.f.mx, .slice t.f.rq t.f.rs.length t.f.rc, .slice t.f.kq t.f.kl t.f.kc], .agg #[.bool c, .bool f]] w fun e w' => e = .returned (.int .i64 (rightM c f 0 0 (pp [] t))) ∧ Below w.heap.size w w' := callsIn_wide.1 (right_in 3 (by decide) c f hta)
end Go.Proofs.YtpfdapnfkghgkaaGreatDoor
