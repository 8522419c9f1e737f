/-
  TreeJoins: Cat of Cats is Cat of all; Alt likewise.
-/
import Derived.Test.YtlodjinejeajcaaSpellsProofB0
import Derived.Test.YtlodjinejeajcaaC17
import Derived.Deep.RegionHeld
namespace Go.Proofs.Ytlodjinejeajcaa
open Go Go.RowKit
attribute [local go_sem] ext_cell

/-- The law's own boxes. -/
structure JW (w W : World) (ba bb bc : Nat) (a b c : Tr) : Prop where
  xa : BoxN W ba a.f
  xb : BoxN W bb b.f
  xc : BoxN W bc c.f
  ta : TA W a
  tb : TA W b
  tc : TA W c
  bel : Below w.heap.size w W
theorem JW.kept {w W W' : World} {ba bb bc : Nat} {a b c : Tr} (h : JW w W ba bb bc a b c) (hb : Below W.heap.size W W') : JW w W' ba bb bc a b c :=
  ⟨(hb.block _ (lt_of_heap h.xa)).trans h.xa, (hb.block _ (lt_of_heap h.xb)).trans h.xb, (hb.block _ (lt_of_heap h.xc)).trans h.xc, h.ta.kept hb, h.tb.kept hb, h.tc.kept hb, chain h.bel hb (Nat.le_refl _)⟩
/-- A box that holds a tree. -/
def RB (W : World) (B : Nat) (X : Er) : Prop := ∃ t, BoxN W B t.f ∧ TA W t ∧ er t = X
theorem RB.kept {W W' : World} {B : Nat} {X : Er} (h : RB W B X) (hb : Below W.heap.size W W') : RB W' B X := by
  obtain ⟨t, h1, h2, h3⟩ := h
  exact ⟨t, (hb.block _ (lt_of_heap h1)).trans h1, h2.kept hb, h3⟩
def SJ (W V : World) : Prop := Below W.heap.size W V
theorem SJ.out {W V : World} (h : SJ W V) : Below W.heap.size W V := h
theorem SJ.drew (W : World) : SJ W W.drew := (Below.refl _ _).drew
theorem SJ.alloc {W V : World} (h : SJ W V) (o : Obj) : SJ W (V.alloc o) := Below.alloc h h.out.size o
theorem SJ.set {W V : World} (h : SJ W V) {b : Nat} (hb : W.heap.size ≤ b) (i : Nat) (v : Value) : SJ W (V.setCell ⟨b, i, none⟩ v) := Below.setCell h hb v
theorem SJ.call {W V V' : World} (h : SJ W V) (hb : Below V.heap.size V V') : SJ W V' := chain h.out hb (Nat.le_refl _)
theorem SJ.size {W V : World} (h : SJ W V) : W.heap.size ≤ V.heap.size := h.out.size
theorem SJ.six {W V : World} {b : Nat} {f : Fl} (h : SJ W V) (x : BoxN W b f) : Six V b 0 f := BoxN.six ((h.out.block _ (lt_of_heap x)).trans x)
theorem new_fst (V : World) (o o' : Obj) : ((V.alloc o).alloc o').heap[V.heap.size]? = some o := (Below.heap_alloc _ _ _ (by simp)).trans (World.alloc_heap_new V o)
theorem new_snd (V : World) (o o' : Obj) : ((V.alloc o).alloc o').heap[V.heap.size + 1]? = some o' := by
  have := World.alloc_heap_new (V.alloc o) o'
  rwa [World.size_alloc] at this
theorem new_d (V : World) (o : Obj) : (V.alloc o).drew.heap[V.heap.size]? = some o := World.alloc_heap_new V o
theorem new_fst_d (V : World) (o o' : Obj) : ((V.alloc o).alloc o').drew.heap[V.heap.size]? = some o := new_fst V o o'
theorem new_snd_d (V : World) (o o' : Obj) : ((V.alloc o).alloc o').drew.heap[V.heap.size + 1]? = some o' := new_snd V o o'
theorem SJ.ad {W V : World} (h : SJ W V.drew) (o : Obj) : SJ W (V.alloc o).drew := SJ.alloc h o
theorem bel1 (V : World) (o : Obj) : Below V.heap.size V (V.alloc o) := (Below.refl _ _).alloc (Nat.le_refl _) _
theorem bel2 (V : World) (o o' : Obj) : Below V.heap.size V ((V.alloc o).alloc o') := (bel1 V o).alloc (by simp) _
theorem old1 {V : World} {k : Nat} {o : Obj} (h : V.heap[k]? = some o) (o' : Obj) : (V.alloc o').heap[k]? = some o := (Below.heap_alloc _ _ _ (lt_of_heap h)).trans h
theorem zkeep {V w6 : World} {k : Nat} {o : Obj} (zV : V.heap[k]? = some o) (g : Below V.heap.size V w6) : w6.heap[k]? = some o := (g.block _ (lt_of_heap zV)).trans zV
theorem zpair {V w6 : World} {t : Tr} {k : Nat} {o : Obj} (zV : V.heap[k]? = some o) (g : Below V.heap.size V w6) (hf : Foot (fun i => V.heap.size ≤ i) t) : w6.heap[k]? = some o ∧ Foot (fun i => k < i) t := ⟨zkeep zV g, hf.mono (fun _ hk => Nat.lt_of_lt_of_le (lt_of_heap zV) hk)⟩
theorem put6_box {W : World} {b : Nat} (h : W.heap[b]? = some (.cells #[.int .i64 0, .int .i64 0, .int .i64 0, .int .i64 0, .slice none 0 0, .slice none 0 0] 25 (0, 0))) (f : Fl) : BoxN (put6 W b 0 f) b f := by
  have h0 := heap_set_in h 0 (.int .i64 f.k)
  have h1 := heap_set_in h0 1 (.int .i64 f.n)
  have h2 := heap_set_in h1 2 (.int .i64 f.mn)
  have h3 := heap_set_in h2 3 (.int .i64 f.mx)
  have h4 := heap_set_in h3 4 (.slice f.rq f.rs.length f.rc)
  have h5 := heap_set_in h4 5 (.slice f.kq f.kl f.kc)
  exact h5
theorem cut_old {W w6 : World} {b : Nat} {t : Tr} {X : Er} (hS : SJ W w6) (hb : W.heap.size ≤ b) (z : w6.heap[b]? = some (.cells #[.int .i64 0, .int .i64 0, .int .i64 0, .int .i64 0, .slice none 0 0, .slice none 0 0] 25 (0, 0)) ∧ Foot (fun i => b < i) t) (ht : TA w6 t) (hX : er t = X) : RB ((((((w6.setCell ⟨b, 0, none⟩ (.int .i64 t.f.k)).setCell ⟨b, 1, none⟩ (.int .i64 t.f.n)).setCell ⟨b, 2, none⟩ (.int .i64 t.f.mn)).setCell ⟨b, 3, none⟩ (.int .i64 t.f.mx)).setCell ⟨b, 4, none⟩ (.slice t.f.rq t.f.rs.length t.f.rc)).setCell ⟨b, 5, none⟩ (.slice t.f.kq t.f.kl t.f.kc)) b X ∧ Below W.heap.size W ((((((w6.setCell ⟨b, 0, none⟩ (.int .i64 t.f.k)).setCell ⟨b, 1, none⟩ (.int .i64 t.f.n)).setCell ⟨b, 2, none⟩ (.int .i64 t.f.mn)).setCell ⟨b, 3, none⟩ (.int .i64 t.f.mx)).setCell ⟨b, 4, none⟩ (.slice t.f.rq t.f.rs.length t.f.rc)).setCell ⟨b, 5, none⟩ (.slice t.f.kq t.f.kl t.f.kc)) := by
  have h : RB (put6 w6 b 0 t.f) b X ∧ Below W.heap.size W (put6 w6 b 0 t.f) := ⟨⟨t, put6_box z.1 t.f, (laid_res ht z.2 z.1).2.1, hX⟩, chainF hS.out (put6_fr w6 b 0 t.f) (Nat.le_refl _) (fun k e => by omega)⟩
  unfold put6 at h
  simpa only [Nat.zero_add] using h
theorem cut_new {W w6 : World} {t : Tr} {X : Er} (hS : SJ W w6) (ht : TA w6 t) (hX : er t = X) : RB (w6.alloc (.cells #[.int .i64 t.f.k, .int .i64 t.f.n, .int .i64 t.f.mn, .int .i64 t.f.mx, .slice t.f.rq t.f.rs.length t.f.rc, .slice t.f.kq t.f.kl t.f.kc] 25)) w6.heap.size X ∧ Below W.heap.size W (w6.alloc (.cells #[.int .i64 t.f.k, .int .i64 t.f.n, .int .i64 t.f.mn, .int .i64 t.f.mx, .slice t.f.rq t.f.rs.length t.f.rc, .slice t.f.kq t.f.kl t.f.kc] 25)) :=
  ⟨⟨t, alloc_new _ _, ht.kept (bel1 _ _), hX⟩, (hS.alloc _).out⟩

set_option maxRecDepth 100000 in
set_option maxHeartbeats 16000000 in
theorem law_joins {w : World} {a b c : Tr} (ha : TA w a) (hb : TA w b) (hc : TA w c) :
    Calls Try.prog 5 #[.agg #[.int .i64 a.f.k, .int .i64 a.f.n, .int .i64 a.f.mn, .int .i64 a.f.mx, .slice a.f.rq a.f.rs.length a.f.rc, .slice a.f.kq a.f.kl a.f.kc], .agg #[.int .i64 b.f.k, .int .i64 b.f.n, .int .i64 b.f.mn, .int .i64 b.f.mx, .slice b.f.rq b.f.rs.length b.f.rc, .slice b.f.kq b.f.kl b.f.kc], .agg #[.int .i64 c.f.k, .int .i64 c.f.n, .int .i64 c.f.mn, .int .i64 c.f.mx, .slice c.f.rq c.f.rs.length c.f.rc, .slice c.f.kq c.f.kl c.f.kc]] w fun e w' => e = .returned (.bool true) ∧ Below w.heap.size w w' := by
  have J0 : Hid (JW w (((w.alloc (.cells #[.int .i64 a.f.k, .int .i64 a.f.n, .int .i64 a.f.mn, .int .i64 a.f.mx, .slice a.f.rq a.f.rs.length a.f.rc, .slice a.f.kq a.f.kl a.f.kc] 25)).alloc (.cells #[.int .i64 b.f.k, .int .i64 b.f.n, .int .i64 b.f.mn, .int .i64 b.f.mx, .slice b.f.rq b.f.rs.length b.f.rc, .slice b.f.kq b.f.kl b.f.kc] 25)).alloc (.cells #[.int .i64 c.f.k, .int .i64 c.f.n, .int .i64 c.f.mn, .int .i64 c.f.mx, .slice c.f.rq c.f.rs.length c.f.rc, .slice c.f.kq c.f.kl c.f.kc] 25)) w.heap.size (w.heap.size + 1) (w.heap.size + 1 + 1) a b c) := (by
    have B : Below w.heap.size w (((w.alloc (.cells #[.int .i64 a.f.k, .int .i64 a.f.n, .int .i64 a.f.mn, .int .i64 a.f.mx, .slice a.f.rq a.f.rs.length a.f.rc, .slice a.f.kq a.f.kl a.f.kc] 25)).alloc (.cells #[.int .i64 b.f.k, .int .i64 b.f.n, .int .i64 b.f.mn, .int .i64 b.f.mx, .slice b.f.rq b.f.rs.length b.f.rc, .slice b.f.kq b.f.kl b.f.kc] 25)).alloc (.cells #[.int .i64 c.f.k, .int .i64 c.f.n, .int .i64 c.f.mn, .int .i64 c.f.mx, .slice c.f.rq c.f.rs.length c.f.rc, .slice c.f.kq c.f.kl c.f.kc] 25)) := ((bel1 _ _).alloc (by simp) _).alloc (by simp; omega) _
    refine ⟨(Below.heap_alloc _ _ _ (by simp; omega)).trans (new_fst _ _ _), (Below.heap_alloc _ _ _ (by simp)).trans (new_snd _ _ _), ?_, ha.kept B, hb.kept B, hc.kept B, B⟩
    have := World.alloc_heap_new ((w.alloc (.cells #[.int .i64 a.f.k, .int .i64 a.f.n, .int .i64 a.f.mn, .int .i64 a.f.mx, .slice a.f.rq a.f.rs.length a.f.rc, .slice a.f.kq a.f.kl a.f.kc] 25)).alloc (.cells #[.int .i64 b.f.k, .int .i64 b.f.n, .int .i64 b.f.mn, .int .i64 b.f.mx, .slice b.f.rq b.f.rs.length b.f.rc, .slice b.f.kq b.f.kl b.f.kc] 25)) (.cells #[.int .i64 c.f.k, .int .i64 c.f.n, .int .i64 c.f.mn, .int .i64 c.f.mx, .slice c.f.rq c.f.rs.length c.f.rc, .slice c.f.kq c.f.kl c.f.kc] 25)
    rwa [World.size_alloc, World.size_alloc] at this)
  clear ha hb hc
  go_enter Try.func5, Try.ntmps5
  go_upto_region 1 with fail
  generalize (((w.alloc (.cells #[.int .i64 a.f.k, .int .i64 a.f.n, .int .i64 a.f.mn, .int .i64 a.f.mx, .slice a.f.rq a.f.rs.length a.f.rc, .slice a.f.kq a.f.kl a.f.kc] 25)).alloc (.cells #[.int .i64 b.f.k, .int .i64 b.f.n, .int .i64 b.f.mn, .int .i64 b.f.mx, .slice b.f.rq b.f.rs.length b.f.rc, .slice b.f.kq b.f.kl b.f.kc] 25)).alloc (.cells #[.int .i64 c.f.k, .int .i64 c.f.n, .int .i64 c.f.mn, .int .i64 c.f.mx, .slice c.f.rq c.f.rs.length c.f.rc, .slice c.f.kq c.f.kl c.f.kc] 25)) = W0 at J0 ⊢
  generalize w.heap.size + 1 + 1 = bc at J0 ⊢
  generalize w.heap.size + 1 = bb at J0 ⊢
  obtain ⟨ba, hba⟩ : ∃ ba, ba = w.heap.size := ⟨_, rfl⟩
  rw [← hba] at J0 ⊢
  clear hba
  go_upto_region 2 with (go_at_call 9; (with_reducible refine (examples8_c _).mono ?_); rintro e W1 ⟨rfl, a4⟩; have HJ := hide (J0.out.kept a4); clear a4 J0)
  have CA : Hid (∀ z : Ext W1, Calls Try.prog 12 #[.agg #[.int .i64 a.f.k, .int .i64 a.f.n, .int .i64 a.f.mn, .int .i64 a.f.mx, .slice a.f.rq a.f.rs.length a.f.rc, .slice a.f.kq a.f.kl a.f.kc]] z.val fun e w'' => e = .returned (.int .i64 (cntT a : Int)) ∧ ∃ y : Ext W1, w'' = y.val) := fun z => ext_call (cnt_c (HJ.out.ta.kept (ext_below z)))
  have CB : Hid (∀ z : Ext W1, Calls Try.prog 12 #[.agg #[.int .i64 b.f.k, .int .i64 b.f.n, .int .i64 b.f.mn, .int .i64 b.f.mx, .slice b.f.rq b.f.rs.length b.f.rc, .slice b.f.kq b.f.kl b.f.kc]] z.val fun e w'' => e = .returned (.int .i64 (cntT b : Int)) ∧ ∃ y : Ext W1, w'' = y.val) := fun z => ext_call (cnt_c (HJ.out.tb.kept (ext_below z)))
  have CC : Hid (∀ z : Ext W1, Calls Try.prog 12 #[.agg #[.int .i64 c.f.k, .int .i64 c.f.n, .int .i64 c.f.mn, .int .i64 c.f.mx, .slice c.f.rq c.f.rs.length c.f.rc, .slice c.f.kq c.f.kl c.f.kc]] z.val fun e w'' => e = .returned (.int .i64 (cntT c : Int)) ∧ ∃ y : Ext W1, w'' = y.val) := fun z => ext_call (cnt_c (HJ.out.tc.kept (ext_below z)))
  have ua : cntT a ≤ 2001 := Nat.min_le_right _ _
  have ub : cntT b ≤ 2001 := Nat.min_le_right _ _
  have uc : cntT c ≤ 2001 := Nat.min_le_right _ _
  have HSZ0 : Hid (cntT a + cntT b + cntT c ≤ 1900 → (er a).sz + (er b).sz + (er c).sz ≤ 1900) := fun h => by
    unfold cntT at h
    rw [er_sz, er_sz, er_sz, ← pp_len a [], ← pp_len b [], ← pp_len c []]
    omega
  generalize cntT a = na at CA ua HSZ0
  generalize cntT b = nb at CB ub HSZ0
  generalize cntT c = nc at CC uc HSZ0
  have la := lt_of_heap HJ.out.xa
  have lb := lt_of_heap HJ.out.xb
  have lc := lt_of_heap HJ.out.xc
  obtain ⟨ra0, ra1, ra2, ra3, ra4, ra5⟩ := HJ.out.xa.six
  simp only [Nat.zero_add] at ra1 ra2 ra3 ra4 ra5
  obtain ⟨rb0, rb1, rb2, rb3, rb4, rb5⟩ := HJ.out.xb.six
  simp only [Nat.zero_add] at rb1 rb2 rb3 rb4 rb5
  obtain ⟨rc0, rc1, rc2, rc3, rc4, rc5⟩ := HJ.out.xc.six
  simp only [Nat.zero_add] at rc1 rc2 rc3 rc4 rc5
  refine wp_region_ext (by kernel_rfl) (by kernel_rfl) ?_
  repeat (go_big_quiet_step (first | exact rfl | (go_at_call 12; first | with_reducible exact CA.out _ | with_reducible exact CB.out _ | with_reducible exact CC.out _)))
  refine wpQuiet_nil ?_
  intro W2 hw
  have hb2 := ext_of hw
  have HJ2 := hide (HJ.out.kept hb2)
  clear hw hb2 HJ CA CB CC la lb lc ra0 ra1 ra2 ra3 ra4 ra5 rb0 rb1 rb2 rb3 rb4 rb5 rc0 rc1 rc2 rc3 rc4 rc5
  have HJ := HJ2
  by_cases hbig : 1900 < na + nb + nc
  · have e0 : (1900 : Int) < (na : Int) + (nb : Int) + (nc : Int) := by omega
    clear hbig HSZ0
    go_wp2
    go_ret
    exact ⟨rfl, HJ.out.bel⟩
  have e0 : ¬ (1900 : Int) < (na : Int) + (nb : Int) + (nc : Int) := by omega
  have HSZ := hide (HSZ0.out (by omega))
  have E0 := hide e0
  clear hbig HSZ0 HJ2
  go_upto_region 4 with fail
  go_cut [8] (fun u wx => ∃ B, u = .pointer (some ⟨B, 0, none⟩) ∧ RB wx B (catX (catX (er a) (er b)) (er c)) ∧ Below W2.heap.size W2 wx)
  case first =>
    have ra0 : ∀ V : World, SJ W2 V → V.cell? ⟨ba, 0, none⟩ = some (.int .i64 a.f.k) := fun V h => (h.six HJ.out.xa).1
    have ra1 : ∀ V : World, SJ W2 V → V.cell? ⟨ba, 1, none⟩ = some (.int .i64 a.f.n) := fun V h => (h.six HJ.out.xa).2.1
    have ra2 : ∀ V : World, SJ W2 V → V.cell? ⟨ba, 2, none⟩ = some (.int .i64 a.f.mn) := fun V h => (h.six HJ.out.xa).2.2.1
    have ra3 : ∀ V : World, SJ W2 V → V.cell? ⟨ba, 3, none⟩ = some (.int .i64 a.f.mx) := fun V h => (h.six HJ.out.xa).2.2.2.1
    have ra4 : ∀ V : World, SJ W2 V → V.cell? ⟨ba, 4, none⟩ = some (.slice a.f.rq a.f.rs.length a.f.rc) := fun V h => (h.six HJ.out.xa).2.2.2.2.1
    have ra5 : ∀ V : World, SJ W2 V → V.cell? ⟨ba, 5, none⟩ = some (.slice a.f.kq a.f.kl a.f.kc) := fun V h => (h.six HJ.out.xa).2.2.2.2.2
    have rb0 : ∀ V : World, SJ W2 V → V.cell? ⟨bb, 0, none⟩ = some (.int .i64 b.f.k) := fun V h => (h.six HJ.out.xb).1
    have rb1 : ∀ V : World, SJ W2 V → V.cell? ⟨bb, 1, none⟩ = some (.int .i64 b.f.n) := fun V h => (h.six HJ.out.xb).2.1
    have rb2 : ∀ V : World, SJ W2 V → V.cell? ⟨bb, 2, none⟩ = some (.int .i64 b.f.mn) := fun V h => (h.six HJ.out.xb).2.2.1
    have rb3 : ∀ V : World, SJ W2 V → V.cell? ⟨bb, 3, none⟩ = some (.int .i64 b.f.mx) := fun V h => (h.six HJ.out.xb).2.2.2.1
    have rb4 : ∀ V : World, SJ W2 V → V.cell? ⟨bb, 4, none⟩ = some (.slice b.f.rq b.f.rs.length b.f.rc) := fun V h => (h.six HJ.out.xb).2.2.2.2.1
    have rb5 : ∀ V : World, SJ W2 V → V.cell? ⟨bb, 5, none⟩ = some (.slice b.f.kq b.f.kl b.f.kc) := fun V h => (h.six HJ.out.xb).2.2.2.2.2
    have rc0 : ∀ V : World, SJ W2 V → V.cell? ⟨bc, 0, none⟩ = some (.int .i64 c.f.k) := fun V h => (h.six HJ.out.xc).1
    have rc1 : ∀ V : World, SJ W2 V → V.cell? ⟨bc, 1, none⟩ = some (.int .i64 c.f.n) := fun V h => (h.six HJ.out.xc).2.1
    have rc2 : ∀ V : World, SJ W2 V → V.cell? ⟨bc, 2, none⟩ = some (.int .i64 c.f.mn) := fun V h => (h.six HJ.out.xc).2.2.1
    have rc3 : ∀ V : World, SJ W2 V → V.cell? ⟨bc, 3, none⟩ = some (.int .i64 c.f.mx) := fun V h => (h.six HJ.out.xc).2.2.2.1
    have rc4 : ∀ V : World, SJ W2 V → V.cell? ⟨bc, 4, none⟩ = some (.slice c.f.rq c.f.rs.length c.f.rc) := fun V h => (h.six HJ.out.xc).2.2.2.2.1
    have rc5 : ∀ V : World, SJ W2 V → V.cell? ⟨bc, 5, none⟩ = some (.slice c.f.kq c.f.kl c.f.kc) := fun V h => (h.six HJ.out.xc).2.2.2.2.2
    go_region_held (fun V => SJ W2 V) ((first | with_reducible assumption | with_reducible exact SJ.drew _ | with_reducible exact SJ.alloc (by assumption) _ | with_reducible exact SJ.ad (by assumption) _ | with_reducible exact (((((S6.set (by omega) _ _).set (by omega) _ _).set (by omega) _ _).set (by omega) _ _).set (by omega) _ _).set (by omega) _ _)) (first | (go_at_call 16; (have q5 := T5.out); clear q5; refine (cat_two (t1 := t5) (t2 := c) (by (with_reducible first | exact alloc_new _ _ | exact new_d _ _ | exact new_fst _ _ _ | exact new_snd _ _ _ | exact new_fst_d _ _ _ | exact new_snd_d _ _ _)) (by exact (by (first | exact T5.out.kept (bel1 _ _) | exact T5.out.kept (bel2 _ _ _)))) (by exact (HJ.out.tc.kept (SJ.out (by with_reducible assumption)))) (by rw [X5.out]; have := catX_sz (er a) (er b); have := HSZ.out; omega)).mono ?_; rintro e w6 ⟨t6, rfl, g1, g2, g3, g4⟩; have T6 := hide g1; have X6 := hide (show er t6 = catX (catX (er a) (er b)) (er c) by rw [g2, X5.out]); have S6 : SJ W2 w6 := SJ.call (by with_reducible assumption) g4; first | (have Z6 : w6.heap[W2.heap.size]? = some (.cells #[.int .i64 0, .int .i64 0, .int .i64 0, .int .i64 0, .slice none 0 0, .slice none 0 0] 25 (0, 0)) ∧ Foot (fun i => W2.heap.size < i) t6 := zpair (old1 Z5 _) g4 g3; have zf := fun z => frz_row Z6.1 z; have z0 := cell_row Z6.1 (i := 0) rfl; have z1 := cell_row Z6.1 (i := 1) rfl; have z2 := cell_row Z6.1 (i := 2) rfl; have z3 := cell_row Z6.1 (i := 3) rfl; have z4 := cell_row Z6.1 (i := 4) rfl; have z5 := cell_row Z6.1 (i := 5) rfl) | (have Z6 : w6.heap[W2.heap.size + 1]? = some (.cells #[.int .i64 0, .int .i64 0, .int .i64 0, .int .i64 0, .slice none 0 0, .slice none 0 0] 25 (0, 0)) ∧ Foot (fun i => W2.heap.size + 1 < i) t6 := zpair (old1 Z5 _) g4 g3; have zf := fun z => frz_row Z6.1 z; have z0 := cell_row Z6.1 (i := 0) rfl; have z1 := cell_row Z6.1 (i := 1) rfl; have z2 := cell_row Z6.1 (i := 2) rfl; have z3 := cell_row Z6.1 (i := 3) rfl; have z4 := cell_row Z6.1 (i := 4) rfl; have z5 := cell_row Z6.1 (i := 5) rfl) | (have Z6 : w6.heap[w5.heap.size]? = some (.cells #[.int .i64 0, .int .i64 0, .int .i64 0, .int .i64 0, .slice none 0 0, .slice none 0 0] 25 (0, 0)) ∧ Foot (fun i => w5.heap.size < i) t6 := zpair (new_fst _ _ _) g4 g3; have zf := fun z => frz_row Z6.1 z; have z0 := cell_row Z6.1 (i := 0) rfl; have z1 := cell_row Z6.1 (i := 1) rfl; have z2 := cell_row Z6.1 (i := 2) rfl; have z3 := cell_row Z6.1 (i := 3) rfl; have z4 := cell_row Z6.1 (i := 4) rfl; have z5 := cell_row Z6.1 (i := 5) rfl) | (have Z6 : w6.heap[w5.heap.size + 1]? = some (.cells #[.int .i64 0, .int .i64 0, .int .i64 0, .int .i64 0, .slice none 0 0, .slice none 0 0] 25 (0, 0)) ∧ Foot (fun i => w5.heap.size + 1 < i) t6 := zpair (new_snd _ _ _) g4 g3; have zf := fun z => frz_row Z6.1 z; have z0 := cell_row Z6.1 (i := 0) rfl; have z1 := cell_row Z6.1 (i := 1) rfl; have z2 := cell_row Z6.1 (i := 2) rfl; have z3 := cell_row Z6.1 (i := 3) rfl; have z4 := cell_row Z6.1 (i := 4) rfl; have z5 := cell_row Z6.1 (i := 5) rfl) | skip; clear g1 g2 g3 g4) | (go_at_call 16; refine (cat_two (t1 := a) (t2 := b) (by (with_reducible first | exact alloc_new _ _ | exact new_d _ _ | exact new_fst _ _ _ | exact new_snd _ _ _ | exact new_fst_d _ _ _ | exact new_snd_d _ _ _)) (HJ.out.ta.kept (SJ.out (by with_reducible assumption))) (HJ.out.tb.kept (SJ.out (by with_reducible assumption))) (by have := HSZ.out; omega)).mono ?_; rintro e w5 ⟨t5, rfl, g1, g2, g3, g4⟩; have T5 := hide g1; have X5 := hide g2; have S5 : SJ W2 w5 := SJ.call (by with_reducible assumption) g4; have l5 := S5.size; first | (have Z5 : w5.heap[W2.heap.size]? = some (.cells #[.int .i64 0, .int .i64 0, .int .i64 0, .int .i64 0, .slice none 0 0, .slice none 0 0] 25 (0, 0)) := (by with_reducible exact zkeep (new_fst_d _ _ _) g4)) | (have Z5 : w5.heap[W2.heap.size + 1]? = some (.cells #[.int .i64 0, .int .i64 0, .int .i64 0, .int .i64 0, .slice none 0 0, .slice none 0 0] 25 (0, 0)) := (by with_reducible exact zkeep (new_snd_d _ _ _) g4)) | skip; clear g1 g2 g3 g4))
    all_goals go_wp2_with fail
    all_goals go_meet
    all_goals first | (with_reducible exact ⟨_, rfl, cut_old S6 (by omega) Z6 T6.out X6.out⟩) | (with_reducible exact ⟨_, rfl, cut_new S6 T6.out X6.out⟩)
  case rest =>
  obtain ⟨Bx, rfl, hnew, hbl⟩ := hcut
  have hJ := HJ.out.kept hbl
  obtain ⟨W4, hW⟩ : ∃ V, V = wc := ⟨_, rfl⟩
  subst hW
  clear HJ hbl
  have HJ := hide hJ
  have Rx := hide hnew
  clear hJ hnew
  go_upto_region 5 with fail
  go_cut [9] (fun u wx => ∃ B, u = .pointer (some ⟨B, 0, none⟩) ∧ RB wx B (catX (er a) (catX (er b) (er c))) ∧ Below W4.heap.size W4 wx)
  case first =>
    have ra0 : ∀ V : World, SJ W4 V → V.cell? ⟨ba, 0, none⟩ = some (.int .i64 a.f.k) := fun V h => (h.six HJ.out.xa).1
    have ra1 : ∀ V : World, SJ W4 V → V.cell? ⟨ba, 1, none⟩ = some (.int .i64 a.f.n) := fun V h => (h.six HJ.out.xa).2.1
    have ra2 : ∀ V : World, SJ W4 V → V.cell? ⟨ba, 2, none⟩ = some (.int .i64 a.f.mn) := fun V h => (h.six HJ.out.xa).2.2.1
    have ra3 : ∀ V : World, SJ W4 V → V.cell? ⟨ba, 3, none⟩ = some (.int .i64 a.f.mx) := fun V h => (h.six HJ.out.xa).2.2.2.1
    have ra4 : ∀ V : World, SJ W4 V → V.cell? ⟨ba, 4, none⟩ = some (.slice a.f.rq a.f.rs.length a.f.rc) := fun V h => (h.six HJ.out.xa).2.2.2.2.1
    have ra5 : ∀ V : World, SJ W4 V → V.cell? ⟨ba, 5, none⟩ = some (.slice a.f.kq a.f.kl a.f.kc) := fun V h => (h.six HJ.out.xa).2.2.2.2.2
    have rb0 : ∀ V : World, SJ W4 V → V.cell? ⟨bb, 0, none⟩ = some (.int .i64 b.f.k) := fun V h => (h.six HJ.out.xb).1
    have rb1 : ∀ V : World, SJ W4 V → V.cell? ⟨bb, 1, none⟩ = some (.int .i64 b.f.n) := fun V h => (h.six HJ.out.xb).2.1
    have rb2 : ∀ V : World, SJ W4 V → V.cell? ⟨bb, 2, none⟩ = some (.int .i64 b.f.mn) := fun V h => (h.six HJ.out.xb).2.2.1
    have rb3 : ∀ V : World, SJ W4 V → V.cell? ⟨bb, 3, none⟩ = some (.int .i64 b.f.mx) := fun V h => (h.six HJ.out.xb).2.2.2.1
    have rb4 : ∀ V : World, SJ W4 V → V.cell? ⟨bb, 4, none⟩ = some (.slice b.f.rq b.f.rs.length b.f.rc) := fun V h => (h.six HJ.out.xb).2.2.2.2.1
    have rb5 : ∀ V : World, SJ W4 V → V.cell? ⟨bb, 5, none⟩ = some (.slice b.f.kq b.f.kl b.f.kc) := fun V h => (h.six HJ.out.xb).2.2.2.2.2
    have rc0 : ∀ V : World, SJ W4 V → V.cell? ⟨bc, 0, none⟩ = some (.int .i64 c.f.k) := fun V h => (h.six HJ.out.xc).1
    have rc1 : ∀ V : World, SJ W4 V → V.cell? ⟨bc, 1, none⟩ = some (.int .i64 c.f.n) := fun V h => (h.six HJ.out.xc).2.1
    have rc2 : ∀ V : World, SJ W4 V → V.cell? ⟨bc, 2, none⟩ = some (.int .i64 c.f.mn) := fun V h => (h.six HJ.out.xc).2.2.1
    have rc3 : ∀ V : World, SJ W4 V → V.cell? ⟨bc, 3, none⟩ = some (.int .i64 c.f.mx) := fun V h => (h.six HJ.out.xc).2.2.2.1
    have rc4 : ∀ V : World, SJ W4 V → V.cell? ⟨bc, 4, none⟩ = some (.slice c.f.rq c.f.rs.length c.f.rc) := fun V h => (h.six HJ.out.xc).2.2.2.2.1
    have rc5 : ∀ V : World, SJ W4 V → V.cell? ⟨bc, 5, none⟩ = some (.slice c.f.kq c.f.kl c.f.kc) := fun V h => (h.six HJ.out.xc).2.2.2.2.2
    go_region_held (fun V => SJ W4 V) ((first | with_reducible assumption | with_reducible exact SJ.drew _ | with_reducible exact SJ.alloc (by assumption) _ | with_reducible exact SJ.ad (by assumption) _ | with_reducible exact (((((S6.set (by omega) _ _).set (by omega) _ _).set (by omega) _ _).set (by omega) _ _).set (by omega) _ _).set (by omega) _ _)) (first | (go_at_call 16; (have q5 := T5.out); clear q5; refine (cat_two (t1 := a) (t2 := t5) (by (with_reducible first | exact alloc_new _ _ | exact new_d _ _ | exact new_fst _ _ _ | exact new_snd _ _ _ | exact new_fst_d _ _ _ | exact new_snd_d _ _ _)) (by exact (HJ.out.ta.kept (SJ.out (by with_reducible assumption)))) (by exact (by (first | exact T5.out.kept (bel1 _ _) | exact T5.out.kept (bel2 _ _ _)))) (by rw [X5.out]; have := catX_sz (er b) (er c); have := HSZ.out; omega)).mono ?_; rintro e w6 ⟨t6, rfl, g1, g2, g3, g4⟩; have T6 := hide g1; have X6 := hide (show er t6 = catX (er a) (catX (er b) (er c)) by rw [g2, X5.out]); have S6 : SJ W4 w6 := SJ.call (by with_reducible assumption) g4; first | (have Z6 : w6.heap[W4.heap.size]? = some (.cells #[.int .i64 0, .int .i64 0, .int .i64 0, .int .i64 0, .slice none 0 0, .slice none 0 0] 25 (0, 0)) ∧ Foot (fun i => W4.heap.size < i) t6 := zpair (old1 Z5 _) g4 g3; have zf := fun z => frz_row Z6.1 z; have z0 := cell_row Z6.1 (i := 0) rfl; have z1 := cell_row Z6.1 (i := 1) rfl; have z2 := cell_row Z6.1 (i := 2) rfl; have z3 := cell_row Z6.1 (i := 3) rfl; have z4 := cell_row Z6.1 (i := 4) rfl; have z5 := cell_row Z6.1 (i := 5) rfl) | (have Z6 : w6.heap[W4.heap.size + 1]? = some (.cells #[.int .i64 0, .int .i64 0, .int .i64 0, .int .i64 0, .slice none 0 0, .slice none 0 0] 25 (0, 0)) ∧ Foot (fun i => W4.heap.size + 1 < i) t6 := zpair (old1 Z5 _) g4 g3; have zf := fun z => frz_row Z6.1 z; have z0 := cell_row Z6.1 (i := 0) rfl; have z1 := cell_row Z6.1 (i := 1) rfl; have z2 := cell_row Z6.1 (i := 2) rfl; have z3 := cell_row Z6.1 (i := 3) rfl; have z4 := cell_row Z6.1 (i := 4) rfl; have z5 := cell_row Z6.1 (i := 5) rfl) | (have Z6 : w6.heap[w5.heap.size]? = some (.cells #[.int .i64 0, .int .i64 0, .int .i64 0, .int .i64 0, .slice none 0 0, .slice none 0 0] 25 (0, 0)) ∧ Foot (fun i => w5.heap.size < i) t6 := zpair (new_fst _ _ _) g4 g3; have zf := fun z => frz_row Z6.1 z; have z0 := cell_row Z6.1 (i := 0) rfl; have z1 := cell_row Z6.1 (i := 1) rfl; have z2 := cell_row Z6.1 (i := 2) rfl; have z3 := cell_row Z6.1 (i := 3) rfl; have z4 := cell_row Z6.1 (i := 4) rfl; have z5 := cell_row Z6.1 (i := 5) rfl) | (have Z6 : w6.heap[w5.heap.size + 1]? = some (.cells #[.int .i64 0, .int .i64 0, .int .i64 0, .int .i64 0, .slice none 0 0, .slice none 0 0] 25 (0, 0)) ∧ Foot (fun i => w5.heap.size + 1 < i) t6 := zpair (new_snd _ _ _) g4 g3; have zf := fun z => frz_row Z6.1 z; have z0 := cell_row Z6.1 (i := 0) rfl; have z1 := cell_row Z6.1 (i := 1) rfl; have z2 := cell_row Z6.1 (i := 2) rfl; have z3 := cell_row Z6.1 (i := 3) rfl; have z4 := cell_row Z6.1 (i := 4) rfl; have z5 := cell_row Z6.1 (i := 5) rfl) | skip; clear g1 g2 g3 g4) | (go_at_call 16; refine (cat_two (t1 := b) (t2 := c) (by (with_reducible first | exact alloc_new _ _ | exact new_d _ _ | exact new_fst _ _ _ | exact new_snd _ _ _ | exact new_fst_d _ _ _ | exact new_snd_d _ _ _)) (HJ.out.tb.kept (SJ.out (by with_reducible assumption))) (HJ.out.tc.kept (SJ.out (by with_reducible assumption))) (by have := HSZ.out; omega)).mono ?_; rintro e w5 ⟨t5, rfl, g1, g2, g3, g4⟩; have T5 := hide g1; have X5 := hide g2; have S5 : SJ W4 w5 := SJ.call (by with_reducible assumption) g4; have l5 := S5.size; first | (have Z5 : w5.heap[W4.heap.size]? = some (.cells #[.int .i64 0, .int .i64 0, .int .i64 0, .int .i64 0, .slice none 0 0, .slice none 0 0] 25 (0, 0)) := (by with_reducible exact zkeep (new_fst_d _ _ _) g4)) | (have Z5 : w5.heap[W4.heap.size + 1]? = some (.cells #[.int .i64 0, .int .i64 0, .int .i64 0, .int .i64 0, .slice none 0 0, .slice none 0 0] 25 (0, 0)) := (by with_reducible exact zkeep (new_snd_d _ _ _) g4)) | skip; clear g1 g2 g3 g4))
    all_goals go_wp2_with fail
    all_goals go_meet
    all_goals first | (with_reducible exact ⟨_, rfl, cut_old S6 (by omega) Z6 T6.out X6.out⟩) | (with_reducible exact ⟨_, rfl, cut_new S6 T6.out X6.out⟩)
  case rest =>
  obtain ⟨By, rfl, hnew, hbl⟩ := hcut
  have hJ := HJ.out.kept hbl
  have hx := Rx.out.kept hbl
  obtain ⟨W5, hW⟩ : ∃ V, V = wc := ⟨_, rfl⟩
  subst hW
  clear HJ Rx hbl
  have HJ := hide hJ
  have Ry := hide hnew
  have Rx := hide hx
  clear hJ hnew hx
  go_upto_region 6 with fail
  go_cut [10] (fun u wx => ∃ B, u = .pointer (some ⟨B, 0, none⟩) ∧ RB wx B (cat3X (er a) (er b) (er c)) ∧ Below W5.heap.size W5 wx)
  case first =>
    obtain ⟨ra0, ra1, ra2, ra3, ra4, ra5⟩ := HJ.out.xa.six
    simp only [Nat.zero_add] at ra1 ra2 ra3 ra4 ra5
    obtain ⟨rb0, rb1, rb2, rb3, rb4, rb5⟩ := HJ.out.xb.six
    simp only [Nat.zero_add] at rb1 rb2 rb3 rb4 rb5
    obtain ⟨rc0, rc1, rc2, rc3, rc4, rc5⟩ := HJ.out.xc.six
    simp only [Nat.zero_add] at rc1 rc2 rc3 rc4 rc5
    go_wp2_with (go_at_call 16; (refine (cat_three (t1 := a) (t2 := b) (t3 := c) (alloc_new _ _) (HJ.out.ta.kept (bel1 _ _)) (HJ.out.tb.kept (bel1 _ _)) (HJ.out.tc.kept (bel1 _ _)) (by have := HSZ.out; omega)).mono ?_); rintro e w6 ⟨t6, rfl, g1, g2, g3, g4⟩; have T6 := hide g1; have X6 := hide g2; have S6 : SJ W5 w6 := SJ.call (bel1 _ _) g4; clear g1 g2 g3 g4)
    go_meet
    exact ⟨_, rfl, cut_new S6 T6.out X6.out⟩
  case rest =>
  obtain ⟨Bz, rfl, hnew, hbl⟩ := hcut
  have hJ := HJ.out.kept hbl
  have hx := Rx.out.kept hbl
  have hy := Ry.out.kept hbl
  obtain ⟨W6, hW⟩ : ∃ V, V = wc := ⟨_, rfl⟩
  subst hW
  clear HJ Rx Ry hbl
  have HJ := hide hJ
  have Rz := hide hnew
  have Rx := hide hx
  have Ry := hide hy
  clear hJ hnew hx hy
  go_upto_region 7 with fail
  go_cut [11] (fun u wx => ∃ B, u = .pointer (some ⟨B, 0, none⟩) ∧ RB wx B (altX (altX (er a) (er b)) (er c)) ∧ Below W6.heap.size W6 wx)
  case first =>
    have ra0 : ∀ V : World, SJ W6 V → V.cell? ⟨ba, 0, none⟩ = some (.int .i64 a.f.k) := fun V h => (h.six HJ.out.xa).1
    have ra1 : ∀ V : World, SJ W6 V → V.cell? ⟨ba, 1, none⟩ = some (.int .i64 a.f.n) := fun V h => (h.six HJ.out.xa).2.1
    have ra2 : ∀ V : World, SJ W6 V → V.cell? ⟨ba, 2, none⟩ = some (.int .i64 a.f.mn) := fun V h => (h.six HJ.out.xa).2.2.1
    have ra3 : ∀ V : World, SJ W6 V → V.cell? ⟨ba, 3, none⟩ = some (.int .i64 a.f.mx) := fun V h => (h.six HJ.out.xa).2.2.2.1
    have ra4 : ∀ V : World, SJ W6 V → V.cell? ⟨ba, 4, none⟩ = some (.slice a.f.rq a.f.rs.length a.f.rc) := fun V h => (h.six HJ.out.xa).2.2.2.2.1
    have ra5 : ∀ V : World, SJ W6 V → V.cell? ⟨ba, 5, none⟩ = some (.slice a.f.kq a.f.kl a.f.kc) := fun V h => (h.six HJ.out.xa).2.2.2.2.2
    have rb0 : ∀ V : World, SJ W6 V → V.cell? ⟨bb, 0, none⟩ = some (.int .i64 b.f.k) := fun V h => (h.six HJ.out.xb).1
    have rb1 : ∀ V : World, SJ W6 V → V.cell? ⟨bb, 1, none⟩ = some (.int .i64 b.f.n) := fun V h => (h.six HJ.out.xb).2.1
    have rb2 : ∀ V : World, SJ W6 V → V.cell? ⟨bb, 2, none⟩ = some (.int .i64 b.f.mn) := fun V h => (h.six HJ.out.xb).2.2.1
    have rb3 : ∀ V : World, SJ W6 V → V.cell? ⟨bb, 3, none⟩ = some (.int .i64 b.f.mx) := fun V h => (h.six HJ.out.xb).2.2.2.1
    have rb4 : ∀ V : World, SJ W6 V → V.cell? ⟨bb, 4, none⟩ = some (.slice b.f.rq b.f.rs.length b.f.rc) := fun V h => (h.six HJ.out.xb).2.2.2.2.1
    have rb5 : ∀ V : World, SJ W6 V → V.cell? ⟨bb, 5, none⟩ = some (.slice b.f.kq b.f.kl b.f.kc) := fun V h => (h.six HJ.out.xb).2.2.2.2.2
    have rc0 : ∀ V : World, SJ W6 V → V.cell? ⟨bc, 0, none⟩ = some (.int .i64 c.f.k) := fun V h => (h.six HJ.out.xc).1
    have rc1 : ∀ V : World, SJ W6 V → V.cell? ⟨bc, 1, none⟩ = some (.int .i64 c.f.n) := fun V h => (h.six HJ.out.xc).2.1
    have rc2 : ∀ V : World, SJ W6 V → V.cell? ⟨bc, 2, none⟩ = some (.int .i64 c.f.mn) := fun V h => (h.six HJ.out.xc).2.2.1
    have rc3 : ∀ V : World, SJ W6 V → V.cell? ⟨bc, 3, none⟩ = some (.int .i64 c.f.mx) := fun V h => (h.six HJ.out.xc).2.2.2.1
    have rc4 : ∀ V : World, SJ W6 V → V.cell? ⟨bc, 4, none⟩ = some (.slice c.f.rq c.f.rs.length c.f.rc) := fun V h => (h.six HJ.out.xc).2.2.2.2.1
    have rc5 : ∀ V : World, SJ W6 V → V.cell? ⟨bc, 5, none⟩ = some (.slice c.f.kq c.f.kl c.f.kc) := fun V h => (h.six HJ.out.xc).2.2.2.2.2
    go_region_held (fun V => SJ W6 V) ((first | with_reducible assumption | with_reducible exact SJ.drew _ | with_reducible exact SJ.alloc (by assumption) _ | with_reducible exact SJ.ad (by assumption) _ | with_reducible exact (((((S6.set (by omega) _ _).set (by omega) _ _).set (by omega) _ _).set (by omega) _ _).set (by omega) _ _).set (by omega) _ _)) (first | (go_at_call 17; (have q5 := T5.out); clear q5; refine (alt_two (t1 := t5) (t2 := c) (by (with_reducible first | exact alloc_new _ _ | exact new_d _ _ | exact new_fst _ _ _ | exact new_snd _ _ _ | exact new_fst_d _ _ _ | exact new_snd_d _ _ _)) (by exact (by (first | exact T5.out.kept (bel1 _ _) | exact T5.out.kept (bel2 _ _ _)))) (by exact (HJ.out.tc.kept (SJ.out (by with_reducible assumption)))) (by rw [X5.out]; have := altX_sz (er a) (er b); have := HSZ.out; omega)).mono ?_; rintro e w6 ⟨t6, rfl, g1, g2, g3, g4⟩; have T6 := hide g1; have X6 := hide (show er t6 = altX (altX (er a) (er b)) (er c) by rw [g2, X5.out]); have S6 : SJ W6 w6 := SJ.call (by with_reducible assumption) g4; first | (have Z6 : w6.heap[W6.heap.size]? = some (.cells #[.int .i64 0, .int .i64 0, .int .i64 0, .int .i64 0, .slice none 0 0, .slice none 0 0] 25 (0, 0)) ∧ Foot (fun i => W6.heap.size < i) t6 := zpair (old1 Z5 _) g4 g3; have zf := fun z => frz_row Z6.1 z; have z0 := cell_row Z6.1 (i := 0) rfl; have z1 := cell_row Z6.1 (i := 1) rfl; have z2 := cell_row Z6.1 (i := 2) rfl; have z3 := cell_row Z6.1 (i := 3) rfl; have z4 := cell_row Z6.1 (i := 4) rfl; have z5 := cell_row Z6.1 (i := 5) rfl) | (have Z6 : w6.heap[W6.heap.size + 1]? = some (.cells #[.int .i64 0, .int .i64 0, .int .i64 0, .int .i64 0, .slice none 0 0, .slice none 0 0] 25 (0, 0)) ∧ Foot (fun i => W6.heap.size + 1 < i) t6 := zpair (old1 Z5 _) g4 g3; have zf := fun z => frz_row Z6.1 z; have z0 := cell_row Z6.1 (i := 0) rfl; have z1 := cell_row Z6.1 (i := 1) rfl; have z2 := cell_row Z6.1 (i := 2) rfl; have z3 := cell_row Z6.1 (i := 3) rfl; have z4 := cell_row Z6.1 (i := 4) rfl; have z5 := cell_row Z6.1 (i := 5) rfl) | (have Z6 : w6.heap[w5.heap.size]? = some (.cells #[.int .i64 0, .int .i64 0, .int .i64 0, .int .i64 0, .slice none 0 0, .slice none 0 0] 25 (0, 0)) ∧ Foot (fun i => w5.heap.size < i) t6 := zpair (new_fst _ _ _) g4 g3; have zf := fun z => frz_row Z6.1 z; have z0 := cell_row Z6.1 (i := 0) rfl; have z1 := cell_row Z6.1 (i := 1) rfl; have z2 := cell_row Z6.1 (i := 2) rfl; have z3 := cell_row Z6.1 (i := 3) rfl; have z4 := cell_row Z6.1 (i := 4) rfl; have z5 := cell_row Z6.1 (i := 5) rfl) | (have Z6 : w6.heap[w5.heap.size + 1]? = some (.cells #[.int .i64 0, .int .i64 0, .int .i64 0, .int .i64 0, .slice none 0 0, .slice none 0 0] 25 (0, 0)) ∧ Foot (fun i => w5.heap.size + 1 < i) t6 := zpair (new_snd _ _ _) g4 g3; have zf := fun z => frz_row Z6.1 z; have z0 := cell_row Z6.1 (i := 0) rfl; have z1 := cell_row Z6.1 (i := 1) rfl; have z2 := cell_row Z6.1 (i := 2) rfl; have z3 := cell_row Z6.1 (i := 3) rfl; have z4 := cell_row Z6.1 (i := 4) rfl; have z5 := cell_row Z6.1 (i := 5) rfl) | skip; clear g1 g2 g3 g4) | (go_at_call 17; refine (alt_two (t1 := a) (t2 := b) (by (with_reducible first | exact alloc_new _ _ | exact new_d _ _ | exact new_fst _ _ _ | exact new_snd _ _ _ | exact new_fst_d _ _ _ | exact new_snd_d _ _ _)) (HJ.out.ta.kept (SJ.out (by with_reducible assumption))) (HJ.out.tb.kept (SJ.out (by with_reducible assumption))) (by have := HSZ.out; omega)).mono ?_; rintro e w5 ⟨t5, rfl, g1, g2, g3, g4⟩; have T5 := hide g1; have X5 := hide g2; have S5 : SJ W6 w5 := SJ.call (by with_reducible assumption) g4; have l5 := S5.size; first | (have Z5 : w5.heap[W6.heap.size]? = some (.cells #[.int .i64 0, .int .i64 0, .int .i64 0, .int .i64 0, .slice none 0 0, .slice none 0 0] 25 (0, 0)) := (by with_reducible exact zkeep (new_fst_d _ _ _) g4)) | (have Z5 : w5.heap[W6.heap.size + 1]? = some (.cells #[.int .i64 0, .int .i64 0, .int .i64 0, .int .i64 0, .slice none 0 0, .slice none 0 0] 25 (0, 0)) := (by with_reducible exact zkeep (new_snd_d _ _ _) g4)) | skip; clear g1 g2 g3 g4))
    all_goals go_wp2_with fail
    all_goals go_meet
    all_goals first | (with_reducible exact ⟨_, rfl, cut_old S6 (by omega) Z6 T6.out X6.out⟩) | (with_reducible exact ⟨_, rfl, cut_new S6 T6.out X6.out⟩)
  case rest =>
  obtain ⟨Bp, rfl, hnew, hbl⟩ := hcut
  have hJ := HJ.out.kept hbl
  have hx := Rx.out.kept hbl
  have hy := Ry.out.kept hbl
  have hz := Rz.out.kept hbl
  obtain ⟨W7, hW⟩ : ∃ V, V = wc := ⟨_, rfl⟩
  subst hW
  clear HJ Rx Ry Rz hbl
  have HJ := hide hJ
  have Rp := hide hnew
  have Rx := hide hx
  have Ry := hide hy
  have Rz := hide hz
  clear hJ hnew hx hy hz
  go_upto_region 8 with fail
  go_cut [12] (fun u wx => ∃ B, u = .pointer (some ⟨B, 0, none⟩) ∧ RB wx B (altX (er a) (altX (er b) (er c))) ∧ Below W7.heap.size W7 wx)
  case first =>
    have ra0 : ∀ V : World, SJ W7 V → V.cell? ⟨ba, 0, none⟩ = some (.int .i64 a.f.k) := fun V h => (h.six HJ.out.xa).1
    have ra1 : ∀ V : World, SJ W7 V → V.cell? ⟨ba, 1, none⟩ = some (.int .i64 a.f.n) := fun V h => (h.six HJ.out.xa).2.1
    have ra2 : ∀ V : World, SJ W7 V → V.cell? ⟨ba, 2, none⟩ = some (.int .i64 a.f.mn) := fun V h => (h.six HJ.out.xa).2.2.1
    have ra3 : ∀ V : World, SJ W7 V → V.cell? ⟨ba, 3, none⟩ = some (.int .i64 a.f.mx) := fun V h => (h.six HJ.out.xa).2.2.2.1
    have ra4 : ∀ V : World, SJ W7 V → V.cell? ⟨ba, 4, none⟩ = some (.slice a.f.rq a.f.rs.length a.f.rc) := fun V h => (h.six HJ.out.xa).2.2.2.2.1
    have ra5 : ∀ V : World, SJ W7 V → V.cell? ⟨ba, 5, none⟩ = some (.slice a.f.kq a.f.kl a.f.kc) := fun V h => (h.six HJ.out.xa).2.2.2.2.2
    have rb0 : ∀ V : World, SJ W7 V → V.cell? ⟨bb, 0, none⟩ = some (.int .i64 b.f.k) := fun V h => (h.six HJ.out.xb).1
    have rb1 : ∀ V : World, SJ W7 V → V.cell? ⟨bb, 1, none⟩ = some (.int .i64 b.f.n) := fun V h => (h.six HJ.out.xb).2.1
    have rb2 : ∀ V : World, SJ W7 V → V.cell? ⟨bb, 2, none⟩ = some (.int .i64 b.f.mn) := fun V h => (h.six HJ.out.xb).2.2.1
    have rb3 : ∀ V : World, SJ W7 V → V.cell? ⟨bb, 3, none⟩ = some (.int .i64 b.f.mx) := fun V h => (h.six HJ.out.xb).2.2.2.1
    have rb4 : ∀ V : World, SJ W7 V → V.cell? ⟨bb, 4, none⟩ = some (.slice b.f.rq b.f.rs.length b.f.rc) := fun V h => (h.six HJ.out.xb).2.2.2.2.1
    have rb5 : ∀ V : World, SJ W7 V → V.cell? ⟨bb, 5, none⟩ = some (.slice b.f.kq b.f.kl b.f.kc) := fun V h => (h.six HJ.out.xb).2.2.2.2.2
    have rc0 : ∀ V : World, SJ W7 V → V.cell? ⟨bc, 0, none⟩ = some (.int .i64 c.f.k) := fun V h => (h.six HJ.out.xc).1
    have rc1 : ∀ V : World, SJ W7 V → V.cell? ⟨bc, 1, none⟩ = some (.int .i64 c.f.n) := fun V h => (h.six HJ.out.xc).2.1
    have rc2 : ∀ V : World, SJ W7 V → V.cell? ⟨bc, 2, none⟩ = some (.int .i64 c.f.mn) := fun V h => (h.six HJ.out.xc).2.2.1
    have rc3 : ∀ V : World, SJ W7 V → V.cell? ⟨bc, 3, none⟩ = some (.int .i64 c.f.mx) := fun V h => (h.six HJ.out.xc).2.2.2.1
    have rc4 : ∀ V : World, SJ W7 V → V.cell? ⟨bc, 4, none⟩ = some (.slice c.f.rq c.f.rs.length c.f.rc) := fun V h => (h.six HJ.out.xc).2.2.2.2.1
    have rc5 : ∀ V : World, SJ W7 V → V.cell? ⟨bc, 5, none⟩ = some (.slice c.f.kq c.f.kl c.f.kc) := fun V h => (h.six HJ.out.xc).2.2.2.2.2
    go_region_held (fun V => SJ W7 V) ((first | with_reducible assumption | with_reducible exact SJ.drew _ | with_reducible exact SJ.alloc (by assumption) _ | with_reducible exact SJ.ad (by assumption) _ | with_reducible exact (((((S6.set (by omega) _ _).set (by omega) _ _).set (by omega) _ _).set (by omega) _ _).set (by omega) _ _).set (by omega) _ _)) (first | (go_at_call 17; (have q5 := T5.out); clear q5; refine (alt_two (t1 := a) (t2 := t5) (by (with_reducible first | exact alloc_new _ _ | exact new_d _ _ | exact new_fst _ _ _ | exact new_snd _ _ _ | exact new_fst_d _ _ _ | exact new_snd_d _ _ _)) (by exact (HJ.out.ta.kept (SJ.out (by with_reducible assumption)))) (by exact (by (first | exact T5.out.kept (bel1 _ _) | exact T5.out.kept (bel2 _ _ _)))) (by rw [X5.out]; have := altX_sz (er b) (er c); have := HSZ.out; omega)).mono ?_; rintro e w6 ⟨t6, rfl, g1, g2, g3, g4⟩; have T6 := hide g1; have X6 := hide (show er t6 = altX (er a) (altX (er b) (er c)) by rw [g2, X5.out]); have S6 : SJ W7 w6 := SJ.call (by with_reducible assumption) g4; first | (have Z6 : w6.heap[W7.heap.size]? = some (.cells #[.int .i64 0, .int .i64 0, .int .i64 0, .int .i64 0, .slice none 0 0, .slice none 0 0] 25 (0, 0)) ∧ Foot (fun i => W7.heap.size < i) t6 := zpair (old1 Z5 _) g4 g3; have zf := fun z => frz_row Z6.1 z; have z0 := cell_row Z6.1 (i := 0) rfl; have z1 := cell_row Z6.1 (i := 1) rfl; have z2 := cell_row Z6.1 (i := 2) rfl; have z3 := cell_row Z6.1 (i := 3) rfl; have z4 := cell_row Z6.1 (i := 4) rfl; have z5 := cell_row Z6.1 (i := 5) rfl) | (have Z6 : w6.heap[W7.heap.size + 1]? = some (.cells #[.int .i64 0, .int .i64 0, .int .i64 0, .int .i64 0, .slice none 0 0, .slice none 0 0] 25 (0, 0)) ∧ Foot (fun i => W7.heap.size + 1 < i) t6 := zpair (old1 Z5 _) g4 g3; have zf := fun z => frz_row Z6.1 z; have z0 := cell_row Z6.1 (i := 0) rfl; have z1 := cell_row Z6.1 (i := 1) rfl; have z2 := cell_row Z6.1 (i := 2) rfl; have z3 := cell_row Z6.1 (i := 3) rfl; have z4 := cell_row Z6.1 (i := 4) rfl; have z5 := cell_row Z6.1 (i := 5) rfl) | (have Z6 : w6.heap[w5.heap.size]? = some (.cells #[.int .i64 0, .int .i64 0, .int .i64 0, .int .i64 0, .slice none 0 0, .slice none 0 0] 25 (0, 0)) ∧ Foot (fun i => w5.heap.size < i) t6 := zpair (new_fst _ _ _) g4 g3; have zf := fun z => frz_row Z6.1 z; have z0 := cell_row Z6.1 (i := 0) rfl; have z1 := cell_row Z6.1 (i := 1) rfl; have z2 := cell_row Z6.1 (i := 2) rfl; have z3 := cell_row Z6.1 (i := 3) rfl; have z4 := cell_row Z6.1 (i := 4) rfl; have z5 := cell_row Z6.1 (i := 5) rfl) | (have Z6 : w6.heap[w5.heap.size + 1]? = some (.cells #[.int .i64 0, .int .i64 0, .int .i64 0, .int .i64 0, .slice none 0 0, .slice none 0 0] 25 (0, 0)) ∧ Foot (fun i => w5.heap.size + 1 < i) t6 := zpair (new_snd _ _ _) g4 g3; have zf := fun z => frz_row Z6.1 z; have z0 := cell_row Z6.1 (i := 0) rfl; have z1 := cell_row Z6.1 (i := 1) rfl; have z2 := cell_row Z6.1 (i := 2) rfl; have z3 := cell_row Z6.1 (i := 3) rfl; have z4 := cell_row Z6.1 (i := 4) rfl; have z5 := cell_row Z6.1 (i := 5) rfl) | skip; clear g1 g2 g3 g4) | (go_at_call 17; refine (alt_two (t1 := b) (t2 := c) (by (with_reducible first | exact alloc_new _ _ | exact new_d _ _ | exact new_fst _ _ _ | exact new_snd _ _ _ | exact new_fst_d _ _ _ | exact new_snd_d _ _ _)) (HJ.out.tb.kept (SJ.out (by with_reducible assumption))) (HJ.out.tc.kept (SJ.out (by with_reducible assumption))) (by have := HSZ.out; omega)).mono ?_; rintro e w5 ⟨t5, rfl, g1, g2, g3, g4⟩; have T5 := hide g1; have X5 := hide g2; have S5 : SJ W7 w5 := SJ.call (by with_reducible assumption) g4; have l5 := S5.size; first | (have Z5 : w5.heap[W7.heap.size]? = some (.cells #[.int .i64 0, .int .i64 0, .int .i64 0, .int .i64 0, .slice none 0 0, .slice none 0 0] 25 (0, 0)) := (by with_reducible exact zkeep (new_fst_d _ _ _) g4)) | (have Z5 : w5.heap[W7.heap.size + 1]? = some (.cells #[.int .i64 0, .int .i64 0, .int .i64 0, .int .i64 0, .slice none 0 0, .slice none 0 0] 25 (0, 0)) := (by with_reducible exact zkeep (new_snd_d _ _ _) g4)) | skip; clear g1 g2 g3 g4))
    all_goals go_wp2_with fail
    all_goals go_meet
    all_goals first | (with_reducible exact ⟨_, rfl, cut_old S6 (by omega) Z6 T6.out X6.out⟩) | (with_reducible exact ⟨_, rfl, cut_new S6 T6.out X6.out⟩)
  case rest =>
  obtain ⟨Bq, rfl, hnew, hbl⟩ := hcut
  have hJ := HJ.out.kept hbl
  have hx := Rx.out.kept hbl
  have hy := Ry.out.kept hbl
  have hz := Rz.out.kept hbl
  have hp := Rp.out.kept hbl
  obtain ⟨W8, hW⟩ : ∃ V, V = wc := ⟨_, rfl⟩
  subst hW
  clear HJ Rx Ry Rz Rp hbl
  have HJ := hide hJ
  have Rq := hide hnew
  have Rx := hide hx
  have Ry := hide hy
  have Rz := hide hz
  have Rp := hide hp
  clear hJ hnew hx hy hz hp
  go_upto_region 9 with fail
  go_cut [13] (fun u wx => ∃ B, u = .pointer (some ⟨B, 0, none⟩) ∧ RB wx B (alt3X (er a) (er b) (er c)) ∧ Below W8.heap.size W8 wx)
  case first =>
    obtain ⟨ra0, ra1, ra2, ra3, ra4, ra5⟩ := HJ.out.xa.six
    simp only [Nat.zero_add] at ra1 ra2 ra3 ra4 ra5
    obtain ⟨rb0, rb1, rb2, rb3, rb4, rb5⟩ := HJ.out.xb.six
    simp only [Nat.zero_add] at rb1 rb2 rb3 rb4 rb5
    obtain ⟨rc0, rc1, rc2, rc3, rc4, rc5⟩ := HJ.out.xc.six
    simp only [Nat.zero_add] at rc1 rc2 rc3 rc4 rc5
    go_wp2_with (go_at_call 17; (refine (alt_three (t1 := a) (t2 := b) (t3 := c) (alloc_new _ _) (HJ.out.ta.kept (bel1 _ _)) (HJ.out.tb.kept (bel1 _ _)) (HJ.out.tc.kept (bel1 _ _)) (by have := HSZ.out; omega)).mono ?_); rintro e w6 ⟨t6, rfl, g1, g2, g3, g4⟩; have T6 := hide g1; have X6 := hide g2; have S6 : SJ W8 w6 := SJ.call (bel1 _ _) g4; clear g1 g2 g3 g4)
    go_meet
    exact ⟨_, rfl, cut_new S6 T6.out X6.out⟩
  case rest =>
  obtain ⟨Br, rfl, hnew, hbl⟩ := hcut
  have hJ := HJ.out.kept hbl
  have hx := Rx.out.kept hbl
  have hy := Ry.out.kept hbl
  have hz := Rz.out.kept hbl
  have hp := Rp.out.kept hbl
  have hq := Rq.out.kept hbl
  obtain ⟨W9, hW⟩ : ∃ V, V = wc := ⟨_, rfl⟩
  subst hW
  clear HJ Rx Ry Rz Rp Rq hbl
  have HJ := hide hJ
  have Rr := hide hnew
  have Rx := hide hx
  have Ry := hide hy
  have Rz := hide hz
  have Rp := hide hp
  have Rq := hide hq
  clear hJ hnew hx hy hz hp hq
  go_upto_region 10 with fail
  go_cut [14] (fun u wx => u = .bool (decide (a.f.k ≠ 1 ∧ b.f.k ≠ 1 ∧ c.f.k ≠ 1 ∧ a.f.k ≠ 5 ∧ b.f.k ≠ 5 ∧ c.f.k ≠ 5)) ∧ wx = W9)
  case first =>
    have ra0 : W9.cell? ⟨ba, 0, none⟩ = some (.int .i64 a.f.k) := HJ.out.xa.six.1
    have rb0 : W9.cell? ⟨bb, 0, none⟩ = some (.int .i64 b.f.k) := HJ.out.xb.six.1
    have rc0 : W9.cell? ⟨bc, 0, none⟩ = some (.int .i64 c.f.k) := HJ.out.xc.six.1
    by_cases ha1 : a.f.k = 1
    · have ea1 : (a.f.k != 1) = false := by simpa using ha1
      have HH := hide (show decide (a.f.k ≠ 1 ∧ b.f.k ≠ 1 ∧ c.f.k ≠ 1 ∧ a.f.k ≠ 5 ∧ b.f.k ≠ 5 ∧ c.f.k ≠ 5) = false by simp only [decide_eq_false_iff_not]; omega)
      clear ha1
      go_wp2
      go_meet
      exact ⟨by rw [HH.out], rfl⟩
    have ea1 : (a.f.k != 1) = true := by simpa using ha1
    by_cases hb1 : b.f.k = 1
    · have eb1 : (b.f.k != 1) = false := by simpa using hb1
      have HH := hide (show decide (a.f.k ≠ 1 ∧ b.f.k ≠ 1 ∧ c.f.k ≠ 1 ∧ a.f.k ≠ 5 ∧ b.f.k ≠ 5 ∧ c.f.k ≠ 5) = false by simp only [decide_eq_false_iff_not]; omega)
      clear hb1
      go_wp2
      go_meet
      exact ⟨by rw [HH.out], rfl⟩
    have eb1 : (b.f.k != 1) = true := by simpa using hb1
    by_cases hc1 : c.f.k = 1
    · have ec1 : (c.f.k != 1) = false := by simpa using hc1
      have HH := hide (show decide (a.f.k ≠ 1 ∧ b.f.k ≠ 1 ∧ c.f.k ≠ 1 ∧ a.f.k ≠ 5 ∧ b.f.k ≠ 5 ∧ c.f.k ≠ 5) = false by simp only [decide_eq_false_iff_not]; omega)
      clear hc1
      go_wp2
      go_meet
      exact ⟨by rw [HH.out], rfl⟩
    have ec1 : (c.f.k != 1) = true := by simpa using hc1
    by_cases ha5 : a.f.k = 5
    · have ea5 : (a.f.k != 5) = false := by simpa using ha5
      have HH := hide (show decide (a.f.k ≠ 1 ∧ b.f.k ≠ 1 ∧ c.f.k ≠ 1 ∧ a.f.k ≠ 5 ∧ b.f.k ≠ 5 ∧ c.f.k ≠ 5) = false by simp only [decide_eq_false_iff_not]; omega)
      clear ha5
      go_wp2
      go_meet
      exact ⟨by rw [HH.out], rfl⟩
    have ea5 : (a.f.k != 5) = true := by simpa using ha5
    by_cases hb5 : b.f.k = 5
    · have eb5 : (b.f.k != 5) = false := by simpa using hb5
      have HH := hide (show decide (a.f.k ≠ 1 ∧ b.f.k ≠ 1 ∧ c.f.k ≠ 1 ∧ a.f.k ≠ 5 ∧ b.f.k ≠ 5 ∧ c.f.k ≠ 5) = false by simp only [decide_eq_false_iff_not]; omega)
      clear hb5
      go_wp2
      go_meet
      exact ⟨by rw [HH.out], rfl⟩
    have eb5 : (b.f.k != 5) = true := by simpa using hb5
    by_cases hc5 : c.f.k = 5
    · have ec5 : (c.f.k != 5) = false := by simpa using hc5
      have HH := hide (show decide (a.f.k ≠ 1 ∧ b.f.k ≠ 1 ∧ c.f.k ≠ 1 ∧ a.f.k ≠ 5 ∧ b.f.k ≠ 5 ∧ c.f.k ≠ 5) = false by simp only [decide_eq_false_iff_not]; omega)
      clear hc5
      go_wp2
      go_meet
      exact ⟨by rw [HH.out], rfl⟩
    have ec5 : (c.f.k != 5) = true := by simpa using hc5
    have HH := hide (show decide (a.f.k ≠ 1 ∧ b.f.k ≠ 1 ∧ c.f.k ≠ 1 ∧ a.f.k ≠ 5 ∧ b.f.k ≠ 5 ∧ c.f.k ≠ 5) = true by simp only [decide_eq_true_eq]; omega)
    clear ha1 hb1 hc1 ha5 hb5 hc5
    go_wp2
    go_meet
    exact ⟨by rw [HH.out], rfl⟩
  case rest =>
  obtain ⟨rfl, hW⟩ := hcut
  subst hW
  obtain ⟨W10, hW⟩ : ∃ V, V = wc := ⟨_, rfl⟩
  subst hW
  obtain ⟨tx, x1, x2, x3⟩ := Rx.out
  obtain ⟨ty, y1, y2, y3⟩ := Ry.out
  obtain ⟨tz, z1, z2, z3⟩ := Rz.out
  obtain ⟨tp, p1, p2, p3⟩ := Rp.out
  obtain ⟨tq, q1, q2, q3⟩ := Rq.out
  obtain ⟨tr, s1, s2, s3⟩ := Rr.out
  have S0 : SJ W10 W10 := Below.refl _ _
  have rx0 : ∀ V : World, SJ W10 V → V.cell? ⟨Bx, 0, none⟩ = some (.int .i64 tx.f.k) := fun V h => (h.six x1).1
  have rx1 : ∀ V : World, SJ W10 V → V.cell? ⟨Bx, 1, none⟩ = some (.int .i64 tx.f.n) := fun V h => (h.six x1).2.1
  have rx2 : ∀ V : World, SJ W10 V → V.cell? ⟨Bx, 2, none⟩ = some (.int .i64 tx.f.mn) := fun V h => (h.six x1).2.2.1
  have rx3 : ∀ V : World, SJ W10 V → V.cell? ⟨Bx, 3, none⟩ = some (.int .i64 tx.f.mx) := fun V h => (h.six x1).2.2.2.1
  have rx4 : ∀ V : World, SJ W10 V → V.cell? ⟨Bx, 4, none⟩ = some (.slice tx.f.rq tx.f.rs.length tx.f.rc) := fun V h => (h.six x1).2.2.2.2.1
  have rx5 : ∀ V : World, SJ W10 V → V.cell? ⟨Bx, 5, none⟩ = some (.slice tx.f.kq tx.f.kl tx.f.kc) := fun V h => (h.six x1).2.2.2.2.2
  have ry0 : ∀ V : World, SJ W10 V → V.cell? ⟨By, 0, none⟩ = some (.int .i64 ty.f.k) := fun V h => (h.six y1).1
  have ry1 : ∀ V : World, SJ W10 V → V.cell? ⟨By, 1, none⟩ = some (.int .i64 ty.f.n) := fun V h => (h.six y1).2.1
  have ry2 : ∀ V : World, SJ W10 V → V.cell? ⟨By, 2, none⟩ = some (.int .i64 ty.f.mn) := fun V h => (h.six y1).2.2.1
  have ry3 : ∀ V : World, SJ W10 V → V.cell? ⟨By, 3, none⟩ = some (.int .i64 ty.f.mx) := fun V h => (h.six y1).2.2.2.1
  have ry4 : ∀ V : World, SJ W10 V → V.cell? ⟨By, 4, none⟩ = some (.slice ty.f.rq ty.f.rs.length ty.f.rc) := fun V h => (h.six y1).2.2.2.2.1
  have ry5 : ∀ V : World, SJ W10 V → V.cell? ⟨By, 5, none⟩ = some (.slice ty.f.kq ty.f.kl ty.f.kc) := fun V h => (h.six y1).2.2.2.2.2
  have rz0 : ∀ V : World, SJ W10 V → V.cell? ⟨Bz, 0, none⟩ = some (.int .i64 tz.f.k) := fun V h => (h.six z1).1
  have rz1 : ∀ V : World, SJ W10 V → V.cell? ⟨Bz, 1, none⟩ = some (.int .i64 tz.f.n) := fun V h => (h.six z1).2.1
  have rz2 : ∀ V : World, SJ W10 V → V.cell? ⟨Bz, 2, none⟩ = some (.int .i64 tz.f.mn) := fun V h => (h.six z1).2.2.1
  have rz3 : ∀ V : World, SJ W10 V → V.cell? ⟨Bz, 3, none⟩ = some (.int .i64 tz.f.mx) := fun V h => (h.six z1).2.2.2.1
  have rz4 : ∀ V : World, SJ W10 V → V.cell? ⟨Bz, 4, none⟩ = some (.slice tz.f.rq tz.f.rs.length tz.f.rc) := fun V h => (h.six z1).2.2.2.2.1
  have rz5 : ∀ V : World, SJ W10 V → V.cell? ⟨Bz, 5, none⟩ = some (.slice tz.f.kq tz.f.kl tz.f.kc) := fun V h => (h.six z1).2.2.2.2.2
  have rp0 : ∀ V : World, SJ W10 V → V.cell? ⟨Bp, 0, none⟩ = some (.int .i64 tp.f.k) := fun V h => (h.six p1).1
  have rp1 : ∀ V : World, SJ W10 V → V.cell? ⟨Bp, 1, none⟩ = some (.int .i64 tp.f.n) := fun V h => (h.six p1).2.1
  have rp2 : ∀ V : World, SJ W10 V → V.cell? ⟨Bp, 2, none⟩ = some (.int .i64 tp.f.mn) := fun V h => (h.six p1).2.2.1
  have rp3 : ∀ V : World, SJ W10 V → V.cell? ⟨Bp, 3, none⟩ = some (.int .i64 tp.f.mx) := fun V h => (h.six p1).2.2.2.1
  have rp4 : ∀ V : World, SJ W10 V → V.cell? ⟨Bp, 4, none⟩ = some (.slice tp.f.rq tp.f.rs.length tp.f.rc) := fun V h => (h.six p1).2.2.2.2.1
  have rp5 : ∀ V : World, SJ W10 V → V.cell? ⟨Bp, 5, none⟩ = some (.slice tp.f.kq tp.f.kl tp.f.kc) := fun V h => (h.six p1).2.2.2.2.2
  have rq0 : ∀ V : World, SJ W10 V → V.cell? ⟨Bq, 0, none⟩ = some (.int .i64 tq.f.k) := fun V h => (h.six q1).1
  have rq1 : ∀ V : World, SJ W10 V → V.cell? ⟨Bq, 1, none⟩ = some (.int .i64 tq.f.n) := fun V h => (h.six q1).2.1
  have rq2 : ∀ V : World, SJ W10 V → V.cell? ⟨Bq, 2, none⟩ = some (.int .i64 tq.f.mn) := fun V h => (h.six q1).2.2.1
  have rq3 : ∀ V : World, SJ W10 V → V.cell? ⟨Bq, 3, none⟩ = some (.int .i64 tq.f.mx) := fun V h => (h.six q1).2.2.2.1
  have rq4 : ∀ V : World, SJ W10 V → V.cell? ⟨Bq, 4, none⟩ = some (.slice tq.f.rq tq.f.rs.length tq.f.rc) := fun V h => (h.six q1).2.2.2.2.1
  have rq5 : ∀ V : World, SJ W10 V → V.cell? ⟨Bq, 5, none⟩ = some (.slice tq.f.kq tq.f.kl tq.f.kc) := fun V h => (h.six q1).2.2.2.2.2
  have rs0 : ∀ V : World, SJ W10 V → V.cell? ⟨Br, 0, none⟩ = some (.int .i64 tr.f.k) := fun V h => (h.six s1).1
  have rs1 : ∀ V : World, SJ W10 V → V.cell? ⟨Br, 1, none⟩ = some (.int .i64 tr.f.n) := fun V h => (h.six s1).2.1
  have rs2 : ∀ V : World, SJ W10 V → V.cell? ⟨Br, 2, none⟩ = some (.int .i64 tr.f.mn) := fun V h => (h.six s1).2.2.1
  have rs3 : ∀ V : World, SJ W10 V → V.cell? ⟨Br, 3, none⟩ = some (.int .i64 tr.f.mx) := fun V h => (h.six s1).2.2.2.1
  have rs4 : ∀ V : World, SJ W10 V → V.cell? ⟨Br, 4, none⟩ = some (.slice tr.f.rq tr.f.rs.length tr.f.rc) := fun V h => (h.six s1).2.2.2.2.1
  have rs5 : ∀ V : World, SJ W10 V → V.cell? ⟨Br, 5, none⟩ = some (.slice tr.f.kq tr.f.kl tr.f.kc) := fun V h => (h.six s1).2.2.2.2.2
  have ka0 : ∀ V : World, SJ W10 V → V.cell? ⟨ba, 0, none⟩ = some (.int .i64 a.f.k) := fun V h => (h.six HJ.out.xa).1
  have kb0 : ∀ V : World, SJ W10 V → V.cell? ⟨bb, 0, none⟩ = some (.int .i64 b.f.k) := fun V h => (h.six HJ.out.xb).1
  have kc0 : ∀ V : World, SJ W10 V → V.cell? ⟨bc, 0, none⟩ = some (.int .i64 c.f.k) := fun V h => (h.six HJ.out.xc).1
  have HT := hide (⟨x2, y2, z2, p2, q2, s2⟩ : _ ∧ _ ∧ _ ∧ _ ∧ _ ∧ _)
  have H3 := hide (⟨x3, y3, z3, p3, q3, s3⟩ : _ ∧ _ ∧ _ ∧ _ ∧ _ ∧ _)
  clear x1 x2 x3 y1 y2 y3 z1 z2 z3 p1 p2 p3 q1 q2 q3 s1 s2 s3 Rx Ry Rz Rp Rq Rr
  have PQ : Hid (a.f.k ≠ 6 → b.f.k ≠ 6 → c.f.k ≠ 6 → ((∀ V : World, SJ W10 V → Calls Try.prog 18 #[.agg #[.int .i64 tp.f.k, .int .i64 tp.f.n, .int .i64 tp.f.mn, .int .i64 tp.f.mx, .slice tp.f.rq tp.f.rs.length tp.f.rc, .slice tp.f.kq tp.f.kl tp.f.kc], .agg #[.int .i64 tq.f.k, .int .i64 tq.f.n, .int .i64 tq.f.mn, .int .i64 tq.f.mx, .slice tq.f.rq tq.f.rs.length tq.f.rc, .slice tq.f.kq tq.f.kl tq.f.kc]] V fun e w' => e = .returned (.bool true) ∧ SJ W10 w') ∧ ∀ V : World, SJ W10 V → Calls Try.prog 18 #[.agg #[.int .i64 tp.f.k, .int .i64 tp.f.n, .int .i64 tp.f.mn, .int .i64 tp.f.mx, .slice tp.f.rq tp.f.rs.length tp.f.rc, .slice tp.f.kq tp.f.kl tp.f.kc], .agg #[.int .i64 tr.f.k, .int .i64 tr.f.n, .int .i64 tr.f.mn, .int .i64 tr.f.mx, .slice tr.f.rq tr.f.rs.length tr.f.rc, .slice tr.f.kq tr.f.kl tr.f.kc]] V fun e w' => e = .returned (.bool true) ∧ SJ W10 w')) := fun ha hb hc => (by
    rw [← er_k] at ha hb hc
    have sz : (er tp).sz ≤ 2000 := by rw [H3.out.2.2.2.1, alt_left ha hb hc]; have := alt3X_sz (er a) (er b) (er c); have := HSZ.out; omega
    refine ⟨fun V h => (same_yes8 (HT.out.2.2.2.1.kept h.out) (HT.out.2.2.2.2.1.kept h.out) ?_ sz).mono fun e w' ⟨h1, h2⟩ => ⟨h1, h.call h2⟩, fun V h => (same_yes8 (HT.out.2.2.2.1.kept h.out) (HT.out.2.2.2.2.2.kept h.out) ?_ sz).mono fun e w' ⟨h1, h2⟩ => ⟨h1, h.call h2⟩⟩
    · rw [H3.out.2.2.2.1, H3.out.2.2.2.2.1, alt_left ha hb hc, alt_right ha hb hc]
    · rw [H3.out.2.2.2.1, H3.out.2.2.2.2.2, alt_left ha hb hc])
  have XY : Hid (a.f.k ≠ 1 ∧ b.f.k ≠ 1 ∧ c.f.k ≠ 1 ∧ a.f.k ≠ 5 ∧ b.f.k ≠ 5 ∧ c.f.k ≠ 5 → ((∀ V : World, SJ W10 V → Calls Try.prog 18 #[.agg #[.int .i64 tx.f.k, .int .i64 tx.f.n, .int .i64 tx.f.mn, .int .i64 tx.f.mx, .slice tx.f.rq tx.f.rs.length tx.f.rc, .slice tx.f.kq tx.f.kl tx.f.kc], .agg #[.int .i64 ty.f.k, .int .i64 ty.f.n, .int .i64 ty.f.mn, .int .i64 ty.f.mx, .slice ty.f.rq ty.f.rs.length ty.f.rc, .slice ty.f.kq ty.f.kl ty.f.kc]] V fun e w' => e = .returned (.bool true) ∧ SJ W10 w') ∧ ∀ V : World, SJ W10 V → Calls Try.prog 18 #[.agg #[.int .i64 tx.f.k, .int .i64 tx.f.n, .int .i64 tx.f.mn, .int .i64 tx.f.mx, .slice tx.f.rq tx.f.rs.length tx.f.rc, .slice tx.f.kq tx.f.kl tx.f.kc], .agg #[.int .i64 tz.f.k, .int .i64 tz.f.n, .int .i64 tz.f.mn, .int .i64 tz.f.mx, .slice tz.f.rq tz.f.rs.length tz.f.rc, .slice tz.f.kq tz.f.kl tz.f.kc]] V fun e w' => e = .returned (.bool true) ∧ SJ W10 w')) := fun hp => (by
    rw [← er_k, ← er_k, ← er_k] at hp
    have ha := (⟨hp.1, hp.2.2.2.1⟩ : _ ∧ _)
    have hb := (⟨hp.2.1, hp.2.2.2.2.1⟩ : _ ∧ _)
    have hc := (⟨hp.2.2.1, hp.2.2.2.2.2⟩ : _ ∧ _)
    have sz : (er tx).sz ≤ 2000 := by rw [H3.out.1, cat_left ha hb hc]; have := cat3X_sz (er a) (er b) (er c); have := HSZ.out; omega
    refine ⟨fun V h => (same_yes8 (HT.out.1.kept h.out) (HT.out.2.1.kept h.out) ?_ sz).mono fun e w' ⟨h1, h2⟩ => ⟨h1, h.call h2⟩, fun V h => (same_yes8 (HT.out.1.kept h.out) (HT.out.2.2.1.kept h.out) ?_ sz).mono fun e w' ⟨h1, h2⟩ => ⟨h1, h.call h2⟩⟩
    · rw [H3.out.1, H3.out.2.1, cat_left ha hb hc, cat_right ha hb hc]
    · rw [H3.out.1, H3.out.2.2.1, cat_left ha hb hc])
  clear HT H3 E0
  by_cases hp : a.f.k ≠ 1 ∧ b.f.k ≠ 1 ∧ c.f.k ≠ 1 ∧ a.f.k ≠ 5 ∧ b.f.k ≠ 5 ∧ c.f.k ≠ 5
  · have CXY := hide (XY.out hp)
    have ep : decide (a.f.k ≠ 1 ∧ b.f.k ≠ 1 ∧ c.f.k ≠ 1 ∧ a.f.k ≠ 5 ∧ b.f.k ≠ 5 ∧ c.f.k ≠ 5) = true := decide_eq_true hp
    rw [ep]
    clear hp ep
    by_cases ha6 : a.f.k = 6
    · have ea6 : (a.f.k == 6) = true := by simpa using ha6
      clear ha6
      go_wp2_with first | (go_at_call 18; (with_reducible refine (CXY.out.1 _ (by assumption)).mono ?_); rintro e v1 ⟨rfl, S1⟩) | (go_at_call 18; (with_reducible refine (CXY.out.2 _ (by assumption)).mono ?_); rintro e v2 ⟨rfl, S2⟩) | (go_at_call 18; (with_reducible refine (CPQ.out.1 _ (by assumption)).mono ?_); rintro e v3 ⟨rfl, S3⟩) | (go_at_call 18; (with_reducible refine (CPQ.out.2 _ (by assumption)).mono ?_); rintro e v4 ⟨rfl, S4⟩)
      go_ret
      exact ⟨rfl, chain HJ.out.bel (SJ.out (by with_reducible assumption)) (Nat.le_refl _)⟩
    have ea6 : (a.f.k == 6) = false := by simpa using ha6
    by_cases hb6 : b.f.k = 6
    · have eb6 : (b.f.k == 6) = true := by simpa using hb6
      clear hb6
      go_wp2_with first | (go_at_call 18; (with_reducible refine (CXY.out.1 _ (by assumption)).mono ?_); rintro e v1 ⟨rfl, S1⟩) | (go_at_call 18; (with_reducible refine (CXY.out.2 _ (by assumption)).mono ?_); rintro e v2 ⟨rfl, S2⟩) | (go_at_call 18; (with_reducible refine (CPQ.out.1 _ (by assumption)).mono ?_); rintro e v3 ⟨rfl, S3⟩) | (go_at_call 18; (with_reducible refine (CPQ.out.2 _ (by assumption)).mono ?_); rintro e v4 ⟨rfl, S4⟩)
      go_ret
      exact ⟨rfl, chain HJ.out.bel (SJ.out (by with_reducible assumption)) (Nat.le_refl _)⟩
    have eb6 : (b.f.k == 6) = false := by simpa using hb6
    by_cases hc6 : c.f.k = 6
    · have ec6 : (c.f.k == 6) = true := by simpa using hc6
      clear hc6
      go_wp2_with first | (go_at_call 18; (with_reducible refine (CXY.out.1 _ (by assumption)).mono ?_); rintro e v1 ⟨rfl, S1⟩) | (go_at_call 18; (with_reducible refine (CXY.out.2 _ (by assumption)).mono ?_); rintro e v2 ⟨rfl, S2⟩) | (go_at_call 18; (with_reducible refine (CPQ.out.1 _ (by assumption)).mono ?_); rintro e v3 ⟨rfl, S3⟩) | (go_at_call 18; (with_reducible refine (CPQ.out.2 _ (by assumption)).mono ?_); rintro e v4 ⟨rfl, S4⟩)
      go_ret
      exact ⟨rfl, chain HJ.out.bel (SJ.out (by with_reducible assumption)) (Nat.le_refl _)⟩
    have ec6 : (c.f.k == 6) = false := by simpa using hc6
    have CPQ := hide (PQ.out ha6 hb6 hc6)
    clear ha6 hb6 hc6
    go_wp2_with first | (go_at_call 18; (with_reducible refine (CXY.out.1 _ (by assumption)).mono ?_); rintro e v1 ⟨rfl, S1⟩) | (go_at_call 18; (with_reducible refine (CXY.out.2 _ (by assumption)).mono ?_); rintro e v2 ⟨rfl, S2⟩) | (go_at_call 18; (with_reducible refine (CPQ.out.1 _ (by assumption)).mono ?_); rintro e v3 ⟨rfl, S3⟩) | (go_at_call 18; (with_reducible refine (CPQ.out.2 _ (by assumption)).mono ?_); rintro e v4 ⟨rfl, S4⟩)
    go_ret
    exact ⟨rfl, chain HJ.out.bel (SJ.out (by with_reducible assumption)) (Nat.le_refl _)⟩
  · have ep : decide (a.f.k ≠ 1 ∧ b.f.k ≠ 1 ∧ c.f.k ≠ 1 ∧ a.f.k ≠ 5 ∧ b.f.k ≠ 5 ∧ c.f.k ≠ 5) = false := decide_eq_false hp
    rw [ep]
    clear hp ep
    by_cases ha6 : a.f.k = 6
    · have ea6 : (a.f.k == 6) = true := by simpa using ha6
      clear ha6
      go_wp2_with first | (go_at_call 18; (with_reducible refine (CXY.out.1 _ (by assumption)).mono ?_); rintro e v1 ⟨rfl, S1⟩) | (go_at_call 18; (with_reducible refine (CXY.out.2 _ (by assumption)).mono ?_); rintro e v2 ⟨rfl, S2⟩) | (go_at_call 18; (with_reducible refine (CPQ.out.1 _ (by assumption)).mono ?_); rintro e v3 ⟨rfl, S3⟩) | (go_at_call 18; (with_reducible refine (CPQ.out.2 _ (by assumption)).mono ?_); rintro e v4 ⟨rfl, S4⟩)
      go_ret
      exact ⟨rfl, chain HJ.out.bel (SJ.out (by with_reducible assumption)) (Nat.le_refl _)⟩
    have ea6 : (a.f.k == 6) = false := by simpa using ha6
    by_cases hb6 : b.f.k = 6
    · have eb6 : (b.f.k == 6) = true := by simpa using hb6
      clear hb6
      go_wp2_with first | (go_at_call 18; (with_reducible refine (CXY.out.1 _ (by assumption)).mono ?_); rintro e v1 ⟨rfl, S1⟩) | (go_at_call 18; (with_reducible refine (CXY.out.2 _ (by assumption)).mono ?_); rintro e v2 ⟨rfl, S2⟩) | (go_at_call 18; (with_reducible refine (CPQ.out.1 _ (by assumption)).mono ?_); rintro e v3 ⟨rfl, S3⟩) | (go_at_call 18; (with_reducible refine (CPQ.out.2 _ (by assumption)).mono ?_); rintro e v4 ⟨rfl, S4⟩)
      go_ret
      exact ⟨rfl, chain HJ.out.bel (SJ.out (by with_reducible assumption)) (Nat.le_refl _)⟩
    have eb6 : (b.f.k == 6) = false := by simpa using hb6
    by_cases hc6 : c.f.k = 6
    · have ec6 : (c.f.k == 6) = true := by simpa using hc6
      clear hc6
      go_wp2_with first | (go_at_call 18; (with_reducible refine (CXY.out.1 _ (by assumption)).mono ?_); rintro e v1 ⟨rfl, S1⟩) | (go_at_call 18; (with_reducible refine (CXY.out.2 _ (by assumption)).mono ?_); rintro e v2 ⟨rfl, S2⟩) | (go_at_call 18; (with_reducible refine (CPQ.out.1 _ (by assumption)).mono ?_); rintro e v3 ⟨rfl, S3⟩) | (go_at_call 18; (with_reducible refine (CPQ.out.2 _ (by assumption)).mono ?_); rintro e v4 ⟨rfl, S4⟩)
      go_ret
      exact ⟨rfl, chain HJ.out.bel (SJ.out (by with_reducible assumption)) (Nat.le_refl _)⟩
    have ec6 : (c.f.k == 6) = false := by simpa using hc6
    have CPQ := hide (PQ.out ha6 hb6 hc6)
    clear ha6 hb6 hc6
    go_wp2_with first | (go_at_call 18; (with_reducible refine (CXY.out.1 _ (by assumption)).mono ?_); rintro e v1 ⟨rfl, S1⟩) | (go_at_call 18; (with_reducible refine (CXY.out.2 _ (by assumption)).mono ?_); rintro e v2 ⟨rfl, S2⟩) | (go_at_call 18; (with_reducible refine (CPQ.out.1 _ (by assumption)).mono ?_); rintro e v3 ⟨rfl, S3⟩) | (go_at_call 18; (with_reducible refine (CPQ.out.2 _ (by assumption)).mono ?_); rintro e v4 ⟨rfl, S4⟩)
    go_ret
    exact ⟨rfl, chain HJ.out.bel (SJ.out (by with_reducible assumption)) (Nat.le_refl _)⟩
end Go.Proofs.Ytlodjinejeajcaa
