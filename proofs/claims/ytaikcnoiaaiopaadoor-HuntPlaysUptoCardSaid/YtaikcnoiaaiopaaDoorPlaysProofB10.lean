/-
  Parts of the proof.
-/
import Derived.Test.YtaikcnoiaaiopaaDoorPlaysProofB9
import Derived.Test.YtaikcnoiaaiopaaDoorPlaysProofB6
set_option linter.unusedSimpArgs false
namespace Go.Proofs.YtaikcnoiaaiopaaDoor
open Go Go.RowKit Go.Shelf
attribute [local go_sem] Oper.semAt_some z1_eqIn_nil z1_eqg_set
theorem TrM.grown {base : Nat} {w w' : World} {T : Pt} {D : List Nat → Prop} {R : List Nat → Nat → Prop} {K : List Nat → Kn} {B : Nat} {row : Option Nat} (h : TrM base w T D R K) (hg : w.grownBy w' row) (hr : ∀ r, row = some r → B ≤ r ∧ ∃ o : Obj, w.heap[r]? = some o ∧ o.isCells = false) : TrM base w' T D R K :=
  h.keep (fun _ _ _ _ hk => cells_kept hg hr hk)
def isNode (t : TypeId) : Prop := t = 65
def WK (K : List Nat → Kn) (x : List Nat) : Prop := (K x).ws ≠ 0#256
structure KSt (D : List Nat → Prop) (K K' : List Nat → Kn) (r : List Nat) (pre : List Nat) : Prop where
  ws : ∀ x, (K' x).ws = (K x).ws
  ot : ∀ x, (∀ b, b ∈ pre → x ≠ b :: r) → K' x = K x
  bk : ∀ b, b ∈ pre → D (b :: r) → BkIs D (b :: r) (K' (b :: r)).bk ∧ WhIs (WK K) (b :: r) (K' (b :: r)).wh
theorem KSt.nil (D : List Nat → Prop) (K : List Nat → Kn) (r : List Nat) : KSt D K K r [] := ⟨fun _ => rfl, fun _ _ => rfl, fun _ h => by simp at h⟩
theorem KSt.snoc {D : List Nat → Prop} {K K' : List Nat → Kn} {r pre : List Nat} {b : Nat} (h : KSt D K K' r pre) {k : Kn} (hw : k.ws = (K (b :: r)).ws) (h1 : BkIs D (b :: r) k.bk) (h2 : WhIs (WK K) (b :: r) k.wh) : KSt D K (upd K' (b :: r) k) r (pre ++ [b]) := by
  refine ⟨fun x => ?_, fun x hx => ?_, fun c hc hd => ?_⟩
  · by_cases e : x = b :: r
    · subst e; rw [upd_at]; exact hw
    · rw [upd_ne _ _ e]; exact h.ws x
  · rw [upd_ne _ _ (hx b (by simp))]
    exact h.ot x (fun c hc => hx c (by simp [hc]))
  · by_cases e : c = b
    · subst e; rw [upd_at]; exact ⟨h1, h2⟩
    · rw [upd_ne _ _ (fun q => e (by injection q))]
      exact h.bk c (by simpa [e] using hc) hd
structure LkI (base : Nat) (T : Pt) (D : List Nat → Prop) (R : List Nat → Nat → Prop) (K : List Nat → Kn) (r : List Nat) (w : World) (B : Nat) (pre : List Nat) (W : World) : Prop where
  tr : ∃ K', TrM base W T D R K' ∧ KSt D K K' r pre
  ft : FT base isNode w W
  bx : W.heap[B]? = some (.cells #[nodeP T r] 57 (0, 0))
theorem lkI_own {base : Nat} {T : Pt} {D : List Nat → Prop} {R : List Nat → Nat → Prop} {K : List Nat → Kn} {r : List Nat} {w : World} {B N : Nat} (hN : w.heap.size ≤ N) : OwnFrom N (LkI base T D R K r w B) := fun pre A A' row h hg hr => by
  obtain ⟨K', h1, h2⟩ := h.tr
  exact ⟨⟨K', h1.grown hg hr, h2⟩, h.ft.grown hN hg hr, cells_kept hg hr h.bx⟩
theorem takeLast {b : Nat} {r : List Nat} (h : r ≠ []) : (b :: r).dropLast = b :: r.dropLast := by
  cases r with
  | nil => exact absurd rfl h
  | cons c r => rfl
theorem TrM.setBk {base : Nat} {w : World} {T : Pt} {D : List Nat → Prop} {R : List Nat → Nat → Prop} {K : List Nat → Kn} (h : TrM base w T D R K) {r x : List Nat} (hr : D r) (hx : D x) : TrM base (w.setCell ⟨T.nb r, 21, none⟩ (nodeP T x)) T D R (upd K r ⟨(K r).ws, some x, (K r).wh⟩) := by
  obtain ⟨cur, h1, h2⟩ := h.node r hr
  refine h.updN hr (fun y hy => by cases hy; exact hx) (fun y hy => h.whd r y hr hy) ⟨_, heap_set_in h1 21 _, ?_⟩ (fun i _ hi => Below.heap_setCell _ _ _ _ hi)
  have h23 := h2.size
  have gg : ∀ i v, cur[i]? = some v → 21 ≠ i → (cur.setIfInBounds 21 (nodeP T x))[i]? = some v := fun i v hc hne => by simp [Array.getElem?_setIfInBounds, hne, hc]
  exact ⟨by simpa using h23, fun u hu => gg _ _ (h2.rows u hu) (by omega), gg _ _ h2.dep (by omega), gg _ _ h2.w0 (by omega), gg _ _ h2.w1 (by omega), gg _ _ h2.w2 (by omega), gg _ _ h2.w3 (by omega), by simp [Array.getElem?_setIfInBounds, h23, ndV, ndA], gg _ _ h2.wh (by omega)⟩
theorem TrM.setWh {base : Nat} {w : World} {T : Pt} {D : List Nat → Prop} {R : List Nat → Nat → Prop} {K : List Nat → Kn} (h : TrM base w T D R K) {r : List Nat} (hr : D r) {o : Option (List Nat)} (ho : ∀ x, o = some x → D x) : TrM base (w.setCell ⟨T.nb r, 22, none⟩ (ndV T o)) T D R (upd K r ⟨(K r).ws, (K r).bk, o⟩) := by
  obtain ⟨cur, h1, h2⟩ := h.node r hr
  refine h.updN hr (fun y hy => h.bkd r y hr hy) ho ⟨_, heap_set_in h1 22 _, ?_⟩ (fun i _ hi => Below.heap_setCell _ _ _ _ hi)
  have h23 := h2.size
  have gg : ∀ i v, cur[i]? = some v → 22 ≠ i → (cur.setIfInBounds 22 (ndV T o))[i]? = some v := fun i v hc hne => by simp [Array.getElem?_setIfInBounds, hne, hc]
  exact ⟨by simpa using h23, fun u hu => gg _ _ (h2.rows u hu) (by omega), gg _ _ h2.dep (by omega), gg _ _ h2.w0 (by omega), gg _ _ h2.w1 (by omega), gg _ _ h2.w2 (by omega), gg _ _ h2.w3 (by omega), gg _ _ h2.bk (by omega), by simp [Array.getElem?_setIfInBounds, h23]⟩
theorem upd_upd (K : List Nat → Kn) (r : List Nat) (a b : Kn) : upd (upd K r a) r b = upd K r b := by
  funext x
  by_cases e : x = r
  · subst e; rw [upd_at, upd_at]
  · rw [upd_ne _ _ e, upd_ne _ _ e, upd_ne _ _ e]
theorem KSt.low {D : List Nat → Prop} {K K' : List Nat → Kn} {r pre x : List Nat} (h : KSt D K K' r pre) (hx : x.length ≤ r.length) : K' x = K x := h.ot x (fun c _ e => by rw [e] at hx; simp at hx; omega)
theorem FT.setN {base : Nat} {w : World} {T : Pt} {D : List Nat → Prop} {R : List Nat → Nat → Prop} {K : List Nat → Kn} (h : TrM base w T D R K) {r : List Nat} (hr : D r) (hb : base ≤ w.heap.size) (j : Nat) (v : Value) : FT base isNode w (w.setCell ⟨T.nb r, j, none⟩ v) := by
  obtain ⟨cur, h1, _⟩ := h.node r hr
  exact FT.set (τ := isNode) hb h1 rfl (h.bn r hr) v
set_option maxRecDepth 100000 in
set_option maxHeartbeats 4000000 in
theorem link_in (n : Nat) (hn : 3 ≤ n) {base : Nat} {w : World} {T : Pt} {D : List Nat → Prop} {R : List Nat → Nat → Prop} {K : List Nat → Kn} (h : TrM base w T D R K) {r : List Nat} (hr : D r) (hL : Lk D K r.length) (hW : ∀ x, D x → x.length ≤ r.length → WhIs (WK K) x (K x).wh) (hWD : ∀ x, WK K x → D x) (hbs : base ≤ w.heap.size) :
    CallsIn Fence.wide n Tryd.prog 25 #[nodeP T r] w fun e w' => e = .returned (.tuple #[]) ∧ (∃ K', TrM base w' T D R K' ∧ KSt D K K' r (kidsL D r 256)) ∧ FT base isNode w w' := by
  have h1 : 1 ≤ n := by omega
  have h2 : 1 ≤ n - 1 - 1 := by omega
  have hfn : ∀ f, Fence.wide.fn f := fun _ => trivial
  have hmix : Tryd.prog.follows .mixedOrders = true := by kernel_rfl
  have B1 := (Below.refl w.heap.size w).alloc (Nat.le_refl _) (.cells #[nodeP T r] 57)
  have H1 := hide (h.below B1)
  have X1 := hide (World.alloc_heap_new w (.cells #[nodeP T r] 57))
  have HB1 := hide B1
  have HL := hide hL
  have HW := hide hW
  have HWD := hide hWD
  have HBS := hide hbs
  clear h B1 hL hW hWD
  refine callsIn_of_wp_marks Tryd.func25 rfl trivial ?_ rfl
  simp only [Tryd.ntmps25, List.size_toArray, List.length_cons, List.length_nil, Nat.reduceAdd, Nat.reduceSub, Array.replicate_succ, Array.replicate_zero, List.push_toArray, List.append_toArray, List.nil_append, List.cons_append]
  have NC := hide (fun W => nall_c T r W)
  gi_wp2_with (gi_at_call 39; refine (callsIn_wide.2 (NC.out _)).mono ?_; rintro e w' ⟨rfl, rfl⟩)
  generalize hw1 : w.alloc (.cells #[nodeP T r] 57) = w1 at H1 X1 HB1 ⊢
  have hz1 : w1.heap.size = w.heap.size + 1 := by rw [← hw1]; simp
  have Z1 := hide hz1
  clear hw1
  have B2 := (Below.refl w1.heap.size w1).alloc (Nat.le_refl _) (.cells #[nodeP T r] 57)
  have H2 := hide (H1.out.below B2)
  have X2 := World.alloc_heap_new w1 (.cells #[nodeP T r] 57)
  rw [hz1] at X2
  have XX := hide X2
  have X12 := hide ((B2.block _ (lt_of_heap X1.out)).trans X1.out)
  have BB := hide (HB1.out.trans (B2.mono HB1.out.size))
  have SZ : w.heap.size ≤ (w1.alloc (.cells #[nodeP T r] 57)).heap.size := by have := Z1.out; simp; omega
  clear B2 X2
  generalize w1.alloc (.cells #[nodeP T r] 57) = w2 at H2 XX X12 BB SZ ⊢
  clear hz1
  have TL := nall_tells (n - 1) (by omega) XX.out H2.out hr
  refine range_told6 (α := Nat) h1 (gf := 48) (lb := #[.pointer (some ⟨w.heap.size + 1, 0, none⟩)]) rfl (enters_of Tryd.func48 (by kernel_rfl) rfl) (encs := encK T r) (fun _ => rfl) TL
    (LkI base T D R K r w w.heap.size) (fun pre b W => LkI base T D R K r w w.heap.size pre W ∧ pre = kidsL D r b ∧ b < 256 ∧ D (b :: r)) (fun _ _ _ => False)
    (lkI_own SZ) (fun pre b => ?_) (fun _ _ _ _ _ h _ _ => h) (fun _ _ _ => trivial) (fun pre A B h hf => ⟨by obtain ⟨K', q1, q2⟩ := h.tr; exact ⟨K', q1.keep (fun k cur t _ hk => hf.keep hk (fun _ _ _ q => q)), q2⟩, h.ft.trans (FT.mono (hf.lower (Nat.le_trans HBS.out SZ)) (fun _ q => q.elim)), hf.keep h.bx (fun _ _ _ q => q)⟩) (fun pre b V0 V ht => CellsOnly.below ht.1) (fun pre b V0 V hi ht => ⟨ownFrom_below (lkI_own (Nat.le_refl _)) hi ht.1, ht.2⟩) ?_
    (fun b => { tmps := #[nodeP T r, .pointer (some ⟨w.heap.size, 0, none⟩), .int .u8 (b : Int), nodeP T (b :: r), nodeP T r, .func (.func 48) #[] #[.pointer (some ⟨w.heap.size + 1, 0, none⟩)], .int .u8 (b : Int), nodeP T (b :: r), undef, undef, undef, undef, undef, undef, undef, undef, undef, undef, undef, undef, undef, undef, undef, undef, undef, undef, undef, undef, undef, undef, undef, undef, undef, undef, undef, undef, undef, undef, undef, undef, undef, undef, undef, undef, undef, undef, undef, undef, undef], defers := [] }) ?_ ?_ ?_ ?_
  · exact fun _ A A' row h hg hrow => ⟨lkI_own SZ pre A A' row h.1 hg hrow, h.2⟩
  · exact ⟨⟨K, H2.out, KSt.nil D K r⟩, FT.of_below HBS.out BB.out, X12.out⟩
  · intro l b W K' hK
    simp only [encK]
    gi_wp2
    exact hK
  · rintro l pre b W ⟨hI, hpre, hb, hd⟩
    obtain ⟨K', hT', hS⟩ := hI.tr
    have HT' := hide hT'
    have HS := hide hS
    have HF := hide hI.ft
    have HBX := hide hI.bx
    have HPRE := hide hpre
    have SW := hide (Nat.le_trans HBS.out hI.ft.size)
    have er : K' r = K r := hS.low (Nat.le_refl _)
    have hlt : T.nb (b :: r) < W.heap.size := hT'.lt hd
    have hlt2 : T.nb r < W.heap.size := hT'.lt hr
    have c0 : W.cell? ⟨w.heap.size, 0, none⟩ = some (nodeP T r) := cell_row hI.bx (i := 0) rfl
    have c1 := hT'.cBk hr
    rw [er] at c1
    have f21 := hT'.frz hd 21
    have c21 := hT'.cBk hd
    clear hI hT' hS hpre er
    have KEY : Hid (∀ z, IsLg D (b :: r).dropLast z → BkIs D (b :: r) (some z)) := hide (fun z hz => .inr ⟨by simp, z, rfl, hz⟩)
    have LOWZ : Hid (∀ z, IsLg D (b :: r).dropLast z → z.length ≤ r.length) := hide (fun z hz => by have h5 := hz.len; rw [List.length_dropLast, List.length_cons] at h5; omega)
    have REST : Hid (∀ z W1, IsLg D (b :: r).dropLast z → TrM base W1 T D R (upd K' (b :: r) ⟨(K' (b :: r)).ws, some z, (K' (b :: r)).wh⟩) → FT base isNode W W1 → ∀ W3 o, (∀ x, o = some x → D x) → WhIs (WK K) (b :: r) o → TrM base W3 T D R (upd K' (b :: r) ⟨(K' (b :: r)).ws, some z, o⟩) → FT base isNode W1 W3 → KeepsFrom w2.heap.size W W3 ∧ TKeep keepK W W3 ∧ LkI base T D R K r w w.heap.size (pre ++ [b]) W3) := hide (fun z W1 hz _ hF1 W3 o _ hwh hT3 hF3 => by
      have hF := hF1.trans hF3
      refine ⟨hF.keeps _, hF.tkeep (fun _ t ht he => absurd ((show t = _ from ht).symm.trans (show t = _ from he)) (by decide)), ⟨_, hT3, HS.out.snoc (HS.out.ws _) (KEY.out z hz) hwh⟩, HF.out.trans hF, ?_⟩
      exact hF.keep HBX.out (fun cur t e he => by injection e with _ e _; exact absurd (e.trans (show t = _ from he)) (by decide)))
    rcases HL.out r hr (Nat.le_refl _) with ⟨h0, hk0⟩ | ⟨h0, y, hk0, hy⟩
    · rw [hk0] at c1
      simp only [ndV, ndA] at c1
      have LG := hide (show IsLg D (b :: r).dropLast r by rw [h0]; exact IsLg.nil HT'.out.clo.root)
      have T1 := hide (HT'.out.setBk hd hr)
      have F1 := hide (FT.setN HT'.out hd SW.out 21 (nodeP T r))
      clear hk0
      clear h0
      gi_upto_region 7 with fail
      generalize (W.setCell ⟨T.nb (b :: r), 21, none⟩ (nodeP T r)) = W1 at T1 F1 ⊢
      have k1 : W1.cell? ⟨T.nb (b :: r), 21, none⟩ = some (nodeP T r) := by have := T1.out.cBk hd; rw [upd_at] at this; exact this
      have ZL := LOWZ.out r LG.out
      have KZ : upd K' (b :: r) ⟨(K' (b :: r)).ws, some r, (K' (b :: r)).wh⟩ r = K r := by rw [upd_ne _ _ (fun e => by have h5 := congrArg List.length e; rw [List.length_cons] at h5; omega)]; exact HS.out.low ZL
      have k2 := T1.out.cWh LG.out.2.1
      rw [KZ] at k2
      have k3 := T1.out.cWh hd
      have f22 := T1.out.frz hd 22
      have l1 := T1.out.lt hd
      have WZ := hide (HW.out r LG.out.2.1 ZL)
      have WD := hide (fun x (hx : (K r).wh = some x) => T1.out.whd r x LG.out.2.1 (by rw [KZ]; exact hx))
      have T2 := T1.out.setWh hd WD.out
      rw [upd_at, upd_upd] at T2
      have T2 := hide T2
      have SW1 := hide (Nat.le_trans SW.out F1.out.size)
      have F2 := hide (FT.setN T1.out hd SW1.out 22 (ndV T (K r).wh))
      clear KZ ZL
      gi_upto_region 8 with fail
      generalize (W1.setCell ⟨T.nb (b :: r), 22, none⟩ (ndV T (K r).wh)) = W2 at T2 F2 ⊢
      obtain ⟨v0, v1, v2, v3⟩ := T2.out.cWs hd
      simp only [upd_at] at v0 v1 v2 v3
      have g22 := T2.out.frz hd 22
      have e22 := T2.out.cWh hd
      have l2 := T2.out.lt hd
      clear k1 k2 k3 f22 l1
      have T3 := T2.out.setWh hd (o := some (b :: r)) (fun x hx => by cases hx; exact hd)
      rw [upd_at, upd_upd] at T3
      have T3 := hide T3
      have SW2 := hide (Nat.le_trans SW1.out F2.out.size)
      have F3 := hide (FT.setN T2.out hd SW2.out 22 (nodeP T (b :: r)))
      have WS := hide (HS.out.ws (b :: r))
      by_cases hws : (K' (b :: r)).ws = 0#256
      · have e0 : decide ((K' (b :: r)).ws = 0#256) = true := decide_eq_true hws
        have HWS := hide hws
        clear hws
        gi_wp2
        exact REST.out r W1 LG.out T1.out F1.out W2 _ WD.out (wh_drop (fun hw => hw (WS.out.symm.trans HWS.out)) (wh_lg HWD.out LG.out WZ.out)) T2.out F2.out
      · have e0 : decide ((K' (b :: r)).ws = 0#256) = false := decide_eq_false hws
        have HWS := hide hws
        clear hws
        gi_wp2
        exact REST.out r W1 LG.out T1.out F1.out _ (some (b :: r)) (fun x hx => by cases hx; exact hd) (wh_self (fun hw => HWS.out (WS.out.trans hw))) T3.out (F2.out.trans F3.out)
    · rw [hk0] at c1
      simp only [ndV, ndA] at c1
      have YL := hide (show y.length ≤ r.length - 1 by have h5 := hy.len; rw [List.length_dropLast] at h5; exact h5)
      have ON := hide (on_c HT'.out hy (fun x hx hl => by rw [HS.out.low (by have := YL.out; omega)]; exact HL.out x hx (by have := YL.out; omega)) hb)
      have H0 := hide h0
      clear hk0 hy h0
      gi_upto_region 7 with (gi_at_call 40; refine (CallsIn.inRound l (callsIn_wide.2 ON.out)).mono ?_; rintro e w5 ⟨z, k, rfl, h5, h6⟩; subst w5; have OP := hide h5; clear h5)
      have LG := hide (show IsLg D (b :: r).dropLast z by rw [takeLast H0.out]; exact OP.out.lg)
      have T1 := hide (HT'.out.setBk hd LG.out.2.1)
      have F1 := hide (FT.setN HT'.out hd SW.out 21 (nodeP T z))
      generalize (W.setCell ⟨T.nb (b :: r), 21, none⟩ (nodeP T z)) = W1 at T1 F1 ⊢
      have k1 : W1.cell? ⟨T.nb (b :: r), 21, none⟩ = some (nodeP T z) := by have := T1.out.cBk hd; rw [upd_at] at this; exact this
      have ZL := LOWZ.out z LG.out
      have KZ : upd K' (b :: r) ⟨(K' (b :: r)).ws, some z, (K' (b :: r)).wh⟩ z = K z := by rw [upd_ne _ _ (fun e => by have h5 := congrArg List.length e; rw [List.length_cons] at h5; omega)]; exact HS.out.low ZL
      have k2 := T1.out.cWh LG.out.2.1
      rw [KZ] at k2
      have k3 := T1.out.cWh hd
      have f22 := T1.out.frz hd 22
      have l1 := T1.out.lt hd
      have WZ := hide (HW.out z LG.out.2.1 ZL)
      have WD := hide (fun x (hx : (K z).wh = some x) => T1.out.whd z x LG.out.2.1 (by rw [KZ]; exact hx))
      have T2 := T1.out.setWh hd WD.out
      rw [upd_at, upd_upd] at T2
      have T2 := hide T2
      have SW1 := hide (Nat.le_trans SW.out F1.out.size)
      have F2 := hide (FT.setN T1.out hd SW1.out 22 (ndV T (K z).wh))
      clear KZ ZL
      gi_upto_region 8 with fail
      generalize (W1.setCell ⟨T.nb (b :: r), 22, none⟩ (ndV T (K z).wh)) = W2 at T2 F2 ⊢
      obtain ⟨v0, v1, v2, v3⟩ := T2.out.cWs hd
      simp only [upd_at] at v0 v1 v2 v3
      have g22 := T2.out.frz hd 22
      have e22 := T2.out.cWh hd
      have l2 := T2.out.lt hd
      clear k1 k2 k3 f22 l1
      have T3 := T2.out.setWh hd (o := some (b :: r)) (fun x hx => by cases hx; exact hd)
      rw [upd_at, upd_upd] at T3
      have T3 := hide T3
      have SW2 := hide (Nat.le_trans SW1.out F2.out.size)
      have F3 := hide (FT.setN T2.out hd SW2.out 22 (nodeP T (b :: r)))
      have WS := hide (HS.out.ws (b :: r))
      by_cases hws : (K' (b :: r)).ws = 0#256
      · have e0 : decide ((K' (b :: r)).ws = 0#256) = true := decide_eq_true hws
        have HWS := hide hws
        clear hws
        gi_wp2
        exact REST.out z W1 LG.out T1.out F1.out W2 _ WD.out (wh_drop (fun hw => hw (WS.out.symm.trans HWS.out)) (wh_lg HWD.out LG.out WZ.out)) T2.out F2.out
      · have e0 : decide ((K' (b :: r)).ws = 0#256) = false := decide_eq_false hws
        have HWS := hide hws
        clear hws
        gi_wp2
        exact REST.out z W1 LG.out T1.out F1.out _ (some (b :: r)) (fun x hx => by cases hx; exact hd) (wh_self (fun hw => HWS.out (WS.out.trans hw))) T3.out (F2.out.trans F3.out)
  · rintro D' xs W hD hS hI hK
    have HI := hide hI
    have HK := hide hK
    rw [hS] at HI
    clear hI hK hS
    gi_wp2
    refine ⟨by simp, .inl ⟨_, _, rfl, run_takeDeferred HK.out, ?_⟩⟩
    refine ⟨.tuple #[], by simp [results, Tryd.results25, go_sem], rfl, ?_⟩
    have HI2 := (lkI_own (base := base) (T := T) (D := D) (R := R) (K := K) (r := r) SZ).putObj (.deferred none) HI.out hD HK.out rfl
    exact ⟨HI2.tr, HI2.ft⟩
  · rintro D' c pre W _ _ h _
    exact h.elim
end Go.Proofs.YtaikcnoiaaiopaaDoor
