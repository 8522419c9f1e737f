/-
  Parts of the proof.
-/
import Derived.Test.YtaikcnoiaaiopaaDoorPlaysProofB13
set_option linter.unusedSimpArgs false
namespace Go.Proofs.YtaikcnoiaaiopaaDoor
open Go Go.RowKit Go.Shelf
attribute [local go_sem] Oper.semAt_some
def WsOf (f : Bool) (ws : List ByteArray) : List (List Nat) := ws.map fun s => (cL f s).reverse
theorem wsOf_get {f : Bool} {ws : List ByteArray} {k : Nat} {s : ByteArray} (h : ws[k]? = some s) : (WsOf f ws)[k]? = some (cL f s).reverse := by simp [WsOf, h]
structure Hu (base : Nat) (w : World) (f : Bool) (ws : List ByteArray) (T : Pt) (D : List Nat → Prop) (R : List Nat → Nat → Prop) (K : List Nat → Kn) (lg : Int) : Prop where
  tr : TrM base w T D R K
  d : ∀ x, D x ↔ DW (WsOf f ws) x
  kw : ∀ r, (K r).ws = wsOf (WsOf f ws) ws.length r
  bk : ∀ r, D r → BkIs D r (K r).bk
  wh : ∀ r, D r → WhIs (WK K) r (K r).wh
  lg : (∀ s ∈ ws, (s.size : Int) ≤ lg) ∧ 0 ≤ lg ∧ lg ≤ 1000
  ok : mayB ws = true
structure KL (D : List Nat → Prop) (K K' : List Nat → Kn) (pre : List (List Nat)) : Prop where
  ws : ∀ x, (K' x).ws = (K x).ws
  kn : ∀ x, D x → (x = [] ∨ ∃ b p, p ∈ pre ∧ x = b :: p) → BkIs D x (K' x).bk ∧ WhIs (WK K) x (K' x).wh
theorem WK_ws {K K' : List Nat → Kn} (h : ∀ x, (K' x).ws = (K x).ws) : WK K' = WK K := by funext x; simp [WK, h x]
theorem KL.step {D : List Nat → Prop} (hb : ∀ b r, D (b :: r) → b < 256) {K K1 K2 : List Nat → Kn} {pre : List (List Nat)} {r : List Nat} (h : KL D K K1 pre) (k : KSt D K1 K2 r (kidsL D r 256)) : KL D K K2 (pre ++ [r]) := by
  refine ⟨fun x => (k.ws x).trans (h.ws x), fun x hx hp => ?_⟩
  by_cases hk : ∃ b, x = b :: r
  · obtain ⟨b, rfl⟩ := hk
    have := k.bk b (kidsL_mem.2 ⟨hb b r hx, hx⟩) hx
    rwa [WK_ws h.ws] at this
  · rw [k.ot x (fun b _ e => hk ⟨b, e⟩)]
    refine h.kn x hx ?_
    rcases hp with hp | ⟨b, p, hp, rfl⟩
    · exact .inl hp
    · rcases List.mem_append.1 hp with hp | hp
      · exact .inr ⟨b, p, hp, rfl⟩
      · rw [List.mem_singleton] at hp; subst hp; exact absurd ⟨b, rfl⟩ hk
theorem link_c {base : Nat} {w : World} {T : Pt} {D : List Nat → Prop} {R : List Nat → Nat → Prop} {K : List Nat → Kn} (h : TrM base w T D R K) {r : List Nat} (hr : D r) (hL : Lk D K r.length) (hW : ∀ x, D x → x.length ≤ r.length → WhIs (WK K) x (K x).wh) (hWD : ∀ x, WK K x → D x) (hbs : base ≤ w.heap.size) :
    Calls Tryd.prog 25 #[nodeP T r] w fun e w' => e = .returned (.tuple #[]) ∧ (∃ K', TrM base w' T D R K' ∧ KSt D K K' r (kidsL D r 256)) ∧ FT base isNode w w' :=
  callsIn_wide.1 (link_in 3 (Nat.le_refl _) h hr hL hW hWD hbs)
structure NwI (base : Nat) (f : Bool) (T : Pt) (D : List Nat → Prop) (R : List Nat → Nat → Prop) (K : List Nat → Kn) (hb : Nat) (lg : Int) (w : World) (pre : List (List Nat)) (W : World) : Prop where
  tr : ∃ K', TrM base W T D R K' ∧ KL D K K' pre
  h : HM W hb T f lg 0
  bel : Below base w W
theorem nwI_own {base N : Nat} {f : Bool} {T : Pt} {D : List Nat → Prop} {R : List Nat → Nat → Prop} {K : List Nat → Kn} {hb : Nat} {lg : Int} {w : World} (hN : base ≤ N) (hw : base ≤ w.heap.size) : OwnFrom N (NwI base f T D R K hb lg w) := fun _ A A' row h hg hr => by
  obtain ⟨K', h1, h2⟩ := h.tr
  refine ⟨⟨K', h1.grown hg hr, h2⟩, cells_kept hg hr h.h, h.bel.trans ⟨hg.os, hg.tape, hg.output, hg.size, fun k hk => hg.block k (by have := h.bel.size; omega) (fun e => by have := (hr k e.symm).1; omega)⟩⟩
theorem nwI_ft {base N : Nat} {f : Bool} {T : Pt} {D : List Nat → Prop} {R : List Nat → Nat → Prop} {K : List Nat → Kn} {hb : Nat} {lg : Int} {w A B : World} {pre : List (List Nat)} (hN : base ≤ N) (h : NwI base f T D R K hb lg w pre A) (hf : FT N tyD A B) : NwI base f T D R K hb lg w pre B := by
  obtain ⟨K', h1, h2⟩ := h.tr
  refine ⟨⟨K', h1.keep (fun k cur t ht hk => hf.keep hk (fun c t' e q => ?_)), h2⟩, hf.keep h.h (fun c t' e q => ?_), h.bel.trans (hf.lower hN).below⟩
  · injection e with _ e _
    subst e
    rcases ht with ht | ht <;> rcases q with q | q <;> exact absurd (ht.symm.trans q) (by decide)
  · injection e with _ e _
    rcases q with q | q <;> exact absurd (e.trans q) (by decide)
def NewP (f : Bool) (ws : List ByteArray) (w : World) (e : Ending) (w' : World) : Prop :=
  Below w.heap.size w w' ∧ ((mayB ws = false ∧ e = .returned (.tuple #[.pointer none, .int .i64 1])) ∨ (∃ hb T D R K lg, e = .returned (.tuple #[.pointer (some ⟨hb, 0, none⟩), .int .i64 0]) ∧ w.heap.size ≤ hb ∧ Hu w.heap.size w' f ws T D R K lg ∧ HM w' hb T f lg 0))
theorem dw_take_all {f : Bool} {ws : List ByteArray} : (WsOf f ws).take ws.length = WsOf f ws := List.take_of_length_le (by simp [WsOf])
theorem root_tr (w : World) (Ws : List (List Nat)) : TrM w.heap.size (w.alloc (.cells (node0 0) 65)) ⟨fun _ => w.heap.size, fun _ _ => 0⟩ (DW (Ws.take 0)) (fun _ _ => False) (kb Ws 0) := by
  have hd : ∀ x, DW (Ws.take 0) x → x = [] := fun x hx => by
    rcases hx with h | ⟨w, hw, _⟩
    · exact h
    · simp at hw
  refine ⟨dw_clo _, fun b r h => (by have := hd _ h; cases this), fun _ _ h => h.elim, fun r hr => ?_, fun _ _ h => h.elim, fun r r' h h' _ => (by rw [hd r h, hd r' h']), fun _ _ _ _ h => h.elim, fun r x _ hx => (by cases hx), fun r x _ hx => (by cases hx), fun r h => (by rw [hd r h]; exact Nat.zero_le _), fun _ _ => Nat.le_refl _, fun _ _ h => h.elim⟩
  rw [hd r hr]
  exact ⟨_, World.alloc_heap_new w _, rfl, fun v hv => by rw [node0_get _ hv, rowV, if_neg (fun q => q)], rfl, by simp [kb, wsOf, wd00], by simp [kb, wsOf, wd00], by simp [kb, wsOf, wd00], by simp [kb, wsOf, wd00], rfl, rfl⟩
set_option maxRecDepth 100000 in
set_option maxHeartbeats 4000000 in
theorem new_in (n : Nat) (hn : 4 ≤ n) {w : World} {v : Value} {ws : List ByteArray} (f : Bool) (h : ArgW w v ws) :
    CallsIn Fence.wide n Tryd.prog 10 #[v, .bool f] w (NewP f ws w) := by
  have h1 : 1 ≤ n := by omega
  have hfn : ∀ f, Fence.wide.fn f := fun _ => trivial
  have MB := hide (mayBe_c h)
  obtain ⟨q, cap, rfl, hm, _, hc⟩ := h.slice
  have HA := hide h
  have HC := hide hc
  unfold maxLen at hm
  clear h hc
  refine callsIn_of_wp_marks Tryd.func10 rfl trivial ?_ rfl
  simp only [Tryd.ntmps10, List.size_toArray, List.length_cons, List.length_nil, Nat.reduceAdd, Nat.reduceSub, Array.replicate_succ, Array.replicate_zero, List.push_toArray, List.append_toArray, List.nil_append, List.cons_append]
  by_cases hok : mayB ws = true
  · rw [hok] at MB
    have HOK := hide hok
    clear hok
    gi_wp2_with (gi_at_call 22; refine (callsIn_wide.2 (MB.out)).mono ?_; rintro e w5 ⟨rfl, h5⟩; subst w5)
    have HOK2 := hide (show (∀ s ∈ ws, 1 ≤ s.size ∧ s.size ≤ 1000) ∧ 0 < ws.length ∧ ws.length ≤ 100 by
      have h5 := HOK.out
      simp only [mayB, Bool.and_eq_true, decide_eq_true_eq, List.all_eq_true, wOk] at h5
      exact ⟨h5.1.1, h5.1.2, h5.2⟩)
    have R0 := hide (root_tr w (WsOf f ws))
    have B1 : Below w.heap.size w (w.alloc (.cells (node0 0) 65)) := (Below.refl _ _).alloc (Nat.le_refl _) _
    have hz1 : (w.alloc (.cells (node0 0) 65)).heap.size = w.heap.size + 1 := by simp
    have BB1 := hide B1
    have Z1 := hide hz1
    clear B1 hz1
    generalize (w.alloc (.cells (node0 0) 65)) = w1 at R0 BB1 Z1 ⊢
    have B2 : Below w1.heap.size w1 (w1.alloc (.cells #[.pointer (some ⟨w.heap.size, 0, none⟩), .bool f, .int .i64 0, .int .i64 0] 67)) := (Below.refl _ _).alloc (Nat.le_refl _) _
    have X2 := World.alloc_heap_new w1 (.cells #[.pointer (some ⟨w.heap.size, 0, none⟩), .bool f, .int .i64 0, .int .i64 0] 67)
    rw [Z1.out] at X2
    have R2 := hide (R0.out.below B2)
    have H2 := hide (show HM (w1.alloc (.cells #[.pointer (some ⟨w.heap.size, 0, none⟩), .bool f, .int .i64 0, .int .i64 0] 67)) (w.heap.size + 1) ⟨fun _ => w.heap.size, fun _ _ => 0⟩ f 0 0 from X2)
    have BB2 := hide (BB1.out.trans (B2.mono (by have := Z1.out; omega)))
    clear B2 X2 BB1 R0
    generalize (w1.alloc (.cells #[.pointer (some ⟨w.heap.size, 0, none⟩), .bool f, .int .i64 0, .int .i64 0] 67)) = w2 at R2 H2 BB2 ⊢
    gi_loopw [20] (fun i wr => ∃ (k : Nat) (T : Pt) (D : List Nat → Prop) (lg : Int), i = .int .i64 (k : Int) ∧ k ≤ ws.length ∧ Tm w.heap.size (WsOf f ws) k wr T D ∧ HM wr (w.heap.size + 1) T f lg 0 ∧ Below w.heap.size w wr ∧ (∀ s ∈ ws.take k, (s.size : Int) ≤ lg) ∧ 0 ≤ lg ∧ lg ≤ 1000) (fun i _ => ws.length + 1 - (intOf i).toNat)
    case atStart => exact ⟨0, _, _, 0, rfl, by omega, ⟨⟨_, R2.out⟩, fun _ => Iff.rfl⟩, H2.out, BB2.out, by simp, by omega, by omega⟩
    case round =>
      obtain ⟨k, T, D, lg, rfl, hk, hT, hH, hB, hl1, hl2, hl3⟩ := hrel
      have HT := hide hT
      have HH := hide hH
      have HB := hide hB
      have HL1 := hide hl1
      clear hT hH hB hl1 R2 H2 BB2
      by_cases hlt : k < ws.length
      · have i0 : (k : Int) < (ws.length : Int) := by omega
        have i00 : (0 : Int) ≤ (k : Int) := by omega
        obtain ⟨s, hs⟩ : ∃ s, ws[k]? = some s := ⟨_, List.getElem?_eq_getElem hlt⟩
        obtain ⟨g, off, rfl, hg, cx⟩ := HC.out k s hs
        have cx2 : wr.cell? ⟨g, off + k, none⟩ = some (.string s) := (HB.out.cell (p := ⟨g, off + k, none⟩) hg).trans cx
        have HS1 := hide (HOK2.out.1 s (List.mem_of_getElem? hs))
        have AC := hide (add_c HT.out HH.out (wsOf_get hs) HS1.out.2 (by omega))
        have HTK := hide (show ws.take (k + 1) = ws.take k ++ [s] by
          obtain ⟨h1, h2⟩ := List.getElem?_eq_some_iff.1 hs
          rw [List.take_succ_eq_append_getElem h1, h2])
        clear hs cx
        gi_wp2_with (gi_at_call 23; refine (callsIn_wide.2 (AC.out)).mono ?_; rintro e w6 ⟨rfl, h6⟩; have A6 := hide h6; clear h6)
        go_roundw
        case rel =>
          obtain ⟨T6, D6, h6, h7⟩ := A6.out.t
          refine ⟨k + 1, T6, D6, _, by go_num, by omega, h6, h7, HB.out.trans A6.out.below, fun z hz => ?_, by omega, by have := HS1.out.2; omega⟩
          rw [HTK.out] at hz
          rcases List.mem_append.1 hz with hz | hz
          · have := HL1.out z hz; omega
          · rw [List.mem_singleton] at hz; subst hz; omega
        case measure => simp [intOf]; omega
      · have i0 : ¬ (k : Int) < (ws.length : Int) := by omega
        have hke : k = ws.length := by omega
        subst hke
        obtain ⟨R, hR⟩ := HT.out.tr
        have HR := hide hR
        have HD := hide (show ∀ x, D x ↔ DW (WsOf f ws) x by have h5 := HT.out.d; rwa [dw_take_all] at h5)
        have HL2 := hide (show ∀ s ∈ ws, (s.size : Int) ≤ lg by have h5 := HL1.out; rwa [List.take_of_length_le (Nat.le_refl _)] at h5)
        have y0 := cell_row HH.out (i := 0) rfl
        have SZ := hide HB.out.size
        clear hR HT HL1
        have B3 : Below wr.heap.size wr (wr.alloc (.cells #[nodeP T []] 57)) := (Below.refl _ _).alloc (Nat.le_refl _) _
        have X3 := hide (World.alloc_heap_new wr (.cells #[nodeP T []] 57))
        have R3 := hide (HR.out.below B3)
        have H3 := hide (show HM (wr.alloc (.cells #[nodeP T []] 57)) (w.heap.size + 1) T f lg 0 from (B3.block _ (lt_of_heap HH.out)).trans HH.out)
        have BB3 := hide (HB.out.trans (B3.mono HB.out.size))
        have S3 := hide (show w.heap.size ≤ (wr.alloc (.cells #[nodeP T []] 57)).heap.size from Nat.le_trans SZ.out B3.size)
        have BD := hide (fun W => byDepth_c T W)
        clear B3
        gi_wp2_with (gi_at_call 24; refine (callsIn_wide.2 (BD.out _)).mono ?_; rintro e w5 ⟨rfl, h5⟩; subst w5)
        generalize (wr.alloc (.cells #[nodeP T []] 57)) = w3 at X3 R3 H3 BB3 S3 ⊢
        have h2 : 1 ≤ n - 1 - 1 := by omega
        have hWl : (WsOf f ws).length ≤ 100 := by simp only [WsOf, List.length_map]; exact HOK2.out.2.2
        have TL := bd_tells (n - 1) (by omega) (base := w.heap.size) (R := R) X3.out HD.out hWl
        have KW := hide (show ∀ x, WK (kb (WsOf f ws) ws.length) x → D x from fun x hx => by
          obtain ⟨j, hj, hj2⟩ := wsOf_mem hx
          exact (HD.out x).2 (.inr ⟨x, List.mem_of_getElem? hj2, List.suffix_refl x⟩))
        have KW0 := hide (show ¬ WK (kb (WsOf f ws) ws.length) [] from fun hx => by
          obtain ⟨j, hj, hj2⟩ := wsOf_mem hx
          have h5 := List.mem_of_getElem? hj2
          obtain ⟨s, hs, hs2⟩ := List.mem_map.1 h5
          have h6 := congrArg List.length hs2
          rw [List.length_reverse, cL_len] at h6
          have := (HOK2.out.1 s hs).1
          rw [List.length_nil] at h6
          omega)
        have I0 := hide (show NwI w.heap.size f T D R (kb (WsOf f ws) ws.length) (w.heap.size + 1) lg w [] w3 from ⟨⟨_, R3.out, ⟨fun _ => rfl, fun x hx hp => by
          rcases hp with rfl | ⟨b, p, hp, _⟩
          · exact ⟨.inl ⟨rfl, rfl⟩, wh_root KW0.out⟩
          · simp at hp⟩⟩, H3.out, BB3.out⟩)
        refine range_told6 (α := List Nat) h1 (gf := 38) (lb := #[.pointer (some ⟨wr.heap.size, 0, none⟩)]) rfl (enters_of Tryd.func38 (by kernel_rfl) rfl) (encs := encD T) (fun _ => rfl) TL
          (NwI w.heap.size f T D R (kb (WsOf f ws) ws.length) (w.heap.size + 1) lg w) (fun pre r W => NwI w.heap.size f T D R (kb (WsOf f ws) ws.length) (w.heap.size + 1) lg w pre W ∧ D r ∧ ∀ x, D x → x.length ≤ r.length → x = [] ∨ ∃ b p, p ∈ pre ∧ x = b :: p) (fun _ _ _ => False)
          (nwI_own S3.out (Nat.le_refl _)) (fun pre r => ?_) (fun _ _ _ _ _ h _ _ => h) (fun pre V h => by obtain ⟨K', h5, _⟩ := h.tr; exact ⟨K', h5⟩) (fun pre A B h hf => nwI_ft S3.out h hf) (fun pre r V0 V ht => CellsOnly.below ht.1) (fun pre r V0 V hi ht => ⟨ownFrom_below (nwI_own (Nat.le_refl _) (Nat.le_refl _)) hi ht.1, ht.2⟩) I0.out
          (fun r => { tmps := #[.slice q ws.length cap, .bool f, undef, undef, .pointer none, .int .i64 0, .pointer (some ⟨w.heap.size + 1, 0, none⟩), u7, u8, nodeP T r, .slice q ws.length cap, .bool true, .bool false, .agg (node0 0), .pointer (some ⟨w.heap.size, 0, none⟩), .bool f, .agg #[.pointer (some ⟨w.heap.size, 0, none⟩), .bool f, .int .i64 0, .int .i64 0], .pointer (some ⟨w.heap.size + 1, 0, none⟩), .slice q ws.length cap, .int .i64 (ws.length : Int), .int .i64 (ws.length : Int), .bool false, u22, u23, u24, u25, u26, u27, u28, u29, .pointer (some ⟨w.heap.size + 1, 0, none⟩), .pointer (some ⟨w.heap.size + 1, 0, none⟩), .pointer (some ⟨w.heap.size + 1, 0, none⟩), nodeP T [], .func (.func 38) #[] #[.pointer (some ⟨wr.heap.size, 0, none⟩)], nodeP T r, undef, undef, undef], defers := [] }) ?_ ?_ ?_ ?_
        · exact fun _ A A' row h hg hrow => ⟨nwI_own S3.out (Nat.le_refl _) pre A A' row h.1 hg hrow, h.2⟩
        · intro l r W K' hK
          simp only [encD]
          gi_wp2
          exact hK
        · rintro l pre r W ⟨hI, hr, hp⟩
          obtain ⟨K', hT', hK'⟩ := hI.tr
          have HKL := hide hK'
          have HI := hide hI
          have SW := hide hI.bel.size
          have LC := hide (link_c hT' hr (fun x hx hl => (hK'.kn x hx (hp x hx hl)).1) (fun x hx hl => by rw [WK_ws hK'.ws]; exact (hK'.kn x hx (hp x hx hl)).2) (fun x hx => KW.out x (by rw [WK_ws hK'.ws] at hx; exact hx)) hI.bel.size)
          have HBY := hide (fun b r h => (hT'.byte b r h).1)
          clear hI hT' hK' hp
          gi_wp2_with (gi_at_call 25; refine (CallsIn.inRound l (callsIn_wide.2 LC.out)).mono ?_; rintro e w6 ⟨rfl, h5, h6⟩; have L6 := hide h5; have F6 := hide h6; clear h5 h6)
          obtain ⟨K2, h7, h8⟩ := L6.out
          exact ⟨F6.out.keeps _, F6.out.tkeep (fun k t ht he => by rcases ht.2 with q | q <;> exact absurd (q.symm.trans he) (by decide)), ⟨K2, h7, HKL.out.step HBY.out h8⟩, F6.out.keep HI.out.h (fun c t e he => by injection e with _ e _; exact absurd (e.trans he) (by decide)), HI.out.bel.trans F6.out.below⟩
        · rintro D' xs W hD' hS hI hK
          have HS := hide hS
          have HI := hide hI
          have HK := hide hK
          clear hI hK hS TL
          gi_wp2
          refine ⟨by simp, .inl ⟨_, _, rfl, run_takeDeferred HK.out, ?_⟩⟩
          have HI2 := (nwI_own (f := f) (T := T) (D := D) (R := R) (K := kb (WsOf f ws) ws.length) (hb := w.heap.size + 1) (lg := lg) (w := w) S3.out (Nat.le_refl _)).putObj (.deferred none) HI.out hD' HK.out rfl
          refine ⟨.tuple #[.pointer (some ⟨w.heap.size + 1, 0, none⟩), .int .i64 0], by simp [results, Tryd.results10, go_sem], HI2.bel, .inr ?_⟩
          obtain ⟨K', h5, h6⟩ := HI2.tr
          have key : ∀ x, D x → BkIs D x (K' x).bk ∧ WhIs (WK (kb (WsOf f ws) ws.length)) x (K' x).wh := fun x hx => h6.kn x hx (by
            cases x with
            | nil => exact .inl rfl
            | cons b p => exact .inr ⟨b, p, HS.out p (h5.clo.up b p hx), rfl⟩)
          exact ⟨w.heap.size + 1, T, D, R, K', lg, rfl, by omega, ⟨h5, HD.out, fun r => h6.ws r, fun r hr => (key r hr).1, fun r hr => by rw [WK_ws h6.ws]; exact (key r hr).2, ⟨HL2.out, hl2, hl3⟩, HOK.out⟩, HI2.h⟩
        · rintro D' c' pre' Z _ _ h _
          exact h.elim
  · have hok' : mayB ws = false := by simpa using hok
    rw [hok'] at MB
    have HOK := hide hok'
    clear hok hok'
    gi_wp2_with (gi_at_call 22; refine (callsIn_wide.2 (MB.out)).mono ?_; rintro e w5 ⟨rfl, h5⟩; subst w5)
    refine ⟨.tuple #[.pointer none, .int .i64 1], by simp [results, Tryd.results10, go_sem], Below.refl _ _, .inl ⟨HOK.out, rfl⟩⟩
theorem new_c {w : World} {v : Value} {ws : List ByteArray} (f : Bool) (h : ArgW w v ws) : Calls Tryd.prog 10 #[v, .bool f] w (NewP f ws w) := callsIn_wide.1 (new_in 4 (Nat.le_refl _) f h)
end Go.Proofs.YtaikcnoiaaiopaaDoor
