/-
  Parts of the proof.
-/
import Derived.Test.YtaikcnoiaaiopaaDoorPlaysProofB7
set_option linter.unusedSimpArgs false
namespace Go.Proofs.YtaikcnoiaaiopaaDoor
open Go Go.RowKit
attribute [local go_sem] Oper.semAt_some
def cB (f : Bool) (b : Nat) : Nat := if f = true ∧ 65 ≤ b ∧ b ≤ 90 then b + 32 else b
theorem cB_lt (f : Bool) {b : Nat} (h : b < 256) : cB f b < 256 := by unfold cB; split <;> omega
def HM (w : World) (hb : Nat) (T : Pt) (f : Bool) (lg st : Int) : Prop := w.heap[hb]? = some (.cells #[nodeP T [], .bool f, .int .i64 lg, .int .i64 st] 67 (0, 0))
set_option maxRecDepth 100000 in
set_option maxHeartbeats 2000000 in
theorem counted_c {w : World} {hb : Nat} {T : Pt} {f : Bool} {lg st : Int} (h : HM w hb T f lg st) {b : Nat} (hb2 : b < 256) :
    Calls Tryd.prog 36 #[.pointer (some ⟨hb, 0, none⟩), .int .u8 (b : Int)] w fun e w' => e = .returned (.int .u8 (cB f b : Int)) ∧ w' = w := by
  have c1 := cell_row h (i := 1) rfl
  clear h
  cases f with
  | false =>
    have e0 : cB false b = b := by simp [cB]
    rw [e0]
    go_enter Tryd.func36, Tryd.ntmps36
    go_wp2
    go_ret
    exact ⟨rfl, rfl⟩
  | true =>
    by_cases h1 : 65 ≤ b
    · have i1 : (65 : Int) ≤ (b : Int) := by omega
      by_cases h2 : b ≤ 90
      · have i2 : (b : Int) ≤ 90 := by omega
        have e0 : cB true b = b + 32 := by simp [cB, h1, h2]
        have w1 : IntKind.wrap .u8 ((b : Int) - 65) = (b : Int) - 65 := by rw [IntKind.wrap_u8]; omega
        have w2 : IntKind.wrap .u8 ((b : Int) - 65 + 97) = ((b + 32 : Nat) : Int) := by rw [IntKind.wrap_u8]; omega
        rw [e0]
        go_enter Tryd.func36, Tryd.ntmps36
        go_wp2
        go_ret
        exact ⟨rfl, rfl⟩
      · have i2 : ¬ (b : Int) ≤ 90 := by omega
        have e0 : cB true b = b := by simp [cB, h2]
        rw [e0]
        go_enter Tryd.func36, Tryd.ntmps36
        go_wp2
        go_ret
        exact ⟨rfl, rfl⟩
    · have i1 : ¬ (65 : Int) ≤ (b : Int) := by omega
      have e0 : cB true b = b := by simp [cB, h1]
      rw [e0]
      go_enter Tryd.func36, Tryd.ntmps36
      go_wp2
      go_ret
      exact ⟨rfl, rfl⟩
def Lk (D : List Nat → Prop) (K : List Nat → Kn) (n : Nat) : Prop := ∀ x, D x → x.length ≤ n → BkIs D x (K x).bk
structure OnP (D : List Nat → Prop) (q : List Nat) (b : Nat) (r z : List Nat) (k : Nat) : Prop where
  lg : IsLg D (b :: q) z
  len : z.length + k ≤ r.length + 1
open Classical in
noncomputable def onF (D : List Nat → Prop) (K : List Nat → Kn) (b : Nat) : Nat → List Nat → List Nat × Nat
  | 0, r => (r, 0)
  | n + 1, r => if D (b :: r) then (b :: r, 0) else match (K r).bk with
    | none => (r, 0)
    | some y => ((onF D K b n y).1, (onF D K b n y).2 + 1)
theorem onF_spec {D : List Nat → Prop} (hc : Clo D) {K : List Nat → Kn} {b : Nat} : ∀ (n : Nat) {q r : List Nat}, IsLg D q r → Lk D K r.length → r.length < n → OnP D q b r (onF D K b n r).1 (onF D K b n r).2
  | 0, _, _, _, _, h => absurd h (Nat.not_lt_zero _)
  | n + 1, q, r, hq, hl, hn => by
    unfold onF
    by_cases hd : D (b :: r)
    · rw [if_pos hd]; exact ⟨lg_kid hc hq hd, by simp⟩
    · rw [if_neg hd]
      rcases hl r hq.2.1 (Nat.le_refl _) with ⟨h0, h1⟩ | ⟨h0, y, h1, h2⟩
      · rw [h1]; subst h0; exact ⟨lg_root hc hq hd, by simp⟩
      · rw [h1]
        have hy := h2.len
        rw [List.length_dropLast] at hy
        have hr : 0 < r.length := List.length_pos_iff.2 h0
        have ih := onF_spec hc n (q := r.dropLast) (b := b) h2 (fun x hx hxl => hl x hx (by omega)) (by omega)
        exact ⟨lg_back hc hq hd ih.lg, by have := ih.len; show (onF D K b n y).1.length + ((onF D K b n y).2 + 1) ≤ _; omega⟩
set_option maxRecDepth 100000 in
set_option maxHeartbeats 4000000 in
theorem on_v {base : Nat} {w : World} {T : Pt} {D : List Nat → Prop} {R : List Nat → Nat → Prop} {K : List Nat → Kn} (h : TrM base w T D R K) {r : List Nat} (hr : D r) (hl : Lk D K r.length) {b : Nat} (hb : b < 256) :
    Calls Tryd.prog 40 #[nodeP T r, .int .u8 (b : Int)] w fun e w' => e = .returned (.tuple #[nodeP T (onF D K b 1001 r).1, .int .i64 ((onF D K b 1001 r).2 : Int)]) ∧ w' = w := by
  have H := hide h
  have HL := hide hl
  have hrl : r.length ≤ 1000 := h.few r hr
  clear h hl
  obtain ⟨A, hA⟩ : ∃ A, onF D K b 1001 r = A := ⟨_, rfl⟩
  rw [hA]
  have HA := hide hA
  clear hA
  go_enter Tryd.func40, Tryd.ntmps40
  go_wp2
  go_loopw [0, 6] (fun n i wr => ∃ (x : List Nat) (k m : Nat), n = nodeP T x ∧ i = .int .i64 (k : Int) ∧ wr = w ∧ D x ∧ x.length + k ≤ r.length ∧ x.length < m ∧ A = ((onF D K b m x).1, (onF D K b m x).2 + k)) (fun n i _ => 1001 - (intOf i).toNat)
  case atStart => exact ⟨r, 0, 1001, rfl, rfl, rfl, hr, by omega, by omega, by rw [HA.out]; rfl⟩
  case round =>
    obtain ⟨x, k, m, rfl, rfl, rfl, hx, hk, hm, hz'⟩ := hrel
    obtain ⟨m, rfl⟩ : ∃ m', m = m' + 1 := ⟨m - 1, by omega⟩
    have HZ := hide hz'
    have c1 := H.out.cBk hx
    have KC := hide (kid_c H.out hx hb)
    have hw1 : IntKind.wrap .i64 ((k : Int) + 1) = (k : Int) + 1 := wrap_small _ (by omega) (by omega)
    clear hz' HA
    by_cases hd : D (b :: x)
    · rw [kidV, if_pos hd] at KC
      have E := hide (show A = (b :: x, k) by have h5 := HZ.out; unfold onF at h5; rw [if_pos hd] at h5; simpa using h5)
      go_wp2_with (go_at_call 49; (with_reducible refine (KC.out).mono ?_); rintro e w5 ⟨rfl, h5⟩; subst w5)
      refine bodyPost_ret (v := .tuple #[nodeP T (b :: x), .int .i64 (k : Int)]) (by simp [results, Tryd.results40, go_sem]) rfl ?_
      exact ⟨by rw [E.out], rfl⟩
    · rw [kidV, if_neg hd] at KC
      rcases HL.out x hx (by omega) with ⟨h0, h1⟩ | ⟨h0, y, h1, h2⟩
      · have E := hide (show A = (x, k) by have h5 := HZ.out; unfold onF at h5; rw [if_neg hd, h1] at h5; simpa using h5)
        rw [h1] at c1
        simp only [ndV, ndA] at c1
        clear h0 h1
        go_wp2_with (go_at_call 49; (with_reducible refine (KC.out).mono ?_); rintro e w5 ⟨rfl, h5⟩; subst w5)
        refine bodyPost_ret (v := .tuple #[nodeP T x, .int .i64 (k : Int)]) (by simp [results, Tryd.results40, go_sem]) rfl ?_
        exact ⟨by rw [E.out], rfl⟩
      · have E := hide (show A = ((onF D K b m y).1, (onF D K b m y).2 + 1 + k) by have h5 := HZ.out; unfold onF at h5; rw [if_neg hd, h1] at h5; exact h5)
        rw [h1] at c1
        simp only [ndV, ndA] at c1
        have YL := hide (show y.length + 1 ≤ x.length by have h5 := h2.len; rw [List.length_dropLast] at h5; have : 0 < x.length := List.length_pos_iff.2 h0; omega)
        have YD := hide h2.2.1
        clear h0 h1 h2
        go_wp2_with (go_at_call 49; (with_reducible refine (KC.out).mono ?_); rintro e w5 ⟨rfl, h5⟩; subst w5)
        go_roundw
        case rel => exact ⟨y, k + 1, m, rfl, by go_num, by trivial, YD.out, by have := YL.out; omega, by have := YL.out; omega, by rw [E.out]; congr 1; omega⟩
        case measure => simp [intOf]; omega
theorem on_c {base : Nat} {w : World} {T : Pt} {D : List Nat → Prop} {R : List Nat → Nat → Prop} {K : List Nat → Kn} (h : TrM base w T D R K) {q r : List Nat} (hq : IsLg D q r) (hl : Lk D K r.length) {b : Nat} (hb : b < 256) :
    Calls Tryd.prog 40 #[nodeP T r, .int .u8 (b : Int)] w fun e w' => ∃ (z : List Nat) (k : Nat), e = .returned (.tuple #[nodeP T z, .int .i64 (k : Int)]) ∧ OnP D q b r z k ∧ w' = w :=
  (on_v h hq.2.1 hl hb).mono fun _ _ ⟨h1, h2⟩ => ⟨_, _, h1, onF_spec h.clo 1001 hq hl (by have := h.few r hq.2.1; omega), h2⟩
end Go.Proofs.YtaikcnoiaaiopaaDoor
namespace Go.Proofs.YtaikcnoiaaiopaaDoor
open Go Go.RowKit
attribute [local go_sem] Oper.semAt_some
def bL (s : ByteArray) : List Nat := s.data.toList.map UInt8.toNat
def cL (f : Bool) (s : ByteArray) : List Nat := (bL s).map (cB f)
theorem cL_len (f : Bool) (s : ByteArray) : (cL f s).length = s.size := by rw [cL, List.length_map, bL, List.length_map]; exact Array.length_toList
theorem cL_get (f : Bool) (s : ByteArray) {i : Nat} (h : i < s.size) : (cL f s)[i]? = some (cB f (s[i]'h).toNat) := by
  have : s.data.toList[i]? = some (s[i]'h) := by
    rw [Array.getElem?_toList, Array.getElem?_eq_getElem h]; rfl
  simp only [cL, bL, List.getElem?_map, this, Option.map_some]
theorem cL_lt (f : Bool) (s : ByteArray) : ∀ b ∈ cL f s, b < 256 := fun b hb => by
  obtain ⟨c, hc, rfl⟩ := List.mem_map.1 hb
  obtain ⟨d, _, rfl⟩ := List.mem_map.1 hc
  exact cB_lt f d.toNat_lt
theorem rev_take_next {t : List Nat} {i b : Nat} (h : t[i]? = some b) : (t.take (i + 1)).reverse = b :: (t.take i).reverse := by
  have := (List.getElem?_eq_some_iff.1 h)
  obtain ⟨h1, h2⟩ := this
  rw [List.take_succ_eq_append_getElem h1, List.reverse_append, h2]; rfl
open Classical in
noncomputable def upd (K : List Nat → Kn) (r : List Nat) (k : Kn) : List Nat → Kn := fun x => if x = r then k else K x
theorem upd_at (K : List Nat → Kn) (r : List Nat) (k : Kn) : upd K r k r = k := if_pos rfl
theorem upd_ne (K : List Nat → Kn) {r x : List Nat} (k : Kn) (h : x ≠ r) : upd K r k x = K x := if_neg h
theorem TrM.updN {base : Nat} {w w' : World} {T : Pt} {D : List Nat → Prop} {R : List Nat → Nat → Prop} {K : List Nat → Kn} (h : TrM base w T D R K) {r : List Nat} (hr : D r) {k' : Kn} (hb : ∀ x, k'.bk = some x → D x) (hw : ∀ x, k'.wh = some x → D x)
    (hN : ∃ cur, w'.heap[T.nb r]? = some (.cells cur 65 (0, 0)) ∧ NodeC T R k' r cur) (ho : ∀ i, i < w.heap.size → i ≠ T.nb r → w'.heap[i]? = w.heap[i]?) : TrM base w' T D R (upd K r k') := by
  refine ⟨h.clo, h.byte, h.rup, fun x hx => ?_, fun x u hx => ?_, h.inj, h.rinj, fun x y hx hy => ?_, fun x y hx hy => ?_, h.few, h.bn, h.br⟩
  · by_cases e : x = r
    · subst e; rw [upd_at]; exact hN
    · rw [upd_ne _ _ e]
      obtain ⟨cur, h1, h2⟩ := h.node x hx
      exact ⟨cur, (ho _ (lt_of_heap h1) (fun q => e (h.inj x r hx hr q))).trans h1, h2⟩
  · obtain ⟨cur, h1, h2⟩ := h.row x u hx
    obtain ⟨c2, h3, _⟩ := h.node r hr
    exact ⟨cur, (ho _ (lt_of_heap h1) (ne_type h1 h3 (by decide))).trans h1, h2⟩
  · by_cases e : x = r
    · subst e; rw [upd_at] at hy; exact hb y hy
    · rw [upd_ne _ _ e] at hy; exact h.bkd x y hx hy
  · by_cases e : x = r
    · subst e; rw [upd_at] at hy; exact hw y hy
    · rw [upd_ne _ _ e] at hy; exact h.whd x y hx hy
section
variable {base : Nat} {w : World} {T : Pt} {D : List Nat → Prop} {R : List Nat → Nat → Prop} {K : List Nat → Kn} {r : List Nat}
def setW (w : World) (g : Nat) (s : z1_S) : World := (((w.setCell ⟨g, 17, none⟩ (.int .u64 (z1_wd s 0))).setCell ⟨g, 18, none⟩ (.int .u64 (z1_wd s 1))).setCell ⟨g, 19, none⟩ (.int .u64 (z1_wd s 2))).setCell ⟨g, 20, none⟩ (.int .u64 (z1_wd s 3))
theorem TrM.setWs (h : TrM base w T D R K) (hr : D r) (s : z1_S) : TrM base (setW w (T.nb r) s) T D R (upd K r ⟨s, (K r).bk, (K r).wh⟩) := by
  obtain ⟨cur, h1, h2⟩ := h.node r hr
  refine h.updN hr (fun x hx => h.bkd r x hr hx) (fun x hx => h.whd r x hr hx) ⟨_, heap_set_in (heap_set_in (heap_set_in (heap_set_in h1 17 _) 18 _) 19 _) 20 _, ?_⟩ (fun i _ hi => ?_)
  · have h23 := h2.size
    have gg : ∀ i v, cur[i]? = some v → (17 ≠ i ∧ 18 ≠ i ∧ 19 ≠ i ∧ 20 ≠ i) → ((((cur.setIfInBounds 17 (.int .u64 (z1_wd s 0))).setIfInBounds 18 (.int .u64 (z1_wd s 1))).setIfInBounds 19 (.int .u64 (z1_wd s 2))).setIfInBounds 20 (.int .u64 (z1_wd s 3)))[i]? = some v := fun i v hc hne => by
      simp [Array.getElem?_setIfInBounds, hne.1, hne.2.1, hne.2.2.1, hne.2.2.2, hc]
    exact ⟨by simpa using h23, fun u hu => gg _ _ (h2.rows u hu) (by omega), gg _ _ h2.dep (by omega), by simp [Array.getElem?_setIfInBounds, h23], by simp [Array.getElem?_setIfInBounds, h23], by simp [Array.getElem?_setIfInBounds, h23], by simp [Array.getElem?_setIfInBounds, h23], gg _ _ h2.bk (by omega), gg _ _ h2.wh (by omega)⟩
  · unfold setW
    rw [Below.heap_setCell _ _ _ _ hi, Below.heap_setCell _ _ _ _ hi, Below.heap_setCell _ _ _ _ hi, Below.heap_setCell _ _ _ _ hi]
theorem setW_nf (h : TrM base w T D R K) (hr : D r) (s : z1_S) (hb : base ≤ w.heap.size) : NF base w (setW w (T.nb r) s) := by
  obtain ⟨cur, h1, _⟩ := h.node r hr
  have hs : NR base w (T.nb r) := ⟨h.bn r hr, cur, _, h1, .inl rfl⟩
  exact ⟨((((Fr.refl _ _).setCell (p := ⟨T.nb r, 17, none⟩) hs _).setCell (p := ⟨T.nb r, 18, none⟩) hs _).setCell (p := ⟨T.nb r, 19, none⟩) hs _).setCell (p := ⟨T.nb r, 20, none⟩) hs _, hb⟩
set_option maxRecDepth 100000 in
set_option maxHeartbeats 2000000 in
theorem nput_c (h : TrM base w T D R K) (hr : D r) (m : Int) (hb : base ≤ w.heap.size) :
    Calls Tryd.prog 37 #[nodeP T r, .int .i64 m] w fun e w' => e = .returned (.tuple #[]) ∧ TrM base w' T D R (upd K r ⟨z1_sor (K r).ws (z1_sonly m), (K r).bk, (K r).wh⟩) ∧ NF base w w' := by
  obtain ⟨c0, c1, c2, c3⟩ := h.cWs hr
  have H := hide h
  have HB := hide hb
  have f17 := h.frz hr 17
  have f18 := h.frz hr 18
  have f19 := h.frz hr 19
  have f20 := h.frz hr 20
  clear h
  go_enter Tryd.func37, Tryd.ntmps37
  go_wp2_with (go_at_call 47; (with_reducible refine (z1_with_any _ _ _).mono ?_); rintro e w1 ⟨rfl, hb1⟩; have B1 := hide hb1; have H1 := hide (H.out.below hb1); have c01 := (H1.out.cWs hr); obtain ⟨d0, d1, d2, d3⟩ := c01; have g17 := H1.out.frz hr 17; have g18 := H1.out.frz hr 18; have g19 := H1.out.frz hr 19; have g20 := H1.out.frz hr 20; clear hb1 c0 c1 c2 c3 f17 f18 f19 f20)
  go_end0
  have hB1 : base ≤ w1.heap.size := Nat.le_trans HB.out B1.out.size
  exact ⟨rfl, H1.out.setWs hr _, (NF.of_below HB.out B1.out).trans (setW_nf H1.out hr _ hB1)⟩
end
end Go.Proofs.YtaikcnoiaaiopaaDoor
namespace Go.Proofs.YtaikcnoiaaiopaaDoor
open Go Go.RowKit
attribute [local go_sem] Oper.semAt_some
def wsOf (Ws : List (List Nat)) : Nat → List Nat → z1_S
  | 0, _ => 0#256
  | m + 1, r => if Ws[m]? = some r then z1_sor (wsOf Ws m r) (z1_sonly (m : Int)) else wsOf Ws m r
def kb (Ws : List (List Nat)) (m : Nat) (r : List Nat) : Kn := ⟨wsOf Ws m r, none, none⟩
theorem kb_next {Ws : List (List Nat)} {m : Nat} {r : List Nat} (h : Ws[m]? = some r) : upd (kb Ws m) r ⟨z1_sor (kb Ws m r).ws (z1_sonly (m : Int)), (kb Ws m r).bk, (kb Ws m r).wh⟩ = kb Ws (m + 1) := by
  funext x
  by_cases e : x = r
  · subst e; rw [upd_at]; simp [kb, wsOf, h]
  · rw [upd_ne _ _ e]
    have : ¬ (Ws[m]? = some x) := fun q => e (by rw [h] at q; exact (Option.some.inj q).symm)
    simp [kb, wsOf, this]
theorem wsOf_mem {Ws : List (List Nat)} : ∀ {m : Nat} {r : List Nat}, wsOf Ws m r ≠ 0#256 → ∃ k, k < m ∧ Ws[k]? = some r
  | 0, _, h => absurd rfl h
  | m + 1, r, h => by
    unfold wsOf at h
    by_cases e : Ws[m]? = some r
    · exact ⟨m, by omega, e⟩
    · rw [if_neg e] at h
      obtain ⟨k, h1, h2⟩ := wsOf_mem h
      exact ⟨k, by omega, h2⟩
structure Tm (base : Nat) (Ws : List (List Nat)) (m : Nat) (w : World) (T : Pt) (D : List Nat → Prop) : Prop where
  tr : ∃ R, TrM base w T D R (kb Ws m)
  d : ∀ x, D x ↔ DW (Ws.take m) x
theorem dw_mem {Ws : List (List Nat)} {m k : Nat} {r : List Nat} (hk : k < m) (h : Ws[k]? = some r) : DW (Ws.take m) r :=
  .inr ⟨r, List.mem_iff_getElem?.2 ⟨k, by rw [List.getElem?_take_of_lt hk]; exact h⟩, List.suffix_refl r⟩
theorem dw_next {Ws : List (List Nat)} {m : Nat} {r x : List Nat} (h : Ws[m]? = some r) : DW (Ws.take (m + 1)) x ↔ DW (Ws.take m) x ∨ x <:+ r := by
  obtain ⟨h1, h2⟩ := List.getElem?_eq_some_iff.1 h
  unfold DW
  rw [List.take_succ_eq_append_getElem h1, h2]
  constructor
  · rintro (h | ⟨w, hw, hs⟩)
    · exact .inl (.inl h)
    · rcases List.mem_append.1 hw with hw | hw
      · exact .inl (.inr ⟨w, hw, hs⟩)
      · rw [List.mem_singleton] at hw; subst hw; exact .inr hs
  · rintro ((h | ⟨w, hw, hs⟩) | h)
    · exact .inl h
    · exact .inr ⟨w, List.mem_append.2 (.inl hw), hs⟩
    · exact .inr ⟨r, List.mem_append.2 (.inr (List.mem_singleton.2 rfl)), h⟩
theorem suffix_cons_iff' {b : Nat} {x y : List Nat} : x <:+ b :: y ↔ x = b :: y ∨ x <:+ y := by
  rw [List.suffix_cons_iff]
structure AdP (base : Nat) (Ws : List (List Nat)) (m : Nat) (f : Bool) (lg st : Int) (w : World) (hb : Nat) (w' : World) : Prop where
  t : ∃ T' D', Tm base Ws (m + 1) w' T' D' ∧ HM w' hb T' f lg st
  below : Below base w w'
set_option maxRecDepth 100000 in
set_option maxHeartbeats 4000000 in
theorem add_c {base : Nat} {Ws : List (List Nat)} {m : Nat} {w : World} {T : Pt} {D : List Nat → Prop} {hb : Nat} {f : Bool} {lg st : Int} (hm : Tm base Ws m w T D) (hh : HM w hb T f lg st) {s : ByteArray} (hs : Ws[m]? = some (cL f s).reverse) (hs1 : s.size ≤ 1000) (hhb : base ≤ hb) :
    Calls Tryd.prog 23 #[.pointer (some ⟨hb, 0, none⟩), .string s, .int .i64 (m : Int)] w fun e w' => e = .returned (.tuple #[]) ∧ AdP base Ws m f (max lg (s.size : Int)) st w hb w' := by
  obtain ⟨R, hR⟩ := hm.tr
  have HD := hide hm.d
  have H0 := hide hR
  have HH := hide hh
  have HS := hide hs
  have hlt := lt_of_heap hh
  have HB := hide (show base ≤ w.heap.size by omega)
  have c0 := cell_row hh (i := 0) rfl
  have hr0 : D [] := hR.clo.root
  have TL := hide (cL_len f s)
  clear hR hm hh hs
  go_enter Tryd.func23, Tryd.ntmps23
  go_wp2
  go_loopw [6, 14] (fun n i wr => ∃ (k : Nat) (T' : Pt) (D' : List Nat → Prop) (R' : List Nat → Nat → Prop), k ≤ s.size ∧ n = nodeP T' ((cL f s).take k).reverse ∧ i = .int .i64 (k : Int) ∧ TrM base wr T' D' R' (kb Ws m) ∧ (∀ x, D' x ↔ D x ∨ x <:+ ((cL f s).take k).reverse) ∧ HM wr hb T' f lg st ∧ NF base w wr) (fun n i _ => 1001 - (intOf i).toNat)
  case atStart => exact ⟨0, T, D, R, by omega, rfl, rfl, H0.out, fun x => ⟨.inl, fun q => q.elim id (fun q => by simp at q; rw [q]; exact hr0)⟩, HH.out, NF.refl HB.out⟩
  case round =>
    obtain ⟨k, T', D', R', hk, rfl, rfl, hT, hD, hHM, hN⟩ := hrel
    have HT := hide hT
    have HD' := hide hD
    have HHM := hide hHM
    have HN := hide hN
    have hx : D' ((cL f s).take k).reverse := (hD _).2 (.inr (List.suffix_refl _))
    have HL := hide (show ((cL f s).take k).reverse.length = k by rw [List.length_reverse, List.length_take, TL.out]; omega)
    clear hT hD hHM hN
    by_cases hlt2 : k < s.size
    · have i0 : (k : Int) < (s.size : Int) := by omega
      have i1 : (0 : Int) ≤ (k : Int) := by omega
      have hbb : (s[k]'hlt2).toNat < 256 := (s[k]'hlt2).toNat_lt
      have CC := hide (counted_c HHM.out hbb)
      have GET := hide (cL_get f s hlt2)
      have RT := hide (rev_take_next GET.out)
      have GC := hide (grown_c HT.out hx (cB_lt f hbb) (fun hn => by
        unfold kb kn0
        congr 1
        apply Classical.byContradiction
        intro hne
        obtain ⟨j, hj, hj2⟩ := wsOf_mem hne
        exact hn ((HD'.out _).2 (.inl ((HD.out _).2 (dw_mem hj hj2))))) (by rw [HL.out]; omega) (by have := HN.out.fr.size; have := HB.out; omega))
      clear hx
      go_wp2_with first
        | (go_at_call 36; (with_reducible refine (CC.out).mono ?_); rintro e w5 ⟨rfl, h5⟩; subst w5)
        | (go_at_call 35; (with_reducible refine (GC.out).mono ?_); rintro e w6 ⟨T6, D6, rfl, h6⟩; have G6 := hide h6; clear h6)
      rw [← RT.out]
      go_roundw
      case rel =>
        obtain ⟨R6, h6⟩ := G6.out.tr
        refine ⟨k + 1, T6, D6, R6, by omega, rfl, by go_num, h6, fun x => ?_, ?_, HN.out.trans G6.out.nf⟩
        · rw [G6.out.d, HD'.out, RT.out, suffix_cons_iff']
          constructor
          · rintro ((h | h) | h)
            · exact .inl h
            · exact .inr (.inr h)
            · exact .inr (.inl h)
          · rintro (h | h | h)
            · exact .inl (.inl h)
            · exact .inr h
            · exact .inl (.inr h)
        · have h1 := G6.out.nf.keep HHM.out (fun cur t e => by injection e with _ e _; subst e; decide)
          unfold HM
          rw [h1]
          have : T6.nb [] = T'.nb [] := G6.out.nb [] HT.out.clo.root
          simp [nodeP, this]
      case measure => simp [intOf]; omega
    · have hke : k = s.size := by omega
      have i0 : ¬ (k : Int) < (s.size : Int) := by omega
      have hfull : ((cL f s).take k).reverse = (cL f s).reverse := by rw [List.take_of_length_le (by rw [TL.out]; omega)]
      rw [hfull] at hx
      have HDF := hide (show ∀ x, D' x ↔ D x ∨ x <:+ (cL f s).reverse by rw [← hfull]; exact HD'.out)
      rw [hfull]
      have NP := hide (nput_c HT.out hx (m : Int) (by have := HN.out.fr.size; have := HB.out; omega))
      clear hfull HL
      go_upto_region 7 with (go_at_call 37; (with_reducible refine (NP.out).mono ?_); rintro e w6 ⟨rfl, h6, h7⟩; have G6 := hide h6; have N6 := hide h7; clear h6 h7)
      have H7 : Hid (HM w6 hb T' f lg st) := hide (N6.out.keep HHM.out (fun cur t e => by injection e with _ e _; subst e; decide))
      have d2 := cell_row H7.out (i := 2) rfl
      have g2 := frz_row H7.out 2
      have hT6 := G6.out
      rw [kb_next HS.out] at hT6
      have FIN : Hid (∀ v : Int, v = max lg (s.size : Int) → AdP base Ws m f (max lg (s.size : Int)) st w hb (w6.setCell ⟨hb, 2, none⟩ (.int .i64 v))) := hide (fun v hv => by
        refine ⟨⟨T', D', ⟨⟨R', hT6.keep (TrK.set H7.out (by decide) (by decide) _)⟩, fun x => ?_⟩, ?_⟩, ?_⟩
        · rw [HDF.out, HD.out, dw_next HS.out]
        · subst hv; exact (heap_set_in H7.out 2 _).trans (by simp)
        · exact (HN.out.trans N6.out).below.trans (((Fr.refl (fun k => k = hb) w6).setCell (p := ⟨hb, 2, none⟩) rfl _).below (by have := HN.out.fr.size; have := N6.out.fr.size; have := HB.out; omega) (fun k hk => by subst hk; exact hhb)))
      clear hT6
      by_cases hle : lg ≤ (s.size : Int)
      · go_wp2
        all_goals go_end0
        all_goals exact ⟨rfl, FIN.out _ (by omega)⟩
      · go_wp2
        all_goals go_end0
        all_goals exact ⟨rfl, FIN.out _ (by omega)⟩
end Go.Proofs.YtaikcnoiaaiopaaDoor
