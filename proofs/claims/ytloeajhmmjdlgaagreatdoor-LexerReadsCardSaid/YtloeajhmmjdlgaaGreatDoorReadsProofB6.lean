/-
  The document's reader: a class of one character; a token is put behind the others. The document's intervals.
-/
import Derived.Test.YtloeajhmmjdlgaaGreatDoorReadsProofB1
import Derived.Test.YtloeajhmmjdlgaaGreatDoorReadsProofB5
import Derived.Test.YtloeajhmmjdlgaaGreatDoorC19
import Derived.Test.YtloeajhmmjdlgaaGreatDoorC14
namespace Go.Proofs.YtloeajhmmjdlgaaGreatDoor
open Go Go.RowKit
attribute [local go_sem] ext_cell

theorem one_isC {m : Md} {c : Int} (hc : isChar m.c c) (hf : m.f = false) : IsC [(c, c)] (setQ m [(c, c)] false) := by
  refine ⟨⟨by simp, by simp⟩, fit_one ?_, fun x => ?_⟩
  · have h1 := hc.1
    have h2 := hc.2.1
    unfold top at h2
    split at h2 <;> omega
  · rw [in_one]
    simp only [setQ, hf, Bool.false_eq_true, if_false, in_one]
    constructor
    · intro h
      have e : x = c := by omega
      subst e
      exact ⟨hc, h⟩
    · exact fun h => h.2
theorem char_letter (m : Bool) (c : Int) (h0 : 0 ≤ c) (h1 : c ≤ 255) : isChar m c := by
  refine ⟨h0, ?_, fun _ => .inl (by omega)⟩
  unfold top
  split <;> omega
theorem one_foldC {m : Md} {c : Int} {C : List (Int × Int)} (hc : isChar m.c c) (hf : m.f = true) (h : IsC C (foldP [(c, c)])) : IsC C (setQ m [(c, c)] false) := by
  refine h.to fun x => ?_
  simp only [setQ, hf, Bool.false_eq_true, if_false, if_true]
  unfold foldQ foldP
  simp only [in_one]
  constructor
  · intro k
    refine ⟨?_, k⟩
    rcases k with k | k | k
    · rw [show x = c by omega]; exact hc
    · exact char_letter _ _ (by omega) (by omega)
    · exact char_letter _ _ (by omega) (by omega)
  · exact fun k => k.2
set_option maxRecDepth 100000 in
set_option maxHeartbeats 1000000 in
theorem rone_c {w : World} {b : Nat} {s : ByteArray} {m : Md} {p : Nat} {tv : Value} {x a : Nat} (h : SX w b s m p tv x a) {c : Int} (hc : isChar m.c c) :
    Calls Tryz.prog 24 #[.pointer (some ⟨b, 0, none⟩), .int .i64 c] w fun e w' => ∃ v C, e = .returned v ∧ RR w.heap.size w' v C ∧ IsC C (setQ m [(c, c)] false) ∧ Below w.heap.size w w' := by
  obtain ⟨mc, mf⟩ := m
  have W1 : Below w.heap.size w (w.alloc (.cells #[.int .i64 c, .int .i64 c] 39)) := (Below.refl _ _).alloc (Nat.le_refl _) _
  have c2 := (h.kept W1).c2
  have lb := h.lt
  simp only at c2
  have R1 : Hid (RR w.heap.size (w.alloc (.cells #[.int .i64 c, .int .i64 c] 39)) (.slice (some ⟨w.heap.size, 0, none⟩) 1 1) [(c, c)]) := World.ownsRow_lit w #[.int .i64 c, .int .i64 c] 1 (Nat.le_refl _) (by unfold maxLen; omega) rfl
  have B1 : Hid (Below w.heap.size w (w.alloc (.cells #[.int .i64 c, .int .i64 c] 39))) := W1
  have FT : Hid (Fit [(c, c)]) := hide (fit_one (by have h1 := hc.1; have h2 := hc.2.1; unfold top at h2; split at h2 <;> omega))
  have HC : Hid (isChar mc c) := hc
  clear h W1 hc
  cases mf with
  | true =>
    go_enter Tryz.func24, Tryz.ntmps24
    go_wp2_with (go_at_call 39; (with_reducible refine (rfold_c R1.out.arg FT.out (by simp)).mono ?_); rintro e w5 ⟨v5, C5, rfl, h1, h2, h3, h4⟩; obtain ⟨q5, k5, rfl⟩ := h1.shape; have X5 : Hid (RR w.heap.size w5 (.slice q5 C5.length k5) C5 ∧ IsC C5 (foldP [(c, c)]) ∧ Below w.heap.size w w5) := ⟨h1.mono (by simp), h2, chain B1.out h4 (Nat.le_refl _)⟩; clear h1 h2 h3 h4)
    go_ret
    exact ⟨_, C5, rfl, X5.out.1, one_foldC (m := ⟨mc, true⟩) HC.out rfl X5.out.2.1, X5.out.2.2⟩
  | false =>
    go_enter Tryz.func24, Tryz.ntmps24
    go_wp2
    go_ret
    exact ⟨_, _, rfl, R1.out, one_isC (m := ⟨mc, false⟩) HC.out rfl, B1.out⟩
theorem TL.sx {base : Nat} {w w' : World} {v : Value} {D : List Dt} {b : Nat} {s : ByteArray} {m : Md} {p : Nat} {tv : Value} {x a : Nat} (h : TL base w v D) (hr : SX w b s m p tv x a) (hf : Fr (At b) w w') : TL base w' v D :=
  h.fr hf (fun k hk e => ownsRow_not h.own hr (by decide) (by rw [hk, show k = b from e])) (fun d hd k hk e => ownsRow_not (h.each d hd).1 hr (by decide) (by rw [hk, show k = b from e]))
theorem RR.sx {base : Nat} {w w' : World} {v : Value} {L : List (Int × Int)} {b : Nat} {s : ByteArray} {m : Md} {p : Nat} {tv : Value} {x a : Nat} (h : RR base w v L) (hr : SX w b s m p tv x a) (hf : Fr (At b) w w') : RR base w' v L :=
  h.fr hf (fun k hk e => ownsRow_not h hr (by decide) (by rw [hk, show k = b from e]))
theorem TL.lastS {base : Nat} {w : World} {v : Value} {D : List Dt} {b : Nat} {s : ByteArray} {m : Md} {p : Nat} {tv : Value} {x a : Nat} {T : List Tp} (h : TL base w v D) (hr : SX w b s m p tv x a) (hT : D.map Prod.fst = T) (hs : Stands s T p) (hp : p ≤ 2000) (hn : D = [] → v = .slice none 0 0) : LK w b v (lastK T) := by
  cases hD : D.length with
  | zero =>
    have e := List.eq_nil_of_length_eq_zero hD
    subst e
    subst hT
    exact .inl ⟨hn rfl, rfl⟩
  | succ n =>
    obtain ⟨g, c, rfl⟩ := ownsRow_some h.own (by omega)
    have hl : T.length = n + 1 := by rw [← hT, List.length_map, hD]
    obtain ⟨d, hd⟩ : ∃ d, D[n]? = some d := ⟨_, List.getElem?_eq_getElem (by omega)⟩
    have ht : T[n]? = some d.1 := by rw [← hT, List.getElem?_map, hd]; rfl
    have hk := lastK_get T n d.1 hl ht
    have hok := (hs.each n d.1 ht).2.2.2
    have hf := hs.few
    refine .inr ⟨g, n, c, by rw [hD], fun e => ownsRow_not h.own hr (by decide) (by simp [Value.ownBlock, e]), (ownsRow_at h.own rfl).2.1, by omega, by rw [hk]; exact hok.1, ?_⟩
    rw [hk]
    exact ownsRow_cell h.own ((tcs_get D n d 0 hd (by omega)).trans rfl)
theorem app_tokS {base b : Nat} {V V1 w10 : World} {s : ByteArray} {m : Md} {p : Nat} {v : Value} {x y : Nat} {D : List Dt} {d : Dt} {g c : Nat} (hr : SX V b s m p v x y) (hT : TL base V v D) (hB : Below V.heap.size V V1) (hRR : RR base V d.2.1 d.2.2) (hI : IsC d.2.2 d.1.1.q)
    (hap : ∀ a ∈ D, ∀ k, a.2.1.ownBlock = some k → d.2.1.ownBlock ≠ some k) (hown : w10.ownsRow base 37 7 (.slice (some ⟨g, 0, none⟩) (D.length + 1) c) (D.length + 1) (tcs D ++ tc d)) (hg : V1.grownBy w10 v.ownBlock) :
    SX w10 b s m p v x y ∧ TL base w10 (.slice (some ⟨g, 0, none⟩) (D.length + 1) c) (D ++ [d]) ∧ Fr (fun k => v.ownBlock = some k) V1 w10 := by
  have hf : Fr (fun k => v.ownBlock = some k) V1 w10 := Fr.grown (Fr.refl _ _) hg (fun k hk => hk)
  have hr1 := hr.kept hB
  have hT1 := hT.kept hB
  have nb : v.ownBlock ≠ some b := ownsRow_not hT1.own hr1 (by decide)
  have hne : ∀ (x : Value) (X : List (Int × Int)), RR base V1 x X → ∀ k, x.ownBlock = some k → ¬ v.ownBlock = some k := fun x X hx k hk hv => by
    obtain ⟨-, -, cur, hc⟩ := ownsRow_at hT1.own hv
    exact ownsRow_not hx hc (by decide) hk
  refine ⟨(hf.block b hr1.lt nb).trans hr1, ⟨?_, ?_, ?_⟩, hf⟩
  · rw [List.length_append, List.length_singleton, tcs_append]
    simpa [tcs] using hown
  · intro a ha
    rcases List.mem_append.1 ha with ha | ha
    · exact ⟨(hT1.each a ha).1.fr hf (hne _ _ (hT1.each a ha).1), (hT1.each a ha).2⟩
    · simp at ha
      subst ha
      exact ⟨(hRR.kept hB).fr hf (hne _ _ (hRR.kept hB)), hI⟩
  · refine List.pairwise_append.2 ⟨hT.apart, List.pairwise_singleton _ _, fun a ha x hx => ?_⟩
    simp at hx
    subst hx
    exact hap a ha
set_option maxRecDepth 100000 in
set_option maxHeartbeats 4000000 in
theorem rput_c {base : Nat} {w : World} {b : Nat} {s : ByteArray} {m : Md} {p n q : Nat} {v : Value} {x y : Nat} {D : List Dt} {t : Tk} {rv : Value} {C : List (Int × Int)} (h : SX w b s m p v x y) (hT : TL base w v D) (hR : RR base w rv C) (hI : IsC C t.q)
    (hap : ∀ a ∈ D, ∀ k, a.2.1.ownBlock = some k → rv.ownBlock ≠ some k) (hb : base ≤ b) (hq : q = p + n) (hq2 : q ≤ 4000) (hD : D.length ≤ 2000) :
    Calls Tryz.prog 22 #[.pointer (some ⟨b, 0, none⟩), tkV t 0 0 rv, .int .i64 (n : Int)] w fun e w' => e = .returned (.tuple #[]) ∧ ∃ v', SX w' b s m q v' x y ∧ TL base w' v' (D ++ [((t, p, q), rv, C)]) ∧ Below base w w' := by
  obtain ⟨q8, k8, rfl⟩ := hR.shape
  obtain ⟨qv, kv, rfl⟩ := ownsRow_shape hT.own
  obtain ⟨i0, ti, hz0, hz1, hz2⟩ := info_parts size_tok
  have c3 := h.c3
  have lb := h.lt
  have hw : IntKind.wrap .i64 ((p : Int) + (n : Int)) = (q : Int) := by rw [wrap_small _ (by omega) (by omega)]; omega
  have H : Hid (SX w b s m p (.slice qv D.length kv) x y ∧ TL base w (.slice qv D.length kv) D ∧ RR base w (.slice q8 C.length k8) C ∧ IsC C t.q ∧ ∀ a ∈ D, ∀ k, a.2.1.ownBlock = some k → (Value.slice q8 C.length k8).ownBlock ≠ some k) := ⟨h, hT, hR, hI, hap⟩
  clear h hT hR hI hap
  unfold tkV
  go_enter Tryz.func22, Tryz.ntmps22
  go_upto_region 3 with fail
  have hpq : (p : Int) + (n : Int) = (q : Int) := by omega
  rw [hpq]
  have B9 : Hid (Below w.heap.size w (w.alloc (.cells #[.int .i64 (t.kind : Int), .int .i64 (p : Int), .int .i64 (q : Int), .int .i64 (t.n : Int), .int .i64 t.mn, .int .i64 t.mx, .slice q8 C.length k8] 37))) := (Below.refl _ _).alloc (Nat.le_refl _) _
  have N9 := alloc_new w (.cells #[.int .i64 (t.kind : Int), .int .i64 (p : Int), .int .i64 (q : Int), .int .i64 (t.n : Int), .int .i64 t.mn, .int .i64 t.mx, .slice q8 C.length k8] 37)
  have hz9 : (w.alloc (.cells #[.int .i64 (t.kind : Int), .int .i64 (p : Int), .int .i64 (q : Int), .int .i64 (t.n : Int), .int .i64 t.mn, .int .i64 t.mx, .slice q8 C.length k8] 37)).heap.size = w.heap.size + 1 := by simp
  generalize (w.alloc (.cells #[.int .i64 (t.kind : Int), .int .i64 (p : Int), .int .i64 (q : Int), .int .i64 (t.n : Int), .int .i64 t.mn, .int .i64 t.mx, .slice q8 C.length k8] 37)) = V9 at B9 N9 hz9 ⊢
  have X9 : Hid (SX V9 b s m p (.slice qv D.length kv) x y ∧ TL base V9 (.slice qv D.length kv) D ∧ RR base V9 (.slice q8 C.length k8) C) := ⟨H.out.1.kept B9.out, H.out.2.1.kept B9.out, H.out.2.2.1.kept B9.out⟩
  have n0 : V9.cell? ⟨w.heap.size, 0, none⟩ = some (.int .i64 (t.kind : Int)) := cell_row N9 (i := 0) rfl
  have n1 : V9.cell? ⟨w.heap.size, 1, none⟩ = some (.int .i64 (p : Int)) := cell_row N9 (i := 1) rfl
  have n2 : V9.cell? ⟨w.heap.size, 2, none⟩ = some (.int .i64 (q : Int)) := cell_row N9 (i := 2) rfl
  have n3 : V9.cell? ⟨w.heap.size, 3, none⟩ = some (.int .i64 (t.n : Int)) := cell_row N9 (i := 3) rfl
  have n4 : V9.cell? ⟨w.heap.size, 4, none⟩ = some (.int .i64 t.mn) := cell_row N9 (i := 4) rfl
  have n5 : V9.cell? ⟨w.heap.size, 5, none⟩ = some (.int .i64 t.mx) := cell_row N9 (i := 5) rfl
  have n6 : V9.cell? ⟨w.heap.size, 6, none⟩ = some (.slice q8 C.length k8) := cell_row N9 (i := 6) rfl
  have NN : Hid (V9.heap[w.heap.size]? = some (.cells #[.int .i64 (t.kind : Int), .int .i64 (p : Int), .int .i64 (q : Int), .int .i64 (t.n : Int), .int .i64 t.mn, .int .i64 t.mx, .slice q8 C.length k8] 37 (0, 0))) := N9
  have lw : w.heap.size < V9.heap.size := by omega
  have lb9 : b < V9.heap.size := by omega
  have e4 : V9.cell? ⟨b, 4, none⟩ = some (.slice qv D.length kv) := X9.out.1.c4
  have hb1 : base ≤ V9.heap.size := by omega
  have HZ9 : Hid (V9.heap.size = w.heap.size + 1) := hz9
  have OW : Hid ((V9.alloc (.cells #[.int .i64 (t.kind : Int), .int .i64 (p : Int), .int .i64 (q : Int), .int .i64 (t.n : Int), .int .i64 t.mn, .int .i64 t.mx, .slice q8 C.length k8] 37)).drew.ownsRow base 37 7 (.slice qv D.length kv) D.length (tcs D)) := (World.ownsRow.alloc X9.out.2.1.own (.cells #[.int .i64 (t.kind : Int), .int .i64 (p : Int), .int .i64 (q : Int), .int .i64 (t.n : Int), .int .i64 t.mn, .int .i64 t.mx, .slice q8 C.length k8] 37)).drew
  have NW : Hid (∀ j u, [.int .i64 (t.kind : Int), .int .i64 (p : Int), .int .i64 (q : Int), .int .i64 (t.n : Int), .int .i64 t.mn, .int .i64 t.mx, .slice q8 C.length k8][j]? = some u → (V9.alloc (.cells #[.int .i64 (t.kind : Int), .int .i64 (p : Int), .int .i64 (q : Int), .int .i64 (t.n : Int), .int .i64 t.mn, .int .i64 t.mx, .slice q8 C.length k8] 37)).drew.cell? ((⟨V9.heap.size, 0, none⟩ : Addr).add j) = some u) := news_lit V9 #[.int .i64 (t.kind : Int), .int .i64 (p : Int), .int .i64 (q : Int), .int .i64 (t.n : Int), .int .i64 t.mn, .int .i64 t.mx, .slice q8 C.length k8] 37
  have O1 : Hid (∀ u ∈ ([.int .i64 (t.kind : Int), .int .i64 (p : Int), .int .i64 (q : Int), .int .i64 (t.n : Int), .int .i64 t.mn, .int .i64 t.mx, .slice q8 C.length k8] : List Value), u.oneCell' = true) := hide (by simp [Value.oneCell'])
  have hz10 : Hid (base ≤ (V9.alloc (.cells #[.int .i64 (t.kind : Int), .int .i64 (p : Int), .int .i64 (q : Int), .int .i64 (t.n : Int), .int .i64 t.mn, .int .i64 t.mx, .slice q8 C.length k8] 37)).drew.heap.size) := hide (by simp; omega)
  have AP : Hid (∀ (g c : Nat) (w10 : World), w10.ownsRow base 37 7 (.slice (some ⟨g, 0, none⟩) (D.length + 1) c) (D.length + 1) (tcs D ++ [.int .i64 (t.kind : Int), .int .i64 (p : Int), .int .i64 (q : Int), .int .i64 (t.n : Int), .int .i64 t.mn, .int .i64 t.mx, .slice q8 C.length k8]) → (V9.alloc (.cells #[.int .i64 (t.kind : Int), .int .i64 (p : Int), .int .i64 (q : Int), .int .i64 (t.n : Int), .int .i64 t.mn, .int .i64 t.mx, .slice q8 C.length k8] 37)).drew.grownBy w10 (Value.slice qv D.length kv).ownBlock →
      SX w10 b s m p (.slice qv D.length kv) x y ∧ TL base w10 (.slice (some ⟨g, 0, none⟩) (D.length + 1) c) (D ++ [((t, p, q), .slice q8 C.length k8, C)]) ∧ Below base w w10 ∧ w10.cell? ⟨w.heap.size, 2, none⟩ = some (.int .i64 (q : Int)) ∧ w.heap.size < w10.heap.size) := fun g c w10 h1 h2 => by
    have hB : Below V9.heap.size V9 (V9.alloc (.cells #[.int .i64 (t.kind : Int), .int .i64 (p : Int), .int .i64 (q : Int), .int .i64 (t.n : Int), .int .i64 t.mn, .int .i64 t.mx, .slice q8 C.length k8] 37)).drew := ((Below.refl _ _).alloc (Nat.le_refl _) _).drew
    obtain ⟨k1, k2, k3⟩ := app_tokS (d := ((t, p, q), .slice q8 C.length k8, C)) X9.out.1 X9.out.2.1 hB X9.out.2.2 H.out.2.2.2.1 H.out.2.2.2.2 h1 h2
    have hNB := (hB.block w.heap.size lw).trans NN.out
    have hnb : ¬ (Value.slice qv D.length kv).ownBlock = some w.heap.size := fun q => by
      have := (ownsRow_at H.out.2.1.own q).2.1
      omega
    have hN10 := (k3.block w.heap.size (lt_of_heap hNB) hnb).trans hNB
    exact ⟨k1, k2, ((B9.out.mono (by omega)).trans (hB.mono hb1)).trans (k3.below hz10.out fun k hk => (ownsRow_at OW.out hk).1), cell_row hN10 (i := 2) rfl, lt_of_heap hN10⟩
  clear N9 hz9 c3 hw hpq lb hq
  go_region_law (refine step_append_at rfl _ _ 25 rfl base 37 i0 (.agg #[.int .i64 0, .int .i64 0, .int .i64 0, .int .i64 0, .int .i64 0, .int .i64 0, .slice none 0 0]) 7 72 und_toks ti hz0 hz1 hz2 rfl (by decide) (.slice qv D.length kv) D.length (tcs D) (by simp [Act.eval]) OW.out ⟨V9.heap.size, 0, none⟩ 1 1 [.int .i64 (t.kind : Int), .int .i64 (p : Int), .int .i64 (q : Int), .int .i64 (t.n : Int), .int .i64 t.mn, .int .i64 t.mx, .slice q8 C.length k8] (by simp [Act.eval]) rfl NW.out O1.out (by unfold maxLen; omega) (by omega) hz10.out ?_; intro v' w10 hown' hgrow hblk; obtain ⟨g10, c10, rfl⟩ := ownsRow_some hown' (Nat.succ_pos _); have X10 := hide (AP.out g10 c10 w10 hown' hgrow); have m4 := X10.out.1.c4; have mf := X10.out.1.frz 4; have ml := X10.out.1.lt; clear hown' hgrow hblk)
  all_goals (have R11 : Hid (SX (w10.setCell ⟨b, 4, none⟩ (.slice (some ⟨g10, 0, none⟩) (D.length + 1) c10)) b s m p (.slice (some ⟨g10, 0, none⟩) (D.length + 1) c10) x y) := heap_set_in X10.out.1 4 _)
  all_goals (have F11 : Hid (Fr (At b) w10 (w10.setCell ⟨b, 4, none⟩ (.slice (some ⟨g10, 0, none⟩) (D.length + 1) c10))) := Fr.setCell (S := At b) (Fr.refl _ _) (p := ⟨b, 4, none⟩) rfl _)
  all_goals (have r3 := R11.out.c3; have rf3 := R11.out.frz 3; have rl := R11.out.lt; have hne : ¬ w.heap.size = b := (by have := H.out.1.lt; omega); have rn : (w10.setCell ⟨b, 4, none⟩ (.slice (some ⟨g10, 0, none⟩) (D.length + 1) c10)).cell? ⟨w.heap.size, 2, none⟩ = some (.int .i64 (q : Int)) := by (have hz : Fr (At b) w10 (w10.setCell ⟨b, 4, none⟩ (.slice (some ⟨g10, 0, none⟩) (D.length + 1) c10)) := F11.out; have := hz.block w.heap.size X10.out.2.2.2.2 hne; simpa [World.cell?, this] using X10.out.2.2.2.1))
  all_goals go_wp2
  all_goals go_end0
  all_goals exact ⟨rfl, _, heap_set_in R11.out 3 _, (X10.out.2.1.sx X10.out.1 F11.out).sx R11.out (Fr.setCell (S := At b) (Fr.refl _ _) (p := ⟨b, 3, none⟩) rfl _), (X10.out.2.2.1.trans (F11.out.below (Nat.le_trans (by have := H.out.1.lt; omega) X10.out.2.2.1.size) (fun k hk => by have : k = b := hk; omega))).trans ((Fr.setCell (S := At b) (Fr.refl _ _) (p := ⟨b, 3, none⟩) rfl _).below (Nat.le_trans (Nat.le_trans (by have := H.out.1.lt; omega) X10.out.2.2.1.size) F11.out.size) (fun k hk => by have : k = b := hk; omega))⟩
end Go.Proofs.YtloeajhmmjdlgaaGreatDoor
namespace Go.Proofs.YtloeajhmmjdlgaaGreatDoor
open Go Go.RowKit
attribute [local go_sem] ext_cell

/-- What comes of a token's reading: it is put behind the others, or what is wrong is kept. -/
def Puts (base : Nat) (w : World) (b : Nat) (s : ByteArray) (m : Md) (p : Nat) (D : List Dt) (r : Rs (Tk × Nat)) (e : Ending) (w' : World) : Prop :=
  e = .returned (.tuple #[]) ∧ Below base w w' ∧ match r with
  | .error (c, a) => ∃ v', SX w' b s m p v' c a
  | .ok (t, q) => ∃ v' rv C, SX w' b s m q v' 0 0 ∧ TL base w' v' (D ++ [((t, p, q), rv, C)])
/-- Where a token may be put. -/
structure Room (base : Nat) (w : World) (b : Nat) (s : ByteArray) (m : Md) (p : Nat) (v : Value) (D : List Dt) : Prop where
  sx : SX w b s m p v 0 0
  tl : TL base w v D
  low : base ≤ b
  few : D.length ≤ 2000
  len : s.size ≤ 2000
  at_ : p < s.size
section
variable {base : Nat} {w w' : World} {b : Nat} {s : ByteArray} {m : Md} {p : Nat} {v : Value} {D : List Dt}
theorem Room.kept (h : Room base w b s m p v D) (hb : Below w.heap.size w w') : Room base w' b s m p v D := ⟨h.sx.kept hb, h.tl.kept hb, h.low, h.few, h.len, h.at_⟩
theorem Room.size (h : Room base w b s m p v D) : base ≤ w.heap.size := Nat.le_trans h.low (Nat.le_of_lt h.sx.lt)
theorem Room.no (h : Room base w b s m p v D) (x y : Nat) : Calls Tryz.prog 19 #[.pointer (some ⟨b, 0, none⟩), .int .i64 (x : Int), .int .i64 (y : Int)] w fun r w' => r = .returned (.tuple #[]) ∧ SX w' b s m p v x y ∧ Below base w w' :=
  (rno_new h.sx x y).mono fun r w' k => ⟨k.1, k.2.1, k.2.2.below h.size fun j hj => by have := h.low; have : j = b := hj; omega⟩
theorem Room.put (h : Room base w b s m p v D) {t : Tk} {rv : Value} {C : List (Int × Int)} (hR : RR base w rv C) (hI : IsC C t.q) (hap : ∀ a ∈ D, ∀ k, a.2.1.ownBlock = some k → rv.ownBlock ≠ some k) {n q : Nat} (hq : q = p + n) (hn : n ≤ 2000) :
    Calls Tryz.prog 22 #[.pointer (some ⟨b, 0, none⟩), tkV t 0 0 rv, .int .i64 (n : Int)] w (Puts base w b s m p D (.ok (t, q))) :=
  (rput_c h.sx h.tl hR hI hap h.low hq (by have := h.len; have := h.at_; omega) h.few).mono fun _ _ k => ⟨k.1, k.2.choose_spec.2.2, _, _, _, k.2.choose_spec.1, k.2.choose_spec.2.1⟩
theorem Room.put0 (h : Room base w b s m p v D) {t : Tk} (ht : t.q = fun _ => False) {n q : Nat} (hq : q = p + n) (hn : n ≤ 2000) :
    Calls Tryz.prog 22 #[.pointer (some ⟨b, 0, none⟩), tkV t 0 0 (.slice none 0 0), .int .i64 (n : Int)] w (Puts base w b s m p D (.ok (t, q))) :=
  h.put (RR.nil _ _) (by rw [ht]; exact isC_none) (fun _ _ _ _ q => by cases q) hq hn
theorem Puts.from {r : Rs (Tk × Nat)} {e : Ending} {w1 : World} (h : Puts base w1 b s m p D r e w') (hb : Below base w w1) : Puts base w b s m p D r e w' := ⟨h.1, hb.trans h.2.1, h.2.2⟩
end
set_option maxRecDepth 100000 in
set_option maxHeartbeats 4000000 in
theorem rinterval_c {base : Nat} {w : World} {b : Nat} {s : ByteArray} {m : Md} {p : Nat} {v : Value} {D : List Dt} (h : Room base w b s m p v D) (h2 : p + 2 ≤ s.size) :
    Calls Tryz.prog 36 #[.pointer (some ⟨b, 0, none⟩)] w (Puts base w b s m p D (intv s p)) := by
  have hs := h.len
  have c3 := h.sx.c3
  have lb := h.sx.lt
  have bs := h.size
  have hd := digs_le s (p + 2) h2
  obtain ⟨P2, hP2⟩ : ∃ P2, P2 = p + 2 := ⟨_, rfl⟩
  have hw1 : IntKind.wrap .i64 ((p : Int) + 2) = (P2 : Int) := by rw [wrap_small _ (by omega) (by omega)]; omega
  obtain ⟨N, hN⟩ : ∃ N, N = numL (digs s (p + 2)) := ⟨_, rfl⟩
  obtain ⟨Q, hQ⟩ : ∃ Q, Q = ivQ s p := ⟨_, rfl⟩
  have hN2 : N ≤ 256 := by rw [hN]; exact numL_le _
  have hQ2 : Q ≤ s.size := by rw [hQ]; unfold ivQ; omega
  have hQ3 : p + 2 ≤ Q := by rw [hQ]; unfold ivQ; omega
  have HN1 : ∀ W, SX W b s m p v 0 0 → Calls Tryz.prog 52 #[.pointer (some ⟨b, 0, none⟩), .int .i64 (P2 : Int)] W fun e w' => e = .returned (.tuple #[.int .i64 (N : Int), .int .i64 (Q : Int), .bool (decide (0 < (digs s (p + 2)).length))]) ∧ Below W.heap.size W w' := fun W hW => by
    have := rnumber_c hW (p + 2) h2 hs
    rw [← hN] at this
    rw [hQ, hP2]
    exact this
  have H : Hid (Room base w b s m p v D) := h
  clear h hP2
  by_cases hlen : (digs s (p + 2)).length = 0
  · have hr : intv s p = .error (36, p) := by unfold intv; rw [if_pos (.inl hlen)]
    rw [hr]
    have hN1 : Hid (∀ W, SX W b s m p v 0 0 → Calls Tryz.prog 52 #[.pointer (some ⟨b, 0, none⟩), .int .i64 (P2 : Int)] W fun e w' => e = .returned (.tuple #[.int .i64 (N : Int), .int .i64 (Q : Int), .bool false]) ∧ Below W.heap.size W w') := fun W hW => by
      have := HN1 W hW
      rw [hlen] at this
      exact this
    clear HN1 hr hN hQ
    go_enter Tryz.func36, Tryz.ntmps36
    go_wp2_with first
      | (go_at_call 52; (with_reducible refine (hN1.out _ H.out.sx).mono ?_); rintro e w5 ⟨rfl, h5⟩; have X5 : Hid (Room base w5 b s m p v D ∧ Below base w w5) := ⟨H.out.kept h5, h5.mono bs⟩; have k3 := X5.out.1.sx.c3; have kl := X5.out.1.sx.lt; clear h5)
      | (go_at_call 19; refine (X5.out.1.no 36 p).mono ?_; rintro e w9 ⟨rfl, h9, g9⟩; have X9 : Hid (SX w9 b s m p v 36 p ∧ Below base w w9) := ⟨h9, X5.out.2.trans g9⟩; clear h9 g9)
    go_end0
    exact ⟨rfl, X9.out.2, v, X9.out.1⟩
  have hN1 : Hid (∀ W, SX W b s m p v 0 0 → Calls Tryz.prog 52 #[.pointer (some ⟨b, 0, none⟩), .int .i64 (P2 : Int)] W fun e w' => e = .returned (.tuple #[.int .i64 (N : Int), .int .i64 (Q : Int), .bool true]) ∧ Below W.heap.size W w') := fun W hW => by
    have := HN1 W hW
    rw [decide_eq_true (by omega)] at this
    exact this
  clear HN1
  have HI : ∀ (k : Nat) (W : World), k ≤ 4000 → SX W b s m p v 0 0 → Calls Tryz.prog 18 #[.pointer (some ⟨b, 0, none⟩), .int .i64 (k : Int), .string ⟨#[92, 125]⟩] W fun e w' => e = .returned (.bool (sees s k [92, 125])) ∧ Below W.heap.size W w' := fun k W hk hW => ris_c hW hs k (by omega) ⟨#[92, 125]⟩ (by decide) (by decide)
  have HC : ∀ W, SX W b s m p v 0 0 → Calls Tryz.prog 18 #[.pointer (some ⟨b, 0, none⟩), .int .i64 (Q : Int), .string ⟨#[44]⟩] W fun e w' => e = .returned (.bool (sees s Q [44])) ∧ Below W.heap.size W w' := fun W hW => ris_c hW hs Q (by omega) ⟨#[44]⟩ (by decide) (by decide)
  obtain ⟨Q1, hQ1⟩ : ∃ Q1, Q1 = Q + 1 := ⟨_, rfl⟩
  have hw4 : IntKind.wrap .i64 ((Q : Int) + 1) = (Q1 : Int) := by rw [wrap_small _ (by omega) (by omega)]; omega
  cases hcom : sees s Q [44] with
  | false =>
    have hC : Hid (∀ W, SX W b s m p v 0 0 → Calls Tryz.prog 18 #[.pointer (some ⟨b, 0, none⟩), .int .i64 (Q : Int), .string ⟨#[44]⟩] W fun e w' => e = .returned (.bool false) ∧ Below W.heap.size W w') := fun W hW => by
      have := HC W hW
      rw [hcom] at this
      exact this
    have hR : Q = ivR s p := by unfold ivR; rw [← hQ, hcom]; simp
    have hB : ivB s p = (N : Int) := by unfold ivB; rw [← hQ, hcom, ← hN]; simp
    clear HC hcom hQ1
    have hE0 := HI Q
    cases hends : sees s Q [92, 125] with
    | false =>
      have hr : intv s p = .error (36, p) := by unfold intv; rw [if_pos (.inr (by rw [← hR]; exact hends))]
      rw [hr]
      have hE : Hid (∀ W, SX W b s m p v 0 0 → Calls Tryz.prog 18 #[.pointer (some ⟨b, 0, none⟩), .int .i64 (Q : Int), .string ⟨#[92, 125]⟩] W fun e w' => e = .returned (.bool false) ∧ Below W.heap.size W w') := fun W hW => by
        have := hE0 W (by omega) hW
        rw [hends] at this
        exact this
      clear hE0 HI hr hR hN hQ hends
      go_enter Tryz.func36, Tryz.ntmps36
      go_wp2_with first
        | (go_at_call 52; (with_reducible refine (hN1.out _ H.out.sx).mono ?_); rintro e w5 ⟨rfl, h5⟩; have X5 : Hid (Room base w5 b s m p v D ∧ Below base w w5) := ⟨H.out.kept h5, h5.mono bs⟩; clear h5)
        | (go_at_call 18; (with_reducible refine (hC.out _ X5.out.1.sx).mono ?_); rintro e w6 ⟨rfl, h6⟩; have X6 : Hid (Room base w6 b s m p v D ∧ Below base w w6) := ⟨X5.out.1.kept h6, X5.out.2.trans (h6.mono X5.out.1.size)⟩; clear h6)
        | (go_at_call 18; (with_reducible refine (hE.out _ X6.out.1.sx).mono ?_); rintro e w8 ⟨rfl, h8⟩; have X8 : Hid (Room base w8 b s m p v D ∧ Below base w w8) := ⟨X6.out.1.kept h8, X6.out.2.trans (h8.mono X6.out.1.size)⟩; have k3 := X8.out.1.sx.c3; have kl := X8.out.1.sx.lt; clear h8)
        | (go_at_call 19; refine (X8.out.1.no 36 p).mono ?_; rintro e w9 ⟨rfl, h9, g9⟩; have X9 : Hid (SX w9 b s m p v 36 p ∧ Below base w w9) := ⟨h9, X8.out.2.trans g9⟩; clear h9 g9)
      go_end0
      exact ⟨rfl, X9.out.2, v, X9.out.1⟩
    | true =>
      have hE : Hid (∀ W, SX W b s m p v 0 0 → Calls Tryz.prog 18 #[.pointer (some ⟨b, 0, none⟩), .int .i64 (Q : Int), .string ⟨#[92, 125]⟩] W fun e w' => e = .returned (.bool true) ∧ Below W.heap.size W w') := fun W hW => by
        have := hE0 W (by omega) hW
        rw [hends] at this
        exact this
      have hRs : Q + 2 ≤ s.size := sees_len hends (by simp)
      have hg : ¬ ((digs s (p + 2)).length = 0 ∨ sees s (ivR s p) [92, 125] = false) := by rw [← hR, hends]; simp [hlen]
      clear hE0 HI hends
      obtain ⟨NQ, hNQ⟩ : ∃ NQ, NQ = Q + 2 - p := ⟨_, rfl⟩
      have hw2 : IntKind.wrap .i64 ((Q : Int) + 2) = (Q : Int) + 2 := wrap_small _ (by omega) (by omega)
      have hw3 : IntKind.wrap .i64 ((Q : Int) + 2 - (p : Int)) = (NQ : Int) := by rw [wrap_small _ (by omega) (by omega)]; omega
      by_cases hb0 : 255 < N
      · have hr : intv s p = .error (37, p) := by unfold intv; rw [if_neg hg, if_pos (by rw [← hN, hB]; omega)]
        rw [hr]
        have j0 : (255 : Int) < (N : Int) := by omega
        clear hr hR hN hQ hB hg
        go_enter Tryz.func36, Tryz.ntmps36
        go_wp2_with first
          | (go_at_call 52; (with_reducible refine (hN1.out _ H.out.sx).mono ?_); rintro e w5 ⟨rfl, h5⟩; have X5 : Hid (Room base w5 b s m p v D ∧ Below base w w5) := ⟨H.out.kept h5, h5.mono bs⟩; clear h5)
          | (go_at_call 18; (with_reducible refine (hC.out _ X5.out.1.sx).mono ?_); rintro e w6 ⟨rfl, h6⟩; have X6 : Hid (Room base w6 b s m p v D ∧ Below base w w6) := ⟨X5.out.1.kept h6, X5.out.2.trans (h6.mono X5.out.1.size)⟩; clear h6)
          | (go_at_call 18; (with_reducible refine (hE.out _ X6.out.1.sx).mono ?_); rintro e w8 ⟨rfl, h8⟩; have X8 : Hid (Room base w8 b s m p v D ∧ Below base w w8) := ⟨X6.out.1.kept h8, X6.out.2.trans (h8.mono X6.out.1.size)⟩; have k3 := X8.out.1.sx.c3; have kl := X8.out.1.sx.lt; clear h8)
          | (go_at_call 19; refine (X8.out.1.no 37 p).mono ?_; rintro e w9 ⟨rfl, h9, g9⟩; have X9 : Hid (SX w9 b s m p v 37 p ∧ Below base w w9) := ⟨h9, X8.out.2.trans g9⟩; clear h9 g9)
        go_end0
        exact ⟨rfl, X9.out.2, v, X9.out.1⟩
      have hr : intv s p = .ok (repT (N : Int) (N : Int), p + NQ) := by unfold intv; rw [if_neg hg, if_neg (by rw [← hN, hB]; omega), ← hN, hB, ← hR, hNQ]; congr 2; omega
      rw [hr]
      have j0 : ¬ (255 : Int) < (N : Int) := by omega
      have j1 : ((N : Int) == -1) = false := beq_eq_false_iff_ne.2 (by omega)
      have j2 : ¬ (N : Int) = -1 := by omega
      clear hr hR hN hQ hB hg
      have hnq : NQ ≤ 2000 := by omega
      clear hNQ
      go_enter Tryz.func36, Tryz.ntmps36
      go_wp2_with first
        | (go_at_call 52; (with_reducible refine (hN1.out _ H.out.sx).mono ?_); rintro e w5 ⟨rfl, h5⟩; have X5 : Hid (Room base w5 b s m p v D ∧ Below base w w5) := ⟨H.out.kept h5, h5.mono bs⟩; clear h5)
        | (go_at_call 18; (with_reducible refine (hC.out _ X5.out.1.sx).mono ?_); rintro e w6 ⟨rfl, h6⟩; have X6 : Hid (Room base w6 b s m p v D ∧ Below base w w6) := ⟨X5.out.1.kept h6, X5.out.2.trans (h6.mono X5.out.1.size)⟩; clear h6)
        | (go_at_call 18; (with_reducible refine (hE.out _ X6.out.1.sx).mono ?_); rintro e w8 ⟨rfl, h8⟩; have X8 : Hid (Room base w8 b s m p v D ∧ Below base w w8) := ⟨X6.out.1.kept h8, X6.out.2.trans (h8.mono X6.out.1.size)⟩; have k3 := X8.out.1.sx.c3; have kl := X8.out.1.sx.lt; clear h8)
        | (go_at_call 22; refine (X8.out.1.put0 (t := repT (N : Int) (N : Int)) rfl (n := NQ) (q := p + NQ) rfl (by omega)).mono ?_; rintro e w9 h9; have hz := h9.1; subst hz; have X9 : Hid (Puts base w b s m p D (.ok (repT (N : Int) (N : Int), p + NQ)) (.returned (.tuple #[])) w9) := h9.from X8.out.2; clear h9)
      go_end0
      exact X9.out
  | true =>
    have hC : Hid (∀ W, SX W b s m p v 0 0 → Calls Tryz.prog 18 #[.pointer (some ⟨b, 0, none⟩), .int .i64 (Q : Int), .string ⟨#[44]⟩] W fun e w' => e = .returned (.bool true) ∧ Below W.heap.size W w') := fun W hW => by
      have := HC W hW
      rw [hcom] at this
      exact this
    have hQs : Q + 1 ≤ s.size := sees_len hcom (by simp)
    have hd2 := digs_le s (Q + 1) hQs
    obtain ⟨K, hK⟩ : ∃ K, K = numL (digs s (Q + 1)) := ⟨_, rfl⟩
    obtain ⟨R, hRR⟩ : ∃ R, R = Q + 1 + (digs s (Q + 1)).length := ⟨_, rfl⟩
    have hK2 : K ≤ 256 := by rw [hK]; exact numL_le _
    have hR2 : R ≤ s.size := by omega
    have hR : R = ivR s p := by unfold ivR; rw [← hQ, hcom, hRR]; simp
    have HN2 : ∀ W, SX W b s m p v 0 0 → Calls Tryz.prog 52 #[.pointer (some ⟨b, 0, none⟩), .int .i64 (Q1 : Int)] W fun e w' => e = .returned (.tuple #[.int .i64 (K : Int), .int .i64 (R : Int), .bool (decide (0 < (digs s (Q + 1)).length))]) ∧ Below W.heap.size W w' := fun W hW => by
      have := rnumber_c hW (Q + 1) hQs hs
      rw [← hK, ← hRR] at this
      rw [hQ1]
      exact this
    by_cases hl2 : (digs s (Q + 1)).length = 0
    · have hB : ivB s p = -1 := by unfold ivB; rw [← hQ, hcom]; simp [hl2]
      have hN2 : Hid (∀ W, SX W b s m p v 0 0 → Calls Tryz.prog 52 #[.pointer (some ⟨b, 0, none⟩), .int .i64 (Q1 : Int)] W fun e w' => e = .returned (.tuple #[.int .i64 (K : Int), .int .i64 (R : Int), .bool false]) ∧ Below W.heap.size W w') := fun W hW => by
        have := HN2 W hW
        rw [hl2] at this
        exact this
      clear HC hcom HN2 hQ1
      have hQR : Q < R := by omega
      clear hRR hK
      have hE0 := HI R
      cases hends : sees s R [92, 125] with
      | false =>
        have hr : intv s p = .error (36, p) := by unfold intv; rw [if_pos (.inr (by rw [← hR]; exact hends))]
        rw [hr]
        have hE : Hid (∀ W, SX W b s m p v 0 0 → Calls Tryz.prog 18 #[.pointer (some ⟨b, 0, none⟩), .int .i64 (R : Int), .string ⟨#[92, 125]⟩] W fun e w' => e = .returned (.bool false) ∧ Below W.heap.size W w') := fun W hW => by
          have := hE0 W (by omega) hW
          rw [hends] at this
          exact this
        clear hE0 HI hr hR hN hQ hends
        go_enter Tryz.func36, Tryz.ntmps36
        go_wp2_with first
          | (go_at_call 52; (with_reducible refine (hN1.out _ H.out.sx).mono ?_); rintro e w5 ⟨rfl, h5⟩; have X5 : Hid (Room base w5 b s m p v D ∧ Below base w w5) := ⟨H.out.kept h5, h5.mono bs⟩; clear h5)
          | (go_at_call 18; (with_reducible refine (hC.out _ X5.out.1.sx).mono ?_); rintro e w6 ⟨rfl, h6⟩; have X6 : Hid (Room base w6 b s m p v D ∧ Below base w w6) := ⟨X5.out.1.kept h6, X5.out.2.trans (h6.mono X5.out.1.size)⟩; clear h6)
          | (go_at_call 52; (with_reducible refine (hN2.out _ X6.out.1.sx).mono ?_); rintro e w7 ⟨rfl, h7⟩; have X7 : Hid (Room base w7 b s m p v D ∧ Below base w w7) := ⟨X6.out.1.kept h7, X6.out.2.trans (h7.mono X6.out.1.size)⟩; clear h7)
          | (go_at_call 18; (with_reducible refine (hE.out _ X7.out.1.sx).mono ?_); rintro e w8 ⟨rfl, h8⟩; have X8 : Hid (Room base w8 b s m p v D ∧ Below base w w8) := ⟨X7.out.1.kept h8, X7.out.2.trans (h8.mono X7.out.1.size)⟩; have k3 := X8.out.1.sx.c3; have kl := X8.out.1.sx.lt; clear h8)
          | (go_at_call 19; refine (X8.out.1.no 36 p).mono ?_; rintro e w9 ⟨rfl, h9, g9⟩; have X9 : Hid (SX w9 b s m p v 36 p ∧ Below base w w9) := ⟨h9, X8.out.2.trans g9⟩; clear h9 g9)
        go_end0
        exact ⟨rfl, X9.out.2, v, X9.out.1⟩
      | true =>
        have hE : Hid (∀ W, SX W b s m p v 0 0 → Calls Tryz.prog 18 #[.pointer (some ⟨b, 0, none⟩), .int .i64 (R : Int), .string ⟨#[92, 125]⟩] W fun e w' => e = .returned (.bool true) ∧ Below W.heap.size W w') := fun W hW => by
          have := hE0 W (by omega) hW
          rw [hends] at this
          exact this
        have hRs : R + 2 ≤ s.size := sees_len hends (by simp)
        have hg : ¬ ((digs s (p + 2)).length = 0 ∨ sees s (ivR s p) [92, 125] = false) := by rw [← hR, hends]; simp [hlen]
        clear hE0 HI hends
        obtain ⟨NQ, hNQ⟩ : ∃ NQ, NQ = R + 2 - p := ⟨_, rfl⟩
        have hw2 : IntKind.wrap .i64 ((R : Int) + 2) = (R : Int) + 2 := wrap_small _ (by omega) (by omega)
        have hw3 : IntKind.wrap .i64 ((R : Int) + 2 - (p : Int)) = (NQ : Int) := by rw [wrap_small _ (by omega) (by omega)]; omega
        by_cases hb0 : 255 < N
        · have hr : intv s p = .error (37, p) := by unfold intv; rw [if_neg hg, if_pos (by rw [← hN, hB]; omega)]
          rw [hr]
          have j0 : (255 : Int) < (N : Int) := by omega
          clear hr hR hN hQ hB hg
          go_enter Tryz.func36, Tryz.ntmps36
          go_wp2_with first
            | (go_at_call 52; (with_reducible refine (hN1.out _ H.out.sx).mono ?_); rintro e w5 ⟨rfl, h5⟩; have X5 : Hid (Room base w5 b s m p v D ∧ Below base w w5) := ⟨H.out.kept h5, h5.mono bs⟩; clear h5)
            | (go_at_call 18; (with_reducible refine (hC.out _ X5.out.1.sx).mono ?_); rintro e w6 ⟨rfl, h6⟩; have X6 : Hid (Room base w6 b s m p v D ∧ Below base w w6) := ⟨X5.out.1.kept h6, X5.out.2.trans (h6.mono X5.out.1.size)⟩; clear h6)
            | (go_at_call 52; (with_reducible refine (hN2.out _ X6.out.1.sx).mono ?_); rintro e w7 ⟨rfl, h7⟩; have X7 : Hid (Room base w7 b s m p v D ∧ Below base w w7) := ⟨X6.out.1.kept h7, X6.out.2.trans (h7.mono X6.out.1.size)⟩; clear h7)
            | (go_at_call 18; (with_reducible refine (hE.out _ X7.out.1.sx).mono ?_); rintro e w8 ⟨rfl, h8⟩; have X8 : Hid (Room base w8 b s m p v D ∧ Below base w w8) := ⟨X7.out.1.kept h8, X7.out.2.trans (h8.mono X7.out.1.size)⟩; have k3 := X8.out.1.sx.c3; have kl := X8.out.1.sx.lt; clear h8)
            | (go_at_call 19; refine (X8.out.1.no 37 p).mono ?_; rintro e w9 ⟨rfl, h9, g9⟩; have X9 : Hid (SX w9 b s m p v 37 p ∧ Below base w w9) := ⟨h9, X8.out.2.trans g9⟩; clear h9 g9)
          go_end0
          exact ⟨rfl, X9.out.2, v, X9.out.1⟩
        have hr : intv s p = .ok (repT (N : Int) (-1), p + NQ) := by unfold intv; rw [if_neg hg, if_neg (by rw [← hN, hB]; omega), ← hN, hB, ← hR, hNQ]; congr 2; omega
        rw [hr]
        have j0 : ¬ (255 : Int) < (N : Int) := by omega
        clear hr hR hN hQ hB hg
        have hnq : NQ ≤ 2000 := by omega
        clear hNQ
        go_enter Tryz.func36, Tryz.ntmps36
        go_wp2_with first
          | (go_at_call 52; (with_reducible refine (hN1.out _ H.out.sx).mono ?_); rintro e w5 ⟨rfl, h5⟩; have X5 : Hid (Room base w5 b s m p v D ∧ Below base w w5) := ⟨H.out.kept h5, h5.mono bs⟩; clear h5)
          | (go_at_call 18; (with_reducible refine (hC.out _ X5.out.1.sx).mono ?_); rintro e w6 ⟨rfl, h6⟩; have X6 : Hid (Room base w6 b s m p v D ∧ Below base w w6) := ⟨X5.out.1.kept h6, X5.out.2.trans (h6.mono X5.out.1.size)⟩; clear h6)
          | (go_at_call 52; (with_reducible refine (hN2.out _ X6.out.1.sx).mono ?_); rintro e w7 ⟨rfl, h7⟩; have X7 : Hid (Room base w7 b s m p v D ∧ Below base w w7) := ⟨X6.out.1.kept h7, X6.out.2.trans (h7.mono X6.out.1.size)⟩; clear h7)
          | (go_at_call 18; (with_reducible refine (hE.out _ X7.out.1.sx).mono ?_); rintro e w8 ⟨rfl, h8⟩; have X8 : Hid (Room base w8 b s m p v D ∧ Below base w w8) := ⟨X7.out.1.kept h8, X7.out.2.trans (h8.mono X7.out.1.size)⟩; have k3 := X8.out.1.sx.c3; have kl := X8.out.1.sx.lt; clear h8)
          | (go_at_call 22; refine (X8.out.1.put0 (t := repT (N : Int) (-1)) rfl (n := NQ) (q := p + NQ) rfl (by omega)).mono ?_; rintro e w9 h9; have hz := h9.1; subst hz; have X9 : Hid (Puts base w b s m p D (.ok (repT (N : Int) (-1), p + NQ)) (.returned (.tuple #[])) w9) := h9.from X8.out.2; clear h9)
        go_end0
        exact X9.out
    · have hB : ivB s p = (K : Int) := by unfold ivB; rw [← hQ, hcom, ← hK]; simp [hl2]
      have hN2 : Hid (∀ W, SX W b s m p v 0 0 → Calls Tryz.prog 52 #[.pointer (some ⟨b, 0, none⟩), .int .i64 (Q1 : Int)] W fun e w' => e = .returned (.tuple #[.int .i64 (K : Int), .int .i64 (R : Int), .bool true]) ∧ Below W.heap.size W w') := fun W hW => by
        have := HN2 W hW
        rw [decide_eq_true (by omega)] at this
        exact this
      clear HC hcom HN2 hQ1
      have hQR : Q < R := by omega
      clear hRR hK
      have jk : ((K : Int) == -1) = false := beq_eq_false_iff_ne.2 (by omega)
      have jk2 : ¬ (K : Int) = -1 := by omega
      have jk3 : ((K : Int) != -1) = true := bne_iff_ne.2 jk2
      have hE0 := HI R
      cases hends : sees s R [92, 125] with
      | false =>
        have hr : intv s p = .error (36, p) := by unfold intv; rw [if_pos (.inr (by rw [← hR]; exact hends))]
        rw [hr]
        have hE : Hid (∀ W, SX W b s m p v 0 0 → Calls Tryz.prog 18 #[.pointer (some ⟨b, 0, none⟩), .int .i64 (R : Int), .string ⟨#[92, 125]⟩] W fun e w' => e = .returned (.bool false) ∧ Below W.heap.size W w') := fun W hW => by
          have := hE0 W (by omega) hW
          rw [hends] at this
          exact this
        clear hE0 HI hr hR hN hQ hends
        go_enter Tryz.func36, Tryz.ntmps36
        go_wp2_with first
          | (go_at_call 52; (with_reducible refine (hN1.out _ H.out.sx).mono ?_); rintro e w5 ⟨rfl, h5⟩; have X5 : Hid (Room base w5 b s m p v D ∧ Below base w w5) := ⟨H.out.kept h5, h5.mono bs⟩; clear h5)
          | (go_at_call 18; (with_reducible refine (hC.out _ X5.out.1.sx).mono ?_); rintro e w6 ⟨rfl, h6⟩; have X6 : Hid (Room base w6 b s m p v D ∧ Below base w w6) := ⟨X5.out.1.kept h6, X5.out.2.trans (h6.mono X5.out.1.size)⟩; clear h6)
          | (go_at_call 52; (with_reducible refine (hN2.out _ X6.out.1.sx).mono ?_); rintro e w7 ⟨rfl, h7⟩; have X7 : Hid (Room base w7 b s m p v D ∧ Below base w w7) := ⟨X6.out.1.kept h7, X6.out.2.trans (h7.mono X6.out.1.size)⟩; clear h7)
          | (go_at_call 18; (with_reducible refine (hE.out _ X7.out.1.sx).mono ?_); rintro e w8 ⟨rfl, h8⟩; have X8 : Hid (Room base w8 b s m p v D ∧ Below base w w8) := ⟨X7.out.1.kept h8, X7.out.2.trans (h8.mono X7.out.1.size)⟩; have k3 := X8.out.1.sx.c3; have kl := X8.out.1.sx.lt; clear h8)
          | (go_at_call 19; refine (X8.out.1.no 36 p).mono ?_; rintro e w9 ⟨rfl, h9, g9⟩; have X9 : Hid (SX w9 b s m p v 36 p ∧ Below base w w9) := ⟨h9, X8.out.2.trans g9⟩; clear h9 g9)
        go_end0
        exact ⟨rfl, X9.out.2, v, X9.out.1⟩
      | true =>
        have hE : Hid (∀ W, SX W b s m p v 0 0 → Calls Tryz.prog 18 #[.pointer (some ⟨b, 0, none⟩), .int .i64 (R : Int), .string ⟨#[92, 125]⟩] W fun e w' => e = .returned (.bool true) ∧ Below W.heap.size W w') := fun W hW => by
          have := hE0 W (by omega) hW
          rw [hends] at this
          exact this
        have hRs : R + 2 ≤ s.size := sees_len hends (by simp)
        have hg : ¬ ((digs s (p + 2)).length = 0 ∨ sees s (ivR s p) [92, 125] = false) := by rw [← hR, hends]; simp [hlen]
        clear hE0 HI hends
        obtain ⟨NQ, hNQ⟩ : ∃ NQ, NQ = R + 2 - p := ⟨_, rfl⟩
        have hw2 : IntKind.wrap .i64 ((R : Int) + 2) = (R : Int) + 2 := wrap_small _ (by omega) (by omega)
        have hw3 : IntKind.wrap .i64 ((R : Int) + 2 - (p : Int)) = (NQ : Int) := by rw [wrap_small _ (by omega) (by omega)]; omega
        by_cases hb0 : 255 < N
        · have hr : intv s p = .error (37, p) := by unfold intv; rw [if_neg hg, if_pos (by rw [← hN, hB]; omega)]
          rw [hr]
          have j0 : (255 : Int) < (N : Int) := by omega
          clear hr hR hN hQ hB hg
          go_enter Tryz.func36, Tryz.ntmps36
          go_wp2_with first
            | (go_at_call 52; (with_reducible refine (hN1.out _ H.out.sx).mono ?_); rintro e w5 ⟨rfl, h5⟩; have X5 : Hid (Room base w5 b s m p v D ∧ Below base w w5) := ⟨H.out.kept h5, h5.mono bs⟩; clear h5)
            | (go_at_call 18; (with_reducible refine (hC.out _ X5.out.1.sx).mono ?_); rintro e w6 ⟨rfl, h6⟩; have X6 : Hid (Room base w6 b s m p v D ∧ Below base w w6) := ⟨X5.out.1.kept h6, X5.out.2.trans (h6.mono X5.out.1.size)⟩; clear h6)
            | (go_at_call 52; (with_reducible refine (hN2.out _ X6.out.1.sx).mono ?_); rintro e w7 ⟨rfl, h7⟩; have X7 : Hid (Room base w7 b s m p v D ∧ Below base w w7) := ⟨X6.out.1.kept h7, X6.out.2.trans (h7.mono X6.out.1.size)⟩; clear h7)
            | (go_at_call 18; (with_reducible refine (hE.out _ X7.out.1.sx).mono ?_); rintro e w8 ⟨rfl, h8⟩; have X8 : Hid (Room base w8 b s m p v D ∧ Below base w w8) := ⟨X7.out.1.kept h8, X7.out.2.trans (h8.mono X7.out.1.size)⟩; have k3 := X8.out.1.sx.c3; have kl := X8.out.1.sx.lt; clear h8)
            | (go_at_call 19; refine (X8.out.1.no 37 p).mono ?_; rintro e w9 ⟨rfl, h9, g9⟩; have X9 : Hid (SX w9 b s m p v 37 p ∧ Below base w w9) := ⟨h9, X8.out.2.trans g9⟩; clear h9 g9)
          go_end0
          exact ⟨rfl, X9.out.2, v, X9.out.1⟩
        by_cases hb1 : 255 < K
        · have hr : intv s p = .error (37, p) := by unfold intv; rw [if_neg hg, if_pos (by rw [← hN, hB]; omega)]
          rw [hr]
          have j0 : ¬ (255 : Int) < (N : Int) := by omega
          have j1 : (255 : Int) < (K : Int) := by omega
          clear hr hR hN hQ hB hg
          go_enter Tryz.func36, Tryz.ntmps36
          go_wp2_with first
            | (go_at_call 52; (with_reducible refine (hN1.out _ H.out.sx).mono ?_); rintro e w5 ⟨rfl, h5⟩; have X5 : Hid (Room base w5 b s m p v D ∧ Below base w w5) := ⟨H.out.kept h5, h5.mono bs⟩; clear h5)
            | (go_at_call 18; (with_reducible refine (hC.out _ X5.out.1.sx).mono ?_); rintro e w6 ⟨rfl, h6⟩; have X6 : Hid (Room base w6 b s m p v D ∧ Below base w w6) := ⟨X5.out.1.kept h6, X5.out.2.trans (h6.mono X5.out.1.size)⟩; clear h6)
            | (go_at_call 52; (with_reducible refine (hN2.out _ X6.out.1.sx).mono ?_); rintro e w7 ⟨rfl, h7⟩; have X7 : Hid (Room base w7 b s m p v D ∧ Below base w w7) := ⟨X6.out.1.kept h7, X6.out.2.trans (h7.mono X6.out.1.size)⟩; clear h7)
            | (go_at_call 18; (with_reducible refine (hE.out _ X7.out.1.sx).mono ?_); rintro e w8 ⟨rfl, h8⟩; have X8 : Hid (Room base w8 b s m p v D ∧ Below base w w8) := ⟨X7.out.1.kept h8, X7.out.2.trans (h8.mono X7.out.1.size)⟩; have k3 := X8.out.1.sx.c3; have kl := X8.out.1.sx.lt; clear h8)
            | (go_at_call 19; refine (X8.out.1.no 37 p).mono ?_; rintro e w9 ⟨rfl, h9, g9⟩; have X9 : Hid (SX w9 b s m p v 37 p ∧ Below base w w9) := ⟨h9, X8.out.2.trans g9⟩; clear h9 g9)
          go_end0
          exact ⟨rfl, X9.out.2, v, X9.out.1⟩
        by_cases hb2 : K < N
        · have hr : intv s p = .error (37, p) := by unfold intv; rw [if_neg hg, if_pos (by rw [← hN, hB]; omega)]
          rw [hr]
          have j0 : ¬ (255 : Int) < (N : Int) := by omega
          have j1 : ¬ (255 : Int) < (K : Int) := by omega
          have j3 : (K : Int) < (N : Int) := by omega
          clear hr hR hN hQ hB hg
          go_enter Tryz.func36, Tryz.ntmps36
          go_wp2_with first
            | (go_at_call 52; (with_reducible refine (hN1.out _ H.out.sx).mono ?_); rintro e w5 ⟨rfl, h5⟩; have X5 : Hid (Room base w5 b s m p v D ∧ Below base w w5) := ⟨H.out.kept h5, h5.mono bs⟩; clear h5)
            | (go_at_call 18; (with_reducible refine (hC.out _ X5.out.1.sx).mono ?_); rintro e w6 ⟨rfl, h6⟩; have X6 : Hid (Room base w6 b s m p v D ∧ Below base w w6) := ⟨X5.out.1.kept h6, X5.out.2.trans (h6.mono X5.out.1.size)⟩; clear h6)
            | (go_at_call 52; (with_reducible refine (hN2.out _ X6.out.1.sx).mono ?_); rintro e w7 ⟨rfl, h7⟩; have X7 : Hid (Room base w7 b s m p v D ∧ Below base w w7) := ⟨X6.out.1.kept h7, X6.out.2.trans (h7.mono X6.out.1.size)⟩; clear h7)
            | (go_at_call 18; (with_reducible refine (hE.out _ X7.out.1.sx).mono ?_); rintro e w8 ⟨rfl, h8⟩; have X8 : Hid (Room base w8 b s m p v D ∧ Below base w w8) := ⟨X7.out.1.kept h8, X7.out.2.trans (h8.mono X7.out.1.size)⟩; have k3 := X8.out.1.sx.c3; have kl := X8.out.1.sx.lt; clear h8)
            | (go_at_call 19; refine (X8.out.1.no 37 p).mono ?_; rintro e w9 ⟨rfl, h9, g9⟩; have X9 : Hid (SX w9 b s m p v 37 p ∧ Below base w w9) := ⟨h9, X8.out.2.trans g9⟩; clear h9 g9)
          go_end0
          exact ⟨rfl, X9.out.2, v, X9.out.1⟩
        have hr : intv s p = .ok (repT (N : Int) (K : Int), p + NQ) := by unfold intv; rw [if_neg hg, if_neg (by rw [← hN, hB]; omega), ← hN, hB, ← hR, hNQ]; congr 2; omega
        rw [hr]
        have j0 : ¬ (255 : Int) < (N : Int) := by omega
        have j1 : ¬ (255 : Int) < (K : Int) := by omega
        have j3 : ¬ (K : Int) < (N : Int) := by omega
        clear hr hR hN hQ hB hg
        have hnq : NQ ≤ 2000 := by omega
        clear hNQ
        go_enter Tryz.func36, Tryz.ntmps36
        go_wp2_with first
          | (go_at_call 52; (with_reducible refine (hN1.out _ H.out.sx).mono ?_); rintro e w5 ⟨rfl, h5⟩; have X5 : Hid (Room base w5 b s m p v D ∧ Below base w w5) := ⟨H.out.kept h5, h5.mono bs⟩; clear h5)
          | (go_at_call 18; (with_reducible refine (hC.out _ X5.out.1.sx).mono ?_); rintro e w6 ⟨rfl, h6⟩; have X6 : Hid (Room base w6 b s m p v D ∧ Below base w w6) := ⟨X5.out.1.kept h6, X5.out.2.trans (h6.mono X5.out.1.size)⟩; clear h6)
          | (go_at_call 52; (with_reducible refine (hN2.out _ X6.out.1.sx).mono ?_); rintro e w7 ⟨rfl, h7⟩; have X7 : Hid (Room base w7 b s m p v D ∧ Below base w w7) := ⟨X6.out.1.kept h7, X6.out.2.trans (h7.mono X6.out.1.size)⟩; clear h7)
          | (go_at_call 18; (with_reducible refine (hE.out _ X7.out.1.sx).mono ?_); rintro e w8 ⟨rfl, h8⟩; have X8 : Hid (Room base w8 b s m p v D ∧ Below base w w8) := ⟨X7.out.1.kept h8, X7.out.2.trans (h8.mono X7.out.1.size)⟩; have k3 := X8.out.1.sx.c3; have kl := X8.out.1.sx.lt; clear h8)
          | (go_at_call 22; refine (X8.out.1.put0 (t := repT (N : Int) (K : Int)) rfl (n := NQ) (q := p + NQ) rfl (by omega)).mono ?_; rintro e w9 h9; have hz := h9.1; subst hz; have X9 : Hid (Puts base w b s m p D (.ok (repT (N : Int) (K : Int), p + NQ)) (.returned (.tuple #[])) w9) := h9.from X8.out.2; clear h9)
        go_end0
        exact X9.out
end Go.Proofs.YtloeajhmmjdlgaaGreatDoor
