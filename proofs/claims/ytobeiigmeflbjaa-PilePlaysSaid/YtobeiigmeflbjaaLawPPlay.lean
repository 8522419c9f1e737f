/-
  The law PilePlays.
-/
import Derived.Test.YtobeiigmeflbjaaOver4
import Derived.Laws.EntriesVeiled
namespace Go.Proofs.Ytobeiigmeflbjaa
open Go Go.RowKit Go.Shelf
attribute [local go_sem] ext_cell

/-- A step of a script. -/
structure Sp where
  kind : Int
  n : Int
  lv : Int
  s : ByteArray
  tn : Int
  ii : Int
/-- A script that came in. -/
def ArgP (W : World) (v : Value) (rs : List Sp) : Prop :=
  (∃ p cap, v = .slice p 0 cap ∧ rs = []) ∨ ∃ g off cap, v = .slice (some ⟨g, off, none⟩) rs.length cap ∧ g < W.heap.size ∧ rs.length ≤ cap ∧ cap ≤ maxLen ∧ ∀ (i : Nat) (x : Sp), rs[i]? = some x →
    ((Lit.int .i64 x.lv).wf = true ∧ (Lit.int .i64 x.tn).wf = true) ∧ W.cell? ⟨g, off + i * 6, none⟩ = some (.int .i64 x.kind) ∧ W.cell? ⟨g, off + i * 6 + 1, none⟩ = some (.int .i64 x.n) ∧ W.cell? ⟨g, off + i * 6 + 2, none⟩ = some (.int .i64 x.lv) ∧ W.cell? ⟨g, off + i * 6 + 3, none⟩ = some (.string x.s) ∧ W.cell? ⟨g, off + i * 6 + 4, none⟩ = some (.int .i64 x.tn) ∧ W.cell? ⟨g, off + i * 6 + 5, none⟩ = some (.int .i64 x.ii)
theorem ArgP.slice {W : World} {v : Value} {rs : List Sp} (h : ArgP W v rs) : ∃ q cap, v = .slice q rs.length cap ∧ rs.length ≤ maxLen ∧ ∀ (i : Nat) (x : Sp), rs[i]? = some x → ∃ g off, q = some ⟨g, off, none⟩ ∧ g < W.heap.size ∧
    ((Lit.int .i64 x.lv).wf = true ∧ (Lit.int .i64 x.tn).wf = true) ∧ W.cell? ⟨g, off + i * 6, none⟩ = some (.int .i64 x.kind) ∧ W.cell? ⟨g, off + i * 6 + 1, none⟩ = some (.int .i64 x.n) ∧ W.cell? ⟨g, off + i * 6 + 2, none⟩ = some (.int .i64 x.lv) ∧ W.cell? ⟨g, off + i * 6 + 3, none⟩ = some (.string x.s) ∧ W.cell? ⟨g, off + i * 6 + 4, none⟩ = some (.int .i64 x.tn) ∧ W.cell? ⟨g, off + i * 6 + 5, none⟩ = some (.int .i64 x.ii) := by
  rcases h with ⟨p, cap, rfl, rfl⟩ | ⟨g, off, cap, rfl, hg, hl, hm, hc⟩
  · exact ⟨p, cap, rfl, Nat.zero_le _, fun i x hx => by simp at hx⟩
  · exact ⟨_, cap, rfl, Nat.le_trans hl hm, fun i x hx => ⟨g, off, rfl, hg, hc i x hx⟩⟩

/-- The law's world beside another pile. -/
structure PX (n : Nat) (w : World) (wb pb ab ob : Nat) (v lv ov : Value) (L M : List Th) (W : World) : Prop where
  h : HW n wb pb ab v lv L L W
  o : PT n W ob ov M
  d : ∀ k, foot ob ov k → ¬ wfoot wb pb v lv k
  bel : Below n w W
  hn : n ≤ w.heap.size
section
variable {n : Nat} {w : World} {wb pb ab ob : Nat} {v lv ov ov' : Value} {L M M' : List Th} {W W' : World}
theorem PX.len (h : PX n w wb pb ab ob v lv ov L M W) : n ≤ W.heap.size := Nat.le_trans h.hn h.bel.size
theorem PX.kept (h : PX n w wb pb ab ob v lv ov L M W) (hb : Below W.heap.size W W') : PX n w wb pb ab ob v lv ov L M W' := ⟨h.h.kept hb, h.o.kept hb, h.d, chain h.bel hb h.hn, h.hn⟩
/-- A call on the law's pile. -/
theorem PX.play (h : PX n w wb pb ab ob v lv ov L M W) (hd : DP n wb pb ab v lv L W W') : ∃ v' lv' L', PX n w wb pb ab ob v' lv' ov L' M W' ∧ L'.length ≤ L.length + 1 := by
  obtain ⟨v1, l1, L1, h1, h2, h3, h4, h5⟩ := hd
  refine ⟨v1, l1, L1, ⟨h1, h.o.fr h5 h.d, fun k hk q => ?_, chainF h.bel h5 h.hn h.h.lo, h.hn⟩, h2⟩
  have hlt := h.o.lt k hk
  refine h.d k hk ?_
  rcases q with q | (q | q) | q
  · exact .inl q
  · exact .inr (.inl (.inl q))
  · exact .inr (.inl (.inr (moved_in h3 hlt q)))
  · exact .inr (.inr (moved_in h4 hlt q))
/-- A call on the other pile. -/
theorem PX.other (h : PX n w wb pb ab ob v lv ov L M W) (ho : PT n W' ob ov' M') (hm : moved ov ov' W.heap.size) (hf : Fr (foot ob ov) W W') : PX n w wb pb ab ob v lv ov' L M' W' := by
  refine ⟨h.h.fr hf (fun k hk q => h.d k q hk) (pt_other h.o h.h.ha (by decide) (by decide)), ho, fun k hk q => ?_, chainF h.bel hf h.hn h.o.foot, h.hn⟩
  have hlt := h.h.lt k q
  refine h.d k ?_ q
  rcases hk with hk | hk
  · exact .inl hk
  · exact .inr (moved_in hm hlt hk)
end

set_option maxRecDepth 100000 in
set_option maxHeartbeats 16000000 in
theorem law_pplay (rs : List Sp) (v0 : Value) (w : World) (hz : ArgP w v0 rs) :
    Calls Try.prog 3 #[v0] w fun e w' => e = .returned (.bool true) ∧ Below w.heap.size w w' := by
  obtain ⟨q, cap0, rfl, hlen, hc⟩ := hz.slice
  have HC : Hid (∀ (i : Nat) (x : Sp), rs[i]? = some x → ∃ g off, q = some ⟨g, off, none⟩ ∧ g < w.heap.size ∧ ((Lit.int .i64 x.lv).wf = true ∧ (Lit.int .i64 x.tn).wf = true) ∧ w.cell? ⟨g, off + i * 6, none⟩ = some (.int .i64 x.kind) ∧ w.cell? ⟨g, off + i * 6 + 1, none⟩ = some (.int .i64 x.n) ∧ w.cell? ⟨g, off + i * 6 + 2, none⟩ = some (.int .i64 x.lv) ∧ w.cell? ⟨g, off + i * 6 + 3, none⟩ = some (.string x.s) ∧ w.cell? ⟨g, off + i * 6 + 4, none⟩ = some (.int .i64 x.tn) ∧ w.cell? ⟨g, off + i * 6 + 5, none⟩ = some (.int .i64 x.ii)) := hc
  clear hc hz
  unfold maxLen at hlen
  go_enter Try.func3, Try.ntmps3
  go_upto_region 3 with first | (go_at_call 9; (with_reducible refine (known_c _).mono ?_); rintro e w0 ⟨rfl, hb⟩; have B0 : Hid (Below w.heap.size w w0) := hb; clear hb) | (go_at_call 10; (with_reducible refine (newT _).mono ?_); rintro e w1 ⟨rfl, hp, hb, hs⟩; have P1 : Hid (PT w.heap.size w1 w0.heap.size (.slice none 0 0) []) := ⟨hp.hb, B0.out.size, ownsRow_mono hp.own B0.out.size⟩; have B1 : Hid (Below w.heap.size w w1) := chain B0.out hb (Nat.le_refl _); clear hp hb hs)
  have N2 : Hid ((w1.alloc (.cells #[.pointer (some ⟨w0.heap.size, 0, none⟩), .slice none 0 0, .nilFunc] 33)).heap[w1.heap.size]? = some (.cells #[.pointer (some ⟨w0.heap.size, 0, none⟩), .slice none 0 0, .nilFunc] 33 (0, 0))) := alloc_new w1 _
  have E2 : Hid (Below w1.heap.size w1 (w1.alloc (.cells #[.pointer (some ⟨w0.heap.size, 0, none⟩), .slice none 0 0, .nilFunc] 33))) := (Below.refl _ _).alloc (Nat.le_refl _) _
  generalize (w1.alloc (.cells #[.pointer (some ⟨w0.heap.size, 0, none⟩), .slice none 0 0, .nilFunc] 33)) = w2 at N2 E2 ⊢
  obtain ⟨wb, hwb⟩ : ∃ wb, w1.heap.size = wb := ⟨_, rfl⟩
  obtain ⟨pb, hpb⟩ : ∃ pb, w0.heap.size = pb := ⟨_, rfl⟩
  have P2 : Hid (PT w.heap.size w2 pb (.slice none 0 0) [] ∧ Below w.heap.size w w2 ∧ w.heap.size ≤ wb ∧ w2.heap[wb]? = some (.cells #[.pointer (some ⟨pb, 0, none⟩), .slice none 0 0, .nilFunc] 33 (0, 0))) := ⟨by rw [← hpb]; exact P1.out.kept E2.out, chain B1.out E2.out (Nat.le_refl _), by rw [← hwb]; exact B1.out.size, by rw [← hwb, ← hpb]; exact N2.out⟩
  rw [hwb, hpb]
  clear hwb hpb N2 E2 P1 B1 B0
  go_upto_region 4 with (go_at_call 10; (with_reducible refine (newT _).mono ?_); rintro e w3 ⟨rfl, hp, hb, hs⟩; have P3 : Hid (PT w.heap.size w3 pb (.slice none 0 0) [] ∧ Below w.heap.size w w3 ∧ w.heap.size ≤ wb ∧ w3.heap[wb]? = some (.cells #[.pointer (some ⟨pb, 0, none⟩), .slice none 0 0, .nilFunc] 33 (0, 0))) := ⟨P2.out.1.kept hb, chain P2.out.2.1 hb (Nat.le_refl _), P2.out.2.2.1, (hb.block _ (lt_of_heap P2.out.2.2.2)).trans P2.out.2.2.2⟩; have O3 : Hid (PT w.heap.size w3 w2.heap.size (.slice none 0 0) [] ∧ pb < w2.heap.size) := ⟨⟨hp.hb, P2.out.2.1.size, ownsRow_mono hp.own P2.out.2.1.size⟩, lt_of_heap P2.out.1.hb⟩; clear hp hb hs)
  obtain ⟨ob, hob⟩ : ∃ ob, w2.heap.size = ob := ⟨_, rfl⟩
  rw [hob] at O3 ⊢
  clear hob
  have c0 : w3.cell? ⟨wb, 0, none⟩ = some (.pointer (some ⟨pb, 0, none⟩)) := cell_row P3.out.2.2.2 (i := 0) rfl
  have c2 : w3.cell? ⟨wb, 2, none⟩ = some .nilFunc := cell_row P3.out.2.2.2 (i := 2) rfl
  have f2 := frz_row P3.out.2.2.2 2
  have lb := lt_of_heap P3.out.2.2.2
  go_upto_region 8 with (go_at_call 11; (with_reducible refine (allT _ _).mono ?_); rintro e w4 ⟨rfl, rfl⟩)
  have X0 : Hid (PX w.heap.size w wb pb w3.heap.size ob (.slice none 0 0) (.slice none 0 0) (.slice none 0 0) [] [] ((w3.setCell ⟨wb, 2, none⟩ (.func (.func 38) #[] #[.pointer (some ⟨w3.heap.size, 0, none⟩)])).alloc (.cells #[.pointer (some ⟨pb, 0, none⟩)] 25))) := by
    have hf : Fr (fun z => z = wb) w3 (w3.setCell ⟨wb, 2, none⟩ (.func (.func 38) #[] #[.pointer (some ⟨w3.heap.size, 0, none⟩)])) := (Fr.refl (fun z => z = wb) w3).setCell (p := ⟨wb, 2, none⟩) rfl _
    have hz : (w3.setCell ⟨wb, 2, none⟩ (.func (.func 38) #[] #[.pointer (some ⟨w3.heap.size, 0, none⟩)])).heap.size = w3.heap.size := by simp [World.setCell]
    have hw := heap_set_in P3.out.2.2.2 2 (.func (.func 38) #[] #[.pointer (some ⟨w3.heap.size, 0, none⟩)])
    have hp := P3.out.1.fr hf (fun z hz e => pt_other P3.out.1 P3.out.2.2.2 (by decide) (by decide) (e ▸ hz))
    have ho := O3.out.1.fr hf (fun z hz e => pt_other O3.out.1 P3.out.2.2.2 (by decide) (by decide) (e ▸ hz))
    have hA := alloc_new (w3.setCell ⟨wb, 2, none⟩ (.func (.func 38) #[] #[.pointer (some ⟨w3.heap.size, 0, none⟩)])) (.cells #[.pointer (some ⟨pb, 0, none⟩)] 25)
    rw [hz] at hA
    generalize (w3.setCell ⟨wb, 2, none⟩ (.func (.func 38) #[] #[.pointer (some ⟨w3.heap.size, 0, none⟩)])) = w5 at hf hz hw hp ho hA ⊢
    have hb : Below w5.heap.size w5 (w5.alloc (.cells #[.pointer (some ⟨pb, 0, none⟩)] 25)) := (Below.refl _ _).alloc (Nat.le_refl _) _
    refine ⟨⟨hp.kept hb, (hb.block _ (lt_of_heap hw)).trans hw, P3.out.2.2.1, World.ownsRow_nil _ _ _ _, (fun g hg => by cases hg), hA⟩, ho.kept hb, fun z hz q => ?_, chain (chainF P3.out.2.1 hf (Nat.le_refl _) (fun z e => e ▸ P3.out.2.2.1)) hb (Nat.le_refl _), Nat.le_refl _⟩
    rcases hz with rfl | hz
    · rcases q with q | (q | q) | q
      · exact ne_type O3.out.1.hb P3.out.2.2.2 (by decide) q
      · have := O3.out.2; omega
      · cases q
      · cases q
    · cases hz
  obtain ⟨ab, hab⟩ : ∃ ab, w3.heap.size = ab := ⟨_, rfl⟩
  generalize ((w3.setCell ⟨wb, 2, none⟩ (.func (.func 38) #[] #[.pointer (some ⟨w3.heap.size, 0, none⟩)])).alloc (.cells #[.pointer (some ⟨pb, 0, none⟩)] 25)) = w5 at X0 ⊢
  rw [hab] at X0 ⊢
  clear hab c0 c2 f2 lb P3 O3 P2
  go_loopw [6] (fun i wr => ∃ (k : Nat) (v lv ov : Value) (L M : List Th), k ≤ rs.length ∧ k ≤ 300 ∧ i = .int .i64 k ∧ L.length ≤ k ∧ M.length = k ∧ PX w.heap.size w wb pb ab ob v lv ov L M wr) (fun i _ => rs.length - (intOf i).toNat)
  case atStart => exact ⟨0, _, _, _, [], [], Nat.zero_le _, Nat.zero_le _, rfl, Nat.le_refl _, rfl, X0.out⟩
  case round =>
    obtain ⟨k, v, lv, ov, L, M, hk, hk3, rfl, hLk, hMk, hX⟩ := hrel
    have X : Hid (PX w.heap.size w wb pb ab ob v lv ov L M wr) := hX
    clear hX X0
    go_upto_region 8 with fail
    go_cut [42] (fun c wx => c = .bool (decide (k < rs.length ∧ k < 300)) ∧ wx = wr)
    case first =>
      go_wp2_with fail
      all_goals go_meet
      all_goals first | exact ⟨by rw [decide_eq_false (by omega)], rfl⟩ | exact ⟨by congr 1; exact decide_eq_decide.2 (by omega), rfl⟩
    case rest =>
      obtain ⟨rfl, rfl⟩ := hcut
      by_cases hgo : k < rs.length ∧ k < 300
      · have hd : decide (k < rs.length ∧ k < 300) = true := decide_eq_true hgo
        obtain ⟨hlt, h3⟩ := hgo
        obtain ⟨g, off, rfl, hg, ⟨wfl, wft⟩, hx0, hx1, hx2, hx3, hx4, hx5⟩ := HC.out k _ (List.getElem?_eq_getElem hlt)
        generalize rs[k] = x at wfl wft hx0 hx1 hx2 hx3 hx4 hx5
        obtain ⟨kd, m, le, sx, tn, ii⟩ := x
        simp only at wfl wft hx0 hx1 hx2 hx3 hx4 hx5
        have d0 := (X.out.bel.cell (p := ⟨g, off + k * 6, none⟩) hg).trans hx0
        have d1 := (X.out.bel.cell (p := ⟨g, off + k * 6 + 1, none⟩) hg).trans hx1
        have d2 := (X.out.bel.cell (p := ⟨g, off + k * 6 + 2, none⟩) hg).trans hx2
        have d3 := (X.out.bel.cell (p := ⟨g, off + k * 6 + 3, none⟩) hg).trans hx3
        have d4 := (X.out.bel.cell (p := ⟨g, off + k * 6 + 4, none⟩) hg).trans hx4
        have d5 := (X.out.bel.cell (p := ⟨g, off + k * 6 + 5, none⟩) hg).trans hx5
        clear hx0 hx1 hx2 hx3 hx4 hx5 HC
        have i0 : (0 : Int) ≤ (k : Int) := by omega
        have i1 : (k : Int) < (rs.length : Int) := by omega
        have hl : L.length ≤ 100000 := by omega
        rw [hd]
        go_upto_region 11 with fail
        have X1 : Hid (PX w.heap.size w wb pb ab ob v lv ov L M (wc.alloc (.cells #[.int .i64 kd, .int .i64 m, .int .i64 le, .string sx, .int .i64 tn, .int .i64 ii] 36))) := X.out.kept ((Below.refl _ _).alloc (Nat.le_refl _) _)
        have N1 := alloc_new wc (.cells #[.int .i64 kd, .int .i64 m, .int .i64 le, .string sx, .int .i64 tn, .int .i64 ii] 36)
        generalize (wc.alloc (.cells #[.int .i64 kd, .int .i64 m, .int .i64 le, .string sx, .int .i64 tn, .int .i64 ii] 36)) = w1' at X1 N1 ⊢
        generalize wc.heap.size = bx at N1 ⊢
        clear d0 d1 d2 d3 d4 d5 X
        have k0 : w1'.cell? ⟨bx, 0, none⟩ = some (.int .i64 kd) := cell_row N1 (i := 0) rfl
        have k1 : w1'.cell? ⟨bx, 1, none⟩ = some (.int .i64 m) := cell_row N1 (i := 1) rfl
        have k2 : w1'.cell? ⟨bx, 2, none⟩ = some (.int .i64 le) := cell_row N1 (i := 2) rfl
        have k3 : w1'.cell? ⟨bx, 3, none⟩ = some (.string sx) := cell_row N1 (i := 3) rfl
        have k4 : w1'.cell? ⟨bx, 4, none⟩ = some (.int .i64 tn) := cell_row N1 (i := 4) rfl
        have k5 : w1'.cell? ⟨bx, 5, none⟩ = some (.int .i64 ii) := cell_row N1 (i := 5) rfl
        have lbx : bx < w1'.heap.size := lt_of_heap N1
        have lwb : wb < w1'.heap.size := lt_of_heap X1.out.h.hw
        have cp0 := X1.out.h.c0
        have cp2 := X1.out.h.c2
        have hn1 := X1.out.len
        clear N1
        by_cases h6 : kd = 6
        · as_aux_lemma =>
            subst h6
            go_upto_region 15 with fail
            have XA : Hid (PX w.heap.size w wb pb ab ob v lv ov L M (w1'.alloc (.cells #[.pointer (some ⟨pb, 0, none⟩)] 25)).drew) := X1.out.kept ((Below.refl _ _).alloc (Nat.le_refl _) _).drew
            have HA : Hid ((w1'.alloc (.cells #[.pointer (some ⟨pb, 0, none⟩)] 25)).drew.heap[w1'.heap.size]? = some (.cells #[.pointer (some ⟨pb, 0, none⟩)] 25 (0, 0))) := alloc_new w1' _
            go_region_with first | (go_at_call 11; (with_reducible refine (allT _ _).mono ?_); rintro e w4 ⟨rfl, rfl⟩) | (go_at_call 12; (with_reducible refine (over_c XA.out.h XA.out.len hl w1'.heap.size HA.out 6 m le sx tn ii wfl wft).mono ?_); rintro e w5' ⟨rfl, hdp⟩; obtain ⟨v5, lv5, L5, hx5, hl5⟩ := XA.out.play hdp; have X5 : Hid (PX w.heap.size w wb pb ab ob v5 lv5 ov L5 M w5' ∧ L5.length ≤ L.length + 1) := ⟨hx5, hl5⟩; clear hdp hx5 hl5)
            all_goals
              have hk1 : (((k : Int) + 1) != ((k : Int) + 1)) = false := by simp
              have hMl : M.length ≤ 1000000 := by omega
              go_upto_region 19 with (go_at_call 14; (with_reducible refine (pushT X5.out.1.o X5.out.1.len hMl (((k : Int), ⟨#[]⟩) : Th)).mono ?_); rintro e w6 ⟨rfl, ov6, ho6, hm6, hf6⟩; have X6 : Hid (PX w.heap.size w wb pb ab ob v5 lv5 ov6 L5 (M ++ [(((k : Int), ⟨#[]⟩) : Th)]) w6) := X5.out.1.other ho6 hm6 hf6; clear ho6 hm6 hf6)
              have LN : Hid (Calls Try.prog 15 #[.pointer (some ⟨ob, 0, none⟩)] w6 fun e w' => e = .returned (.int .i64 ((k : Int) + 1)) ∧ w' = w6) := by
                have := lenT X6.out.o
                rw [show (((M ++ [(((k : Int), ⟨#[]⟩) : Th)]).length : Nat) : Int) = (k : Int) + 1 by simp; omega] at this
                exact this
              go_wp2_with (go_at_call 15; (with_reducible refine LN.out.mono ?_); rintro e w9 ⟨rfl, h9⟩; subst w9)
              go_roundw
              case rel => exact ⟨k + 1, v5, lv5, ov6, L5, _, by omega, by omega, by go_num, by have := X5.out.2; omega, by simp; omega, X6.out⟩
              case measure => simp only [intOf]; omega
        · have e6 : (kd == 6) = false := by simpa using h6
          by_cases h7 : kd = 7
          · as_aux_lemma =>
              subst h7
              clear h6
              go_upto_region 17 with fail
              have XA : Hid (PX w.heap.size w wb pb ab ob v lv ov L M w1'.drew) := X1.out.kept (Below.refl _ _).drew
              go_region_with (go_at_call 12; (with_reducible refine (over_c XA.out.h XA.out.len hl ab XA.out.h.ha 7 m le sx tn ii wfl wft).mono ?_); rintro e w5' ⟨rfl, hdp⟩; obtain ⟨v5, lv5, L5, hx5, hl5⟩ := XA.out.play hdp; have X5 : Hid (PX w.heap.size w wb pb ab ob v5 lv5 ov L5 M w5' ∧ L5.length ≤ L.length + 1) := ⟨hx5, hl5⟩; clear hdp hx5 hl5)
              all_goals
                have hk1 : (((k : Int) + 1) != ((k : Int) + 1)) = false := by simp
                have hMl : M.length ≤ 1000000 := by omega
                go_upto_region 19 with (go_at_call 14; (with_reducible refine (pushT X5.out.1.o X5.out.1.len hMl (((k : Int), ⟨#[]⟩) : Th)).mono ?_); rintro e w6 ⟨rfl, ov6, ho6, hm6, hf6⟩; have X6 : Hid (PX w.heap.size w wb pb ab ob v5 lv5 ov6 L5 (M ++ [(((k : Int), ⟨#[]⟩) : Th)]) w6) := X5.out.1.other ho6 hm6 hf6; clear ho6 hm6 hf6)
                have LN : Hid (Calls Try.prog 15 #[.pointer (some ⟨ob, 0, none⟩)] w6 fun e w' => e = .returned (.int .i64 ((k : Int) + 1)) ∧ w' = w6) := by
                  have := lenT X6.out.o
                  rw [show (((M ++ [(((k : Int), ⟨#[]⟩) : Th)]).length : Nat) : Int) = (k : Int) + 1 by simp; omega] at this
                  exact this
                go_wp2_with (go_at_call 15; (with_reducible refine LN.out.mono ?_); rintro e w9 ⟨rfl, h9⟩; subst w9)
                go_roundw
                case rel => exact ⟨k + 1, v5, lv5, ov6, L5, _, by omega, by omega, by go_num, by have := X5.out.2; omega, by simp; omega, X6.out⟩
                case measure => simp only [intOf]; omega
          · as_aux_lemma =>
              have e7 : (kd == 7) = false := by simpa using h7
              clear h6 h7
              go_upto_region 18 with (go_at_call 13; (with_reducible refine (does_c X1.out.h hn1 hl kd m sx).mono ?_); rintro e w5' ⟨rfl, hdp⟩; obtain ⟨v5, lv5, L5, hx5, hl5⟩ := X1.out.play hdp; have X5 : Hid (PX w.heap.size w wb pb ab ob v5 lv5 ov L5 M w5' ∧ L5.length ≤ L.length + 1) := ⟨hx5, hl5⟩; clear hdp hx5 hl5)
              have hk1 : (((k : Int) + 1) != ((k : Int) + 1)) = false := by simp
              have hMl : M.length ≤ 1000000 := by omega
              go_upto_region 19 with (go_at_call 14; (with_reducible refine (pushT X5.out.1.o X5.out.1.len hMl (((k : Int), ⟨#[]⟩) : Th)).mono ?_); rintro e w6 ⟨rfl, ov6, ho6, hm6, hf6⟩; have X6 : Hid (PX w.heap.size w wb pb ab ob v5 lv5 ov6 L5 (M ++ [(((k : Int), ⟨#[]⟩) : Th)]) w6) := X5.out.1.other ho6 hm6 hf6; clear ho6 hm6 hf6)
              have LN : Hid (Calls Try.prog 15 #[.pointer (some ⟨ob, 0, none⟩)] w6 fun e w' => e = .returned (.int .i64 ((k : Int) + 1)) ∧ w' = w6) := by
                have := lenT X6.out.o
                rw [show (((M ++ [(((k : Int), ⟨#[]⟩) : Th)]).length : Nat) : Int) = (k : Int) + 1 by simp; omega] at this
                exact this
              go_wp2_with (go_at_call 15; (with_reducible refine LN.out.mono ?_); rintro e w9 ⟨rfl, h9⟩; subst w9)
              go_roundw
              case rel => exact ⟨k + 1, v5, lv5, ov6, L5, _, by omega, by omega, by go_num, by have := X5.out.2; omega, by simp; omega, X6.out⟩
              case measure => simp only [intOf]; omega
      · have hd : decide (k < rs.length ∧ k < 300) = false := decide_eq_false hgo
        rw [hd]
        go_wp2
        go_ret
        exact ⟨rfl, X.out.bel⟩
end Go.Proofs.Ytobeiigmeflbjaa
