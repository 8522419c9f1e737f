/-
  What free, Drop and Clear do.
-/
import Derived.Test.YtmfljfedpdipiaaPut
namespace Go.Proofs.Ytmfljfedpdipiaa
open Go Go.RowKit
attribute [local go_sem] ext_cell

theorem set_set_same {P : Pl} {a : Nat} (x y : Option Ent) : (P.set a x).set a y = P.set a y := by simp

set_option maxRecDepth 100000 in
set_option maxHeartbeats 4000000 in
theorem free_c {w : World} {b pb W M c : Nat} {P : Pl} (h : TB w b pb W M c P) (hp : Probe (hmN P.length) P) {m : List Int → Option Int} {gap : Nat} {e0 : Ent} (hg : P[gap]? = some (some e0)) (hm : Maps (P.set gap none) m) :
    Calls Try.prog 22 #[.pointer (some ⟨b, 0, none⟩), .int .i64 gap] w fun e w' => e = .returned (.tuple #[]) ∧ ∃ Q, TB w' b pb W M c Q ∧ Probe (hmN Q.length) Q ∧ Maps Q m ∧ cnt Q + 1 = cnt P ∧ Q.length = P.length ∧ (∀ k, kblk Q k → kblk P k) ∧ Fr (fun k => k = pb) w w' := by
  have H : Hid (TB w b pb W M c P) := h
  have NE : Hid (P ≠ []) := ne_nil_get hg
  have P2 : Hid (Pow2 P.length) := h.hn NE.out
  obtain ⟨z, hz⟩ := hp.hole hg
  have HO : Hid (Hole (hmN P.length) (P.set gap none) gap (nxt P.length gap) z) := hz
  have HM : Hid (Maps (P.set gap none) m) := hm
  have hcs := cnt_set (y := none) hg
  simp at hcs
  have HC : Hid (cnt (P.set gap none) + 1 = cnt P) := hcs
  have FEW : Hid (2 * cnt P ≤ P.length) := hp.few
  have HG : Hid (P[gap]? = some (some e0)) := hg
  have hgl := get_lt hg
  have hpow := h.pow NE.out
  have c3 := h.c3p NE.out
  have HX : Hid ((((gap : Nat) : Int) + 1) % (P.length : Int) = (nxt P.length gap : Nat)) := emod_nxt hgl
  have LT : Hid (∀ k, hmN P.length k < P.length) := hp.lt
  clear h hp hm hg hz hcs
  have g0 : (0 : Int) ≤ (gap : Int) := by omega
  have g1 : (gap : Int) < (P.length : Int) := by omega
  go_enter Try.func22, Try.ntmps22
  go_upto_region 1 with (go_at_call 39; refine (round_c c3 P2.out _).mono ?_; rw [HX.out]; rintro e6 w6 ⟨rfl, h6⟩; subst w6)
  go_loopw [1, 4] (fun gv av wr => ∃ (g a : Nat) (R : Pl) (es : Ent), gv = .int .i64 g ∧ av = .int .i64 a ∧ TB wr b pb W M c R ∧ R.length = P.length ∧ R[g]? = some (some es) ∧ Hole (hmN P.length) (R.set g none) g a z ∧ Maps (R.set g none) m ∧ cnt (R.set g none) + 1 = cnt P ∧ (∀ k, kblk R k → kblk P k) ∧ Fr (fun k => k = pb) w wr) (fun _ av _ => dist P.length (intOf av).toNat z)
  case atStart => exact ⟨gap, nxt P.length gap, P, e0, rfl, rfl, H.out, rfl, HG.out, HO.out, HM.out, HC.out, fun _ h => h, Fr.refl _ _⟩
  case round =>
    obtain ⟨g, a, R, es, rfl, rfl, hT, hRn, hRg, hH, hMm, hcn, hkb, hFr⟩ := hrel
    have T : Hid (TB wr b pb W M c R) := hT
    have RN : Hid (R.length = P.length) := hRn
    have RG : Hid (R[g]? = some (some es)) := hRg
    have HH : Hid (Hole (hmN P.length) (R.set g none) g a z) := hH
    have MM : Hid (Maps (R.set g none) m) := hMm
    have CN : Hid (cnt (R.set g none) + 1 = cnt P) := hcn
    have KB : Hid (∀ k, kblk R k → kblk P k) := hkb
    have FR : Hid (Fr (fun k => k = pb) w wr) := hFr
    have hgl : g < R.length := get_lt hRg
    have hal : a < R.length := by have := hH.alt; simpa using this
    have hga : g ≠ a := hH.ne
    have HZ : Hid (z < P.length ∧ (R.set g none)[z]? = some none) := ⟨by have := get_lt hH.zf; rw [List.length_set] at this; omega, hH.zf⟩
    clear hT hRg hH hMm hcn hkb hFr c3
    have RE : Hid (R ≠ []) := ne_nil_get RG.out
    have c3 := T.out.c3p RE.out
    have hRl : R.length ≤ 1099511627776 := by omega
    have R2 : Hid (Pow2 R.length) := T.out.hn RE.out
    clear hRn
    have a0 : (0 : Int) ≤ (a : Int) := by omega
    have a1 : (a : Int) < (R.length : Int) := by omega
    have b0 : (0 : Int) ≤ (g : Int) := by omega
    have b1 : (g : Int) < (R.length : Int) := by omega
    have HX1 : Hid ((((a : Nat) : Int) + 1) % (R.length : Int) = (nxt R.length a : Nat)) := emod_nxt hal
    have HX2 : Hid ((((a : Nat) : Int) - (g : Int)) % (R.length : Int) = (dist R.length g a : Nat)) := emod_dist hgl hal
    have hdga := dist_lt hgl hal
    rcases get_cases hal with hq | ⟨e, hq⟩
    · have c5 := T.out.pf2 hq
      have HQ : Hid (R[a]? = some none) := hq
      clear hq
      have y0 := T.out.pc0 RG.out
      have y1 := T.out.pc1 RG.out
      have y2 := T.out.pc2 RG.out
      have z0 := T.out.frp RE.out (g * 3)
      have z1 := T.out.frp RE.out (g * 3 + 1)
      have z2 := T.out.frp RE.out (g * 3 + 2)
      go_wp2
      go_end0
      refine ⟨rfl, R.set g none, T.out.put3 hgl none _ _ _ rfl (fun e he => by cases he), ?_, MM.out, CN.out, by rw [List.length_set]; exact RN.out, ?_, ?_⟩
      · have hd := HH.out.done (by rw [set_get hgl, if_neg hga]; exact HQ.out) (by rw [List.length_set, RN.out]; have := CN.out; have := FEW.out; omega)
        rw [List.length_set, RN.out]
        exact hd
      · rintro k ⟨i, e, o, n, mm, hi, hkv⟩
        rw [set_get hgl] at hi
        split at hi
        · cases hi
        · exact KB.out k ⟨i, e, o, n, mm, hi, hkv⟩
      · exact (((FR.out.setCell (p := ⟨pb, g * 3, none⟩) rfl _).setCell (p := ⟨pb, g * 3 + 1, none⟩) rfl _).setCell (p := ⟨pb, g * 3 + 2, none⟩) rfl _)
    · obtain ⟨kv, key, val⟩ := e
      obtain ⟨⟨gk, hkv, hgk⟩, hkl⟩ := T.out.hk a _ hq
      simp only at hkv hgk hkl
      subst hkv
      have c5 := T.out.pc2 hq
      have c4 := T.out.pc0 hq
      have HQ : Hid (R[a]? = some (some ⟨.slice (some ⟨gk, 0, none⟩) key.length key.length, key, val⟩)) := hq
      have KE : Hid (ArgI wr (.slice (some ⟨gk, 0, none⟩) key.length key.length) key) := T.out.key hq
      have GK : Hid (KeyAt wr (.slice (some ⟨gk, 0, none⟩) key.length key.length) key ∧ key.length = W) := ⟨⟨gk, rfl, hgk⟩, hkl⟩
      have hkb : key.length ≤ 128 := by have := T.out.hW; omega
      clear hq hgk hkl
      have lb := T.out.ltb
      have hhm : hmN R.length key < R.length := by have := LT.out key; have e := RN.out; rw [e]; exact this
      have HX3 : Hid ((((a : Nat) : Int) - ((hmN R.length key : Nat) : Int)) % (R.length : Int) = (dist R.length (hmN R.length key) a : Nat)) := emod_dist hhm hal
      have haz : a ≠ z := fun q => by have := HZ.out.2; rw [← q, set_get hgl, if_neg hga, HQ.out] at this; cases this
      have HDZ : Hid (dist P.length (nxt R.length a) z + 1 = dist P.length a z) := (by rw [RN.out]; exact dist_nxt (by have := RN.out; omega) HZ.out.1 haz : dist P.length (nxt R.length a) z + 1 = dist P.length a z)
      have hd1 := dist_lt hhm hal
      generalize hmh : hmN R.length key = hh at HX3 hhm hd1
      have HMH : Hid (hmN R.length key = hh) := hmh
      clear hmh haz
      by_cases hway : dist R.length g a ≤ dist R.length hh a
      · have i5 : ((dist R.length g a : Nat) : Int) ≤ ((dist R.length hh a : Nat) : Int) := by omega
        have HW : Hid (dist R.length g a ≤ dist R.length hh a) := hway
        clear hway
        go_upto_region 5 with first | (go_at_call 37; refine (home_c c3 lb R2.out KE.out).mono ?_; rw [HMH.out]; rintro e5 w5 ⟨rfl, hb⟩; have B5 : Hid (Below wr.heap.size wr w5) := hb; have c35 := (T.out.kept hb).c3p RE.out; clear hb) | (go_at_call 39; (with_reducible refine (round_c c35 R2.out ((a : Int) - (hh : Int))).mono ?_); rw [HX3.out]; rintro e6 w6 ⟨rfl, h6⟩; subst w6) | (go_at_call 39; (with_reducible refine (round_c c35 R2.out ((a : Int) - (g : Int))).mono ?_); rw [HX2.out]; rintro e6 w6 ⟨rfl, h6⟩; subst w6)
        have T5 : Hid (TB w5 b pb W M c R) := T.out.kept B5.out
        have lb5 := T5.out.ltb
        have lp5 := T5.out.ltp RE.out
        have x0 := T5.out.pc0 HQ.out
        have x1 := T5.out.pc1 HQ.out
        have x2 := T5.out.pc2 HQ.out
        clear c3 c4 c5
        refine wp_region_last_lit (List.cons_ne_nil _ _) (by kernel_rfl) (by kernel_rfl) (by kernel_rfl) ?_
        dsimp only [List.dropLast, List.getLast]
        repeat (go_big_quiet_step (first | exact rfl))
        refine wpQuiet_nil ?_
        intro w6 hw
        have B6 : Hid (Below wr.heap.size wr w6) := chain B5.out (ext_of hw) (Nat.le_refl _)
        clear hw x0 x1 x2 c35
        have T6 : Hid (TB w6 b pb W M c R) := T.out.kept B6.out
        have y0 := T6.out.pc0 RG.out
        have y1 := T6.out.pc1 RG.out
        have y2 := T6.out.pc2 RG.out
        have z0 := T6.out.frp RE.out (g * 3)
        have z1 := T6.out.frp RE.out (g * 3 + 1)
        have z2 := T6.out.frp RE.out (g * 3 + 2)
        have TS : Hid (TB (((w6.setCell ⟨pb, g * 3, none⟩ (.slice (some ⟨gk, 0, none⟩) key.length key.length)).setCell ⟨pb, g * 3 + 1, none⟩ (.int .i64 val)).setCell ⟨pb, g * 3 + 2, none⟩ (.bool true)) b pb W M c (R.set g (some ⟨.slice (some ⟨gk, 0, none⟩) key.length key.length, key, val⟩))) := T6.out.put3 hgl _ _ _ _ rfl (fun e he => by cases he; exact ⟨GK.out.1.kept B6.out, GK.out.2⟩)
        have FS : Hid (Fr (fun k => k = pb) w (((w6.setCell ⟨pb, g * 3, none⟩ (.slice (some ⟨gk, 0, none⟩) key.length key.length)).setCell ⟨pb, g * 3 + 1, none⟩ (.int .i64 val)).setCell ⟨pb, g * 3 + 2, none⟩ (.bool true))) := ((((FR.out.then B6.out).setCell (p := ⟨pb, g * 3, none⟩) rfl _).setCell (p := ⟨pb, g * 3 + 1, none⟩) rfl _).setCell (p := ⟨pb, g * 3 + 2, none⟩) rfl _)
        have hSE : R.set g (some ⟨.slice (some ⟨gk, 0, none⟩) key.length key.length, key, val⟩) ≠ [] := by simpa using RE.out
        have c38 := TS.out.c3p hSE
        rw [List.length_set] at c38
        go_wp2_with (go_at_call 39; (with_reducible refine (round_c c38 R2.out ((a : Int) + 1)).mono ?_); rw [HX1.out]; rintro e6 w7 ⟨rfl, h7⟩; subst w7)
        go_roundw
        case rel =>
          have hQa : (R.set g none)[a]? = some (some ⟨.slice (some ⟨gk, 0, none⟩) key.length key.length, key, val⟩) := by rw [set_get hgl, if_neg hga]; exact HQ.out
          have hQg : (R.set g none)[g]? = some none := by rw [set_get hgl, if_pos rfl]
          have hmv := HH.out.move hQa (by
            rw [List.length_set, RN.out]
            have := HW.out
            rw [← HMH.out, RN.out] at this
            exact this)
          rw [set_set_same, List.length_set] at hmv
          have hmp := MM.out.move hQg hQa
          rw [set_set_same] at hmp
          have hcm := cnt_move hQg hQa
          rw [set_set_same] at hcm
          refine ⟨a, nxt R.length a, R.set g (some ⟨.slice (some ⟨gk, 0, none⟩) key.length key.length, key, val⟩), ⟨.slice (some ⟨gk, 0, none⟩) key.length key.length, key, val⟩, rfl, rfl, TS.out, by rw [List.length_set]; exact RN.out, ?_, hmv, hmp, by rw [hcm]; exact CN.out, ?_, FS.out⟩
          · rw [set_get hgl, if_neg hga]; exact HQ.out
          · rintro k ⟨i, e, o, n, mm, hi, hkv⟩
            rw [set_get hgl] at hi
            split at hi
            · cases hi; exact KB.out k ⟨a, _, o, n, mm, HQ.out, hkv⟩
            · exact KB.out k ⟨i, e, o, n, mm, hi, hkv⟩
        case measure => simp only [intOf, Int.toNat_natCast]; have := HDZ.out; omega
      · have i5 : ¬ (((dist R.length g a : Nat) : Int) ≤ ((dist R.length hh a : Nat) : Int)) := by omega
        have HW : Hid (dist R.length hh a < dist R.length g a) := (by omega : dist R.length hh a < dist R.length g a)
        clear hway
        go_wp2_with first | (go_at_call 37; refine (home_c c3 lb R2.out KE.out).mono ?_; rw [HMH.out]; rintro e5 w5 ⟨rfl, hb⟩; have B5 : Hid (Below wr.heap.size wr w5) := hb; have c35 := (T.out.kept hb).c3p RE.out; clear hb) | (go_at_call 39; (with_reducible refine (round_c c35 R2.out ((a : Int) - (hh : Int))).mono ?_); rw [HX3.out]; rintro e6 w6 ⟨rfl, h6⟩; subst w6) | (go_at_call 39; (with_reducible refine (round_c c35 R2.out ((a : Int) - (g : Int))).mono ?_); rw [HX2.out]; rintro e6 w6 ⟨rfl, h6⟩; subst w6) | (go_at_call 39; (with_reducible refine (round_c c35 R2.out ((a : Int) + 1)).mono ?_); rw [HX1.out]; rintro e6 w6 ⟨rfl, h6⟩; subst w6)
        go_roundw
        case rel =>
          have hQa : (R.set g none)[a]? = some (some ⟨.slice (some ⟨gk, 0, none⟩) key.length key.length, key, val⟩) := by rw [set_get hgl, if_neg hga]; exact HQ.out
          have hsk := HH.out.skip hQa (by
            rw [List.length_set, RN.out]
            have := HW.out
            rw [← HMH.out, RN.out] at this
            exact this)
          rw [List.length_set] at hsk
          exact ⟨g, nxt R.length a, R, es, rfl, rfl, T.out.kept B5.out, RN.out, RG.out, hsk, MM.out, CN.out, KB.out, FR.out.then B5.out⟩
        case measure => simp only [intOf, Int.toNat_natCast]; have := HDZ.out; omega
end Go.Proofs.Ytmfljfedpdipiaa
