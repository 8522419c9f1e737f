/-
  ClassesNorm: Right, Norm, Not, Fold, as the document answers. (mknorm6.py writes the arms.)
-/
import Derived.Test.YtfihhliiecdnaaaRefN
import Derived.Test.YtfihhliiecdnaaaLawMix
namespace Go.Proofs.Ytfihhliiecdnaaa
open Go Go.RowKit

theorem right_b {w : World} {v : Value} {L : List (Int × Int)} {m b : Bool} (hb : b = true ↔ IsC L (fun c => In L c ∧ isChar m c)) (h : ArgR w v L) (hF : Fit L) (hl : L.length + 3 ≤ 8796093022208) :
    Calls Try.prog 18 #[v, .bool m] w fun e w' => e = .returned (.bool b) ∧ Below w.heap.size w w' :=
  (right_c (m := m) h hF hl).mono fun e w' ⟨b', q1, q2, q3⟩ => ⟨by rw [q1, Bool.eq_iff_iff.2 (q2.trans hb.symm)], q3⟩
theorem rright_b {w : World} {v : Value} {L : List (Int × Int)} {m b : Bool} (hb : b = true ↔ IsC L (fun c => In L c ∧ isChar m c)) (h : ArgR w v L) (hF : Fit L) (hl : L.length ≤ 1048580) :
    Calls Try.prog 27 #[v, .bool m] w fun e w' => e = .returned (.bool b) ∧ Below w.heap.size w w' :=
  (rright_c (m := m) h hF hl).mono fun e w' ⟨b', q1, q2, q3⟩ => ⟨by rw [q1, Bool.eq_iff_iff.2 (q2.trans hb.symm)], q3⟩
set_option maxRecDepth 100000 in
set_option maxHeartbeats 8000000 in
theorem law_norm {w : World} {v : Value} {L : List (Int × Int)} {m : Bool} (h : ArgR w v L) (hF : Fit L) (hl : L.length ≤ 1048576) :
    Calls Try.prog 6 #[v, .bool m] w fun e w' => e = .returned (.bool true) ∧ Below w.heap.size w w' := by
  obtain ⟨q1, k1, e1, -, -, -⟩ := h.slice
  subst e1
  have H : Hid (ArgR w (.slice q1 L.length k1) L) := h
  have HF : Hid (Fit L) := hF
  have HM : Hid (L.length + 1 ≤ maxLen) := hide (by unfold maxLen; omega)
  obtain ⟨b, hbs⟩ : ∃ b : Bool, (b = true ↔ IsC L (fun c => In L c ∧ isChar m c)) := by
    rcases Classical.em (IsC L (fun c => In L c ∧ isChar m c)) with h | h
    · exact ⟨true, by simp [h]⟩
    · exact ⟨false, by simp [h]⟩
  have HB : Hid (b = true ↔ IsC L (fun c => In L c ∧ isChar m c)) := hbs
  have bne : (b != b) = false := by simp
  have i0 : (0 : Int) ≤ (L.length : Int) := by omega
  have i1 : (L.length : Int) ≤ (L.length : Int) + 1 := by omega
  clear h hF hbs
  go_enter Try.func6, Try.ntmps6
  go_wp2_with first
    | (go_at_call 9; refine (examples_c _).mono ?_; rintro e w1 ⟨rfl, hB⟩; have B1 : Hid (Below w.heap.size w w1) := hB; clear hB)
    | (go_at_call 22; refine (lent_c (H.out.kept B1.out) (by omega)).mono ?_; rintro e w2 ⟨rfl, h1, hB⟩; have X2 : Hid (XAt w2 w1.heap.size L) := h1; have B2 : Hid (Below w1.heap.size w1 w2) := hB; clear h1 hB)
  have BT : Hid (Below w.heap.size w w2) := chain B1.out B2.out (Nat.le_refl _)
  have XA : Hid (∀ w', Below w2.heap.size w2 w' → ArgR w' (.slice (some ⟨w1.heap.size, 0, none⟩) L.length (L.length + 1)) L ∧ ArgR w' (.slice q1 L.length k1) L) := fun w' h => ⟨(X2.out.kept h).arg HM.out, (H.out.kept BT.out).kept h⟩
  rename World => W3
  go_loopw [8] (fun i wr => ∃ k : Nat, k ≤ 2 ∧ i = .int .i64 k ∧ Below W3.heap.size W3 wr) (fun i _ => 2 - (intOf i).toNat)
  case atStart => exact ⟨0, by omega, rfl, Below.refl _ _⟩
  case round =>
    obtain ⟨k, hk, rfl, hb⟩ := hrel
    have BB : Hid (Below W3.heap.size W3 wr) := hb
    clear hb
    by_cases hlt : k < 2
    · have j1 : (k : Int) < 2 := by omega
      go_wp2_with first
        | (go_at_call 28; have hx := S2.out; clear hx; (with_reducible refine (spoil_b (w0 := W3) S2.out.2 (Nat.le_trans BB.out.size (Nat.le_trans E1.out.size E2.out.size)) S2.out.1).mono ?_); rintro e s3 ⟨rfl, h1, h2⟩; have S3 : Hid (Below W3.heap.size W3 s3) := h1; clear h1 h2)
        | (go_at_call 28; have hx := S1.out; clear hx; (with_reducible refine (spoil_b (w0 := W3) S1.out.2.1 (Nat.le_trans BB.out.size E1.out.size) S1.out.1).mono ?_); rintro e s2 ⟨rfl, h1, h2⟩; have S2 : Hid (Below W3.heap.size W3 s2 ∧ RR y2.heap.size s2 ve Ce) := ⟨h1, RR.past S1.out.2.2 Xd.out.1 (Nat.le_refl _) h2⟩; clear h1 h2)
        | (go_at_call 28; (with_reducible refine (spoil_b (w0 := W3) ((((((((((Xc.out.1.kept E2.out).kept E3.out).kept E4.out).kept E5.out).kept E6.out).kept E7.out).kept E8.out).kept E9.out).kept E10.out).kept E11.out) BB.out.size (chain (chain (chain (chain (chain (chain (chain (chain (chain (chain (chain BB.out E1.out (Nat.le_refl _)) E2.out (Nat.le_refl _)) E3.out (Nat.le_refl _)) E4.out (Nat.le_refl _)) E5.out (Nat.le_refl _)) E6.out (Nat.le_refl _)) E7.out (Nat.le_refl _)) E8.out (Nat.le_refl _)) E9.out (Nat.le_refl _)) E10.out (Nat.le_refl _)) E11.out (Nat.le_refl _))).mono ?_); rintro e s1 ⟨rfl, h1, h2⟩; have S1 : Hid (Below W3.heap.size W3 s1 ∧ RR y1.heap.size s1 vd Cd ∧ RR y2.heap.size s1 ve Ce) := ⟨h1, RR.past (((((((((Xd.out.1.kept E3.out).kept E4.out).kept E5.out).kept E6.out).kept E7.out).kept E8.out).kept E9.out).kept E10.out).kept E11.out) Xc.out.1 (Nat.le_refl _) h2, RR.past ((((((((Xe.out.1.kept E4.out).kept E5.out).kept E6.out).kept E7.out).kept E8.out).kept E9.out).kept E10.out).kept E11.out) Xc.out.1 E2.out.size h2⟩; clear h1 h2)
        | (go_at_call 27; have hx := E10.out; clear hx; (with_reducible refine (rright_b HB.out (((((((((((XA.out _ BB.out).2.kept E1.out).kept E2.out).kept E3.out).kept E4.out).kept E5.out).kept E6.out).kept E7.out).kept E8.out).kept E9.out).kept E10.out) HF.out (by omega)).mono ?_); rintro e y11 ⟨rfl, hB⟩; have E11 : Hid (Below y10.heap.size y10 y11) := hB; clear hB)
        | (go_at_call 18; have hx := E9.out; clear hx; (with_reducible refine (right_b HB.out ((((((((((XA.out _ BB.out).1.kept E1.out).kept E2.out).kept E3.out).kept E4.out).kept E5.out).kept E6.out).kept E7.out).kept E8.out).kept E9.out) HF.out (by omega)).mono ?_); rintro e y10 ⟨rfl, hB⟩; have E10 : Hid (Below y9.heap.size y9 y10) := hB; clear hB)
        | (go_at_call 23; have hx := E8.out; clear hx; (with_reducible refine (alike_is (((((Xe.out.1.kept E4.out).kept E5.out).kept E6.out).kept E7.out).kept E8.out).arg Xf.out.1.arg Xe.out.2 Xf.out.2).mono ?_); rintro e y9 ⟨rfl, hB⟩; have E9 : Hid (Below y8.heap.size y8 y9) := hB; clear hB)
        | (go_at_call 26; have hx := E7.out; clear hx; (with_reducible refine (rfold_c ((((((((XA.out _ BB.out).2.kept E1.out).kept E2.out).kept E3.out).kept E4.out).kept E5.out).kept E6.out).kept E7.out) HF.out (by omega)).mono ?_); rintro e y8 ⟨vf, Cf, rfl, h1, h2, h3, hB⟩; have Xf : Hid (RR y7.heap.size y8 vf Cf ∧ IsC Cf (foldP L)) := ⟨h1, h2⟩; clear h1 h2 h3; have E8 : Hid (Below y7.heap.size y7 y8) := hB; clear hB)
        | (go_at_call 23; have hx := E6.out; clear hx; (with_reducible refine (alike_is ((((Xd.out.1.kept E3.out).kept E4.out).kept E5.out).kept E6.out).arg Xp.out.1.arg Xd.out.2 Xp.out.2).mono ?_); rintro e y7 ⟨rfl, hB⟩; have E7 : Hid (Below y6.heap.size y6 y7) := hB; clear hB)
        | (go_at_call 25; have hx := E5.out; clear hx; (with_reducible refine (rnot_c (m := m) ((((((XA.out _ BB.out).2.kept E1.out).kept E2.out).kept E3.out).kept E4.out).kept E5.out) HF.out (by omega)).mono ?_); rintro e y6 ⟨vp, Cp, rfl, h1, h2, h3, hB⟩; have Xp : Hid (RR y5.heap.size y6 vp Cp ∧ IsC Cp (fun c => isChar m c ∧ ¬ In L c)) := ⟨h1, h2⟩; clear h1 h2 h3; have E6 : Hid (Below y5.heap.size y5 y6) := hB; clear hB)
        | (go_at_call 23; have hx := E4.out; clear hx; (with_reducible refine (alike_is (((Xc.out.1.kept E2.out).kept E3.out).kept E4.out).arg Xo.out.1.arg Xc.out.2 Xo.out.2).mono ?_); rintro e y5 ⟨rfl, hB⟩; have E5 : Hid (Below y4.heap.size y4 y5) := hB; clear hB)
        | (go_at_call 24; have hx := E3.out; clear hx; (with_reducible refine (rnorm_c (m := m) ((((XA.out _ BB.out).2.kept E1.out).kept E2.out).kept E3.out) HF.out (by omega)).mono ?_); rintro e y4 ⟨vo, Co, rfl, h1, h2, h3, hB⟩; have Xo : Hid (RR y3.heap.size y4 vo Co ∧ IsC Co (fun c => In L c ∧ isChar m c)) := ⟨h1, h2⟩; clear h1 h2 h3; have E4 : Hid (Below y3.heap.size y3 y4) := hB; clear hB)
        | (go_at_call 17; have hx := E2.out; clear hx; (with_reducible refine (fold_c (((XA.out _ BB.out).1.kept E1.out).kept E2.out) HF.out (by omega)).mono ?_); rintro e y3 ⟨ve, Ce, rfl, h1, h2, h3, hB⟩; have Xe : Hid (RR y2.heap.size y3 ve Ce ∧ IsC Ce (foldP L)) := ⟨h1, h2⟩; clear h1 h2 h3; have E3 : Hid (Below y2.heap.size y2 y3) := hB; clear hB)
        | (go_at_call 16; have hx := E1.out; clear hx; (with_reducible refine (not_c (m := m) ((XA.out _ BB.out).1.kept E1.out) HF.out (by omega)).mono ?_); rintro e y2 ⟨vd, Cd, rfl, h1, h2, h3, hB⟩; have Xd : Hid (RR y1.heap.size y2 vd Cd ∧ IsC Cd (fun c => isChar m c ∧ ¬ In L c)) := ⟨h1, h2⟩; clear h1 h2 h3; have E2 : Hid (Below y1.heap.size y1 y2) := hB; clear hB)
        | (go_at_call 15; (with_reducible refine (norm_c (m := m) (XA.out _ BB.out).1 HF.out (by omega)).mono ?_); rintro e y1 ⟨vc, Cc, rfl, h1, h2, h3, hB⟩; have Xc : Hid (RR wr.heap.size y1 vc Cc ∧ IsC Cc (fun c => In L c ∧ isChar m c)) := ⟨h1, h2⟩; clear h1 h2 h3; have E1 : Hid (Below wr.heap.size wr y1) := hB; clear hB)
      go_roundw
      case rel => exact ⟨k + 1, by omega, by go_num, S3.out⟩
      case measure => simp [intOf]; omega
    · have j1 : ¬ (k : Int) < 2 := by omega
      go_wp2_with (go_at_call 29; refine (still_c (X2.out.kept BB.out) (XA.out _ BB.out).2 (by omega)).mono ?_; rintro e t1 ⟨rfl, hB⟩; have T1 : Hid (Below wr.heap.size wr t1) := hB; clear hB)
      go_ret
      exact ⟨rfl, chain (chain BT.out BB.out (Nat.le_refl _)) T1.out (Nat.le_refl _)⟩
end Go.Proofs.Ytfihhliiecdnaaa
