/-
  ClassesMix: Or, And, Less, Same, as the document answers.
-/
import Derived.Test.YtfihhliiecdnaaaRefO
import Derived.Test.YtfihhliiecdnaaaExamples
namespace Go.Proofs.Ytfihhliiecdnaaa
open Go Go.RowKit
attribute [local go_sem] ext_cell

theorem same_b {w : World} {va vb : Value} {A B : List (Int × Int)} {b : Bool} (hb : b = true ↔ ∀ c, In A c ↔ In B c) (h1 : ArgR w va A) (h2 : ArgR w vb B) (fa : Fit A) (fb : Fit B) (l1 : A.length ≤ 8796093022208) (l2 : B.length ≤ 8796093022208) :
    Calls Try.prog 19 #[va, vb] w fun e w' => e = .returned (.bool b) ∧ Below w.heap.size w w' :=
  (same_c h1 h2 fa fb l1 l2).mono fun e w' ⟨b', q1, q2, q3⟩ => ⟨by rw [q1, Bool.eq_iff_iff.2 (q2.trans hb.symm)], q3⟩
theorem rsame_b {w : World} {va vb : Value} {A B : List (Int × Int)} {b : Bool} (hb : b = true ↔ ∀ c, In A c ↔ In B c) (h1 : ArgR w va A) (h2 : ArgR w vb B) (fa : Fit A) (fb : Fit B) (l1 : A.length + 1 ≤ 8796093022208) (l2 : B.length + 1 ≤ 8796093022208) :
    Calls Try.prog 33 #[va, vb] w fun e w' => e = .returned (.bool b) ∧ Below w.heap.size w w' :=
  (rsame_c h1 h2 fa fb l1 l2).mono fun e w' ⟨b', q1, q2, q3⟩ => ⟨by rw [q1, Bool.eq_iff_iff.2 (q2.trans hb.symm)], q3⟩
theorem alike_is {w : World} {va vb : Value} {A B : List (Int × Int)} {p : Int → Prop} (h1 : ArgR w va A) (h2 : ArgR w vb B) (hA : IsC A p) (hB : IsC B p) :
    Calls Try.prog 23 #[va, vb] w fun e w' => e = .returned (.bool true) ∧ Below w.heap.size w w' :=
  (alike_c h1 h2).mono fun e w' ⟨q1, q2⟩ => ⟨by rw [q1, decide_eq_true (hA.one hB fun _ => Iff.rfl)], q2⟩
theorem spoil_b {base : Nat} {w0 w : World} {v : Value} {L : List (Int × Int)} (h : RR base w v L) (hb : w0.heap.size ≤ base) (hB : Below w0.heap.size w0 w) :
    Calls Try.prog 28 #[v] w fun e w' => e = .returned (.tuple #[]) ∧ Below w0.heap.size w0 w' ∧ Fr (blk v) w w' :=
  (spoil_c h).mono fun _ _ ⟨q1, q2⟩ => ⟨q1, chainF hB q2 (Nat.le_refl _) (fun _ hk => Nat.le_trans hb (ownsRow_at h hk).1), q2⟩
theorem RR.past {base base' : Nat} {w w' : World} {v u : Value} {L M : List (Int × Int)} {x : World} (h : RR base w v L) (hu : RR base' x u M) (hn : x.heap.size ≤ base) (hf : Fr (blk u) w w') : RR base w' v L :=
  h.fr hf fun k hk e => by
    have := (ownsRow_at h hk).1
    have := (ownsRow_at hu e).2.1
    omega

set_option maxRecDepth 100000 in
set_option maxHeartbeats 8000000 in
theorem law_mix {w : World} {va vb : Value} {A B : List (Int × Int)} (ha : ArgR w va A) (hb : ArgR w vb B) (fa : Fit A) (fb : Fit B) (la : A.length ≤ 1048576) (lb : B.length ≤ 1048576) :
    Calls Try.prog 7 #[va, vb] w fun e w' => e = .returned (.bool true) ∧ Below w.heap.size w w' := by
  obtain ⟨q1, k1, e1, -, -, -⟩ := ha.slice
  obtain ⟨q2, k2, e2, -, -, -⟩ := hb.slice
  subst e1 e2
  have H : Hid ((ArgR w (.slice q1 A.length k1) A ∧ Fit A) ∧ (ArgR w (.slice q2 B.length k2) B ∧ Fit B)) := ⟨⟨ha, fa⟩, hb, fb⟩
  have LM : Hid (A.length * B.length + 1 ≤ 8796093022208 ∧ A.length * (B.length + 1) + 1 ≤ 8796093022208) := ⟨by have := Nat.mul_le_mul la lb; omega, by have := Nat.mul_le_mul la (Nat.add_le_add_right lb 1); omega⟩
  have HM : Hid (A.length + 1 ≤ maxLen ∧ B.length + 1 ≤ maxLen) := ⟨by unfold maxLen; omega, by unfold maxLen; omega⟩
  obtain ⟨b, hbs⟩ : ∃ b : Bool, (b = true ↔ ∀ c, In A c ↔ In B c) := by
    rcases Classical.em (∀ c, In A c ↔ In B c) with h | h
    · exact ⟨true, by simp [h]⟩
    · exact ⟨false, by simp [h]⟩
  have HB : Hid (b = true ↔ ∀ c, In A c ↔ In B c) := hbs
  have bne : (b != b) = false := by simp
  have i0 : (0 : Int) ≤ (A.length : Int) := by omega
  have i1 : (A.length : Int) ≤ (A.length : Int) + 1 := by omega
  have i2 : (0 : Int) ≤ (B.length : Int) := by omega
  have i3 : (B.length : Int) ≤ (B.length : Int) + 1 := by omega
  clear ha hb fa fb hbs
  go_enter Try.func7, Try.ntmps7
  go_wp2_with first
    | (go_at_call 9; refine (examples_c _).mono ?_; rintro e w1 ⟨rfl, hB⟩; have B1 : Hid (Below w.heap.size w w1) := hB; clear hB)
    | (go_at_call 22; have hx := B2.out; clear hx; (with_reducible refine (lent_c ((H.out.2.1.kept B1.out).kept B2.out) (by omega)).mono ?_); rintro e w3 ⟨rfl, h1, hB⟩; have X3 : Hid (XAt w3 w2.heap.size B) := h1; have B3 : Hid (Below w2.heap.size w2 w3) := hB; clear h1 hB)
    | (go_at_call 22; (with_reducible refine (lent_c (H.out.1.1.kept B1.out) (by omega)).mono ?_); rintro e w2 ⟨rfl, h1, hB⟩; have X2 : Hid (XAt w2 w1.heap.size A) := h1; have B2 : Hid (Below w1.heap.size w1 w2) := hB; clear h1 hB)
  have BT : Hid (Below w.heap.size w w3) := chain (chain B1.out B2.out (Nat.le_refl _)) B3.out (Nat.le_refl _)
  have XA : Hid (∀ w', Below w3.heap.size w3 w' → ArgR w' (.slice (some ⟨w1.heap.size, 0, none⟩) A.length (A.length + 1)) A ∧ ArgR w' (.slice (some ⟨w2.heap.size, 0, none⟩) B.length (B.length + 1)) B ∧ ArgR w' (.slice q1 A.length k1) A ∧ ArgR w' (.slice q2 B.length k2) B) := fun w' h => ⟨((X2.out.kept B3.out).kept h).arg HM.out.1, (X3.out.kept h).arg HM.out.2, (H.out.1.1.kept BT.out).kept h, (H.out.2.1.kept BT.out).kept h⟩
  rename World => W3
  go_loopw [8] (fun i wr => ∃ k : Nat, k ≤ 2 ∧ i = .int .i64 k ∧ Below W3.heap.size W3 wr) (fun i _ => 2 - (intOf i).toNat)
  case atStart => exact ⟨0, by omega, rfl, Below.refl _ _⟩
  case round =>
    obtain ⟨k, hk, rfl, hb⟩ := hrel
    have BB : Hid (Below W3.heap.size W3 wr) := hb
    have hbs := hb.size
    clear hb
    by_cases hlt : k < 2
    · have j1 : (k : Int) < 2 := by omega
      go_upto_region 7 with fail
      have ADc : Hid _ := XA.out wr.drew BB.out.drew
      go_cut [9] (fun v wx => ∃ C, RR wr.heap.size wx v C ∧ IsC C (fun c => In A c ∨ In B c) ∧ Below wr.heap.size wr wx)
      case first =>
        go_region_with (go_at_call 12; refine (or_c ADc.out.1 ADc.out.2.1 H.out.1.2 H.out.2.2 (by omega)).mono ?_; rintro e wq ⟨vq, Cq, rfl, h1, h2, h3, h4⟩; have XQ : Hid (RR wr.heap.size wq vq Cq ∧ IsC Cq (fun c => In A c ∨ In B c) ∧ Below wr.heap.size wr wq) := ⟨h1, h2, (Below.refl _ wr).drew.trans h4⟩; clear h1 h2 h3 h4)
        all_goals go_wp2
        all_goals go_meet
        all_goals exact ⟨Cq, XQ.out⟩
      case rest =>
        obtain ⟨Cc, hcc⟩ := hcut
        have Xc : Hid (RR wr.heap.size wc u9 Cc ∧ IsC Cc (fun c => In A c ∨ In B c) ∧ Below wr.heap.size wr wc) := hcc
        have BLc : Hid (Below W3.heap.size W3 wc) := chain BB.out Xc.out.2.2 (Nat.le_refl _)
        clear hcc
        generalize wc = y7 at *
        go_upto_region 8 with fail
        have ADd : Hid _ := XA.out y7.drew BLc.out.drew
        go_cut [10] (fun v wx => ∃ C, RR y7.heap.size wx v C ∧ IsC C (fun c => In A c ∧ In B c) ∧ Below y7.heap.size y7 wx)
        case first =>
          go_region_with (go_at_call 13; refine (and_c ADd.out.1 ADd.out.2.1 H.out.1.2 H.out.2.2 (by omega)).mono ?_; rintro e wq ⟨vq, Cq, rfl, h1, h2, h3, h4⟩; have XQ : Hid (RR y7.heap.size wq vq Cq ∧ IsC Cq (fun c => In A c ∧ In B c) ∧ Below y7.heap.size y7 wq) := ⟨h1, h2, (Below.refl _ y7).drew.trans h4⟩; clear h1 h2 h3 h4)
          all_goals go_wp2
          all_goals go_meet
          all_goals exact ⟨Cq, XQ.out⟩
        case rest =>
          obtain ⟨Cd, hcd⟩ := hcut
          have Xd : Hid (RR y7.heap.size wc u10 Cd ∧ IsC Cd (fun c => In A c ∧ In B c) ∧ Below y7.heap.size y7 wc) := hcd
          have BLd : Hid (Below W3.heap.size W3 wc) := chain BLc.out Xd.out.2.2 (Nat.le_refl _)
          clear hcd
          generalize wc = y8 at *
          go_upto_region 9 with fail
          have ADe : Hid _ := XA.out y8.drew BLd.out.drew
          go_cut [11] (fun v wx => ∃ C, RR y8.heap.size wx v C ∧ IsC C (fun c => In A c ∧ ¬ In B c) ∧ Below y8.heap.size y8 wx)
          case first =>
            go_region_with (go_at_call 14; refine (less_c ADe.out.1 ADe.out.2.1 H.out.1.2 H.out.2.2 (by omega)).mono ?_; rintro e wq ⟨vq, Cq, rfl, h1, h2, h3, h4⟩; have XQ : Hid (RR y8.heap.size wq vq Cq ∧ IsC Cq (fun c => In A c ∧ ¬ In B c) ∧ Below y8.heap.size y8 wq) := ⟨h1, h2, (Below.refl _ y8).drew.trans h4⟩; clear h1 h2 h3 h4)
            all_goals go_wp2
            all_goals go_meet
            all_goals exact ⟨Cq, XQ.out⟩
          case rest =>
            obtain ⟨Ce, hce⟩ := hcut
            have Xe : Hid (RR y8.heap.size wc u11 Ce ∧ IsC Ce (fun c => In A c ∧ ¬ In B c) ∧ Below y8.heap.size y8 wc) := hce
            have BLe : Hid (Below W3.heap.size W3 wc) := chain BLd.out Xe.out.2.2 (Nat.le_refl _)
            clear hce
            generalize wc = y9 at *
            have RC9 : Hid (RR wr.heap.size y9 u9 Cc ∧ RR y7.heap.size y9 u10 Cd ∧ RR y8.heap.size y9 u11 Ce) := ⟨(Xc.out.1.kept Xd.out.2.2).kept Xe.out.2.2, Xd.out.1.kept Xe.out.2.2, Xe.out.1⟩
            have A9 : Hid _ := XA.out y9 BLe.out
            go_upto_region 13 with first
              | (go_at_call 30; refine (ror_c A9.out.2.2.1 A9.out.2.2.2 H.out.1.2 H.out.2.2 (by omega)).mono ?_; rintro e z1 ⟨vo, Co, rfl, h1, h2, h3, h4⟩; have Z1 : Hid (ArgR z1 vo Co ∧ IsC Co (fun c => In A c ∨ In B c) ∧ Below y9.heap.size y9 z1) := ⟨h1.arg, h2, h4⟩; clear h1 h2 h3 h4)
              | (go_at_call 31; refine (rand_c ((A9.out.2.2.1.kept Z1.out.2.2).kept Z2.out) ((A9.out.2.2.2.kept Z1.out.2.2).kept Z2.out) H.out.1.2 H.out.2.2 (by omega) (by omega) LM.out.1).mono ?_; rintro e z3 ⟨vn, Cn, rfl, h1, h2, h3, h4⟩; have Z3 : Hid (ArgR z3 vn Cn ∧ IsC Cn (fun c => In A c ∧ In B c) ∧ Below z2.heap.size z2 z3) := ⟨h1.arg, h2, h4⟩; clear h1 h2 h3 h4)
              | (go_at_call 32; refine (rless_c ((((A9.out.2.2.1.kept Z1.out.2.2).kept Z2.out).kept Z3.out.2.2).kept Z4.out) ((((A9.out.2.2.2.kept Z1.out.2.2).kept Z2.out).kept Z3.out.2.2).kept Z4.out) H.out.1.2 H.out.2.2 (by omega) (by omega) LM.out.2).mono ?_; rintro e z5 ⟨vl, Cl, rfl, h1, h2, h3, h4⟩; have Z5 : Hid (ArgR z5 vl Cl ∧ IsC Cl (fun c => In A c ∧ ¬ In B c) ∧ Below z4.heap.size z4 z5) := ⟨h1.arg, h2, h4⟩; clear h1 h2 h3 h4)
              | (go_at_call 23; have hx := Z5.out; clear hx; (with_reducible refine (alike_is (((((RC9.out.2.2.kept Z1.out.2.2).kept Z2.out).kept Z3.out.2.2).kept Z4.out).kept Z5.out.2.2).arg Z5.out.1 Xe.out.2.1 Z5.out.2.1).mono ?_); rintro e z6 ⟨rfl, hB⟩; have Z6 : Hid (Below z5.heap.size z5 z6) := hB; clear hB)
              | (go_at_call 23; have hx := Z3.out; clear hx; (with_reducible refine (alike_is (((RC9.out.2.1.kept Z1.out.2.2).kept Z2.out).kept Z3.out.2.2).arg Z3.out.1 Xd.out.2.1 Z3.out.2.1).mono ?_); rintro e z4 ⟨rfl, hB⟩; have Z4 : Hid (Below z3.heap.size z3 z4) := hB; clear hB)
              | (go_at_call 23; (with_reducible refine (alike_is (RC9.out.1.kept Z1.out.2.2).arg Z1.out.1 Xc.out.2.1 Z1.out.2.1).mono ?_); rintro e z2 ⟨rfl, hB⟩; have Z2 : Hid (Below z1.heap.size z1 z2) := hB; clear hB)
            have BZ : Hid (Below y9.heap.size y9 z6) := chain (chain (chain (chain (chain Z1.out.2.2 Z2.out (Nat.le_refl _)) Z3.out.2.2 (Nat.le_refl _)) Z4.out (Nat.le_refl _)) Z5.out.2.2 (Nat.le_refl _)) Z6.out (Nat.le_refl _)
            have BL6 : Hid (Below W3.heap.size W3 z6) := chain BLe.out BZ.out (Nat.le_refl _)
            have HS1 : Hid (∀ x : Ext z6, Calls Try.prog 19 #[.slice (some ⟨w1.heap.size, 0, none⟩) A.length (A.length + 1), .slice (some ⟨w2.heap.size, 0, none⟩) B.length (B.length + 1)] x.val fun e w' => e = .returned (.bool b) ∧ Below x.val.heap.size x.val w') := fun x => same_b HB.out (XA.out _ (chain BL6.out (ext_below x) (Nat.le_refl _))).1 (XA.out _ (chain BL6.out (ext_below x) (Nat.le_refl _))).2.1 H.out.1.2 H.out.2.2 (by omega) (by omega)
            have HS2 : Hid (∀ x : Ext z6, Calls Try.prog 33 #[.slice q1 A.length k1, .slice q2 B.length k2] x.val fun e w' => e = .returned (.bool b) ∧ Below x.val.heap.size x.val w') := fun x => rsame_b HB.out (XA.out _ (chain BL6.out (ext_below x) (Nat.le_refl _))).2.2.1 (XA.out _ (chain BL6.out (ext_below x) (Nat.le_refl _))).2.2.2 H.out.1.2 H.out.2.2 (by omega) (by omega)
            refine wp_region_ext (by kernel_rfl) (by kernel_rfl) ?_
            repeat (go_big_quiet_step (first | exact rfl | (go_at_call 19; exact ext_call (HS1.out _)) | (go_at_call 33; exact ext_call (HS2.out _))))
            refine wpQuiet_nil ?_
            intro z7 hz7
            have B7 : Hid (Below y9.heap.size y9 z7) := chain BZ.out (ext_of hz7) (Nat.le_refl _)
            have BL7 : Hid (Below W3.heap.size W3 z7) := chain BLe.out B7.out (Nat.le_refl _)
            have R7 : Hid (RR wr.heap.size z7 u9 Cc ∧ RR y7.heap.size z7 u10 Cd ∧ RR y8.heap.size z7 u11 Ce) := ⟨RC9.out.1.kept B7.out, RC9.out.2.1.kept B7.out, RC9.out.2.2.kept B7.out⟩
            have SZ : Hid (W3.heap.size ≤ wr.heap.size ∧ wr.heap.size ≤ y7.heap.size ∧ y7.heap.size ≤ y8.heap.size) := ⟨BB.out.size, Xc.out.2.2.size, Xd.out.2.2.size⟩
            clear hz7
            go_wp2_with first
              | (go_at_call 28; have hx := S2.out; clear hx; (with_reducible refine (spoil_b (w0 := W3) S2.out.2.2 (Nat.le_trans SZ.out.1 (Nat.le_trans SZ.out.2.1 SZ.out.2.2)) S2.out.1).mono ?_); rintro e s3 ⟨rfl, h1, h2⟩; have S3 : Hid (Below W3.heap.size W3 s3) := h1; clear h1 h2)
              | (go_at_call 28; have hx := S1.out; clear hx; (with_reducible refine (spoil_b (w0 := W3) S1.out.2.1 (Nat.le_trans SZ.out.1 SZ.out.2.1) S1.out.1).mono ?_); rintro e s2 ⟨rfl, h1, h2⟩; have S2 : Hid (Below W3.heap.size W3 s2 ∧ True ∧ RR y8.heap.size s2 u11 Ce) := ⟨h1, trivial, RR.past S1.out.2.2 Xd.out.1 (Nat.le_refl _) h2⟩; clear h1 h2)
              | (go_at_call 28; (with_reducible refine (spoil_b (w0 := W3) R7.out.1 SZ.out.1 BL7.out).mono ?_); rintro e s1 ⟨rfl, h1, h2⟩; have S1 : Hid (Below W3.heap.size W3 s1 ∧ RR y7.heap.size s1 u10 Cd ∧ RR y8.heap.size s1 u11 Ce) := ⟨h1, RR.past R7.out.2.1 Xc.out.1 (Nat.le_refl _) h2, RR.past R7.out.2.2 Xc.out.1 SZ.out.2.2 h2⟩; clear h1 h2)
            go_roundw
            case rel => exact ⟨k + 1, by omega, by go_num, S3.out⟩
            case measure => simp [intOf]; omega
    · have j1 : ¬ (k : Int) < 2 := by omega
      go_wp2_with first
        | (go_at_call 29; have hx := T1.out; clear hx; (with_reducible refine (still_c ((X3.out.kept BB.out).kept T1.out) ((XA.out _ BB.out).2.2.2.kept T1.out) (by omega)).mono ?_); rintro e t2 ⟨rfl, hB⟩; have T2 : Hid (Below t1.heap.size t1 t2) := hB; clear hB)
        | (go_at_call 29; (with_reducible refine (still_c ((X2.out.kept B3.out).kept BB.out) (XA.out _ BB.out).2.2.1 (by omega)).mono ?_); rintro e t1 ⟨rfl, hB⟩; have T1 : Hid (Below wr.heap.size wr t1) := hB; clear hB)
      go_ret
      exact ⟨rfl, chain (chain (chain BT.out BB.out (Nat.le_refl _)) T1.out (Nat.le_refl _)) T2.out (Nat.le_refl _)⟩
end Go.Proofs.Ytfihhliiecdnaaa
