/-
  The law CharsBack, walked: Encode of Decode, Decode of Encode, Read of Shown are the same; what Read tells is shown as it was.
-/
import Derived.Test.YtihmnibopeljaaaDoorBack6
import Derived.Test.YtihmnibopeljaaaDoorExamples
namespace Go.Proofs.YtihmnibopeljaaaDoor
open Go Go.RowKit
attribute [local go_sem] ext_cell

theorem shown_len (s : ByteArray) : (shown s).length ≤ 4 * s.size := by
  have key : ∀ f p, (shUs s (uFrom s f p)).length ≤ 4 * (s.size - p) := fun f => by
    induction f with
    | zero => intro p; simp [uFrom, shUs]
    | succ f ih =>
      intro p
      by_cases hp : p < s.size
      · rw [uFrom_more s f p hp]
        have h1 := shU_len s p
        have h2 := ih (p + wd s p)
        have h3 := (wd_le s p hp).2
        simp only [shUs, List.flatMap_cons, List.length_append] at h2 ⊢
        omega
      · rw [uFrom_end s _ _ hp]; simp [shUs]
  have := key s.size 0
  unfold shown us
  omega
theorem rdTxt_len (s : ByteArray) : (rdTxt s (readO s)).length ≤ s.size := by
  have key : ∀ f p x y, s.size ≤ p + f → p ≤ s.size → x.L.length ≤ p → foldS s (uFrom s f p) x = .inl y → y.L.length ≤ s.size := fun f => by
    induction f with
    | zero => intro p x y h1 h2 h3 h; simp only [uFrom, foldS, Sum.inl.injEq] at h; subst h; omega
    | succ f ih =>
      intro p x y h1 h2 h3 h
      by_cases hp : p < s.size
      · rw [uFrom_more s f p hp, foldS] at h
        split at h
        · rename_i z hz
          have := takeS_ok hp hz
          exact ih (p + wd s p) z y (by have := wd_pos s p; omega) (wd_le s p hp).2 (by omega) h
        · cases h
      · rw [uFrom_end s _ _ hp] at h
        simp only [foldS, Sum.inl.injEq] at h
        subst h; omega
  rcases ho : readO s with x | e
  · rw [rdTxt]
    split
    · exact key s.size 0 _ x (by omega) (Nat.zero_le _) (by simp) ho
    · simp
  · simp [rdTxt]

set_option maxHeartbeats 8000000 in
set_option maxRecDepth 1000000 in
theorem law_back (s : ByteArray) {v : Value} {zs : List Int} (w : World) (hG : Glob w) (hs : s.size ≤ 1048576) (hz : ArgI w v zs) (hl : zs.length ≤ 1048576) :
    Calls Tryd.prog 4 #[.string s, v] w fun e w' => e = .returned (.bool true) ∧ Below w.heap.size w w' := by
  have G : Hid (Glob w) := hG
  have hgz := hG.size
  have A : Hid (ArgI w v zs) := hz
  obtain ⟨q, cap, rfl, _, _⟩ := hz.slice
  clear hz hG
  -- Decode, and Encode of it
  have hdc := decode_c s
  have hD : Hid (good (us s) = true → eErr (dList (us s)) = 0 ∧ txt (eTxt (dList (us s))) = s) := fun hg => by
    have h := enc_dec s hg
    have e : dList (us s) = chs (us s) := by rw [dList, hg]; rfl
    rw [e, eErr, eTxt, h.2, h.1]
    exact ⟨rfl, txt_list s⟩
  have hDl : (dList (us s)).length ≤ 1048576 := by
    rw [dList]; split
    · rw [chs_len]; have := us_length s; omega
    · simp
  have hDe : dErr (us s) = 0 ∧ good (us s) = true ∨ dErr (us s) = 20 ∧ good (us s) = false := by
    unfold dErr; cases good (us s) <;> simp
  have HDE : Hid _ := hDe
  obtain ⟨D, hDD⟩ : ∃ D, dList (us s) = D := ⟨_, rfl⟩
  rw [hDD] at hdc hD hDl
  -- Encode, and Decode of it
  have hE : Hid (allC zs = true → dErr (us (txt (eTxt zs))) = 0 ∧ dList (us (txt (eTxt zs))) = zs) := fun ha => by
    have h := dec_enc zs ha
    have e : eTxt zs = encB zs := by rw [eTxt, ha]; rfl
    rw [e, dErr, dList, h.2, h.1]
    exact ⟨rfl, rfl⟩
  have hEl : (eTxt zs).length ≤ 4194304 := by
    unfold eTxt; split
    · have := encB_len zs; omega
    · simp
  have hEe : eErr zs = 0 ∧ allC zs = true ∨ eErr zs = 20 ∧ allC zs = false := by
    unfold eErr; cases allC zs <;> simp
  have HEE : Hid _ := hEe
  -- Shown, Read
  have hrb := read_back s
  have hsl := shown_len s
  obtain ⟨T, hT⟩ : ∃ T, txt (shown s) = T := ⟨_, rfl⟩
  have hTs : T.size ≤ 4194304 := by rw [← hT, txt_size]; omega
  have hsr := shown_read s
  have hrl := rdTxt_len s
  obtain ⟨y, hy⟩ : ∃ y, txt (rdTxt s (readO s)) = y := ⟨_, rfl⟩
  have hys : y.size ≤ 1048576 := by rw [← hy, txt_size]; omega
  have hsh := shown_c s
  have hrT := read_c T
  have hrs := read_c s
  have hsy := shown_c y
  rw [hT] at hsh hrb
  rw [hrb.1, hrb.2.1, hrb.2.2, txt_list] at hrT
  rw [hy] at hrs hsr
  obtain ⟨er, her⟩ : ∃ e, rdErr s (readO s) = e := ⟨_, rfl⟩
  obtain ⟨pl, hpl⟩ : ∃ e, rdPl s (readO s) = e := ⟨_, rfl⟩
  rw [her, hpl] at hrs
  rw [her] at hsr
  have HSR : Hid (er = 0 → txt (shown y) = s) := hsr
  obtain ⟨U, hU⟩ : ∃ U, txt (eTxt zs) = U := ⟨_, rfl⟩
  have hUs : U.size ≤ 4194304 := by rw [← hU, txt_size]; exact hEl
  have hdu := decode_c U
  rw [hU] at hE
  clear hDD hT hy hrb her hpl hsl hrl hsr hDe hEe hEl
  go_enter Tryd.func4, Tryd.ntmps4
  go_upto_region 2 with (go_at_call 9; (with_reducible refine (examples_c _ G.out).mono ?_); rintro e w1 ⟨rfl, h1⟩; have B1 : Hid (Below w.heap.size w w1) := h1; clear h1)
  go_upto_region 3 with (go_at_call 17; (with_reducible refine (hdc _ (by omega)).mono ?_); rintro e w2 ⟨v2, rfl, o2, h2⟩; have O2 : Hid (ArgI w2 v2 D) := own_arg o2; have B2 : Hid (Below w.heap.size w w2) := chain B1.out h2 (Nat.le_refl _); clear o2 h2)
  obtain ⟨q2, c2, rfl, _, _⟩ := O2.out.slice
  have he2 := encode_c O2.out (by omega)
  rcases HDE.out with ⟨d1, d2⟩ | ⟨d1, d2⟩
  · obtain ⟨d3, d4⟩ := hD.out d2
    rw [d3, d4] at he2
    rw [d1]
    clear d1 d2 d3 d4
    go_upto_region 7 with (go_at_call 15; (refine Calls.mono he2 ?_); rintro e w3 ⟨rfl, h3⟩; have B3 : Hid (Below w.heap.size w w3) := chain B2.out h3 (Nat.le_refl _); clear h3)
    have A3 : Hid (ArgI w3 (.slice q zs.length cap) zs) := A.out.below B3.out rfl
    have he3 := encode_c A3.out (by omega)
    rw [hU] at he3
    rcases HEE.out with ⟨e1, e2⟩ | ⟨e1, e2⟩
    · rw [e1] at he3
      go_upto_region 8 with (go_at_call 15; (refine Calls.mono he3 ?_); rintro e w4 ⟨rfl, h4⟩; have B4 : Hid (Below w.heap.size w w4) := chain B3.out h4 (Nat.le_refl _); clear h4)
      obtain ⟨e3, e4⟩ := hE.out e2
      rw [e3, e4] at hdu
      clear e3 e4 e1 e2 he3
      go_upto_region 10 with (go_at_call 17; (with_reducible refine (hdu _ (by omega)).mono ?_); rintro e w5 ⟨v5, rfl, o5, h5⟩; have O5 : Hid (ArgI w5 v5 zs) := own_arg o5; have B5 : Hid (Below w.heap.size w w5) := chain B4.out h5 (Nat.le_refl _); clear o5 h5)
      have A5 : Hid (ArgI w5 (.slice q zs.length cap) zs) := A.out.below B5.out rfl
      go_upto_region 13 with (go_at_call 18; (refine (same_same O5.out A5.out).mono ?_); rintro e w6 ⟨rfl, h6⟩; have B6 : Hid (Below w.heap.size w w6) := chain B5.out h6 (Nat.le_refl _); clear h6)
      go_upto_region 14 with first
        | (go_at_call 20; (with_reducible refine (hsh _ (G.out.then B6.out hgz).tabs (by omega)).mono ?_); rintro e w7 ⟨rfl, h7⟩; have B7 : Hid (Below w.heap.size w w7) := chain B6.out h7 (Nat.le_refl _); clear h7)
        | (go_at_call 19; (with_reducible refine (hrT _ (G.out.then B7.out hgz).tabs (by omega)).mono ?_); rintro e w8 ⟨rfl, h8⟩; have B8 : Hid (Below w.heap.size w w8) := chain B7.out h8 (Nat.le_refl _); clear h8)
      go_upto_region 15 with (go_at_call 19; (with_reducible refine (hrs _ (G.out.then B8.out hgz).tabs (by omega)).mono ?_); rintro e w9 ⟨rfl, h9⟩; have B9 : Hid (Below w.heap.size w w9) := chain B8.out h9 (Nat.le_refl _); clear h9)
      by_cases hr0 : er = 0
      · have hyy := HSR.out hr0
        rw [hyy] at hsy
        rw [hr0]
        clear hr0 hyy
        go_wp2_with (go_at_call 20; (with_reducible refine (hsy _ (G.out.then B9.out hgz).tabs (by omega)).mono ?_); rintro e w10 ⟨rfl, h10⟩; have B10 : Hid (Below w.heap.size w w10) := chain B9.out h10 (Nat.le_refl _); clear h10)
        go_ret
        exact ⟨by first | rfl | (simp; done), B10.out⟩
      · have bn : (er != 0) = true := by simpa using hr0
        go_wp2
        go_ret
        exact ⟨by first | rfl | (simp; done), B9.out⟩
    · rw [e1] at he3
      go_upto_region 8 with (go_at_call 15; (refine Calls.mono he3 ?_); rintro e w4 ⟨rfl, h4⟩; have B4 : Hid (Below w.heap.size w w4) := chain B3.out h4 (Nat.le_refl _); clear h4)
      clear e1 e2 he3
      go_upto_region 13 with fail
      go_upto_region 14 with first
        | (go_at_call 20; (with_reducible refine (hsh _ (G.out.then B4.out hgz).tabs (by omega)).mono ?_); rintro e w7 ⟨rfl, h7⟩; have B7 : Hid (Below w.heap.size w w7) := chain B4.out h7 (Nat.le_refl _); clear h7)
        | (go_at_call 19; (with_reducible refine (hrT _ (G.out.then B7.out hgz).tabs (by omega)).mono ?_); rintro e w8 ⟨rfl, h8⟩; have B8 : Hid (Below w.heap.size w w8) := chain B7.out h8 (Nat.le_refl _); clear h8)
      go_upto_region 15 with (go_at_call 19; (with_reducible refine (hrs _ (G.out.then B8.out hgz).tabs (by omega)).mono ?_); rintro e w9 ⟨rfl, h9⟩; have B9 : Hid (Below w.heap.size w w9) := chain B8.out h9 (Nat.le_refl _); clear h9)
      by_cases hr0 : er = 0
      · have hyy := HSR.out hr0
        rw [hyy] at hsy
        rw [hr0]
        clear hr0 hyy
        go_wp2_with (go_at_call 20; (with_reducible refine (hsy _ (G.out.then B9.out hgz).tabs (by omega)).mono ?_); rintro e w10 ⟨rfl, h10⟩; have B10 : Hid (Below w.heap.size w w10) := chain B9.out h10 (Nat.le_refl _); clear h10)
        go_ret
        exact ⟨by first | rfl | (simp; done), B10.out⟩
      · have bn : (er != 0) = true := by simpa using hr0
        go_wp2
        go_ret
        exact ⟨by first | rfl | (simp; done), B9.out⟩
  · rw [d1]
    clear d1 d2 he2
    go_upto_region 7 with fail
    have A3 : Hid (ArgI w2 (.slice q zs.length cap) zs) := A.out.below B2.out rfl
    have he3 := encode_c A3.out (by omega)
    rw [hU] at he3
    rcases HEE.out with ⟨e1, e2⟩ | ⟨e1, e2⟩
    · rw [e1] at he3
      go_upto_region 8 with (go_at_call 15; (refine Calls.mono he3 ?_); rintro e w4 ⟨rfl, h4⟩; have B4 : Hid (Below w.heap.size w w4) := chain B2.out h4 (Nat.le_refl _); clear h4)
      obtain ⟨e3, e4⟩ := hE.out e2
      rw [e3, e4] at hdu
      clear e3 e4 e1 e2 he3
      go_upto_region 10 with (go_at_call 17; (with_reducible refine (hdu _ (by omega)).mono ?_); rintro e w5 ⟨v5, rfl, o5, h5⟩; have O5 : Hid (ArgI w5 v5 zs) := own_arg o5; have B5 : Hid (Below w.heap.size w w5) := chain B4.out h5 (Nat.le_refl _); clear o5 h5)
      have A5 : Hid (ArgI w5 (.slice q zs.length cap) zs) := A.out.below B5.out rfl
      go_upto_region 13 with (go_at_call 18; (refine (same_same O5.out A5.out).mono ?_); rintro e w6 ⟨rfl, h6⟩; have B6 : Hid (Below w.heap.size w w6) := chain B5.out h6 (Nat.le_refl _); clear h6)
      go_upto_region 14 with first
        | (go_at_call 20; (with_reducible refine (hsh _ (G.out.then B6.out hgz).tabs (by omega)).mono ?_); rintro e w7 ⟨rfl, h7⟩; have B7 : Hid (Below w.heap.size w w7) := chain B6.out h7 (Nat.le_refl _); clear h7)
        | (go_at_call 19; (with_reducible refine (hrT _ (G.out.then B7.out hgz).tabs (by omega)).mono ?_); rintro e w8 ⟨rfl, h8⟩; have B8 : Hid (Below w.heap.size w w8) := chain B7.out h8 (Nat.le_refl _); clear h8)
      go_upto_region 15 with (go_at_call 19; (with_reducible refine (hrs _ (G.out.then B8.out hgz).tabs (by omega)).mono ?_); rintro e w9 ⟨rfl, h9⟩; have B9 : Hid (Below w.heap.size w w9) := chain B8.out h9 (Nat.le_refl _); clear h9)
      by_cases hr0 : er = 0
      · have hyy := HSR.out hr0
        rw [hyy] at hsy
        rw [hr0]
        clear hr0 hyy
        go_wp2_with (go_at_call 20; (with_reducible refine (hsy _ (G.out.then B9.out hgz).tabs (by omega)).mono ?_); rintro e w10 ⟨rfl, h10⟩; have B10 : Hid (Below w.heap.size w w10) := chain B9.out h10 (Nat.le_refl _); clear h10)
        go_ret
        exact ⟨by first | rfl | (simp; done), B10.out⟩
      · have bn : (er != 0) = true := by simpa using hr0
        go_wp2
        go_ret
        exact ⟨by first | rfl | (simp; done), B9.out⟩
    · rw [e1] at he3
      go_upto_region 8 with (go_at_call 15; (refine Calls.mono he3 ?_); rintro e w4 ⟨rfl, h4⟩; have B4 : Hid (Below w.heap.size w w4) := chain B2.out h4 (Nat.le_refl _); clear h4)
      clear e1 e2 he3
      go_upto_region 13 with fail
      go_upto_region 14 with first
        | (go_at_call 20; (with_reducible refine (hsh _ (G.out.then B4.out hgz).tabs (by omega)).mono ?_); rintro e w7 ⟨rfl, h7⟩; have B7 : Hid (Below w.heap.size w w7) := chain B4.out h7 (Nat.le_refl _); clear h7)
        | (go_at_call 19; (with_reducible refine (hrT _ (G.out.then B7.out hgz).tabs (by omega)).mono ?_); rintro e w8 ⟨rfl, h8⟩; have B8 : Hid (Below w.heap.size w w8) := chain B7.out h8 (Nat.le_refl _); clear h8)
      go_upto_region 15 with (go_at_call 19; (with_reducible refine (hrs _ (G.out.then B8.out hgz).tabs (by omega)).mono ?_); rintro e w9 ⟨rfl, h9⟩; have B9 : Hid (Below w.heap.size w w9) := chain B8.out h9 (Nat.le_refl _); clear h9)
      by_cases hr0 : er = 0
      · have hyy := HSR.out hr0
        rw [hyy] at hsy
        rw [hr0]
        clear hr0 hyy
        go_wp2_with (go_at_call 20; (with_reducible refine (hsy _ (G.out.then B9.out hgz).tabs (by omega)).mono ?_); rintro e w10 ⟨rfl, h10⟩; have B10 : Hid (Below w.heap.size w w10) := chain B9.out h10 (Nat.le_refl _); clear h10)
        go_ret
        exact ⟨by first | rfl | (simp; done), B10.out⟩
      · have bn : (er != 0) = true := by simpa using hr0
        go_wp2
        go_ret
        exact ⟨by first | rfl | (simp; done), B9.out⟩
end Go.Proofs.YtihmnibopeljaaaDoor
