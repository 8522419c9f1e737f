/-
  Parts of the proof.
-/
import Derived.Test.YtaikcnoiaaiopaaDoorPlaysProofB38
import Derived.Stop.RegionWithIn
import Derived.Deep.RegionWith
import Derived.BigQuiet
set_option linter.unusedSimpArgs false
namespace Go.Proofs.YtaikcnoiaaiopaaDoor
open Go Go.RowKit Go.Shelf
attribute [local go_sem] Oper.semAt_some ext_cell
def onlyN (Q : Exit → Act → World → Prop) : Exit → Act → World → Prop
  | .normal, a, w => Q .normal a w
  | _, _, _ => False
theorem onlyN_intro {Q : Exit → Act → World → Prop} {a : Act} {w : World} (h : Q .normal a w) : onlyN Q .normal a w := h
theorem wpIn_only {c : Code} {F : Fence} {n : Nat} {P : Program} {Q : Exit → Act → World → Prop} {a : Act} {w : World} (h : c.wpIn F n P (onlyN Q) a w) : c.wpIn F n P Q a w :=
  wpIn_mono h (fun e a w h => by
    cases e with
    | normal => exact h
    | _ => exact False.elim h)
set_option maxRecDepth 100000 in
set_option maxHeartbeats 4000000 in
theorem more_in (n : Nat) (hn : 12 ≤ n) {w : World} {v : Value} {ws : List ByteArray} (word line : ByteArray) (f : Bool) (hsz : line.size ≤ 1048576) (hwl : ws.length ≤ 1048576) (ht : z1_Tab w) (hv : ArgW w v ws) (hv0 : v = .slice none 0 0 ∨ ∃ ad l c, v = .slice (some ad) l c) :
    CallsIn Fence.wide n Tryd.prog 6 #[v, .string word, .bool f, .string line] w fun e w' => e = .returned (.bool true) ∧ Below w.heap.size w w' := by
  have h1 : 1 ≤ n := by omega
  have h2 : 1 ≤ n - 1 - 1 := by omega
  have hfn : ∀ f, Fence.wide.fn f := fun _ => trivial
  have hmx : Tryd.prog.follows .mixedOrders = true := by kernel_rfl
  have HV := hide hv
  have HV0 := hide hv0
  obtain ⟨q, cap, rfl, hml, _, _⟩ := hv.slice
  have BW : Hid (Below w.heap.size w (w.alloc (.cells #[.slice q ws.length cap] 22))) := hide ((Below.refl _ _).alloc (Nat.le_refl _) _)
  have SW : Hid ((w.alloc (.cells #[.slice q ws.length cap] 22)).heap.size = w.heap.size + 1) := hide (by simp)
  have X0 := hide (alloc_new w (.cells #[.slice q ws.length cap] 22))
  have KN := hide (known_in (n - 1) (by omega) (ht.below BW.out))
  have T0 := hide (ht.below BW.out)
  clear ht hv hv0
  refine callsIn_of_wp_marks Tryd.func6 rfl trivial ?_ rfl
  simp only [Tryd.ntmps6, List.size_toArray, List.length_cons, List.length_nil, Nat.reduceAdd, Nat.reduceSub, Array.replicate_succ, Array.replicate_zero, List.push_toArray, List.append_toArray, List.nil_append, List.cons_append]
  gi_upto_region 1 with fail
  generalize (w.alloc (.cells #[.slice q ws.length cap] 22)) = W1 at BW SW X0 KN T0 ⊢
  gi_upto_region 2 with (gi_at_call 9; refine KN.out.mono ?_; rintro e w1 ⟨rfl, k1⟩; have B1 := hide k1; clear k1)
  have BB := hide (chain BW.out B1.out (Nat.le_refl _))
  have V1 := hide (HV.out.below BB.out (Nat.le_refl _))
  have Y0 := hide ((B1.out.block _ (by rw [SW.out]; omega)).trans X0.out)
  have T1 := hide (T0.out.below B1.out)
  have S1 := hide (show w.heap.size + 1 ≤ w1.heap.size from by have := B1.out.size; have := SW.out; omega)
  clear KN B1 BW SW X0 T0 HV
  have NC := hide (new_c f V1.out)
  have c0 := cell_row Y0.out (i := 0) rfl
  gi_upto_region 3 with (gi_at_call 10; refine (callsIn_wide.2 NC.out).mono ?_; rintro e w5 ⟨hbl, (⟨hmm, rfl⟩ | ⟨hb, T, D, R, K, lg, rfl, hlb, hH, hM⟩)⟩)
  · have HML := hml
    obtain ⟨t0, hi0, hz0, hz1, hz2⟩ := info_parts size_str
    have V5 := hide (V1.out.below hbl (Nat.le_refl _))
    have c5 := cell_row ((hbl.block _ (lt_of_heap Y0.out)).trans Y0.out) (i := 0) rfl
    have B5 := hide (chain BB.out hbl (Nat.le_refl _))
    clear hbl NC c0
    gi_upto_region 4 with (first | (gi_at_builtin; refine wpListIn_append_words rfl _ _ rfl (.slice q ws.length cap) ws rfl rfl V5.out HV0.out hwl ?_; intro v6 w6 ho6 hb6; obtain ⟨q6, c6, rfl⟩ := ownsRow_shape ho6; have O6 := hide ho6; have B6 := hide hb6; have Y7 : Hid ((w6.alloc (.cells #[.string word] 9)).ownsRow w5.heap.size 9 1 (.slice q6 ws.length c6) ws.length (strC ws)) := hide (World.ownsRow.alloc ho6 _); have HNEW := hide (cells_one w6 (.string word) 9); have HN8 := hide (show w5.heap.size ≤ (w6.alloc (.cells #[.string word] 9)).heap.size by rw [World.size_alloc]; have := hb6.size; omega); clear ho6 hb6) | (gi_at_builtin; refine wpListIn_append_own_at _ rfl _ _ 22 rfl w5.heap.size 9 t0 (.string ⟨#[]⟩) 1 16 und_strs hi0 hz0 hz1 hz2 rfl (by decide) (.slice q6 ws.length c6) ws.length (strC ws) rfl Y7.out ⟨w6.heap.size, 0, none⟩ 1 1 [.string word] rfl rfl HNEW.out (by simp [Value.oneCell']) (by unfold maxLen; omega) (by omega) HN8.out ?_; intro v8 w8 hown' hgrow _ _; have O8 := hide hown'; have B8 := hide (below_own ((B6.out).alloc (by have := B6.out.size; omega) (.cells #[.string word] 9)) Y7.out hgrow (Nat.le_refl _) (Nat.le_refl _)); have A8 : Hid (ArgW w8 v8 (ws ++ [word])) := hide (argW_own (base := w5.heap.size) (by have := O8.out; rw [← strC_snoc] at this; simpa using this)); have NG := hide (new_c f A8.out); clear hown' hgrow) | (gi_at_call 10; refine (callsIn_wide.2 NG.out).mono ?_; rintro e w9 ⟨hbg, (⟨hmg, rfl⟩ | ⟨hb2, T2, D2, R2, K2, lg2, rfl, hlg, hHg, hMg⟩)⟩))
    · have FIN := hide (show Below w.heap.size w w9 from chain (chain B5.out B8.out (by have := B5.out.size; omega)) hbg (by have := B5.out.size; have := B8.out.size; omega))
      clear hbg
      gi_wp2
      refine ⟨.bool true, by simp [results, Tryd.results6, go_sem], rfl, FIN.out⟩
    · have FIN := hide (show Below w.heap.size w w9 from chain (chain B5.out B8.out (by have := B5.out.size; omega)) hbg (by have := B5.out.size; have := B8.out.size; omega))
      clear hbg hHg hMg hlg
      gi_wp2
      refine ⟨.bool true, by simp [results, Tryd.results6, go_sem], rfl, FIN.out⟩
  · have HML := hml
    obtain ⟨t0, hi0, hz0, hz1, hz2⟩ := info_parts size_str
    have V5 := hide (V1.out.below hbl (Nat.le_refl _))
    have c5 := cell_row ((hbl.block _ (lt_of_heap Y0.out)).trans Y0.out) (i := 0) rfl
    have B5 := hide (chain BB.out hbl (Nat.le_refl _))
    have KP5 := hide (kp_new (w := w1) hH hM (by unfold wrap64; omega) T1.out hbl hlb)
    have HU5 := hide hH
    have HBL := hide (show w1.heap.size ≤ hb ∧ hb < w5.heap.size from ⟨hlb, lt_of_heap hM⟩)
    have Y5 := hide ((hbl.block _ (lt_of_heap Y0.out)).trans Y0.out)
    have OK := hide hH.ok
    clear hbl NC c0 hH hM hlb
    gi_upto_region 4 with (first | (gi_at_builtin; refine wpListIn_append_words rfl _ _ rfl (.slice q ws.length cap) ws rfl rfl V5.out HV0.out hwl ?_; intro v6 w6 ho6 hb6; obtain ⟨q6, c6, rfl⟩ := ownsRow_shape ho6; have O6 := hide ho6; have B6 := hide hb6; have Y7 : Hid ((w6.alloc (.cells #[.string word] 9)).ownsRow w5.heap.size 9 1 (.slice q6 ws.length c6) ws.length (strC ws)) := hide (World.ownsRow.alloc ho6 _); have HNEW := hide (cells_one w6 (.string word) 9); have HN8 := hide (show w5.heap.size ≤ (w6.alloc (.cells #[.string word] 9)).heap.size by rw [World.size_alloc]; have := hb6.size; omega); clear ho6 hb6) | (gi_at_builtin; refine wpListIn_append_own_at _ rfl _ _ 22 rfl w5.heap.size 9 t0 (.string ⟨#[]⟩) 1 16 und_strs hi0 hz0 hz1 hz2 rfl (by decide) (.slice q6 ws.length c6) ws.length (strC ws) rfl Y7.out ⟨w6.heap.size, 0, none⟩ 1 1 [.string word] rfl rfl HNEW.out (by simp [Value.oneCell']) (by unfold maxLen; omega) (by omega) HN8.out ?_; intro v8 w8 hown' hgrow _ _; have O8 := hide hown'; have B8 := hide (below_own ((B6.out).alloc (by have := B6.out.size; omega) (.cells #[.string word] 9)) Y7.out hgrow (Nat.le_refl _) (Nat.le_refl _)); have A8 : Hid (ArgW w8 v8 (ws ++ [word])) := hide (argW_own (base := w5.heap.size) (by have := O8.out; rw [← strC_snoc] at this; simpa using this)); have NG := hide (new_c f A8.out); clear hown' hgrow) | (gi_at_call 10; refine (callsIn_wide.2 NG.out).mono ?_; rintro e w9 ⟨hbg, (⟨hmg, rfl⟩ | ⟨hb2, T2, D2, R2, K2, lg2, rfl, hlg, hHg, hMg⟩)⟩))
    · have FIN := hide (show Below w.heap.size w w9 from chain (chain B5.out B8.out (by have := B5.out.size; omega)) hbg (by have := B5.out.size; have := B8.out.size; omega))
      clear hbg
      gi_wp2
      refine ⟨.bool true, by simp [results, Tryd.results6, go_sem], rfl, FIN.out⟩
    have KP8 := hide (KP5.out.below B8.out)
    have KG := hide (kp_new (w := w8) hHg hMg (by unfold wrap64; omega) KP8.out.tab hbg hlg)
    have KH := hide (KP8.out.below hbg)
    have HUG := hide hHg
    have OKG := hide hHg.ok
    have HB2 := hide (show w8.heap.size ≤ hb2 ∧ hb2 < w9.heap.size from ⟨hlg, lt_of_heap hMg⟩)
    have B9 := hide (chain (chain B5.out B8.out (by have := B5.out.size; omega)) hbg (by have := B5.out.size; have := B8.out.size; omega))
    have Y9 := hide ((hbg.block _ (Nat.lt_of_lt_of_le (lt_of_heap Y5.out) B8.out.size)).trans ((B8.out.block _ (lt_of_heap Y5.out)).trans Y5.out))
    have NU := hide (show w.heap.size + 1 ≤ w1.heap.size ∧ w5.heap.size ≤ w8.heap.size ∧ w8.heap.size ≤ w9.heap.size ∧ w1.heap.size ≤ w5.heap.size from ⟨S1.out, B8.out.size, hbg.size, by have := HBL.out; omega⟩)
    clear hbg hHg hMg hlg c5 V5 KP5 KP8 NG A8 O8 B8 Y7 HNEW HN8 O6 B6 B5 Y5 BB V1 Y0 T1
    have HF := hide (show (allM f (ws ++ [word]) line line.size).length ≤ 200000000 from by
      have h5 := allM_few (f := f) (ws := ws ++ [word]) (line := line) line.size
      have h7 : line.size * (ws ++ [word]).length ≤ 1048576 * 100 := Nat.mul_le_mul hsz (mayB_of OKG.out).2.2
      omega)
    gi_upto_region 9 with fail
    have XN := hide (alloc_new w9 (.cells #[.slice none 0 0] 48))
    have KG9 := hide (KG.out.below (show Below w9.heap.size w9 (w9.alloc (.cells #[.slice none 0 0] 48)) from (Below.refl _ _).alloc (Nat.le_refl _) _))
    have BV9 := hide (show Below w9.heap.size w9 (w9.alloc (.cells #[.slice none 0 0] 48)) from (Below.refl _ _).alloc (Nat.le_refl _) _)
    have S9 := hide (show w9.heap.size < (w9.alloc (.cells #[.slice none 0 0] 48)).heap.size from by simp)
    generalize (w9.alloc (.cells #[.slice none 0 0] 48)) = wA at XN KG9 S9 BV9 ⊢
    have AC := hide (fun W => all_c hb2 line W)
    obtain ⟨N, hN⟩ : ∃ N, N = w9.heap.size := ⟨_, rfl⟩
    rw [← hN] at XN S9 ⊢
    have HNN := hide hN
    clear hN
    gi_wp2_with (gi_at_call 16; refine (callsIn_wide.2 (AC.out _)).mono ?_; rintro e wq ⟨rfl, h5⟩; subst wq)
    obtain ⟨UD, hUD, bD, sD, r1, r2⟩ := two wA (.cells #[.pointer (some ⟨hb2, 0, none⟩)] 25) (.cells #[.string line] 9)
    rw [← hUD]
    clear hUD AC
    have R1 := hide r1
    have R2 := hide r2
    have BD := hide bD
    have KD := hide (KG9.out.below bD)
    have XD := hide ((bD.block _ S9.out).trans XN.out)
    have SD := hide (show w8.heap.size ≤ UD.heap.size ∧ N ≤ UD.heap.size from by have := bD.size; have := S9.out; have := NU.out; have := HNN.out; exact ⟨by omega, by omega⟩)
    have FV : Hid (Fr (fun k => k = hb2 ∨ N ≤ k) w9 UD) := hide (Fr.of_below (chain BV9.out bD (Nat.le_refl _)))
    clear bD sD r1 r2
    have TL := all_tells (n - 1) (by omega) (n0 := wA.heap.size) (line := line) (HUG.out.at KD.out.hi.1) R1.out R2.out (by have := S9.out; omega) (Nat.le_refl _) (Nat.le_succ _) (by omega)
    clear R1 R2 KG9 XN
    refine range_toldE h1 (gf := 30) (lb := #[.pointer (some ⟨wA.heap.size, 0, none⟩), .pointer (some ⟨wA.heap.size + 1, 0, none⟩)]) rfl (enters_of Tryd.func30 (by kernel_rfl) rfl) rfl TL
      (fun pre Z => Kp w8.heap.size w8.heap.size w8 f T2 D2 R2 K2 hb2 lg2 Z ∧ (∃ v, Z.heap[N]? = some (.cells #[v] 48 (0, 0)) ∧ Z.ownsRow N 52 2 v (flt ws.length (tl pre)).length (prC (flt ws.length (tl pre)))) ∧ tl pre <+: allM f (ws ++ [word]) line line.size ∧ Fr (fun k => k = hb2 ∨ N ≤ k) w9 Z) (fun _ _ _ => False)
      (fun pre A A' row hi hg hr => ?_) (fun _ _ _ _ _ hi => hi.elim) (fun pre V hi => ⟨hi.1.hi, hi.1.tab⟩) (fun pre A B hi hf => ?_) (fun _ _ _ _ hi => hi.elim)
      (fun V hv => by obtain ⟨⟨_, st, hm⟩, _⟩ := hv; exact ⟨T2, f, lg2, st, hm⟩) (fun pre d A B hi hu => ?_) ⟨KD.out, ⟨_, XD.out, by simpa [tl, prC, flt] using World.ownsRow_nil UD N 52 2⟩, by simp [tl], FV.out⟩
      (fun x => { tmps := #[.slice q ws.length cap, .string word, .bool f, .string line, .pointer (some ⟨w.heap.size, 0, none⟩), undef, undef, undef, .bool false, .bool true, .pointer (some ⟨hb, 0, none⟩), .int .i64 0, .pointer (some ⟨hb2, 0, none⟩), .int .i64 0, .pointer (some ⟨N, 0, none⟩), .int .i64 (x.1 : Int), .int .i64 (x.2 : Int), undef, .bool true, .tuple #[.pointer (some ⟨hb, 0, none⟩), .int .i64 0], .slice q ws.length cap, .bool f, .tuple #[.pointer (some ⟨hb, 0, none⟩), .int .i64 0], .pointer (some ⟨hb, 0, none⟩), .int .i64 0, .tuple #[.pointer (some ⟨hb2, 0, none⟩), .int .i64 0], .slice q ws.length cap, .slice q6 ws.length c6, .string word, .slice (some ⟨w6.heap.size, 0, none⟩) 1 1, v8, .bool f, .tuple #[.pointer (some ⟨hb2, 0, none⟩), .int .i64 0], .pointer (some ⟨hb2, 0, none⟩), .int .i64 0, .int .i64 0, .bool false, .bool false, .int .i64 0, .bool false, .bool false, undef, .bool true, .bool false, .bool false, .pointer (some ⟨hb, 0, none⟩), .bool false, .bool false, .bool false, .pointer (some ⟨hb2, 0, none⟩), .bool false, .bool false, .pointer (some ⟨hb2, 0, none⟩), .string line, .func (.func 30) #[] #[.pointer (some ⟨wA.heap.size, 0, none⟩), .pointer (some ⟨wA.heap.size + 1, 0, none⟩)], .int .i64 (x.1 : Int), .int .i64 (x.2 : Int), undef, undef, undef, undef, undef, undef, undef, undef, undef, undef, undef, undef, undef, undef, undef, undef], defers := [] }) ?_ ?_ ?_ ?_
    · obtain ⟨k1, ⟨v, k2, k3⟩, k4⟩ := hi
      have hrN : ∀ r, row = some r → N ≤ r := fun r e => Nat.le_trans SD.out.2 (hr r e).1
      refine ⟨k1.grown SD.out.1 hg hr, ⟨v, cells_kept hg hr k2, k3.kept hg ?_⟩, k4.1, k4.2.trans ⟨hg.os, hg.tape, hg.output, hg.size, fun k hk hs => hg.block k hk (fun e => hs (.inr (hrN k e.symm)))⟩⟩
      rcases h9 : v.ownBlock with _ | g
      · exact .inl rfl
      · refine .inr (fun e => ?_)
        obtain ⟨_, cur, q⟩ := own_typ k3 h9
        obtain ⟨_, o, q1, q2⟩ := hr g e.symm
        rw [q] at q1; injection q1 with q1; subst q1; cases q2
    · obtain ⟨k1, ⟨v, k2, k3⟩, k4⟩ := hi
      refine ⟨k1.ft SD.out.1 hf, ⟨v, hf.keep k2 (fun cur t e => by injection e with _ e _; subst e; unfold tyP; decide), ownsRow_fr k3 hf.fr (fun g hg ⟨_, c2, t2, q1, q2⟩ => ?_)⟩, k4.1, k4.2.trans (hf.fr.mono (fun k q => .inr (Nat.le_trans SD.out.2 q.1)))⟩
      obtain ⟨_, cur, q⟩ := own_typ k3 hg
      rw [q] at q1; injection q1 with q1; injection q1 with _ q1 _; subst q1
      revert q2; unfold tyP; decide
    · obtain ⟨k1, ⟨v, k2, k3⟩, k4⟩ := hi
      obtain ⟨⟨_, st, hm⟩, _⟩ := And.intro k1.hi k1.tab
      rw [tl_inr]
      refine ⟨k1.bump hu, ⟨v, (hu.fr.block _ (lt_of_heap k2) (ne_type k2 hm (by decide))).trans k2, ownsRow_fr k3 hu.fr (fun g hg e => ?_)⟩, k4.1, k4.2.trans (hu.fr.mono (fun k q => .inl q))⟩
      obtain ⟨_, cur, q⟩ := own_typ k3 hg
      subst e
      rw [hm] at q; injection q with q; injection q with _ q _
      exact absurd q (by decide)
    · intro l' x Z K' hK
      simp only [encP]
      gi_wp2
      exact hK
    · rintro l' pre ⟨p, k⟩ Z ⟨k1, ⟨v, k2, k3⟩, k4⟩ hok
      dsimp only
      unfold OkA at hok
      obtain ⟨hok, _⟩ := hok
      have HO := hide hok
      have HV4 := hide k4.2
      have hl : (flt ws.length (tl pre)).length + 1 ≤ 200000000 := by
        have := hok.length_le
        have h3 := flt_len ws.length (tl pre)
        rw [List.length_append] at this
        simp at this
        have := HF.out
        omega
      have cw := cell_row ((k4.2.block w.heap.size (lt_of_heap Y9.out) (fun q => by have := NU.out; have := HB2.out; have := HNN.out; rcases q with q | q <;> omega)).trans Y9.out) (i := 0) rfl
      obtain ⟨t0, hi, hz0, hz1, hz2⟩ := info_parts size_pr
      obtain ⟨q0, c0, rfl⟩ := ownsRow_shape k3
      have K1' := hide k1
      have K2' := hide k2
      have K3' := hide k3
      have d0 := cell_row k2 (i := 0) rfl
      by_cases hkl : k = ws.length
      · subst hkl
        have FIN := hide (show KeepsFrom UD.heap.size Z Z ∧ TKeep (keepA wA.heap.size) Z Z from ⟨keeps_below (Below.refl _ _), TKeep.refl _ _⟩)
        clear k1 k2 k3 k4 hok
        gi_wp2
        refine ⟨FIN.out.1, FIN.out.2, K1'.out, ⟨_, K2'.out, ?_⟩, by rw [tl_inl]; exact HO.out, HV4.out⟩
        rw [tl_inl, flt_out]
        exact K3'.out
      · have hkn : ¬ (k : Int) = (ws.length : Int) := by omega
        have hN9 : N ≤ Z.heap.size := Nat.le_of_lt (lt_of_heap k2)
        have BA : Below Z.heap.size Z (Z.alloc (.cells #[.int .i64 (p : Int), .int .i64 (k : Int)] 52)) := (Below.refl _ _).alloc (Nat.le_refl _) _
        have Y7 : Hid ((Z.alloc (.cells #[.int .i64 (p : Int), .int .i64 (k : Int)] 52)).ownsRow N 52 2 (.slice q0 (flt ws.length (tl pre)).length c0) (flt ws.length (tl pre)).length (prC (flt ws.length (tl pre)))) := hide (World.ownsRow.alloc k3 _)
        have HNEW := hide (cells_two Z (.int .i64 (p : Int)) (.int .i64 (k : Int)) 52)
        have HN8 := hide (show N ≤ (Z.alloc (.cells #[.int .i64 (p : Int), .int .i64 (k : Int)] 52)).heap.size from Nat.le_trans hN9 BA.size)
        have BAH := hide BA
        clear k1 k2 k3 k4 hok BA
        gi_wp2_with (gi_at_builtin; refine wpListIn_append_own_at _ rfl _ _ 48 rfl N 52 t0 (.agg #[.int .i64 0, .int .i64 0]) 2 16 und_pr hi hz0 hz1 hz2 rfl (by decide) (.slice q0 (flt ws.length (tl pre)).length c0) (flt ws.length (tl pre)).length (prC (flt ws.length (tl pre))) rfl Y7.out ⟨Z.heap.size, 0, none⟩ 1 1 [.int .i64 (p : Int), .int .i64 (k : Int)] rfl rfl HNEW.out (by simp [Value.oneCell']) (by unfold maxLen; omega) (by omega) HN8.out ?_; intro v' w6 hown' hgrow _ _; obtain ⟨q6, c6, rfl⟩ := ownsRow_shape hown'; have O6 := hide hown'; have G6 := hide hgrow; have K9 : w6.heap[N]? = some (.cells #[.slice q0 (flt ws.length (tl pre)).length c0] 48 (0, 0)) := (hgrow.block N (Nat.lt_of_lt_of_le (lt_of_heap K2'.out) BAH.out.size) (fun e => by obtain ⟨_, cur, q⟩ := own_typ Y7.out e.symm; rw [BAH.out.block _ (lt_of_heap K2'.out), K2'.out] at q; injection q with q; injection q with _ q _; exact absurd q (by decide))).trans ((BAH.out.block _ (lt_of_heap K2'.out)).trans K2'.out); have KK9 := hide K9; have k9 := cell_row K9 (i := 0) rfl; have f9 := frz_row K9 0; clear hown' hgrow K9)
        have S2 : Fr (fun i => (Value.slice q0 (flt ws.length (tl pre)).length c0).ownBlock = some i ∨ i = N) Z (w6.setCell ⟨N, 0, none⟩ (.slice q6 ((flt ws.length (tl pre)).length + 1) c6)) :=
          ((Fr.of_below BAH.out).trans (⟨G6.out.os, G6.out.tape, G6.out.output, G6.out.size, fun k hk hs => G6.out.block k hk (fun e => hs (.inl e.symm))⟩)).trans ((Fr.refl _ w6).setCell (p := ⟨N, 0, none⟩) (.inr rfl) _)
        have TY : ∀ i, ((Value.slice q0 (flt ws.length (tl pre)).length c0).ownBlock = some i ∨ i = N) → ∃ cur t, Z.heap[i]? = some (.cells cur t (0, 0)) ∧ N ≤ i ∧ (t = 52 ∨ t = 48) := fun i hi => by
          rcases hi with hi | rfl
          · obtain ⟨q1, cur, q2⟩ := own_typ K3'.out hi
            exact ⟨cur, _, q2, q1, .inl rfl⟩
          · exact ⟨_, _, K2'.out, Nat.le_refl _, .inr rfl⟩
        refine ⟨⟨S2.size, fun i o _ hc ho => (S2.block i (Array.getElem?_eq_some_iff.1 hc).1 (fun q => by
          obtain ⟨cur, t, q1, _⟩ := TY i q
          rw [q1] at hc; injection hc with hc; subst hc; cases ho)).trans hc⟩, S2.tkeep (fun i cur t fr q hc hN => ?_), K1'.out.fr S2 (fun i q => by obtain ⟨_, _, _, q2, _⟩ := TY i q; have := HNN.out; have := NU.out; omega) (fun i cur t q hc => ?_), ⟨.slice q6 ((flt ws.length (tl pre)).length + 1) c6, (heap_set_in KK9.out 0 _).trans (by simp), ?_⟩, by rw [tl_inl]; exact HO.out, HV4.out.trans (S2.mono (fun i q => .inr (by obtain ⟨_, _, _, q2, _⟩ := TY i q; exact q2)))⟩
        · obtain ⟨cur', t', q1, _, q2⟩ := TY i q
          rw [q1] at hc; injection hc with hc; injection hc with _ hc _; subst hc
          rcases hN with ⟨_, q⟩ | q
          · rcases q2 with e | e <;> subst e <;> rcases q with q | q | q | q | q | q | q <;> exact absurd q (by decide)
          · rcases q2 with e | e <;> subst e <;> exact absurd q (by decide)
        · obtain ⟨cur', t', q1, _, q2⟩ := TY i q
          rw [q1] at hc; injection hc with hc; injection hc with _ hc _; subst hc
          rcases q2 with e | e <;> subst e <;> refine ⟨?_, ?_, ?_⟩ <;> decide
        · rw [tl_inl, flt_in hkl, prC_snoc, List.length_append]
          refine ownsRow_fr O6.out ((Fr.refl (fun i => i = N) w6).setCell (p := ⟨N, 0, none⟩) rfl _) (fun g hg e => ?_)
          obtain ⟨_, cur, q⟩ := own_typ O6.out hg
          subst e
          rw [KK9.out] at q; injection q with q; injection q with _ q _
          exact absurd q (by decide)
    · rintro D' xs Z hD' ⟨hS1, _⟩ ⟨k1, ⟨v, k2, k3⟩, k4⟩ hK
      rw [hS1, allM_more] at k3
      have HD := hide hK
      have HLE := hide hD'
      have K1' := hide k1
      have K2' := hide k2
      obtain ⟨q0, c9, rfl⟩ := ownsRow_shape k3
      have K3' := hide k3
      have KHZ := hide (by obtain ⟨_, st, hm9⟩ := KG.out.hi; exact KH.out.other k4.2 (by have := HNN.out; omega) hm9 (by have := HB2.out; have := HBL.out; have := NU.out; omega) (by have := HB2.out; have := NU.out; omega))
      have HF2 := hide (show (allM f ws line line.size).length ≤ 200000000 from by rw [← allM_more (word := word)]; have := flt_len ws.length (allM f (ws ++ [word]) line line.size); have := HF.out; omega)
      have B9Z := hide (show Below w.heap.size w Z from chainF B9.out k4.2 (Nat.le_refl _) (fun k q => by have := B9.out.size; have := HB2.out; have := HNN.out; have := NU.out; rcases q with q | q <;> omega))
      have PH := hide (show ∀ V : World, Below Z.heap.size Z V → CallsIn Fence.wide (n - 1) Tryd.prog 21 #[.pointer (some ⟨hb, 0, none⟩), .string line] V fun e V' => ∃ v, e = .returned v ∧ V'.ownsRow V.heap.size 52 2 v (allM f ws line line.size).length (prC (allM f ws line line.size)) ∧ V'.ownsRow N 52 2 (.slice q0 (allM f ws line line.size).length c9) (allM f ws line line.size).length (prC (allM f ws line line.size)) ∧ V'.heap[N]? = some (.cells #[.slice q0 (allM f ws line line.size).length c9] 48 (0, 0)) ∧ Below w.heap.size w V' ∧ V'.heap[D']? = some (.deferred (some [])) from fun V hV => by
        have h8 := KHZ.out.below hV
        refine (pairs_in (n - 1) (by omega) h8 (HU5.out.at h8.hi.1) (line := line) (by omega) HF2.out).mono (fun e V' ⟨v, q1, q2, _, q4⟩ => ⟨v, q1, q2, ?_, ?_, ?_, ?_⟩)
        · obtain ⟨_, st, hm9⟩ := h8.hi
          exact own_other (ownsRow_fr (S := fun _ => False) K3'.out (Fr.of_below hV) (fun _ _ q => q)) q4 (Nat.le_refl _) hm9
        · have hz := lt_of_heap K2'.out
          obtain ⟨_, st, hm9⟩ := h8.hi
          have e1 := (hV.block N hz).trans K2'.out
          refine (q4.block N (Nat.lt_of_lt_of_le hz hV.size) (fun q => ?_)).trans e1
          rcases q with q | q
          · exact (ne_type e1 hm9 (by decide)) q
          · have := hV.size; omega
        · exact chainF (chain B9Z.out hV (by have := B9Z.out.size; omega)) q4 (Nat.le_refl _) (fun k q => by have := B9Z.out.size; have := hV.size; have := HBL.out; have := NU.out; rcases q with q | q <;> omega)
        · have hz := lt_of_heap HD.out
          have e1 := (hV.block D' hz).trans HD.out
          refine (q4.block D' (Nat.lt_of_lt_of_le hz hV.size) (fun q => ?_)).trans e1
          have := hV.size
          have := HLE.out
          have := SD.out
          have := HBL.out
          have := NU.out
          have := HNN.out
          rcases q with q | q <;> omega)
      have d9 := cell_row k2 (i := 0) rfl
      clear k1 k2 k3 k4 hK hD' TL hS1
      have BDR := hide (show Below Z.heap.size Z Z.drew from (Below.refl _ _).drew)
      gi_upto_region 14 with fail
      refine wpIn_only ?_
      refine (wpIn_wide (n := n)).2 ?_
      go_region_with (first | (go_at_call 21; refine (callsIn_wide.1 (PH.out _ BDR.out)).mono ?_; rintro e wv ⟨v1, rfl, o1, o2, x1, bx, dx⟩; have SC := hide (same_c o1 o2 HF2.out); have cx := cell_row x1 (i := 0) rfl; have BX := hide bx; have DX := hide dx; clear o1 o2 x1 bx dx) | (go_at_call 20; refine SC.out.mono ?_; rintro e wy ⟨rfl, by1⟩; have BY := hide by1; clear by1))
      all_goals
        refine onlyN_intro ?_
        dsimp only [Act.put]
        have FIN := hide (show Below w.heap.size w (wy.putObj D' (.deferred none)) ∧ wy.heap[D']? = some (.deferred (some [])) from by
          have g1 := chain BX.out BY.out (by have := BX.out.size; omega)
          have g2 := grownBy_putObj' wy D' (.deferred none)
          refine ⟨⟨g2.os.trans g1.os, g2.tape.trans g1.tape, g2.output.trans g1.output, Nat.le_trans g1.size g2.size, fun i hi => (g2.block i (by have := g1.size; omega) (fun e => by injection e with e; have := HLE.out; have := SD.out; have := NU.out; omega)).trans (g1.block i hi)⟩, (BY.out.block _ (lt_of_heap DX.out)).trans DX.out⟩)
        gi_wp2
        refine ⟨by simp, .inl ⟨_, _, rfl, run_takeDeferred FIN.out.2, ?_⟩⟩
        exact ⟨.bool true, by simp [results, Tryd.results6, go_sem], rfl, FIN.out.1⟩
    · rintro D' c pre Z hD' hSp hF hK
      exact hF.elim
end Go.Proofs.YtaikcnoiaaiopaaDoor
