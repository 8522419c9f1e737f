/-
  Parts of the proof.
-/
import Derived.Test.YtaikcnoiaaiopaaDoorPlaysProofB34
set_option linter.unusedSimpArgs false
namespace Go.Proofs.YtaikcnoiaaiopaaDoor
open Go Go.RowKit Go.Shelf
attribute [local go_sem] Oper.semAt_some ext_cell
def strC (l : List ByteArray) : List Value := l.map Value.string
theorem und_strs : Tryd.prog.underlying 22 = some (.slice 9) := by kernel_rfl
theorem size_str : (Tryd.prog.info? 9).map (fun i => (i.zero, i.size, i.bytes)) = some (some (.string ⟨#[]⟩), 1, 16) := by kernel_rfl
theorem cells_one (W : World) (x : Value) (t : TypeId) : ∀ j u, [x][j]? = some u → (W.alloc (.cells #[x] t)).cell? ((⟨W.heap.size, 0, none⟩ : Addr).add j) = some u := by
  intro j u hj
  have h5 := alloc_new W (.cells #[x] t)
  rw [Addr.add_lit]
  rcases j with _ | j
  · simp at hj; subst hj; exact cell_row h5 (i := 0) rfl
  · simp at hj
theorem argW_own {W : World} {base : Nat} {v : Value} {l : List ByteArray} (h : W.ownsRow base 9 1 v l.length (strC l)) : ArgW W v l := by
  rcases h.2 with ⟨rfl, e⟩ | ⟨g, cap, cur, rfl, q1, q2, q3, q4, q5, q6⟩
  · exact .inl ⟨none, 0, rfl, List.eq_nil_of_length_eq_zero e⟩
  · refine .inr ⟨g, 0, cap, rfl, lt_of_heap q2, q3, q4, fun i x hx => ?_⟩
    have hi := (List.getElem?_eq_some_iff.1 hx).1
    have h2 : (strC l)[i]? = some (.string x) := by rw [strC, List.getElem?_map, hx]; rfl
    rw [Nat.zero_add]
    exact (h.cellAt i (by omega)).trans h2
theorem Kp.self {base b0 hb : Nat} {w0 V : World} {f : Bool} {T : Pt} {D : List Nat → Prop} {R : List Nat → Nat → Prop} {K : List Nat → Kn} {lg : Int} (h : Kp base b0 w0 f T D R K hb lg V) : Kp base b0 V f T D R K hb lg V := ⟨h.hi, h.tab, Below.refl _ _, h.pos, h.lb, Nat.le_trans h.lw h.bl.size, h.sw⟩
theorem own_other {base hb n0 m : Nat} {V V' : World} {v : Value} {xs : List Value} {cur : Array Value} (h : V.ownsRow base 52 2 v m xs) (hf : Fr (fun k => k = hb ∨ n0 ≤ k) V V') (hn : V.heap.size ≤ n0) (hm : V.heap[hb]? = some (.cells cur 67 (0, 0))) : V'.ownsRow base 52 2 v m xs :=
  ownsRow_fr h hf (fun g hg e => by
    rcases e with e | e
    · subst e
      obtain ⟨_, cur, q⟩ := own_typ h hg
      rw [hm] at q
      injection q with q
      injection q with _ q _
      exact absurd q (by decide)
    · have := (h.lt g hg).2
      omega)
theorem below_own {n base sz m : Nat} {a b c : World} {e : TypeId} {v : Value} {xs : List Value} (h : Below n a b) (ho : b.ownsRow base e sz v m xs) (hg : b.grownBy c v.ownBlock) (hn : n ≤ base) (hs : n ≤ a.heap.size) : Below n a c :=
  ⟨hg.os.trans h.os, hg.tape.trans h.tape, hg.output.trans h.output, Nat.le_trans h.size hg.size, fun k hk => (hg.block k (by have := h.size; omega) (fun q => by have := (own_typ ho q.symm).1; omega)).trans (h.block k hk)⟩
theorem strC_snoc (l : List ByteArray) (s : ByteArray) : strC (l ++ [s]) = strC l ++ [.string s] := by simp [strC]
set_option maxRecDepth 100000 in
set_option maxHeartbeats 4000000 in
theorem folds_in (n : Nat) (hn : 12 ≤ n) {w : World} {v : Value} {ws : List ByteArray} (line : ByteArray) (hsz : line.size ≤ 1048576) (ht : z1_Tab w) (hv : ArgW w v ws) :
    CallsIn Fence.wide n Tryd.prog 5 #[v, .string line] w fun e w' => e = .returned (.bool true) ∧ Below w.heap.size w w' := by
  have h1 : 1 ≤ n := by omega
  have h2 : 1 ≤ n - 1 - 1 := by omega
  have hfn : ∀ f, Fence.wide.fn f := fun _ => trivial
  have hmx : Tryd.prog.follows .mixedOrders = true := by kernel_rfl
  have HT := hide ht
  have HV := hide hv
  obtain ⟨q, cap, rfl, hml, _, _⟩ := hv.slice
  have KN := hide (known_in (n - 1) (by omega) ht)
  clear ht hv
  refine callsIn_of_wp_marks Tryd.func5 rfl trivial ?_ rfl
  simp only [Tryd.ntmps5, List.size_toArray, List.length_cons, List.length_nil, Nat.reduceAdd, Nat.reduceSub, Array.replicate_succ, Array.replicate_zero, List.push_toArray, List.append_toArray, List.nil_append, List.cons_append]
  gi_upto_region 2 with (gi_at_call 9; refine KN.out.mono ?_; rintro e w1 ⟨rfl, k1⟩; have B1 := hide k1; clear k1)
  have V1 := hide (HV.out.below B1.out (Nat.le_refl _))
  have NC := hide (new_c true V1.out)
  gi_upto_region 3 with (gi_at_call 10; refine (callsIn_wide.2 NC.out).mono ?_; rintro e w5 ⟨hbl, (⟨hmm, rfl⟩ | ⟨hb, T, D, R, K, lg, rfl, hlb, hH, hM⟩)⟩)
  · have FIN := hide (show Below w.heap.size w w5 from chain B1.out hbl (Nat.le_refl _))
    clear hbl
    gi_wp2
    refine ⟨.bool true, by simp [results, Tryd.results5, go_sem], rfl, FIN.out⟩
  have KP5 := hide (kp_new (w := w1) hH hM (by unfold wrap64; omega) (HT.out.below B1.out) hbl hlb)
  have HU5 := hide hH
  have OK := hide hH.ok
  have HBL := hide (show hb < w5.heap.size from lt_of_heap hM)
  have HBL2 := hide (show w.heap.size ≤ hb from by have := B1.out.size; omega)
  have V5 := hide (V1.out.below hbl (Nat.le_refl _))
  have BW5 := hide (chain B1.out hbl (Nat.le_refl _))
  clear hH hM hlb hbl NC KN V1
  gi_upto_region 7 with fail
  obtain ⟨LI, hLI⟩ : ∃ LI : Act → World → Prop, LI = (fun a U => ∃ (i : Nat) (v8 : Value), a.tmps = #[.slice q ws.length cap, .string line, tw a 2, tw a 3, tw a 4, .bool true, .pointer (some ⟨hb, 0, none⟩), tw a 7, v8, .int .i64 (i : Int), tw a 10, tw a 11, tw a 12, tw a 13, tw a 14, tw a 15, tw a 16, tw a 17, tw a 18, tw a 19, tw a 20, tw a 21, tw a 22, tw a 23, tw a 24, tw a 25, tw a 26, tw a 27, tw a 28, tw a 29, tw a 30, tw a 31, tw a 32, tw a 33, tw a 34, tw a 35, tw a 36, tw a 37, tw a 38, tw a 39, tw a 40, tw a 41, tw a 42, tw a 43, tw a 44, tw a 45, tw a 46, tw a 47, tw a 48, tw a 49, tw a 50, tw a 51, tw a 52, tw a 53, tw a 54, tw a 55, tw a 56, tw a 57, tw a 58, tw a 59, tw a 60, tw a 61, tw a 62, tw a 63] ∧ a.defers = [] ∧ Below w5.heap.size w5 U ∧ U.ownsRow w5.heap.size 9 1 v8 i (strC ((ws.take i).map lowB)) ∧ i ≤ ws.length) := ⟨_, rfl⟩
  refine wpIn_loop LI (fun a _ => ((ws.length : Int) - intOf (a.tmps.getD 9 undef)).toNat) ?_ ?_
  · rw [hLI]
    exact ⟨0, .slice none 0 0, rfl, rfl, Below.refl _ _, by simpa [strC] using World.ownsRow_nil w5 w5.heap.size 9 1, Nat.zero_le _⟩
  · rintro ⟨tm, ds⟩ U hI
    rw [hLI] at hI
    obtain ⟨i, v8, ha, hd, hbU, hO, hi⟩ := hI
    dsimp only at ha hd
    generalize tw { tmps := tm, defers := ds } = f' at ha
    subst ha hd
    have HLI := hide hLI
    have HBU := hide hbU
    have OU := hide hO
    clear hLI hbU hO
    have wl := (mayB_of OK.out).2
    by_cases hlt : i < ws.length
    · have i0 : (i : Int) < (ws.length : Int) := by omega
      have i1 : (0 : Int) ≤ (i : Int) := by omega
      obtain ⟨s, hs⟩ : ∃ s, ws[i]? = some s := ⟨_, List.getElem?_eq_getElem hlt⟩
      have s1 := ((mayB_of OK.out).1 s (List.mem_of_getElem? hs)).2
      obtain ⟨q', cap', e', _, _, hcs⟩ := (V5.out.below HBU.out (Nat.le_refl _)).slice
      obtain ⟨rfl, rfl⟩ : q' = q ∧ cap' = cap := by
        injection e' with e1 _ e3
        exact ⟨e1.symm, e3.symm⟩
      obtain ⟨g, off, rfl, _, cw⟩ := hcs i s hs
      have TK : (ws.take (i + 1)).map lowB = (ws.take i).map lowB ++ [lowB s] := by rw [List.take_add_one, hs]; simp
      have HTK := hide TK
      have wk : IntKind.wrap .i64 ((i : Int) + 1) = (i : Int) + 1 := wrap_small _ (by omega) (by omega)
      have LC := hide (fun W => lower_c s W (by unfold maxLen; omega))
      obtain ⟨q0, c0, rfl⟩ := ownsRow_shape OU.out
      obtain ⟨t0, hi0, hz0, hz1, hz2⟩ := info_parts size_str
      have hN5 := hide (show w5.heap.size ≤ U.heap.size from HBU.out.size)
      clear hs hcs TK
      gi_wp2_with (first | (gi_at_call 19; refine (callsIn_wide.2 (LC.out _)).mono ?_; rintro e V2 ⟨rfl, b2⟩; have B2 := hide b2; have Y7 : Hid ((V2.alloc (.cells #[.string (lowB s)] 9)).ownsRow w5.heap.size 9 1 (.slice q0 i c0) i (strC ((ws.take i).map lowB))) := hide (World.ownsRow.alloc (ownsRow_fr (S := fun _ => False) OU.out (Fr.of_below b2) (fun _ _ q => q)) _); have HNEW := hide (cells_one V2 (.string (lowB s)) 9); have HN8 := hide (show w5.heap.size ≤ (V2.alloc (.cells #[.string (lowB s)] 9)).heap.size by rw [World.size_alloc]; have := b2.size; have := hN5.out; omega); clear b2) | (gi_at_builtin; refine wpListIn_append_own_at _ rfl _ _ 22 rfl w5.heap.size 9 t0 (.string ⟨#[]⟩) 1 16 und_strs hi0 hz0 hz1 hz2 rfl (by decide) (.slice q0 i c0) i (strC ((ws.take i).map lowB)) rfl Y7.out ⟨V2.heap.size, 0, none⟩ 1 1 [.string (lowB s)] rfl rfl HNEW.out (by simp [Value.oneCell']) (by unfold maxLen; omega) (by omega) HN8.out ?_; intro v' w6 hown' hgrow _ _; have O6 := hide hown'; have G6 := hide hgrow; clear hown' hgrow))
      have FB := hide (show Below w5.heap.size w5 w6 from below_own (((chain HBU.out B2.out (Nat.le_refl _))).alloc (by have := B2.out.size; have := hN5.out; omega) _) Y7.out G6.out (Nat.le_refl _) (Nat.le_refl _))
      refine ⟨by rw [HLI.out]; exact ⟨i + 1, v', rfl, rfl, FB.out, by rw [HTK.out, strC_snoc]; exact O6.out, hlt⟩, ?_⟩
      simp [intOf]
      omega
    · have i0 : ¬ (i : Int) < (ws.length : Int) := by omega
      obtain rfl : i = ws.length := by omega
      have O8 : U.ownsRow w5.heap.size 9 1 v8 (ws.map lowB).length (strC (ws.map lowB)) := by
        have := OU.out
        rw [List.take_length] at this
        rwa [List.length_map]
      have A8 := hide (argW_own O8)
      have NC := hide (new_c false A8.out)
      have KU := hide (KP5.out.below HBU.out)
      clear O8 OU HLI
      gi_upto_region 11 with (gi_at_call 10; refine (callsIn_wide.2 NC.out).mono ?_; rintro e w9 ⟨hbl, (⟨hmm, _⟩ | ⟨hb2, T2, D2, R2, K2, lg2, rfl, hlb, hH, hM⟩)⟩; · exact absurd (OK.out.symm.trans ((mayB_low ws).symm.trans hmm)) (by decide))
      have KG := hide (kp_new hH hM (by unfold wrap64; omega) KU.out.tab hbl hlb)
      have UG := hide hH
      have KH := hide (KU.out.below hbl)
      have NE := hide (show hb ≠ hb2 ∧ hb ≠ 0 ∧ hb2 ≠ 0 from by
        have := HBL.out
        have := HBU.out.size
        have := KH.out.pos
        have := KH.out.lb
        exact ⟨by omega, by omega, by omega⟩)
      have BW9 := hide (chain (chain BW5.out HBU.out (by have := BW5.out.size; omega)) hbl (by have := BW5.out.size; have := HBU.out.size; omega))
      clear hH hM hlb hbl NC A8 KU
      have HF := hide (show (allM true ws line line.size).length ≤ 200000000 from by
        have h5 := allM_few (f := true) (ws := ws) (line := line) line.size
        have h7 : line.size * ws.length ≤ 1048576 * 100 := Nat.mul_le_mul hsz wl.2
        omega)
      have PH := hide (pairs_in (n - 1) (by omega) KH.out (HU5.out.at KH.out.hi.1) (line := line) (by omega) HF.out)
      have LC := hide (fun W => lower_c line W (by unfold maxLen; omega))
      have EQ := hide (show allM false (ws.map lowB) (lowB line) (lowB line).size = allM true ws line line.size from by rw [lowB_size]; exact allM_low _)
      obtain ⟨L, hL⟩ : ∃ L, L = allM true ws line line.size := ⟨_, rfl⟩
      rw [← hL] at HF PH EQ
      clear hL
      have P2 := hide (show ∀ V : World, Kp U.heap.size U.heap.size V false T2 D2 R2 K2 hb2 lg2 V → CallsIn Fence.wide (n - 1) Tryd.prog 21 #[.pointer (some ⟨hb2, 0, none⟩), .string (lowB line)] V fun e V' => ∃ v, e = .returned v ∧ V'.ownsRow V.heap.size 52 2 v L.length (prC L) ∧ Fr (fun k => k = hb2 ∨ V.heap.size ≤ k) V V' from fun V hV => by
        have h9 := pairs_in (n - 1) (by omega) hV (UG.out.at hV.hi.1) (line := lowB line) (by rw [lowB_size]; omega) (by rw [EQ.out]; exact HF.out)
        rw [EQ.out] at h9
        exact h9.mono (fun e V' ⟨v, q1, q2, _, q4⟩ => ⟨v, q1, q2, q4⟩))
      gi_upto_region 13 with fail
      gi_wp2_with (first | (gi_at_call 19; refine (callsIn_wide.2 (LC.out _)).mono ?_; rintro e w11 ⟨rfl, b11⟩; have B11 := hide b11; have KG11 := hide (KG10.out.below b11); have O11 := hide (ownsRow_fr (S := fun _ => False) O1.out (Fr.of_below b11) (fun _ _ q => q)); have P2' := hide (P2.out _ (KG11.out.self)); clear b11) | (gi_at_call 21; refine P2'.out.mono ?_; rintro e w12 ⟨v2, rfl, own2, fr12⟩; have O2 := hide own2; have F12 := hide fr12; have O12 := hide (by obtain ⟨_, st, hm9⟩ := KG11.out.hi; exact own_other O11.out fr12 (Nat.le_refl _) hm9); have SC := hide (same_c O12.out O2.out HF.out); clear own2 fr12) | (gi_at_call 21; refine PH.out.mono ?_; rintro e w10 ⟨v1, rfl, own1, kh10, fr10⟩; have O1 := hide own1; have F10 := hide fr10; have KG10 := hide (by obtain ⟨_, st, hm9⟩ := KH.out.hi; exact KG.out.other fr10 (Nat.le_refl _) hm9 NE.out.1 NE.out.2.1); clear own1 kh10 fr10) | (gi_at_call 20; refine (callsIn_wide.2 SC.out).mono ?_; rintro e w13 ⟨rfl, b13⟩; have B13 := hide b13; clear b13))
      have FIN := hide (show Below w.heap.size w w13 from by
        have sz := BW5.out.size
        have sz2 := HBU.out.size
        have g1 := chainF BW9.out F10.out (Nat.le_refl _) (fun k q => by have := BW9.out.size; have := HBL2.out; rcases q with q | q <;> omega)
        have g2 := chain g1 B11.out (Nat.le_refl _)
        have g3 := chainF g2 F12.out (Nat.le_refl _) (fun k q => by have := g2.size; have := KG.out.lb; rcases q with q | q <;> omega)
        exact chain g3 B13.out (Nat.le_refl _))
      exact ⟨.bool true, by simp [results, Tryd.results5, go_sem], rfl, FIN.out⟩
end Go.Proofs.YtaikcnoiaaiopaaDoor
