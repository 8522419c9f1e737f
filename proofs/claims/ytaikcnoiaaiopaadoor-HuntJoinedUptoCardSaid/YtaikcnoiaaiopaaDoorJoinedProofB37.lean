/-
  Parts of the proof.
-/
import Derived.Test.YtaikcnoiaaiopaaDoorJoinedProofB34
import Derived.Test.YtaikcnoiaaiopaaDoorJoinedProofB36
import Derived.Deep.RegionLaw
set_option linter.unusedSimpArgs false
namespace Go.Proofs.YtaikcnoiaaiopaaDoor
open Go Go.RowKit Go.Shelf
attribute [local go_sem] Oper.semAt_some ext_cell
theorem bL_at {s : ByteArray} {t : Nat} (h : t < s.size) : (bL s)[t]? = some (s[t]'h).toNat := by
  have h2 := cL_get false s h
  rw [cL_f] at h2
  simpa [cB] using h2
theorem notin_snoc {x y : Nat} {l l2 : List Nat} (h : x ∉ l) (e : l2 = l ++ [y]) (hne : ¬ y = x) : x ∉ l2 := by
  subst e
  intro q
  rcases List.mem_append.1 q with q | q
  · exact h q
  · simp at q; exact hne q.symm
theorem all_snoc {P : ByteArray → Prop} {s : ByteArray} {l l2 : List ByteArray} (h : ∀ x ∈ l, P x) (e : l2 = l ++ [s]) (hs : P s) : ∀ x ∈ l2, P x := by
  subst e
  intro x q
  rcases List.mem_append.1 q with q | q
  · exact h x q
  · simp at q; subst q; exact hs
theorem own_lower {W : World} {b1 b2 sz m : Nat} {e : TypeId} {v : Value} {xs : List Value} (h : W.ownsRow b1 e sz v m xs) (hb : b2 ≤ b1) : W.ownsRow b2 e sz v m xs :=
  ⟨h.1, h.2.imp id fun ⟨g, cap, cur, q1, q2, q3⟩ => ⟨g, cap, cur, q1, Nat.le_trans hb q2, q3⟩⟩
theorem conv_one (b : UInt8) (W : World) : (convert 55 9 (.slice (some ⟨W.heap.size, 0, none⟩) 1 1)).run Tryd.prog (W.alloc (.cells #[.int .u8 (b.toNat : Int)] 5)) = .ok (.string ⟨#[b]⟩) (W.alloc (.cells #[.int .u8 (b.toNat : Int)] 5)) :=
  run_convert_bytes_back (P := Tryd.prog) (W.alloc (.cells #[.int .u8 (b.toNat : Int)] 5)) 55 9 5 ⟨W.heap.size, 0, none⟩ 1 [b] Tryd.underlying55 Tryd.underlying5 Tryd.underlying9 (fun j hj => cells_one W _ _ j _ (by
    have : j = 0 := by simpa using hj
    subst this; rfl))
theorem shf_map_len (d : Nat) (l : List (Nat × Nat)) : (l.map (shf d)).length = l.length := List.length_map _
set_option maxRecDepth 100000 in
set_option maxHeartbeats 4000000 in
theorem joined_in (n : Nat) (hn : 12 ≤ n) {w : World} {v : Value} {ws : List ByteArray} (one two : ByteArray) (b : UInt8) (hsz : one.size + two.size ≤ 1048576) (ht : z1_Tab w) (hv : ArgW w v ws) :
    CallsIn Fence.wide n Tryd.prog 8 #[v, .string one, .string two, .int .u8 (b.toNat : Int)] w fun e w' => e = .returned (.bool true) ∧ Below w.heap.size w w' := by
  have h1 : 1 ≤ n := by omega
  have h2 : 1 ≤ n - 1 - 1 := by omega
  have hfn : ∀ f, Fence.wide.fn f := fun _ => trivial
  have hmx : Tryd.prog.follows .mixedOrders = true := by kernel_rfl
  have HT := hide ht
  have HV := hide hv
  obtain ⟨q, cap, rfl, hml, _, _⟩ := hv.slice
  have KN := hide (known_in (n - 1) (by omega) ht)
  clear ht hv
  refine callsIn_of_wp_marks Tryd.func8 rfl trivial ?_ rfl
  simp only [Tryd.ntmps8, List.size_toArray, List.length_cons, List.length_nil, Nat.reduceAdd, Nat.reduceSub, Array.replicate_succ, Array.replicate_zero, List.push_toArray, List.append_toArray, List.nil_append, List.cons_append]
  gi_upto_region 2 with (gi_at_call 9; refine KN.out.mono ?_; rintro e w1 ⟨rfl, k1⟩; have B1 := hide k1; clear k1)
  have V1 := hide (HV.out.below B1.out (Nat.le_refl _))
  have NC := hide (new_c false V1.out)
  gi_upto_region 3 with (gi_at_call 10; refine (callsIn_wide.2 NC.out).mono ?_; rintro e w5 ⟨hbl, (⟨hmm, rfl⟩ | ⟨hb, T, D, R, K, lg, rfl, hlb, hH, hM⟩)⟩)
  · have FIN := hide (show Below w.heap.size w w5 from chain B1.out hbl (Nat.le_refl _))
    clear hbl
    gi_wp2
    refine ⟨.bool true, by simp [results, Tryd.results8, go_sem], rfl, FIN.out⟩
  have KP5 := hide (kp_new (w := w1) hH hM (by unfold wrap64; omega) (HT.out.below B1.out) hbl hlb)
  have HU5 := hide hH
  have OK := hide hH.ok
  have V5 := hide (V1.out.below hbl (Nat.le_refl _))
  have BW5 := hide (chain B1.out hbl (Nat.le_refl _))
  have SZ := hide (show w.heap.size ≤ w1.heap.size ∧ w1.heap.size ≤ w5.heap.size ∧ w1.heap.size ≤ hb ∧ hb < w5.heap.size from ⟨B1.out.size, hbl.size, hlb, lt_of_heap hM⟩)
  clear hH hM hlb hbl NC KN V1
  have wl := (mayB_of OK.out).2
  gi_upto_region 8 with fail
  obtain ⟨LI, hLI⟩ : ∃ LI : Act → World → Prop, LI = (fun a U => ∃ i : Nat, a.tmps = #[.slice q ws.length cap, .string one, .string two, .int .u8 (b.toNat : Int), tw a 4, tw a 5, tw a 6, tw a 7, tw a 8, .bool true, .pointer (some ⟨hb, 0, none⟩), tw a 11, .int .i64 (i : Int), tw a 13, tw a 14, tw a 15, tw a 16, tw a 17, tw a 18, tw a 19, tw a 20, tw a 21, tw a 22, tw a 23, tw a 24, tw a 25, tw a 26, tw a 27, tw a 28, tw a 29, tw a 30, tw a 31, tw a 32, tw a 33, tw a 34, tw a 35, tw a 36, tw a 37, tw a 38, tw a 39, tw a 40, tw a 41, tw a 42, tw a 43, tw a 44, tw a 45, tw a 46, tw a 47, tw a 48, tw a 49, tw a 50, tw a 51, tw a 52, tw a 53, tw a 54, tw a 55, tw a 56, tw a 57, tw a 58, tw a 59, tw a 60, tw a 61, tw a 62, tw a 63, tw a 64, tw a 65, tw a 66, tw a 67, tw a 68, tw a 69, tw a 70, tw a 71, tw a 72, tw a 73, tw a 74, tw a 75, tw a 76, tw a 77, tw a 78, tw a 79, tw a 80, tw a 81, tw a 82, tw a 83, tw a 84, tw a 85, tw a 86, tw a 87, tw a 88, tw a 89, tw a 90, tw a 91, tw a 92, tw a 93, tw a 94, tw a 95, tw a 96, tw a 97] ∧ a.defers = [] ∧ Below w5.heap.size w5 U ∧ i ≤ ws.length ∧ ∀ s ∈ ws.take i, b.toNat ∉ bL s) := ⟨_, rfl⟩
  refine wpIn_loop LI (fun a _ => ((ws.length : Int) - intOf (a.tmps.getD 12 undef)).toNat) ?_ ?_
  · rw [hLI]
    exact ⟨0, rfl, rfl, Below.refl _ _, Nat.zero_le _, by simp⟩
  · rintro ⟨tm, ds⟩ U hI
    rw [hLI] at hI
    obtain ⟨i, ha, hd, hbU, hi, hns⟩ := hI
    dsimp only at ha hd
    generalize tw { tmps := tm, defers := ds } = f' at ha
    subst ha hd
    have HLI := hide hLI
    have HBU := hide hbU
    have HNS := hide hns
    clear hLI hbU hns
    by_cases hlt : i < ws.length
    · have i0 : (i : Int) < (ws.length : Int) := by omega
      have i1 : (0 : Int) ≤ (i : Int) := by omega
      obtain ⟨s, hs⟩ : ∃ s, ws[i]? = some s := ⟨_, List.getElem?_eq_getElem hlt⟩
      have s1 := ((mayB_of OK.out).1 s (List.mem_of_getElem? hs)).2
      have wk : IntKind.wrap .i64 ((i : Int) + 1) = (i : Int) + 1 := wrap_small _ (by omega) (by omega)
      have HTK := hide (show ws.take (i + 1) = ws.take i ++ [s] by rw [List.take_add_one, hs]; rfl)
      obtain ⟨g, off, rfl, CW⟩ : ∃ g off, q = some ⟨g, off, none⟩ ∧ Hid (∀ V, Below w5.heap.size w5 V → V.cell? ⟨g, off + i, none⟩ = some (.string s)) := by
        obtain ⟨q', cap', e', _, _, hcs⟩ := V5.out.slice
        obtain ⟨rfl, rfl⟩ : q' = q ∧ cap' = cap := by
          injection e' with e1 _ e3
          exact ⟨e1.symm, e3.symm⟩
        obtain ⟨g, off, rfl, hg, hc⟩ := hcs i s hs
        exact ⟨g, off, rfl, hide (fun V hV => (hV.cell (p := ⟨g, off + i, none⟩) hg).trans hc)⟩
      clear hs
      gi_upto_region 11 with fail
      obtain ⟨LJ, hLJ⟩ : ∃ LJ : Act → World → Prop, LJ = (fun a U2 => ∃ k : Nat, a.tmps = #[.slice (some ⟨g, off, none⟩) ws.length cap, .string one, .string two, .int .u8 (b.toNat : Int), tw a 4, tw a 5, tw a 6, tw a 7, tw a 8, .bool true, .pointer (some ⟨hb, 0, none⟩), tw a 11, .int .i64 (i : Int), .int .i64 (k : Int), tw a 14, tw a 15, tw a 16, tw a 17, tw a 18, tw a 19, tw a 20, tw a 21, tw a 22, tw a 23, tw a 24, tw a 25, tw a 26, tw a 27, tw a 28, tw a 29, tw a 30, tw a 31, tw a 32, tw a 33, tw a 34, tw a 35, tw a 36, tw a 37, tw a 38, tw a 39, tw a 40, tw a 41, tw a 42, tw a 43, tw a 44, tw a 45, tw a 46, tw a 47, tw a 48, tw a 49, tw a 50, tw a 51, tw a 52, tw a 53, tw a 54, tw a 55, tw a 56, tw a 57, tw a 58, tw a 59, tw a 60, tw a 61, tw a 62, tw a 63, tw a 64, tw a 65, tw a 66, tw a 67, tw a 68, tw a 69, tw a 70, tw a 71, tw a 72, tw a 73, tw a 74, tw a 75, tw a 76, tw a 77, tw a 78, tw a 79, tw a 80, tw a 81, tw a 82, tw a 83, tw a 84, tw a 85, tw a 86, tw a 87, tw a 88, tw a 89, tw a 90, tw a 91, tw a 92, tw a 93, tw a 94, tw a 95, tw a 96, tw a 97] ∧ a.defers = [] ∧ Below w5.heap.size w5 U2 ∧ k ≤ s.size ∧ b.toNat ∉ (bL s).take k) := ⟨_, rfl⟩
      refine wpIn_loop LJ (fun a _ => ((s.size : Int) - intOf (a.tmps.getD 13 undef)).toNat) ?_ ?_
      · rw [hLJ]
        exact ⟨0, rfl, rfl, HBU.out, Nat.zero_le _, by simp⟩
      · rintro ⟨tm, ds⟩ U2 hI
        rw [hLJ] at hI
        obtain ⟨k, ha, hd, hb2, hk, hnk⟩ := hI
        dsimp only at ha hd
        generalize tw { tmps := tm, defers := ds } = f'' at ha
        subst ha hd
        have HLJ := hide hLJ
        have HB2 := hide hb2
        have HNK := hide hnk
        have cw := CW.out U2 hb2
        clear hLJ hb2 hnk
        by_cases hlt2 : k < s.size
        · have j0 : (k : Int) < (s.size : Int) := by omega
          have j1 : (0 : Int) ≤ (k : Int) := by omega
          have wkk : IntKind.wrap .i64 ((k : Int) + 1) = (k : Int) + 1 := wrap_small _ (by omega) (by omega)
          have hz : k < s.size := hlt2
          have NX := hide (show (bL s).take (k + 1) = (bL s).take k ++ [(s[k]'hlt2).toNat] by rw [List.take_add_one, bL_at hlt2]; rfl)
          by_cases hE : (s[k]'hlt2).toNat = b.toNat
          · have hE2 : (((s[k]'hlt2).toNat : Nat) : Int) = ((b.toNat : Nat) : Int) := by rw [hE]
            have FIN := hide (show Below w.heap.size w U2 from chain BW5.out HB2.out (by have := SZ.out; omega))
            gi_wp2
            refine ⟨.bool true, by simp [results, Tryd.results8, go_sem], rfl, FIN.out⟩
          · have hE2 : ¬ (((s[k]'hlt2).toNat : Nat) : Int) = ((b.toNat : Nat) : Int) := by omega
            have HE := hide hE
            clear hE
            gi_wp2
            refine ⟨by rw [HLJ.out]; exact ⟨k + 1, rfl, rfl, HB2.out, hlt2, notin_snoc HNK.out NX.out HE.out⟩, ?_⟩
            simp [intOf]
            omega
        · have j0 : ¬ (k : Int) < (s.size : Int) := by omega
          obtain rfl : k = s.size := by omega
          have HNN := hide (show b.toNat ∉ bL s by have := HNK.out; rwa [List.take_of_length_le (by rw [bL_len]; omega)] at this)
          have HB3 := hide HB2.out
          gi_wp2
          refine ⟨by rw [HLI.out]; exact ⟨i + 1, rfl, rfl, HB3.out, hlt, all_snoc HNS.out HTK.out HNN.out⟩, ?_⟩
          simp [intOf]
          omega
    · have i0 : ¬ (i : Int) < (ws.length : Int) := by omega
      obtain rfl : i = ws.length := by omega
      have NSEP := hide (show noSep ws b from by have := HNS.out; rwa [List.take_length] at this)
      have KU := hide (KP5.out.below HBU.out)
      have HF1 := hide (show (allM false ws one one.size).length ≤ 200000000 ∧ (allM false ws two two.size).length ≤ 200000000 ∧ (allM false ws (tot one b two) (tot one b two).size).length ≤ 200000000 from by
        have h5 := allM_few (f := false) (ws := ws) (line := one) one.size
        have h6 := allM_few (f := false) (ws := ws) (line := two) two.size
        have h7 : one.size * ws.length ≤ one.size * 100 := Nat.mul_le_mul_left _ wl.2
        have h8 : two.size * ws.length ≤ two.size * 100 := Nat.mul_le_mul_left _ wl.2
        rw [allM_tot OK.out NSEP.out, List.length_append, List.length_map]
        omega)
      have P1 := hide (pairs_in (n - 1) (by omega) KU.out (HU5.out.at KU.out.hi.1) (line := one) (by omega) HF1.out.1)
      clear HLI HNS
      gi_upto_region 16 with (gi_at_call 21; refine P1.out.mono ?_; rintro e w6 ⟨v6, rfl, own6, kp6, fr6⟩)
      have O6 := hide own6
      have K6 := hide kp6
      have P2 := hide (pairs_in (n - 1) (by omega) kp6 (HU5.out.at kp6.hi.1) (line := two) (by omega) HF1.out.2.1)
      have F6 := hide fr6
      clear own6 kp6 fr6 P1
      gi_upto_region 18 with (gi_at_call 21; refine P2.out.mono ?_; rintro e w7 ⟨v7, rfl, own7, kp7, fr7⟩)
      obtain ⟨qr, cr, rfl⟩ := ownsRow_shape own7
      have O7 := hide own7
      have K7 := hide kp7
      have O6' := hide (by obtain ⟨_, st, hm9⟩ := K6.out.hi; exact own_other O6.out fr7 (Nat.le_refl _) hm9)
      have S78 := hide (show w6.heap.size ≤ w7.heap.size from fr7.size)
      have S67 := hide (show w5.heap.size ≤ U.heap.size ∧ U.heap.size ≤ w6.heap.size from ⟨HBU.out.size, F6.out.size⟩)
      have NE7 := hide (show ∀ g, qr = some ⟨g, 0, none⟩ → v6.ownBlock ≠ some g from fun g hg hv6 => by
        have l6 := (O6.out.lt g hv6).2
        have l7 := (own_typ O7.out (k := g) (by rw [hg]; rfl)).1
        omega)
      clear own7 kp7 fr7 P2
      have EQT := hide (allM_tot (one := one) (two := two) OK.out NSEP.out)
      have LT2 := hide (show ∀ x ∈ allM false ws two two.size, x.1 < two.size from fun x hx => (allM_mem.1 (show (x.1, x.2) ∈ _ from hx)).1)
      obtain ⟨A, hA⟩ : ∃ A, A = allM false ws one one.size := ⟨_, rfl⟩
      obtain ⟨B, hB⟩ : ∃ B, B = allM false ws two two.size := ⟨_, rfl⟩
      rw [← hA, ← hB] at EQT HF1
      rw [← hA] at O6 O6'
      rw [← hB] at O7 LT2 ⊢
      clear hA hB O6
      obtain ⟨LK, hLK⟩ : ∃ LK : Act → World → Prop, LK = (fun a U3 => ∃ (j : Nat) (v9 : Value), a.tmps = #[.slice q ws.length cap, .string one, .string two, .int .u8 (b.toNat : Int), tw a 4, tw a 5, tw a 6, tw a 7, tw a 8, .bool true, .pointer (some ⟨hb, 0, none⟩), tw a 11, tw a 12, tw a 13, v9, .slice qr B.length cr, .int .i64 (j : Int), tw a 17, tw a 18, tw a 19, tw a 20, tw a 21, tw a 22, tw a 23, tw a 24, tw a 25, tw a 26, tw a 27, tw a 28, tw a 29, tw a 30, tw a 31, tw a 32, tw a 33, tw a 34, tw a 35, tw a 36, tw a 37, tw a 38, tw a 39, tw a 40, tw a 41, tw a 42, tw a 43, tw a 44, tw a 45, tw a 46, tw a 47, tw a 48, tw a 49, tw a 50, tw a 51, tw a 52, tw a 53, tw a 54, tw a 55, tw a 56, tw a 57, tw a 58, tw a 59, tw a 60, tw a 61, tw a 62, tw a 63, tw a 64, tw a 65, tw a 66, tw a 67, tw a 68, tw a 69, tw a 70, tw a 71, tw a 72, tw a 73, tw a 74, tw a 75, tw a 76, tw a 77, tw a 78, tw a 79, tw a 80, tw a 81, tw a 82, tw a 83, tw a 84, tw a 85, tw a 86, tw a 87, tw a 88, tw a 89, tw a 90, tw a 91, tw a 92, tw a 93, tw a 94, tw a 95, tw a 96, tw a 97] ∧ a.defers = [] ∧ Kp w1.heap.size w1.heap.size w1 false T D R K hb lg U3 ∧ U3.ownsRow w5.heap.size 52 2 v9 (A.length + j) (prC (A ++ (B.take j).map (shf one.size))) ∧ U3.ownsRow w6.heap.size 52 2 (.slice qr B.length cr) B.length (prC B) ∧ (∀ g, qr = some ⟨g, 0, none⟩ → v9.ownBlock ≠ some g) ∧ j ≤ B.length ∧ w5.heap.size ≤ U3.heap.size) := ⟨_, rfl⟩
      refine wpIn_loop LK (fun a _ => ((B.length : Int) - intOf (a.tmps.getD 16 undef)).toNat) ?_ ?_
      · rw [hLK]
        exact ⟨0, v6, rfl, rfl, K7.out, by simpa using own_lower O6'.out S67.out.1, O7.out, NE7.out, Nat.zero_le _, by have := K7.out.bl.size; have := S67.out; have := O7.out; have := HBU.out.size; exact Nat.le_trans S67.out.1 (Nat.le_trans S67.out.2 S78.out)⟩
      · clear O7 NE7 K7 O6'
        rintro ⟨tm, ds⟩ U3 hI
        rw [hLK] at hI
        obtain ⟨j, v9, ha, hd, hK9, hO9, hR9, hne, hj, hs9⟩ := hI
        dsimp only at ha hd
        generalize tw { tmps := tm, defers := ds } = f'' at ha
        subst ha hd
        have HLK := hide hLK
        have KU3 := hide hK9
        have O9 := hide hO9
        have R9 := hide hR9
        have NE9 := hide hne
        have S9 := hide hs9
        clear hLK hK9 hO9 hR9 hne hs9
        by_cases hlt : j < B.length
        · have i0' : (j : Int) < (B.length : Int) := by omega
          have i1' : (0 : Int) ≤ (j : Int) := by omega
          obtain ⟨x, hx⟩ : ∃ x, B[j]? = some x := ⟨_, List.getElem?_eq_getElem hlt⟩
          have x2 := LT2.out x (List.mem_of_getElem? hx)
          have HTK := hide (show (B.take (j + 1)).map (shf one.size) = (B.take j).map (shf one.size) ++ [(x.1 + one.size + 1, x.2)] by rw [List.take_add_one, hx]; simp [shf])
          obtain ⟨gr, rfl, lgr, ca, cb⟩ := pr_at R9.out hx
          have wj : IntKind.wrap .i64 ((j : Int) + 1) = (j : Int) + 1 := wrap_small _ (by omega) (by have := HF1.out.2.1; omega)
          have wa : IntKind.wrap .i64 ((x.1 : Int) + (one.size : Int)) = (x.1 : Int) + (one.size : Int) := wrap_small _ (by omega) (by omega)
          have wb : IntKind.wrap .i64 ((x.1 : Int) + (one.size : Int) + 1) = (x.1 : Int) + (one.size : Int) + 1 := wrap_small _ (by omega) (by omega)
          obtain ⟨q9, c9, rfl⟩ := ownsRow_shape O9.out
          obtain ⟨t0, hi0, hz0, hz1, hz2⟩ := info_parts size_pr
          have HF := HF1.out
          clear hx
          gi_upto_region 20 with fail
          refine wpIn_only ?_
          refine (wpIn_wide (n := n)).2 ?_
          go_region_law (refine step_append_at rfl _ _ 48 rfl w5.heap.size 52 t0 (.agg #[.int .i64 0, .int .i64 0]) 2 16 und_pr hi0 hz0 hz1 hz2 rfl (by decide) (.slice q9 (A.length + j) c9) (A.length + j) _ (by simp [Act.eval]) (World.ownsRow.drew (World.ownsRow.alloc O9.out _)) ⟨U3.heap.size, 0, none⟩ 1 1 [.int .i64 ((x.1 : Int) + (one.size : Int) + 1), .int .i64 (x.2 : Int)] (by simp [Act.eval]) rfl (news2 _ _ _ _) (by simp [Value.oneCell']) (by unfold maxLen; omega) (by omega) (by have := S9.out; simp; omega) ?_; intro v' wN hown' hgrow hblk; have OV := hide hown'; have GV := hide hgrow; have BV := hide hblk; clear hown' hgrow hblk)
          all_goals
            refine onlyN_intro ?_
            dsimp only [Act.put]
            have F6 : Hid (Fr (fun z => (Value.slice q9 (A.length + j) c9).ownBlock = some z) U3 wN) := hide ((((Fr.refl _ U3).alloc _).drew).grown GV.out (fun z hz => hz))
            have KN' := hide (KU3.out.fr F6.out (fun k hk => by have h9 := (own_typ O9.out hk).1; have := SZ.out; omega) (fun k cur t hk hc => by
              obtain ⟨_, cur', q1⟩ := own_typ O9.out hk
              rw [q1] at hc; injection hc with hc; injection hc with _ hc _; subst hc
              refine ⟨?_, ?_, ?_⟩ <;> decide))
            have RN := hide (ownsRow_fr R9.out F6.out (fun g hg e => NE9.out gr rfl (by injection hg with hg; subst hg; exact e)))
            have NN := hide (show ∀ g, some ⟨gr, 0, none⟩ = some (⟨g, 0, none⟩ : Addr) → v'.ownBlock ≠ some g from fun g hg hv => by
              injection hg with hg; injection hg with hg; subst hg
              rcases BV.out with e | e
              · rw [e] at hv; exact NE9.out gr rfl hv
              · rw [e] at hv; injection hv with hv; simp at hv; omega)
            have ON : Hid (wN.ownsRow w5.heap.size 52 2 v' (A.length + (j + 1)) (prC (A ++ (B.take (j + 1)).map (shf one.size)))) := hide (by
              rw [HTK.out, ← List.append_assoc, prC_snoc]
              have := OV.out
              push_cast
              exact this)
            have SN := hide (show w5.heap.size ≤ wN.heap.size from Nat.le_trans S9.out F6.out.size)
            gi_wp2
            refine ⟨by rw [HLK.out]; exact ⟨j + 1, v', rfl, rfl, KN'.out, ON.out, RN.out, NN.out, hlt, SN.out⟩, ?_⟩
            simp [intOf]
            omega
        · have i0' : ¬ (j : Int) < (B.length : Int) := by omega
          obtain rfl : j = B.length := by omega
          have OL : Hid (U3.ownsRow w5.heap.size 52 2 v9 (A ++ B.map (shf one.size)).length (prC (A ++ B.map (shf one.size)))) := hide (by
            have := O9.out
            rw [List.take_length] at this
            rwa [List.length_append, List.length_map])
          have HCV := conv_one b
          obtain ⟨q9, c9, rfl⟩ := ownsRow_shape OL.out
          obtain ⟨L, hL⟩ : ∃ L, L = A ++ B.map (shf one.size) := ⟨_, rfl⟩
          rw [← hL] at OL EQT
          have HF3 := hide (show L.length ≤ 200000000 from by have := HF1.out.2.2; rw [EQT.out] at this; exact this)
          rw [← hL]
          clear hL
          have P3 := hide (show ∀ V : World, Below U3.heap.size U3 V → CallsIn Fence.wide (n - 1) Tryd.prog 21 #[.pointer (some ⟨hb, 0, none⟩), .string (one ++ ⟨#[b]⟩ ++ two)] V fun e V' => ∃ v, e = .returned v ∧ V'.ownsRow V.heap.size 52 2 v L.length (prC L) ∧ V'.ownsRow w5.heap.size 52 2 (.slice q9 L.length c9) L.length (prC L) ∧ Below w.heap.size w V' from fun V hV => by
            have h8 := KU3.out.below hV
            have h9 := pairs_in (n - 1) (by omega) h8 (HU5.out.at h8.hi.1) (line := tot one b two) (by rw [tot_size]; omega) HF1.out.2.2
            rw [EQT.out] at h9
            refine h9.mono (fun e V' ⟨v, q1, q2, q3, q4⟩ => ⟨v, q1, q2, ?_, ?_⟩)
            · obtain ⟨_, st, hm9⟩ := h8.hi
              exact own_other (ownsRow_fr (S := fun _ => False) OL.out (Fr.of_below hV) (fun _ _ q => q)) q4 (Nat.le_refl _) hm9
            · exact B1.out.trans (q3.bl.mono SZ.out.1))
          have BA : Hid (Below U3.heap.size U3 (U3.alloc (.cells #[.int .u8 (b.toNat : Int)] 5))) := hide ((Below.refl _ _).alloc (Nat.le_refl _) _)
          gi_wp2_with (first | (gi_at_call 21; refine (P3.out _ BA.out).mono ?_; rintro e wv ⟨v1, rfl, o1, o2, bx⟩; have SC := hide (same_c o1 o2 HF3.out); have BX := hide bx; clear o1 o2 bx) | (gi_at_call 20; refine (callsIn_wide.2 SC.out).mono ?_; rintro e wy ⟨rfl, by1⟩; have BY := hide by1; clear by1))
          have FIN := hide (show Below w.heap.size w wy from chain BX.out BY.out (by have := BX.out.size; omega))
          exact ⟨.bool true, by simp [results, Tryd.results8, go_sem], rfl, FIN.out⟩
end Go.Proofs.YtaikcnoiaaiopaaDoor
