/-
  Parts of the proof.
-/
import Derived.Test.YtaikcnoiaaiopaaDoorEveryProofB32
set_option linter.unusedSimpArgs false
namespace Go.Proofs.YtaikcnoiaaiopaaDoor
open Go Go.RowKit Go.Shelf
attribute [local go_sem] Oper.semAt_some ext_cell
theorem cut_le (line : ByteArray) (k : Nat) (hk : k ≤ 80) : (line.extract 0 k).size ≤ 80 := by
  rw [ByteArray.size_extract]; omega
theorem prC_get : ∀ {l : List (Nat × Nat)} {j : Nat} {x : Nat × Nat}, l[j]? = some x → (prC l)[j * 2]? = some (.int .i64 (x.1 : Int)) ∧ (prC l)[j * 2 + 1]? = some (.int .i64 (x.2 : Int))
  | [], j, x, h => by simp at h
  | a :: l, 0, x, h => by
    simp at h; subst h
    exact ⟨rfl, rfl⟩
  | a :: l, j + 1, x, h => by
    have h2 := prC_get (l := l) (j := j) (x := x) (by simpa using h)
    rw [show (j + 1) * 2 = j * 2 + 1 + 1 by omega]
    exact h2
set_option maxRecDepth 100000 in
set_option maxHeartbeats 4000000 in
theorem every_in (n : Nat) (hn : 12 ≤ n) {w : World} {v : Value} {ws : List ByteArray} (f : Bool) (line : ByteArray) (ht : z1_Tab w) (hv : ArgW w v ws) :
    CallsIn Fence.wide n Tryd.prog 7 #[v, .bool f, .string line] w fun e w' => e = .returned (.bool true) ∧ Below w.heap.size w w' := by
  have h1 : 1 ≤ n := by omega
  have h2 : 1 ≤ n - 1 - 1 := by omega
  have hfn : ∀ f, Fence.wide.fn f := fun _ => trivial
  have hmx : Tryd.prog.follows .mixedOrders = true := by kernel_rfl
  have HT := hide ht
  have HV := hide hv
  have KN := hide (known_in (n - 1) (by omega) ht)
  clear ht hv
  refine callsIn_of_wp_marks Tryd.func7 rfl trivial ?_ rfl
  simp only [Tryd.ntmps7, List.size_toArray, List.length_cons, List.length_nil, Nat.reduceAdd, Nat.reduceSub, Array.replicate_succ, Array.replicate_zero, List.push_toArray, List.append_toArray, List.nil_append, List.cons_append]
  gi_upto_region 2 with (gi_at_call 9; refine KN.out.mono ?_; rintro e w1 ⟨rfl, k1⟩; have B1 := hide k1; clear k1)
  have V1 := hide (HV.out.below B1.out (Nat.le_refl _))
  have NC := hide (new_c f V1.out)
  gi_upto_region 3 with (gi_at_call 10; refine (callsIn_wide.2 NC.out).mono ?_; rintro e w5 ⟨hbl, (⟨hmm, rfl⟩ | ⟨hb, T, D, R, K, lg, rfl, hlb, hH, hM⟩)⟩)
  · have FIN := hide (show Below w.heap.size w w5 from chain B1.out hbl (Nat.le_refl _))
    clear hbl
    gi_wp2
    refine ⟨.bool true, by simp [results, Tryd.results7, go_sem], rfl, FIN.out⟩
  have KP5 := hide (kp_new (w := w1) hH hM (by unfold wrap64; omega) (HT.out.below B1.out) hbl hlb)
  have HU5 := hide hH
  have OK := hide hH.ok
  have HB := hide (show 0 ≠ hb from by have := KP5.out.pos; have := KP5.out.lb; omega)
  clear hH hM hlb hbl NC KN
  gi_upto_region 8 with fail
  obtain ⟨ln, hln⟩ : ∃ ln, ln = line.extract 0 (if (80 : Int) < (line.size : Int) then (80 : Int) else (line.size : Int)).toNat := ⟨_, rfl⟩
  have LN := hide (show ln.size ≤ 80 from by rw [hln]; exact cut_le _ _ (by split <;> omega))
  rw [← hln]
  clear hln
  generalize (if (80 : Int) < (line.size : Int) then (80 : Int) else (line.size : Int)) = mn
  have HF := hide (show (allM f ws ln ln.size).length ≤ 8000 from by
    have h5 := allM_few (f := f) (ws := ws) (line := ln) ln.size
    have h6 := (mayB_of OK.out).2.2
    have h7 : ln.size * ws.length ≤ 80 * 100 := Nat.mul_le_mul LN.out h6
    omega)
  have PR := hide (pairs_in (n - 1) (by omega) KP5.out HU5.out (line := ln) (by have := LN.out; omega) (by have := HF.out; omega))
  gi_upto_region 10 with (gi_at_call 21; refine PR.out.mono ?_; rintro e w6 ⟨v0, rfl, own0, kp6⟩)
  obtain ⟨q0, c0, rfl⟩ := ownsRow_shape own0
  obtain ⟨LI, hLI⟩ : ∃ LI : Act → World → Prop, LI = (fun a U => ∃ fm : Int, a.tmps = #[tw a 0, tw a 1, .string ln, tw a 3, tw a 4, tw a 5, tw a 6, tw a 7, .pointer (some ⟨hb, 0, none⟩), tw a 9, .slice q0 (allM f ws ln ln.size).length c0, .int .i64 fm, tw a 12, tw a 13, tw a 14, tw a 15, tw a 16, tw a 17, tw a 18, tw a 19, tw a 20, tw a 21, tw a 22, tw a 23, tw a 24, tw a 25, tw a 26, tw a 27, tw a 28, tw a 29, tw a 30, tw a 31, tw a 32, tw a 33, tw a 34, tw a 35, tw a 36, tw a 37, tw a 38, tw a 39, tw a 40, tw a 41, tw a 42, tw a 43, tw a 44, tw a 45, tw a 46, tw a 47, tw a 48, tw a 49, tw a 50, tw a 51, tw a 52, tw a 53, tw a 54, tw a 55, tw a 56, tw a 57, tw a 58, tw a 59, tw a 60, tw a 61, tw a 62, tw a 63, tw a 64, tw a 65, tw a 66, tw a 67, tw a 68, tw a 69, tw a 70, tw a 71, tw a 72, tw a 73, tw a 74, tw a 75, tw a 76, tw a 77, tw a 78, tw a 79, tw a 80, tw a 81, tw a 82, tw a 83, tw a 84, tw a 85, tw a 86, tw a 87, tw a 88, tw a 89, tw a 90, tw a 91, tw a 92, tw a 93, tw a 94, tw a 95, tw a 96, tw a 97] ∧ a.defers = [] ∧ Kp w1.heap.size w1.heap.size w1 f T D R K hb lg U ∧ U.ownsRow w5.heap.size 52 2 (.slice q0 (allM f ws ln ln.size).length c0) (allM f ws ln ln.size).length (prC (allM f ws ln ln.size)) ∧ -1 ≤ fm ∧ fm ≤ (ln.size : Int) + 2) := ⟨_, rfl⟩
  refine wpIn_loop LI (fun a _ => ((ln.size : Int) + 3 - intOf (a.tmps.getD 11 undef)).toNat) ?_ ?_
  · rw [hLI]
    exact ⟨-1, rfl, rfl, kp6, own0, by omega, by omega⟩
  · clear kp6 own0 PR KP5
    rintro ⟨tm, ds⟩ U hI
    rw [hLI] at hI
    obtain ⟨fm, ha, hd, hK, hO, hf1, hf2⟩ := hI
    dsimp only at ha hd
    generalize tw { tmps := tm, defers := ds } = f' at ha
    subst ha hd
    have HLI := hide hLI
    have KU := hide hK
    have OU := hide hO
    have LNN := LN.out
    have wr : IntKind.wrap .i64 ((ln.size : Int) + 1) = (ln.size : Int) + 1 := wrap_small _ (by omega) (by omega)
    clear hLI hK hO
    by_cases hgo : fm ≤ (ln.size : Int) + 1
    · gi_upto_region 15 with fail
      obtain ⟨U1, hU1⟩ : ∃ U1, U1 = U.alloc (.cells #[.int .i64 0, .int .i64 0] 52) := ⟨_, rfl⟩
      rw [← hU1]
      have BU : Hid (Below U.heap.size U U1) := hide (by rw [hU1]; exact (Below.refl _ _).alloc (Nat.le_refl _) _)
      have XB : Hid (U1.heap[U.heap.size]? = some (.cells #[.int .i64 0, .int .i64 0] 52 (0, 0))) := hide (by rw [hU1]; exact alloc_new U _)
      have K1' := hide (KU.out.below BU.out)
      have O1' : Hid (U1.ownsRow w5.heap.size 52 2 (.slice q0 (allM f ws ln ln.size).length c0) (allM f ws ln ln.size).length (prC (allM f ws ln ln.size))) := hide (by rw [hU1]; exact World.ownsRow.alloc OU.out _)
      clear hU1
      have OB := hide (fun k hk => (OU.out.lt k hk).2)
      obtain ⟨UB, hUB⟩ : ∃ UB, UB = U.heap.size := ⟨_, rfl⟩
      rw [← hUB] at XB ⊢
      have OB2 : Hid (∀ k, (Value.slice q0 (allM f ws ln ln.size).length c0).ownBlock = some k → k < UB) := hide (by rw [hUB]; exact OB.out)
      have BUB := hide (show w1.heap.size ≤ UB from by rw [hUB]; exact KU.out.bl.size)
      clear hUB OB OU KU BU
      have NX : Hid (∀ V, Kp w1.heap.size w1.heap.size w1 f T D R K hb lg V → V.ownsRow w5.heap.size 52 2 (.slice q0 (allM f ws ln ln.size).length c0) (allM f ws ln ln.size).length (prC (allM f ws ln ln.size)) → CallsIn Fence.wide (n - 1) Tryd.prog 13 #[.pointer (some ⟨hb, 0, none⟩), .string ln, .int .i64 fm] V (fun e V' => ∃ p k b, e = .returned (.tuple #[.int .i64 p, .int .i64 k, .bool b]) ∧ NxA f ws ln fm p k b ∧ Kp w1.heap.size w1.heap.size w1 f T D R K hb lg V' ∧ V'.ownsRow w5.heap.size 52 2 (.slice q0 (allM f ws ln ln.size).length c0) (allM f ws ln ln.size).length (prC (allM f ws ln ln.size)) ∧ ∀ (k : Nat) (cur : Array Value), V.heap[k]? = some (.cells cur 52 (0, 0)) → V'.heap[k]? = some (.cells cur 52 (0, 0)))) := hide (fun V kp own => by
        by_cases hr : 0 ≤ fm ∧ fm ≤ (ln.size : Int)
        · obtain ⟨m, rfl⟩ : ∃ m : Nat, fm = (m : Int) := ⟨fm.toNat, by omega⟩
          obtain ⟨_, st, hm⟩ := kp.hi
          refine (next_in (n - 1) (by omega) m (HU5.out.at kp.hi.1) hm kp.tab HB.out (by omega) (by omega) (kp.sw _ hm)).mono ?_
          rintro e V' ⟨p, k, b, c, q1, q2, _, q4, q5⟩
          refine ⟨p, k, b, q1, q2, kp.next q4 (by unfold wrap64; omega) q5, ownsRow_fr own q5 (fun g hg e => ?_), fun k cur hc => (q5.block _ (lt_of_heap hc) (ne_type hc hm (by decide))).trans hc⟩
          obtain ⟨_, cur, q⟩ := own_typ own hg
          subst e
          rw [hm] at q; injection q with q; injection q with _ q _
          exact absurd q (by decide)
        · refine (callsIn_wide.2 (next_bad (by omega))).mono ?_
          rintro e V' ⟨rfl, rfl⟩
          exact ⟨0, 0, false, rfl, .inl ⟨by omega, rfl, rfl, rfl⟩, kp, own, fun _ _ h => h⟩)
      obtain ⟨LJ, hLJ⟩ : ∃ LJ : Act → World → Prop, LJ = (fun a U2 => ∃ j : Nat, a.tmps = #[tw a 0, tw a 1, .string ln, tw a 3, tw a 4, tw a 5, tw a 6, tw a 7, .pointer (some ⟨hb, 0, none⟩), tw a 9, .slice q0 (allM f ws ln ln.size).length c0, .int .i64 fm, .pointer (some ⟨UB, 0, none⟩), .bool (lkd ((allM f ws ln ln.size).take j) fm).isSome, .int .i64 (j : Int), tw a 15, tw a 16, tw a 17, tw a 18, tw a 19, tw a 20, tw a 21, tw a 22, tw a 23, tw a 24, tw a 25, tw a 26, tw a 27, tw a 28, tw a 29, tw a 30, tw a 31, tw a 32, tw a 33, tw a 34, tw a 35, tw a 36, tw a 37, tw a 38, tw a 39, tw a 40, tw a 41, tw a 42, tw a 43, tw a 44, tw a 45, tw a 46, tw a 47, tw a 48, tw a 49, tw a 50, tw a 51, tw a 52, tw a 53, tw a 54, tw a 55, tw a 56, tw a 57, tw a 58, tw a 59, tw a 60, tw a 61, tw a 62, tw a 63, tw a 64, tw a 65, tw a 66, tw a 67, tw a 68, tw a 69, tw a 70, tw a 71, tw a 72, tw a 73, tw a 74, tw a 75, tw a 76, tw a 77, tw a 78, tw a 79, tw a 80, tw a 81, tw a 82, tw a 83, tw a 84, tw a 85, tw a 86, tw a 87, tw a 88, tw a 89, tw a 90, tw a 91, tw a 92, tw a 93, tw a 94, tw a 95, tw a 96, tw a 97] ∧ a.defers = [] ∧ Kp w1.heap.size w1.heap.size w1 f T D R K hb lg U2 ∧ U2.ownsRow w5.heap.size 52 2 (.slice q0 (allM f ws ln ln.size).length c0) (allM f ws ln ln.size).length (prC (allM f ws ln ln.size)) ∧ U2.heap[UB]? = some (.cells #[.int .i64 (((lkd ((allM f ws ln ln.size).take j) fm).getD (0, 0)).1 : Int), .int .i64 (((lkd ((allM f ws ln ln.size).take j) fm).getD (0, 0)).2 : Int)] 52 (0, 0)) ∧ j ≤ (allM f ws ln ln.size).length) := ⟨_, rfl⟩
      refine wpIn_loop LJ (fun a _ => (((allM f ws ln ln.size).length : Int) - intOf (a.tmps.getD 14 undef)).toNat) ?_ ?_
      · rw [hLJ]
        exact ⟨0, by simp [lkd, tw], rfl, K1'.out, O1'.out, by simpa [lkd] using XB.out, Nat.zero_le _⟩
      · clear K1' O1' XB
        rintro ⟨tm, ds⟩ U2 hI
        rw [hLJ] at hI
        obtain ⟨j, ha, hd, hK, hO, hX, hj⟩ := hI
        dsimp only at ha hd
        generalize tw { tmps := tm, defers := ds } = f'' at ha
        subst ha hd
        have HLJ := hide hLJ
        have KU := hide hK
        have OU := hide hO
        have XU := hide hX
        have HFF := HF.out
        clear hLJ hK hO hX
        rcases h9 : lkd ((allM f ws ln ln.size).take j) fm with _ | x
        · rw [h9] at XU
          have XU2 := hide (show U2.heap[UB]? = some (.cells #[.int .i64 0, .int .i64 0] 52 (0, 0)) from XU.out)
          simp only [Option.isSome_none]
          by_cases hjl : j < (allM f ws ln ln.size).length
          · have hjl' : (j : Int) < (((allM f ws ln ln.size).length : Nat) : Int) := by omega
            obtain ⟨g, rfl⟩ : ∃ g, q0 = some ⟨g, 0, none⟩ := by
              rcases OU.out.2 with ⟨_, e2⟩ | ⟨g, cap, cur, e, _⟩
              · omega
              · injection e with e _ _; exact ⟨g, e⟩
            obtain ⟨x, hx⟩ : ∃ x, (allM f ws ln ln.size)[j]? = some x := ⟨_, List.getElem?_eq_getElem hjl⟩
            have c0' := (OU.out.cellAt (j * 2) (by omega)).trans (prC_get hx).1
            have c1' := (OU.out.cellAt (j * 2 + 1) (by omega)).trans (prC_get hx).2
            have lg' := (OU.out.lt g rfl).2
            have hS : lkd ((allM f ws ln ln.size).take (j + 1)) fm = if 0 ≤ fm ∧ fm ≤ (x.1 : Int) then some x else none := by
              rw [show (allM f ws ln ln.size).take (j + 1) = (allM f ws ln ln.size).take j ++ [x] by rw [List.take_add_one, hx]; rfl]
              exact lkd_snoc_none h9 x
            have wr3 : IntKind.wrap .i64 ((j : Int) + 1) = (j : Int) + 1 := wrap_small _ (by omega) (by omega)
            have d0 := cell_row XU2.out (i := 0) rfl
            have d1 := cell_row XU2.out (i := 1) rfl
            have f0 := frz_row XU2.out 0
            have f1 := frz_row XU2.out 1
            clear h9 XU hx
            by_cases hge : fm ≤ (x.1 : Int)
            · by_cases h0 : 0 ≤ fm
              · rw [if_pos ⟨h0, hge⟩] at hS
                have HS := hide hS
                have FIN := hide (show Kp w1.heap.size w1.heap.size w1 f T D R K hb lg ((U2.setCell ⟨UB, 0, none⟩ (.int .i64 (x.1 : Int))).setCell ⟨UB, 1, none⟩ (.int .i64 (x.2 : Int))) ∧ ((U2.setCell ⟨UB, 0, none⟩ (.int .i64 (x.1 : Int))).setCell ⟨UB, 1, none⟩ (.int .i64 (x.2 : Int))).ownsRow w5.heap.size 52 2 (.slice (some ⟨g, 0, none⟩) (allM f ws ln ln.size).length c0) (allM f ws ln ln.size).length (prC (allM f ws ln ln.size)) ∧ ((U2.setCell ⟨UB, 0, none⟩ (.int .i64 (x.1 : Int))).setCell ⟨UB, 1, none⟩ (.int .i64 (x.2 : Int))).heap[UB]? = some (.cells #[.int .i64 (x.1 : Int), .int .i64 (x.2 : Int)] 52 (0, 0)) from
                  ⟨(KU.out.set XU2.out BUB.out (by decide) _).set (heap_set_in XU2.out 0 _) BUB.out (by decide) _, ownsRow_fr OU.out (((Fr.refl (fun i => i = UB) U2).setCell (p := ⟨UB, 0, none⟩) rfl _).setCell (p := ⟨UB, 1, none⟩) rfl _) (fun g' hg e => by have := OB2.out g' hg; omega), (set2_cells XU2.out _ _).2.2⟩)
                clear hS
                gi_wp2
                refine ⟨by rw [HLJ.out]; exact ⟨j + 1, by rw [HS.out]; rfl, rfl, FIN.out.1, FIN.out.2.1, by rw [HS.out]; exact FIN.out.2.2, hjl⟩, ?_⟩
                simp [intOf]
                omega
              · rw [if_neg (fun q => h0 q.1)] at hS
                have HS := hide hS
                clear hS
                gi_wp2
                refine ⟨by rw [HLJ.out]; exact ⟨j + 1, by rw [HS.out]; rfl, rfl, KU.out, OU.out, by rw [HS.out]; exact XU2.out, hjl⟩, ?_⟩
                simp [intOf]
                omega
            · rw [if_neg (fun q => hge q.2)] at hS
              have HS := hide hS
              clear hS
              gi_wp2
              refine ⟨by rw [HLJ.out]; exact ⟨j + 1, by rw [HS.out]; rfl, rfl, KU.out, OU.out, by rw [HS.out]; exact XU2.out, hjl⟩, ?_⟩
              simp [intOf]
              omega
          · have hjl' : ¬ (j : Int) < (((allM f ws ln ln.size).length : Nat) : Int) := by omega
            have hL : lkd (allM f ws ln ln.size) fm = none := by rwa [List.take_of_length_le (by omega)] at h9
            have wr2 : IntKind.wrap .i64 (fm + 1) = fm + 1 := wrap_small _ (by omega) (by omega)
            have HLk := hide hL
            clear h9 XU hL
            gi_upto_region 20 with fail
            gi_upto_region 21 with (gi_at_call 13; refine (NX.out _ KU.out OU.out).mono ?_; rintro e V8 ⟨p, k, b, rfl, a1, a2, a3, a4⟩; have A8 := nxA_any OK.out a1; rw [HLk.out] at A8; obtain ⟨rfl, rfl, rfl⟩ := A8; have KV := hide a2; have OV := hide a3; have X8 := a4 _ _ XU2.out; have d0 := cell_row X8 (i := 0) rfl; have d1 := cell_row X8 (i := 1) rfl; clear a1 a2 a3 a4 X8)
            gi_wp2
            refine ⟨by rw [HLI.out]; exact ⟨fm + 1, rfl, rfl, KV.out, OV.out, by omega, by omega⟩, ?_⟩
            simp [intOf]
            try omega
        · have hL : lkd (allM f ws ln ln.size) fm = some x := by
            have := lkd_mono (r := (allM f ws ln ln.size).drop j) h9
            rwa [List.take_append_drop] at this
          simp only [Option.isSome_some]
          rw [h9] at XU
          have XU2 := hide (show U2.heap[UB]? = some (.cells #[.int .i64 (x.1 : Int), .int .i64 (x.2 : Int)] 52 (0, 0)) from XU.out)
          have wr2 : IntKind.wrap .i64 (fm + 1) = fm + 1 := wrap_small _ (by omega) (by omega)
          have HLk := hide hL
          clear h9 XU hL
          by_cases hjl : (j : Int) < (((allM f ws ln ln.size).length : Nat) : Int)
          · gi_upto_region 20 with fail
            gi_upto_region 21 with (gi_at_call 13; refine (NX.out _ KU.out OU.out).mono ?_; rintro e V8 ⟨p, k, b, rfl, a1, a2, a3, a4⟩; have A8 := nxA_any OK.out a1; rw [HLk.out] at A8; obtain ⟨rfl, rfl, rfl⟩ := A8; have KV := hide a2; have OV := hide a3; have X8 := a4 _ _ XU2.out; have d0 := cell_row X8 (i := 0) rfl; have d1 := cell_row X8 (i := 1) rfl; clear a1 a2 a3 a4 X8)
            gi_wp2
            refine ⟨by rw [HLI.out]; exact ⟨fm + 1, rfl, rfl, KV.out, OV.out, by omega, by omega⟩, ?_⟩
            simp [intOf]
            try omega
          · gi_upto_region 20 with fail
            gi_upto_region 21 with (gi_at_call 13; refine (NX.out _ KU.out OU.out).mono ?_; rintro e V8 ⟨p, k, b, rfl, a1, a2, a3, a4⟩; have A8 := nxA_any OK.out a1; rw [HLk.out] at A8; obtain ⟨rfl, rfl, rfl⟩ := A8; have KV := hide a2; have OV := hide a3; have X8 := a4 _ _ XU2.out; have d0 := cell_row X8 (i := 0) rfl; have d1 := cell_row X8 (i := 1) rfl; clear a1 a2 a3 a4 X8)
            gi_wp2
            refine ⟨by rw [HLI.out]; exact ⟨fm + 1, rfl, rfl, KV.out, OV.out, by omega, by omega⟩, ?_⟩
            simp [intOf]
            try omega
    · have FIN := hide (show Below w.heap.size w U from chain B1.out KU.out.bl (Nat.le_refl _))
      gi_wp2
      exact ⟨.bool true, by simp [results, Tryd.results7, go_sem], rfl, FIN.out⟩
end Go.Proofs.YtaikcnoiaaiopaaDoor
