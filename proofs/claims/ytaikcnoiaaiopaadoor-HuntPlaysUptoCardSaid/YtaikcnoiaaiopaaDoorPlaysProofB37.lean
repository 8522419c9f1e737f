/-
  Parts of the proof.
-/
import Derived.Test.YtaikcnoiaaiopaaDoorPlaysProofB35
import Derived.Test.YtaikcnoiaaiopaaDoorPlaysProofB36
set_option linter.unusedSimpArgs false
namespace Go.Proofs.YtaikcnoiaaiopaaDoor
open Go Go.RowKit Go.Shelf
attribute [local go_sem] Oper.semAt_some ext_cell
set_option maxHeartbeats 1000000 in
theorem steps_c {w : World} {hb : Nat} {T : Pt} {f : Bool} {lg st : Int} (h : HM w hb T f lg st) : Calls Tryd.prog 12 #[.pointer (some ⟨hb, 0, none⟩)] w fun e w' => e = .returned (.int .i64 st) ∧ w' = w := by
  have c0 := cell_row h (i := 3) rfl
  clear h
  go_enter Tryd.func12, Tryd.ntmps12
  go_wp2
  go_ret
  exact ⟨rfl, rfl⟩
set_option maxRecDepth 100000 in
set_option maxHeartbeats 2000000 in
theorem rright_c {w : World} {v : Value} {ws : List ByteArray} (h : ArgW w v ws) :
    Calls Tryd.prog 11 #[v] w fun e w' => e = .returned (.bool (mayB ws)) ∧ w' = w := by
  obtain ⟨q, cap, rfl, hm, _, hc⟩ := h.slice
  have HC := hide hc
  clear h hc
  unfold maxLen at hm
  go_enter Tryd.func11, Tryd.ntmps11
  go_wp2
  go_loopw [3] (fun i wr => ∃ (k : Nat), i = .int .i64 (k : Int) ∧ k ≤ ws.length ∧ (ws.take k).all wOk = true ∧ wr = w) (fun i _ => ws.length + 1 - (intOf i).toNat)
  case atStart => exact ⟨0, rfl, by omega, by simp, rfl⟩
  case round =>
    obtain ⟨k, rfl, hk, ha, rfl⟩ := hrel
    have HA := hide ha
    clear ha
    by_cases hlt : k < ws.length
    · have i0 : (k : Int) < (ws.length : Int) := by omega
      have i00 : (0 : Int) ≤ (k : Int) := by omega
      obtain ⟨s, hs⟩ : ∃ s, ws[k]? = some s := ⟨_, List.getElem?_eq_getElem hlt⟩
      obtain ⟨g, off, rfl, hg, cx⟩ := HC.out k s hs
      have HT := hide (show ws.take (k + 1) = ws.take k ++ [s] by
        obtain ⟨h1, h2⟩ := List.getElem?_eq_some_iff.1 hs
        rw [List.take_succ_eq_append_getElem h1, h2])
      have HM := hide (List.mem_of_getElem? hs)
      have wk : IntKind.wrap .i64 ((k : Int) + 1) = (k : Int) + 1 := wrap_small _ (by omega) (by omega)
      clear hs
      have BAD := hide (show wOk s = false → mayB ws = false from fun hb => by
        have : ws.all wOk = false := by rw [Bool.eq_false_iff, ne_eq, List.all_eq_true]; intro q; rw [q s HM.out] at hb; cases hb
        simp [mayB, this])
      by_cases h0 : s.size < 1
      · have e0 : (s.size : Int) < 1 := by omega
        have HB := hide (BAD.out (by simp [wOk]; omega))
        clear h0
        go_wp2
        go_ret
        exact ⟨by rw [HB.out]; rfl, rfl⟩
      · have e0 : ¬ (s.size : Int) < 1 := by omega
        by_cases h1 : s.size ≤ 1000
        · have i1 : ¬ (1000 : Int) < (s.size : Int) := by omega
          have HOK := hide (show wOk s = true by simp [wOk]; omega)
          clear h0
          go_wp2
          go_roundw
          case rel => exact ⟨k + 1, by go_num, by omega, by rw [HT.out, List.all_append, HA.out]; simp [HOK.out], by trivial⟩
          case measure => simp [intOf]; omega
        · have i1 : (1000 : Int) < (s.size : Int) := by omega
          have HB := hide (BAD.out (by simp [wOk]; omega))
          clear h0
          go_wp2
          go_ret
          exact ⟨by rw [HB.out]; rfl, rfl⟩
    · have i0 : ¬ (k : Int) < (ws.length : Int) := by omega
      have hke : k = ws.length := by omega
      have HALL := hide (show ws.all wOk = true by have := HA.out; rwa [List.take_of_length_le (by omega)] at this)
      by_cases h0 : 1 ≤ ws.length
      · have j0 : (1 : Int) ≤ (ws.length : Int) := by omega
        by_cases h1 : ws.length ≤ 100
        · have j1 : (ws.length : Int) ≤ 100 := by omega
          have HB := hide (show mayB ws = true by simp only [mayB, HALL.out, Bool.true_and]; simp; omega)
          go_wp2
          go_ret
          exact ⟨by rw [HB.out]; rfl, rfl⟩
        · have j1 : ¬ (ws.length : Int) ≤ 100 := by omega
          have HB := hide (show mayB ws = false by simp only [mayB, HALL.out, Bool.true_and]; simp; omega)
          go_wp2
          go_ret
          exact ⟨by rw [HB.out]; rfl, rfl⟩
      · have j0 : ¬ (1 : Int) ≤ (ws.length : Int) := by omega
        have HB := hide (show mayB ws = false by simp only [mayB, HALL.out, Bool.true_and]; simp; omega)
        go_wp2
        go_ret
        exact ⟨by rw [HB.out]; rfl, rfl⟩
theorem und_told : Tryd.prog.underlying 36 = some (.slice 80) := by kernel_rfl
theorem size_told : (Tryd.prog.info? 80).map (fun i => (i.zero, i.size, i.bytes)) = some (some (.agg #[.int .i64 0, .int .i64 0]), 2, 16) := by kernel_rfl
noncomputable def atK (f : Bool) (ws : List ByteArray) (line : ByteArray) (p k : Nat) : List (Nat × Nat) := by
  classical exact ((List.range k).filter fun k => decide (Sd f ws line p k)).map fun k => (p, k)
theorem atK_zero (f : Bool) (ws : List ByteArray) (line : ByteArray) (p : Nat) : atK f ws line p 0 = [] := by simp [atK]
theorem atK_in {f : Bool} {ws : List ByteArray} {line : ByteArray} {p k : Nat} (h : Sd f ws line p k) : atK f ws line p (k + 1) = atK f ws line p k ++ [(p, k)] := by
  unfold atK
  rw [List.range_succ, List.filter_append, List.map_append]
  simp [h]
theorem atK_out {f : Bool} {ws : List ByteArray} {line : ByteArray} {p k : Nat} (h : ¬ Sd f ws line p k) : atK f ws line p (k + 1) = atK f ws line p k := by
  unfold atK
  rw [List.range_succ, List.filter_append, List.map_append]
  simp [h]
theorem atK_all {f : Bool} {ws : List ByteArray} {line : ByteArray} (p : Nat) : allM f ws line (p + 1) = allM f ws line p ++ atK f ws line p ws.length := by
  rw [allM_next]
  congr 1
theorem atK_len (f : Bool) (ws : List ByteArray) (line : ByteArray) (p k : Nat) : (atK f ws line p k).length ≤ k := by
  unfold atK
  rw [List.length_map]
  refine Nat.le_trans (List.length_filter_le _ _) ?_
  rw [List.length_range]
  exact Nat.le_refl _
theorem stands_k {f : Bool} {ws : List ByteArray} {line s : ByteArray} {p k : Nat} (hs : ws[k]? = some s) : (decide (cL f s <+: (cL f line).drop p) = true ↔ Sd f ws line p k) := by
  rw [decide_eq_true_eq]
  unfold Sd
  constructor
  · intro h; exact ⟨s, hs, h⟩
  · rintro ⟨s', h1, h2⟩
    rw [hs] at h1
    injection h1 with h1
    subst h1
    exact h2
theorem own_typT {w : World} {base k : Nat} {e : TypeId} {size n : Nat} {v : Value} {xs : List Value} (h : w.ownsRow base e size v n xs) (hk : v.ownBlock = some k) : base ≤ k ∧ ∃ cur, w.heap[k]? = some (.cells cur e (0, 0)) := own_typ h hk
set_option maxRecDepth 100000 in
set_option maxHeartbeats 4000000 in
theorem rall_in (n : Nat) (hn : 8 ≤ n) {w : World} {v : Value} {ws : List ByteArray} (f : Bool) (line : ByteArray) (hok : mayB ws = true) (hsz : line.size ≤ 1048576) (hv : ArgW w v ws) :
    CallsIn Fence.wide n Tryd.prog 15 #[v, .bool f, .string line] w fun e w' => ∃ v', e = .returned v' ∧ w'.ownsRow w.heap.size 80 2 v' (allM f ws line line.size).length (prC (allM f ws line line.size)) ∧ Below w.heap.size w w' := by
  have h1 : 1 ≤ n := by omega
  have hfn : ∀ f, Fence.wide.fn f := fun _ => trivial
  have hmx : Tryd.prog.follows .mixedOrders = true := by kernel_rfl
  have HV := hide hv
  have OK := hide hok
  obtain ⟨q, cap, rfl, hml, _, _⟩ := hv.slice
  have wl := (mayB_of hok).2
  clear hv hok
  refine callsIn_of_wp_marks Tryd.func15 rfl trivial ?_ rfl
  simp only [Tryd.ntmps15, List.size_toArray, List.length_cons, List.length_nil, Nat.reduceAdd, Nat.reduceSub, Array.replicate_succ, Array.replicate_zero, List.push_toArray, List.append_toArray, List.nil_append, List.cons_append]
  gi_upto_region 3 with fail
  obtain ⟨LI, hLI⟩ : ∃ LI : Act → World → Prop, LI = (fun a U => ∃ (p : Nat) (v7 : Value), a.tmps = #[.slice q ws.length cap, .bool f, .string line, tw a 3, tw a 4, tw a 5, tw a 6, v7, .int .i64 (p : Int), tw a 9, tw a 10, tw a 11, tw a 12, tw a 13, tw a 14, tw a 15, tw a 16, tw a 17, tw a 18, tw a 19, tw a 20, tw a 21, tw a 22, tw a 23, tw a 24, tw a 25, tw a 26, tw a 27, tw a 28, tw a 29, tw a 30, tw a 31, tw a 32, tw a 33, tw a 34, tw a 35, tw a 36, tw a 37, tw a 38] ∧ a.defers = [] ∧ Below w.heap.size w U ∧ U.ownsRow w.heap.size 80 2 v7 (allM f ws line p).length (prC (allM f ws line p)) ∧ p ≤ line.size) := ⟨_, rfl⟩
  refine wpIn_loop LI (fun a _ => ((line.size : Int) - intOf (a.tmps.getD 8 undef)).toNat) ?_ ?_
  · rw [hLI]
    exact ⟨0, .slice none 0 0, rfl, rfl, Below.refl _ _, by simpa [allM, prC] using World.ownsRow_nil w w.heap.size 80 2, Nat.zero_le _⟩
  · rintro ⟨tm, ds⟩ U hI
    rw [hLI] at hI
    obtain ⟨p, v7, ha, hd, hbU, hO, hp⟩ := hI
    dsimp only at ha hd
    generalize tw { tmps := tm, defers := ds } = f' at ha
    subst ha hd
    have HLI := hide hLI
    have HBU := hide hbU
    have OU := hide hO
    clear hLI hbU hO
    by_cases hlt : p < line.size
    · have i0 : (p : Int) < (line.size : Int) := by omega
      have wp : IntKind.wrap .i64 ((p : Int) + 1) = (p : Int) + 1 := wrap_small _ (by omega) (by omega)
      have HF := hide (allM_few (f := f) (ws := ws) (line := line) p)
      have HF2 := hide (show p * ws.length ≤ 1048576 * 100 from Nat.mul_le_mul (by omega) wl.2)
      gi_upto_region 6 with fail
      obtain ⟨LJ, hLJ⟩ : ∃ LJ : Act → World → Prop, LJ = (fun a U2 => ∃ (k : Nat) (v7 : Value) (LL : List (Nat × Nat)), a.tmps = #[.slice q ws.length cap, .bool f, .string line, tw a 3, tw a 4, tw a 5, tw a 6, v7, .int .i64 (p : Int), .int .i64 (k : Int), tw a 10, tw a 11, tw a 12, tw a 13, tw a 14, tw a 15, tw a 16, tw a 17, tw a 18, tw a 19, tw a 20, tw a 21, tw a 22, tw a 23, tw a 24, tw a 25, tw a 26, tw a 27, tw a 28, tw a 29, tw a 30, tw a 31, tw a 32, tw a 33, tw a 34, tw a 35, tw a 36, tw a 37, tw a 38] ∧ a.defers = [] ∧ Below w.heap.size w U2 ∧ U2.ownsRow w.heap.size 80 2 v7 LL.length (prC LL) ∧ k ≤ ws.length ∧ LL = allM f ws line p ++ atK f ws line p k) := ⟨_, rfl⟩
      refine wpIn_loop LJ (fun a _ => ((ws.length : Int) - intOf (a.tmps.getD 9 undef)).toNat) ?_ ?_
      · rw [hLJ]
        exact ⟨0, v7, allM f ws line p, rfl, rfl, HBU.out, OU.out, Nat.zero_le _, by rw [atK_zero, List.append_nil]⟩
      · clear OU HBU
        rintro ⟨tm, ds⟩ U2 hI
        rw [hLJ] at hI
        obtain ⟨k, v7, LL, ha, hd, hbU, hO, hk, hLL⟩ := hI
        dsimp only at ha hd
        generalize tw { tmps := tm, defers := ds } = f'' at ha
        subst ha hd
        have HLJ := hide hLJ
        have HB2 := hide hbU
        have O2 := hide hO
        have HLL := hide hLL
        clear hLJ hbU hO hLL
        by_cases hlt2 : k < ws.length
        · have j0 : (k : Int) < (ws.length : Int) := by omega
          have j1 : (0 : Int) ≤ (k : Int) := by omega
          have wk : IntKind.wrap .i64 ((k : Int) + 1) = (k : Int) + 1 := wrap_small _ (by omega) (by omega)
          obtain ⟨s, hs⟩ : ∃ s, ws[k]? = some s := ⟨_, List.getElem?_eq_getElem hlt2⟩
          obtain ⟨q', cap', e', _, _, hcs⟩ := (HV.out.below HB2.out (Nat.le_refl _)).slice
          obtain ⟨rfl, rfl⟩ : q' = q ∧ cap' = cap := by
            injection e' with e1 _ e3
            exact ⟨e1.symm, e3.symm⟩
          obtain ⟨g, off, rfl, _, cw⟩ := hcs k s hs
          have SK := hide (stands_k (f := f) (line := line) (p := p) hs)
          have s1 := ((mayB_of OK.out).1 s (List.mem_of_getElem? hs)).2
          have SC := hide (fun W => stands_c f s line p (by omega) (by omega) (by omega) W)
          have HL := hide (atK_len f ws line p k)
          obtain ⟨q0, c0, rfl⟩ := ownsRow_shape O2.out
          obtain ⟨t0, hi0, hz0, hz1, hz2⟩ := info_parts size_told
          have SW := hide (show w.heap.size ≤ U2.heap.size from HB2.out.size)
          clear hs hcs
          gi_upto_region 9 with (gi_at_call 29; refine (callsIn_wide.2 (SC.out _)).mono ?_; rintro e U4 ⟨rfl, b4⟩; have B4 := hide b4; clear b4)
          have HB4 := hide (chain HB2.out B4.out (by have := SW.out; omega))
          have O4 := hide (ownsRow_fr (S := fun _ => False) O2.out (Fr.of_below B4.out) (fun _ _ q => q))
          have S4 := hide (show w.heap.size ≤ U4.heap.size from HB4.out.size)
          by_cases hS : Sd f ws line p k
          · rw [SK.out.2 hS]
            have HIN := hide (atK_in hS)
            have HLEN := hide (show LL.length + 1 ≤ 200000000 from by rw [HLL.out, List.length_append]; have := HF.out; have := HF2.out; have := HL.out; omega)
            have hl9 := HLEN.out
            have Y7 : Hid ((U4.alloc (.cells #[.int .i64 (p : Int), .int .i64 (k : Int)] 80)).ownsRow w.heap.size 80 2 (.slice q0 LL.length c0) LL.length (prC LL)) := hide (World.ownsRow.alloc O4.out _)
            have HNEW := hide (cells_two U4 (.int .i64 (p : Int)) (.int .i64 (k : Int)) 80)
            have HN8 := hide (show w.heap.size ≤ (U4.alloc (.cells #[.int .i64 (p : Int), .int .i64 (k : Int)] 80)).heap.size by rw [World.size_alloc]; have := S4.out; omega)
            have BA := hide (show Below w.heap.size w (U4.alloc (.cells #[.int .i64 (p : Int), .int .i64 (k : Int)] 80)) from HB4.out.alloc (by have := S4.out; omega) _)
            clear hS
            gi_wp2_with (gi_at_builtin; refine wpListIn_append_own_at _ rfl _ _ 36 rfl w.heap.size 80 t0 (.agg #[.int .i64 0, .int .i64 0]) 2 16 und_told hi0 hz0 hz1 hz2 rfl (by decide) (.slice q0 LL.length c0) LL.length (prC LL) rfl Y7.out ⟨U4.heap.size, 0, none⟩ 1 1 [.int .i64 (p : Int), .int .i64 (k : Int)] rfl rfl HNEW.out (by simp [Value.oneCell']) (by unfold maxLen; omega) (by omega) HN8.out ?_; intro v' w6 hown' hgrow _ _; have O6 := hide hown'; have B6 := hide (show Below w.heap.size w w6 from ⟨hgrow.os.trans BA.out.os, hgrow.tape.trans BA.out.tape, hgrow.output.trans BA.out.output, Nat.le_trans BA.out.size hgrow.size, fun j hj => (hgrow.block j (Nat.lt_of_lt_of_le hj BA.out.size) (fun e => by have h9 := (own_typT Y7.out e.symm).1; omega)).trans (BA.out.block j hj)⟩); clear hown' hgrow)
            refine ⟨by rw [HLJ.out]; exact ⟨k + 1, v', LL ++ [(p, k)], rfl, rfl, B6.out, by rw [prC_snoc, List.length_append]; exact O6.out, hlt2, by rw [HIN.out, ← List.append_assoc, HLL.out]⟩, ?_⟩
            simp [intOf]
            omega
          · have hb : decide (cL f s <+: (cL f line).drop p) = false := by
              rw [Bool.eq_false_iff]
              exact fun h => hS (SK.out.1 h)
            rw [hb]
            have HOUT := hide (atK_out hS)
            clear hS hb
            gi_wp2
            refine ⟨by rw [HLJ.out]; exact ⟨k + 1, _, LL, rfl, rfl, HB4.out, O4.out, hlt2, by rw [HOUT.out]; exact HLL.out⟩, ?_⟩
            simp [intOf]
            omega
        · have j0 : ¬ (k : Int) < (ws.length : Int) := by omega
          obtain rfl : k = ws.length := by omega
          have ON := hide (show U2.ownsRow w.heap.size 80 2 v7 (allM f ws line (p + 1)).length (prC (allM f ws line (p + 1))) from by rw [atK_all, ← HLL.out]; exact O2.out)
          have HB3 := hide HB2.out
          gi_wp2
          refine ⟨by rw [HLI.out]; exact ⟨p + 1, v7, rfl, rfl, HB3.out, ON.out, hlt⟩, ?_⟩
          simp [intOf]
          omega
    · have i0 : ¬ (p : Int) < (line.size : Int) := by omega
      obtain rfl : p = line.size := by omega
      gi_wp2
      exact ⟨v7, by simp [results, Tryd.results15, go_sem], v7, rfl, OU.out, HBU.out⟩
def RnP (f : Bool) (ws : List ByteArray) (line : ByteArray) (m : Int) (w : World) (e : Ending) (w' : World) : Prop := ∃ (p k : Int) (b : Bool), e = .returned (.tuple #[.int .i64 p, .int .i64 k, .bool b]) ∧ NxA f ws line m p k b ∧ Below w.heap.size w w'
theorem rnP_intro {f : Bool} {ws : List ByteArray} {line : ByteArray} {m : Int} {w w' : World} (p k : Int) (b : Bool) (h : NxA f ws line m p k b) (hb : Below w.heap.size w w') : RnP f ws line m w (.returned (.tuple #[.int .i64 p, .int .i64 k, .bool b])) w' := ⟨p, k, b, rfl, h, hb⟩
set_option maxRecDepth 100000 in
set_option maxHeartbeats 4000000 in
theorem rnext_in (n : Nat) (hn : 8 ≤ n) {w : World} {v : Value} {ws : List ByteArray} (f : Bool) (line : ByteArray) (m : Int) (hwf : (Lit.int .i64 m).wf = true) (hok : mayB ws = true) (hsz : line.size ≤ 1048576) (hv : ArgW w v ws) :
    CallsIn Fence.wide n Tryd.prog 14 #[v, .bool f, .string line, .int .i64 m] w (RnP f ws line m w) := by
  have h1 : 1 ≤ n := by omega
  have hfn : ∀ f, Fence.wide.fn f := fun _ => trivial
  have hmx : Tryd.prog.follows .mixedOrders = true := by kernel_rfl
  have HV := hide hv
  have OK := hide hok
  have HWF := hide hwf
  obtain ⟨q, cap, rfl, hml, _, _⟩ := hv.slice
  have wl := (mayB_of hok).2
  clear hv hok hwf
  refine callsIn_of_wp_marks Tryd.func14 rfl trivial ?_ rfl
  simp only [Tryd.ntmps14, List.size_toArray, List.length_cons, List.length_nil, Nat.reduceAdd, Nat.reduceSub, Array.replicate_succ, Array.replicate_zero, List.push_toArray, List.append_toArray, List.nil_append, List.cons_append]
  by_cases hneg : m < 0
  · have i0 : ¬ (0 : Int) ≤ m := by omega
    have HN := hide hneg
    clear hneg
    gi_upto_region 2 with fail
    refine wpIn_loop (fun a U => a.tmps = #[.slice q ws.length cap, .bool f, .string line, tw a 3, tw a 4, tw a 5, tw a 6, tw a 7, tw a 8, tw a 9, tw a 10, .int .i64 m, tw a 12, tw a 13, tw a 14, tw a 15, tw a 16, tw a 17, tw a 18, tw a 19, tw a 20, tw a 21, tw a 22, tw a 23, tw a 24, tw a 25, tw a 26, tw a 27, tw a 28, tw a 29, tw a 30, tw a 31, tw a 32, tw a 33, tw a 34, tw a 35, tw a 36, tw a 37, tw a 38, tw a 39, tw a 40, tw a 41] ∧ a.defers = [] ∧ U = w) (fun _ _ => 0) ⟨rfl, rfl, rfl⟩ ?_
    rintro ⟨tm, ds⟩ U ⟨ha, hd, rfl⟩
    dsimp only at ha hd
    generalize tw { tmps := tm, defers := ds } = f' at ha
    subst ha hd
    gi_wp2
    refine ⟨.tuple #[.int .i64 0, .int .i64 0, .bool false], by simp [results, Tryd.results14, go_sem], rnP_intro 0 0 false (.inl ⟨.inl HN.out, rfl, rfl, rfl⟩) (Below.refl _ _)⟩
  obtain ⟨m', rfl⟩ : ∃ m' : Nat, m = (m' : Int) := ⟨m.toNat, by omega⟩
  by_cases hbig : line.size < m'
  · have i0 : ¬ (m' : Int) < (line.size : Int) := by omega
    have i1 : (0 : Int) ≤ (m' : Int) := by omega
    have HN := hide (show (line.size : Int) < (m' : Int) by omega)
    clear hbig hneg
    gi_upto_region 2 with fail
    refine wpIn_loop (fun a U => a.tmps = #[.slice q ws.length cap, .bool f, .string line, tw a 3, tw a 4, tw a 5, tw a 6, tw a 7, tw a 8, tw a 9, tw a 10, (.int .i64 (m' : Int)), tw a 12, tw a 13, tw a 14, tw a 15, tw a 16, tw a 17, tw a 18, tw a 19, tw a 20, tw a 21, tw a 22, tw a 23, tw a 24, tw a 25, tw a 26, tw a 27, tw a 28, tw a 29, tw a 30, tw a 31, tw a 32, tw a 33, tw a 34, tw a 35, tw a 36, tw a 37, tw a 38, tw a 39, tw a 40, tw a 41] ∧ a.defers = [] ∧ U = w) (fun _ _ => 0) ⟨rfl, rfl, rfl⟩ ?_
    rintro ⟨tm, ds⟩ U ⟨ha, hd, rfl⟩
    dsimp only at ha hd
    generalize tw { tmps := tm, defers := ds } = f' at ha
    subst ha hd
    gi_wp2
    refine ⟨.tuple #[.int .i64 0, .int .i64 0, .bool false], by simp [results, Tryd.results14, go_sem], rnP_intro 0 0 false (.inl ⟨.inr HN.out, rfl, rfl, rfl⟩) (Below.refl _ _)⟩
  gi_upto_region 2 with fail
  obtain ⟨LI, hLI⟩ : ∃ LI : Act → World → Prop, LI = (fun a U => ∃ (p : Nat), a.tmps = #[.slice q ws.length cap, .bool f, .string line, tw a 3, tw a 4, tw a 5, tw a 6, tw a 7, tw a 8, tw a 9, tw a 10, .int .i64 (p : Int), tw a 12, tw a 13, tw a 14, tw a 15, tw a 16, tw a 17, tw a 18, tw a 19, tw a 20, tw a 21, tw a 22, tw a 23, tw a 24, tw a 25, tw a 26, tw a 27, tw a 28, tw a 29, tw a 30, tw a 31, tw a 32, tw a 33, tw a 34, tw a 35, tw a 36, tw a 37, tw a 38, tw a 39, tw a 40, tw a 41] ∧ a.defers = [] ∧ Below w.heap.size w U ∧ m' ≤ p ∧ p ≤ line.size ∧ ∀ p' k', m' ≤ p' → p' < p → ¬ Sd f ws line p' k') := ⟨_, rfl⟩
  refine wpIn_loop LI (fun a _ => ((line.size : Int) - intOf (a.tmps.getD 11 undef)).toNat) ?_ ?_
  · rw [hLI]
    exact ⟨m', rfl, rfl, Below.refl _ _, Nat.le_refl _, by omega, fun p' k' h1 h2 => by omega⟩
  · rintro ⟨tm, ds⟩ U hI
    rw [hLI] at hI
    obtain ⟨p, ha, hd, hbU, hmp, hp, hno⟩ := hI
    dsimp only at ha hd
    generalize tw { tmps := tm, defers := ds } = f' at ha
    subst ha hd
    have HLI := hide hLI
    have HBU := hide hbU
    have HNO := hide hno
    clear hLI hbU hno
    have i9 : (0 : Int) ≤ (p : Int) := by omega
    by_cases hlt : p < line.size
    · have i0 : (p : Int) < (line.size : Int) := by omega
      have wp : IntKind.wrap .i64 ((p : Int) + 1) = (p : Int) + 1 := wrap_small _ (by omega) (by omega)
      gi_upto_region 5 with fail
      obtain ⟨LJ, hLJ⟩ : ∃ LJ : Act → World → Prop, LJ = (fun a U2 => ∃ (k : Nat), a.tmps = #[.slice q ws.length cap, .bool f, .string line, tw a 3, tw a 4, tw a 5, tw a 6, tw a 7, tw a 8, tw a 9, tw a 10, .int .i64 (p : Int), .int .i64 (k : Int), tw a 13, tw a 14, tw a 15, tw a 16, tw a 17, tw a 18, tw a 19, tw a 20, tw a 21, tw a 22, tw a 23, tw a 24, tw a 25, tw a 26, tw a 27, tw a 28, tw a 29, tw a 30, tw a 31, tw a 32, tw a 33, tw a 34, tw a 35, tw a 36, tw a 37, tw a 38, tw a 39, tw a 40, tw a 41] ∧ a.defers = [] ∧ Below w.heap.size w U2 ∧ k ≤ ws.length ∧ ∀ k', k' < k → ¬ Sd f ws line p k') := ⟨_, rfl⟩
      refine wpIn_loop LJ (fun a _ => ((ws.length : Int) - intOf (a.tmps.getD 12 undef)).toNat) ?_ ?_
      · rw [hLJ]
        exact ⟨0, rfl, rfl, HBU.out, Nat.zero_le _, fun k' h => by omega⟩
      · clear HBU
        rintro ⟨tm, ds⟩ U2 hI
        rw [hLJ] at hI
        obtain ⟨k, ha, hd, hbU, hk, hnk⟩ := hI
        dsimp only at ha hd
        generalize tw { tmps := tm, defers := ds } = f'' at ha
        subst ha hd
        have HLJ := hide hLJ
        have HB2 := hide hbU
        have HNK := hide hnk
        clear hLJ hbU hnk
        by_cases hlt2 : k < ws.length
        · have j0 : (k : Int) < (ws.length : Int) := by omega
          have j1 : (0 : Int) ≤ (k : Int) := by omega
          have wk : IntKind.wrap .i64 ((k : Int) + 1) = (k : Int) + 1 := wrap_small _ (by omega) (by omega)
          obtain ⟨s, hs⟩ : ∃ s, ws[k]? = some s := ⟨_, List.getElem?_eq_getElem hlt2⟩
          obtain ⟨q', cap', e', _, _, hcs⟩ := (HV.out.below HB2.out (Nat.le_refl _)).slice
          obtain ⟨rfl, rfl⟩ : q' = q ∧ cap' = cap := by
            injection e' with e1 _ e3
            exact ⟨e1.symm, e3.symm⟩
          obtain ⟨g, off, rfl, _, cw⟩ := hcs k s hs
          have SK := hide (stands_k (f := f) (line := line) (p := p) hs)
          have s1 := ((mayB_of OK.out).1 s (List.mem_of_getElem? hs)).2
          have SC := hide (fun W => stands_c f s line p (by omega) (by omega) (by omega) W)
          have SW := hide (show w.heap.size ≤ U2.heap.size from HB2.out.size)
          clear hs hcs
          gi_upto_region 8 with (gi_at_call 29; refine (callsIn_wide.2 (SC.out _)).mono ?_; rintro e U4 ⟨rfl, b4⟩; have B4 := hide b4; clear b4)
          have HB4 := hide (chain HB2.out B4.out (by have := SW.out; omega))
          by_cases hS : Sd f ws line p k
          · rw [SK.out.2 hS]
            have FIN := hide (show NxA f ws line (m' : Int) (p : Int) (k : Int) true from .inr ⟨m', rfl, by omega, .inr ⟨p, k, rfl, rfl, rfl, hmp, hS, fun p2 k2 h1 h2 => by
              rcases Nat.lt_trichotomy p2 p with h | h | h
              · exact absurd h2 (HNO.out p2 k2 h1 h)
              · subst h
                rcases Nat.lt_or_ge k2 k with h3 | h3
                · exact absurd h2 (HNK.out k2 h3)
                · exact .inr ⟨rfl, h3⟩
              · exact .inl h⟩⟩)
            clear hS
            gi_wp2
            refine ⟨.tuple #[.int .i64 (p : Int), .int .i64 (k : Int), .bool true], by simp [results, Tryd.results14, go_sem], rnP_intro (p : Int) (k : Int) true FIN.out HB4.out⟩
          · have hb : decide (cL f s <+: (cL f line).drop p) = false := by
              rw [Bool.eq_false_iff]
              exact fun h => hS (SK.out.1 h)
            rw [hb]
            have HNS := hide hS
            clear hS hb
            gi_wp2
            refine ⟨by rw [HLJ.out]; exact ⟨k + 1, rfl, rfl, HB4.out, hlt2, fun k' h => by
              rcases Nat.lt_or_ge k' k with h3 | h3
              · exact HNK.out k' h3
              · obtain rfl : k' = k := by omega
                exact HNS.out⟩, ?_⟩
            simp [intOf]
            omega
        · have j0 : ¬ (k : Int) < (ws.length : Int) := by omega
          obtain rfl : k = ws.length := by omega
          have HB3 := hide HB2.out
          gi_wp2
          refine ⟨by rw [HLI.out]; exact ⟨p + 1, rfl, rfl, HB3.out, by omega, hlt, fun p' k' h1 h2 hsd => by
            rcases Nat.lt_or_ge p' p with h3 | h3
            · exact HNO.out p' k' h1 h3 hsd
            · obtain rfl : p' = p := by omega
              have hkl : k' < ws.length := by obtain ⟨s, q1, _⟩ := hsd; exact (List.getElem?_eq_some_iff.1 q1).1
              exact HNK.out k' hkl hsd⟩, ?_⟩
          simp [intOf]
          omega
    · have i0 : ¬ (p : Int) < (line.size : Int) := by omega
      obtain rfl : p = line.size := by omega
      have FIN := hide (show NxA f ws line (m' : Int) 0 0 false from .inr ⟨m', rfl, by omega, .inl ⟨rfl, rfl, rfl, fun p k h1 hsd => HNO.out p k h1 (sd_lt OK.out hsd) hsd⟩⟩)
      gi_wp2
      refine ⟨.tuple #[.int .i64 0, .int .i64 0, .bool false], by simp [results, Tryd.results14, go_sem], rnP_intro 0 0 false FIN.out HBU.out⟩
end Go.Proofs.YtaikcnoiaaiopaaDoor
