/-
  The law CharsWalk, walked: unit by unit, Places are where one comes to by Next; Column counts them; Valid is the first that is no character; the units of what stands behind a place are those of the text.
-/
import Derived.Test.YtihmnibopeljaaaDoorWalk5
namespace Go.Proofs.YtihmnibopeljaaaDoor
open Go Go.RowKit
attribute [local go_sem] ext_cell

set_option maxHeartbeats 8000000 in
set_option maxRecDepth 1000000 in
theorem law_walk (s : ByteArray) (x : Int) (hx : (Lit.int .i64 x).wf = true) (w : World) (hG : Glob w) (hs : s.size ≤ 1048576) :
    Calls Tryd.prog 5 #[.string s, .int .i64 x] w fun e w' => e = .returned (.bool true) ∧ Below w.heap.size w w' := by
  have G : Hid (Glob w) := hG
  have hz := hG.size
  clear hG
  have hpp := places_c s
  obtain ⟨U, hU⟩ : ∃ U, us s = U := ⟨_, rfl⟩
  have HU : Hid (us s = U) := hU
  have hUl : U.length ≤ 1048576 := by rw [← hU]; have := us_length s; omega
  rw [hU] at hpp
  obtain ⟨D, hD⟩ : ∃ D, plc U ++ [(s.size : Int)] = D := ⟨_, rfl⟩
  have HD : Hid (plc U ++ [(s.size : Int)] = D) := hD
  have HDL : Hid (D.length = U.length + 1) := by show D.length = U.length + 1; rw [← hD]; simp [plc]
  rw [hD] at hpp
  have hv1 := valid_c s
  rw [hU] at hv1
  have HM : Hid (s.size ≤ maxLen) := by show s.size ≤ maxLen; unfold maxLen; omega
  have hcol : ∀ (y : Int) (W : World), Calls Tryd.prog 23 #[.string s, .int .i64 y] W fun e w' => e = .returned (.int .i64 (colOf y U : Int)) ∧ Below W.heap.size W w' := fun y W => by have := column_c s y W HM.out; rw [hU] at this; exact this
  clear hU hD
  go_enter Tryd.func5, Tryd.ntmps5
  go_upto_region 2 with (go_at_call 9; (with_reducible refine (examples_c _ G.out).mono ?_); rintro e w1 ⟨rfl, h1⟩; have B1 : Hid (Below w.heap.size w w1) := h1; clear h1)
  go_upto_region 3 with (go_at_call 21; (with_reducible refine (hpp _ (by omega)).mono ?_); rintro e w2 ⟨v2, rfl, o2, h2⟩; have O2 : Hid (w2.ownsRow w1.heap.size 3 1 v2 (U.length + 1) (ints D)) := o2; have B2 : Hid (Below w.heap.size w w2) := chain B1.out h2 (Nat.le_refl _); clear o2 h2)
  obtain ⟨g, cc, rfl⟩ := ownsRow_some O2.out (Nat.succ_pos _)
  have CL : Hid (∀ (j : Nat) (y : Int), D[j]? = some y → w2.cell? ⟨g, j, none⟩ = some (.int .i64 y)) := fun j y hj => ownsRow_cell O2.out (ints_get hj)
  have hgl := (ownsRow_at O2.out (g := g) rfl).2.1
  have hcap := ownsRow_cap O2.out
  go_wp2
  go_loopw [7, 8, 9] (fun bd i n wr => ∃ (pos f : Nat) (acc : List (Nat × Int)), i = .int .i64 (pos : Int) ∧ n = .int .i64 (acc.length : Int) ∧ bd = .int .i64 (validOf s.size acc : Int) ∧ acc ++ uFrom s f pos = U ∧ (∀ u ∈ acc, u.1 < pos) ∧ s.size ≤ pos + f ∧ pos ≤ s.size ∧ Below w2.heap.size w2 wr) (fun _ i _ _ => s.size - (intOf i).toNat)
  case atStart => exact ⟨0, s.size, [], rfl, rfl, rfl, HU.out, (fun u hu => by cases hu), by omega, Nat.zero_le _, Below.refl _ _⟩
  case round =>
    obtain ⟨pos, f, acc, rfl, rfl, rfl, hacc, hpl, hfu, hps, hb⟩ := hrel
    have B : Hid (Below w2.heap.size w2 wr) := hb
    have A : Hid (acc ++ uFrom s f pos = U) := hacc
    have PL : Hid (∀ u ∈ acc, u.1 < pos) := hpl
    have hsz := hb.size
    have TB : Hid (Glob wr) := (G.out.then B2.out hz).then hb (by have := B2.out.size; omega)
    have hal : acc.length ≤ U.length := by rw [← hacc]; simp
    clear hb hacc hpl
    obtain ⟨vo, hvo⟩ : ∃ v, validOf s.size acc = v := ⟨_, rfl⟩
    have HV : Hid (validOf s.size acc = vo) := hvo
    rw [hvo]
    clear hvo
    by_cases hp : pos < s.size
    · obtain ⟨f, rfl⟩ : ∃ g, f = g + 1 := ⟨f - 1, by omega⟩
      have A2 := A.out
      rw [uFrom_more s f pos hp] at A2
      have A3 : Hid (acc ++ ((pos, ch s pos) :: uFrom s f (pos + wd s pos)) = U) := A2
      have hcn : colOf (pos : Int) U = acc.length := by
        rw [← A.out, colOf_app _ _ _ (fun u hu => by have := PL.out u hu; omega), colOf_here]; rfl
      have hc := hcol (pos : Int)
      rw [hcn] at hc
      have hal2 : acc.length < U.length := by rw [← A2]; simp
      have hdn : D[acc.length]? = some (pos : Int) := by
        rw [← HD.out, ← A3.out]
        simp [plc]
      have cn := (B.out.cell (p := ⟨g, acc.length, none⟩) hgl).trans (CL.out _ _ hdn)
      have hgw : g < wr.heap.size := Nat.lt_of_lt_of_le hgl hsz
      have hw := wd_pos s pos
      have hwd := (wd_le s pos hp).2
      have hw4 := (wd_le s pos hp).1
      have hnx := next_in s pos wr TB.out.tabs hp HM.out
      have i1 : (pos : Int) < (s.size : Int) := by omega
      have hneg := @ch_neg s pos
      have hb1 : bad s pos = true → wd s pos = 1 := fun h => (ch_bad h).2.1
      obtain ⟨c, hcc⟩ : ∃ x, ch s pos = x := ⟨_, rfl⟩
      obtain ⟨wp, hwp⟩ : ∃ x, wd s pos = x := ⟨_, rfl⟩
      rw [hcc] at hnx A3 hneg
      rw [hwp] at hnx A3 hw hwd hw4 hb1
      have HN : Hid (c < 0 → wp = 1) := fun h => hb1 (hneg.1 h)
      clear A2 hcc hwp hneg hb1 hcn hdn
      obtain ⟨m, hm⟩ : ∃ m, acc.length = m := ⟨_, rfl⟩
      rw [hm] at hc cn hal2 hal ⊢
      have HMm : Hid (acc.length = m) := hm
      clear hm
      have hwr : IntKind.wrap .i64 ((pos : Int) + (wp : Int)) = ((pos + wp : Nat) : Int) := by rw [wrap_small _ (by omega) (by omega)]; omega
      have hwn : IntKind.wrap .i64 ((m : Int) + 1) = ((m + 1 : Nat) : Int) := by rw [wrap_small _ (by omega) (by omega)]; omega
      have y1 : ¬ (wp : Int) < 1 := by omega
      have y2 : ¬ (4 : Int) < (wp : Int) := by omega
      have y3 : ¬ ((U.length + 1 : Nat) : Int) ≤ (m : Int) := by omega
      have y4 : (0 : Int) ≤ (m : Int) := by omega
      have y5 : (m : Int) < ((U.length + 1 : Nat) : Int) := by omega
      have y6 : ((pos : Int) != (pos : Int)) = false := by simp
      have y7 : ((m : Int) != (m : Int)) = false := by simp
      have hvs := valid_snoc s.size pos c acc (fun u hu => by have := PL.out u hu; omega)
      rw [HV.out] at hvs
      have HVS : Hid (validOf s.size (acc ++ [(pos, c)]) = if vo = s.size ∧ c < 0 then pos else vo) := hvs
      clear hvs
      have fin : Hid (∀ (w6 : World) (vn : Nat), Below w2.heap.size w2 w6 → vn = validOf s.size (acc ++ [(pos, c)]) → ∃ (pos' f' : Nat) (acc' : List (Nat × Int)), Value.int .i64 ((pos + wp : Nat) : Int) = .int .i64 (pos' : Int) ∧ Value.int .i64 ((m + 1 : Nat) : Int) = .int .i64 (acc'.length : Int) ∧ Value.int .i64 (vn : Int) = .int .i64 (validOf s.size acc' : Int) ∧ acc' ++ uFrom s f' pos' = U ∧ (∀ u ∈ acc', u.1 < pos') ∧ s.size ≤ pos' + f' ∧ pos' ≤ s.size ∧ Below w2.heap.size w2 w6) := fun w6 vn hb6 hvn => by
        refine ⟨pos + wp, f, acc ++ [(pos, c)], rfl, by rw [List.length_append, HMm.out]; rfl, by rw [hvn], by rw [← A3.out]; simp, fun u hu => ?_, by omega, hwd, hb6⟩
        rcases List.mem_append.1 hu with h | h
        · have := PL.out u h; omega
        · simp at h; subst h; simp only; omega
      by_cases hc0 : c < 0
      · have hw1 : wp = 1 := HN.out hc0
        have y8 : ((wp : Int) != 1) = false := by rw [hw1]; rfl
        by_cases hvz : vo = s.size
        · have y9 : ((vo : Int) == (s.size : Int)) = true := by rw [hvz]; simp
          clear hw1
          go_wp2_with first
            | (go_at_call 22; (with_reducible refine (Calls.mono hnx ?_)); rintro e w5 ⟨rfl, h5⟩; have B5 : Hid (Below w2.heap.size w2 w5) := chain B.out h5 (Nat.le_refl _); have cn5 := (h5.cell (p := ⟨g, m, none⟩) hgw).trans cn; have hg5 : g < w5.heap.size := Nat.lt_of_lt_of_le hgw h5.size; clear h5)
            | (go_at_call 23; (with_reducible refine (hc _).mono ?_); rintro e w6 ⟨rfl, h6⟩; have B6 : Hid (Below w2.heap.size w2 w6) := chain B5.out h6 (Nat.le_refl _); clear h6)
          go_roundw
          case rel => exact fin.out _ pos B6.out (by rw [HVS.out, if_pos ⟨hvz, hc0⟩])
          case measure => simp only [intOf]; omega
        · have y9 : ((vo : Int) == (s.size : Int)) = false := by simp; omega
          clear hw1
          go_wp2_with first
            | (go_at_call 22; (with_reducible refine (Calls.mono hnx ?_)); rintro e w5 ⟨rfl, h5⟩; have B5 : Hid (Below w2.heap.size w2 w5) := chain B.out h5 (Nat.le_refl _); have cn5 := (h5.cell (p := ⟨g, m, none⟩) hgw).trans cn; have hg5 : g < w5.heap.size := Nat.lt_of_lt_of_le hgw h5.size; clear h5)
            | (go_at_call 23; (with_reducible refine (hc _).mono ?_); rintro e w6 ⟨rfl, h6⟩; have B6 : Hid (Below w2.heap.size w2 w6) := chain B5.out h6 (Nat.le_refl _); clear h6)
          go_roundw
          case rel => exact fin.out _ vo B6.out (by rw [HVS.out, if_neg (fun q => hvz q.1)])
          case measure => simp only [intOf]; omega
      · go_wp2_with first
          | (go_at_call 22; (with_reducible refine (Calls.mono hnx ?_)); rintro e w5 ⟨rfl, h5⟩; have B5 : Hid (Below w2.heap.size w2 w5) := chain B.out h5 (Nat.le_refl _); have cn5 := (h5.cell (p := ⟨g, m, none⟩) hgw).trans cn; have hg5 : g < w5.heap.size := Nat.lt_of_lt_of_le hgw h5.size; clear h5)
          | (go_at_call 23; (with_reducible refine (hc _).mono ?_); rintro e w6 ⟨rfl, h6⟩; have B6 : Hid (Below w2.heap.size w2 w6) := chain B5.out h6 (Nat.le_refl _); clear h6)
        go_roundw
        case rel => exact fin.out _ vo B6.out (by rw [HVS.out, if_neg (fun q => by omega)])
        case measure => simp only [intOf]; omega
    · have A2 := A.out
      rw [uFrom_end s f pos hp, List.append_nil] at A2
      subst A2
      obtain rfl : pos = s.size := by omega
      have i1 : ¬ ((s.size : Nat) : Int) < (s.size : Int) := by omega
      have hcn : colOf (s.size : Int) acc = acc.length := by
        have := colOf_app (s.size : Int) acc [] (fun u hu => by have := PL.out u hu; omega)
        rw [List.append_nil] at this
        rw [this]; simp [colOf]
      have hc := hcol (s.size : Int)
      rw [hcn] at hc
      rw [HV.out] at hv1
      have hdn : D[acc.length]? = some (s.size : Int) := by
        rw [← HD.out]
        simp [plc]
      have cn := (B.out.cell (p := ⟨g, acc.length, none⟩) hgl).trans (CL.out _ _ hdn)
      have hgw : g < wr.heap.size := Nat.lt_of_lt_of_le hgl hsz
      have hpr := pk_range (c := x) (n := acc.length + 1) (Nat.succ_pos _)
      have hpi := pick_c x (acc.length + 1) (Nat.succ_pos _) (by omega) hx
      obtain ⟨kk, hkk⟩ : ∃ kk : Nat, pk x ((acc.length + 1 : Nat) : Int) = (kk : Int) := ⟨(pk x ((acc.length + 1 : Nat) : Int)).toNat, by omega⟩
      rw [hkk] at hpi hpr
      have hkl : kk ≤ acc.length := by omega
      obtain ⟨q, hq1, hq2, hq3⟩ := places_behind s kk (by rw [HU.out]; exact hkl)
      rw [HU.out, HD.out] at hq2 hq3
      obtain ⟨T, hT⟩ : ∃ T, s.extract q s.size = T := ⟨_, rfl⟩
      rw [hT] at hq3
      have hTs : T.size ≤ 1048576 := by rw [← hT, size_tail]; omega
      have hplT := places_c T
      have hUT := us_length T
      obtain ⟨M, hM⟩ : ∃ M, plc (us T) ++ [(T.size : Int)] = M := ⟨_, rfl⟩
      rw [hM] at hplT hq3
      have hMl : M.length = (us T).length + 1 := by rw [← hM]; simp [plc]
      rw [← hMl] at hplT
      have HML : Hid (M.length + kk = D.length) := by
        show M.length + kk = D.length
        have := congrArg List.length hq3
        rw [List.length_map, List.length_drop, HDL.out] at this
        rw [HDL.out]; omega
      have hMm : M.length ≤ 1048577 ∧ 0 < M.length := by omega
      have HQ3 : Hid (∀ (i : Nat) (y : Int), M[i]? = some y → D[i + kk]? = some (y + (q : Int))) := fun i y hi => by
        have e := congrArg (·[i]?) hq3
        simp only [List.getElem?_map, hi, Option.map_some, List.getElem?_drop] at e
        rw [Nat.add_comm]; exact e.symm
      have cq := (B.out.cell (p := ⟨g, kk, none⟩) hgl).trans (CL.out _ _ hq2)
      have B3 : Hid (Below w.heap.size w wr) := chain B2.out B.out (Nat.le_refl _)
      clear hkk hq2 hq3 hM hMl hUT hdn hcn hpr
      obtain ⟨N, hN⟩ : ∃ N, acc.length = N := ⟨_, rfl⟩
      have HDN : Hid (D.length = N + 1) := by show D.length = N + 1; rw [HDL.out, hN]
      have HMN : Hid (M.length + kk = N + 1) := by show M.length + kk = N + 1; rw [← HDN.out]; exact HML.out
      rw [hN] at hc cn hpi hkl hal hcap hUl ⊢
      clear HDL HML hN
      obtain ⟨L1, hL1⟩ : ∃ L1, N + 1 = L1 := ⟨_, rfl⟩
      have hL1a : N < L1 := by omega
      have hL1b : L1 ≤ N + 1 := by omega
      rw [hL1] at hpi hcap HDN HMN ⊢
      have hwn : IntKind.wrap .i64 ((N : Int) + 1) = (L1 : Int) := by rw [wrap_small _ (by omega) (by omega)]; omega
      clear hL1
      have y1 : ((s.size : Int) != (s.size : Int)) = false := by simp
      have y2 : (((L1 : Int)) != (L1 : Int)) = false := by simp
      have y3 : (0 : Int) ≤ (N : Int) := by omega
      have y4 : (N : Int) < (L1 : Int) := by omega
      have y5 : ((vo : Int) != (vo : Int)) = false := by simp
      have y6 : ((N : Int) != (N : Int)) = false := by simp
      have y7 : (0 : Int) ≤ (kk : Int) := by omega
      have y8 : (kk : Int) < (L1 : Int) := by omega
      have y9 : (0 : Int) ≤ (q : Int) := by omega
      have y10 : (q : Int) ≤ (s.size : Int) := by omega
      have y11 : ¬ s.size < q := by omega
      go_upto_region 16 with first
        | (go_at_call 24; (with_reducible refine (hv1 _ HM.out).mono ?_); rintro e w5 ⟨rfl, h5⟩; have B5 : Hid (Below wr.heap.size wr w5) := h5; clear h5)
        | (go_at_call 23; (with_reducible refine (hc _).mono ?_); rintro e w6 ⟨rfl, h6⟩; have B6 : Hid (Below wr.heap.size wr w6) := chain B5.out h6 (Nat.le_refl _); clear h6)
      have C6 : Hid (∀ (j : Nat) (y : Int), D[j]? = some y → w6.cell? ⟨g, j, none⟩ = some (.int .i64 y)) := fun j y hj => (B6.out.cell (p := ⟨g, j, none⟩) hgw).trans ((B.out.cell (p := ⟨g, j, none⟩) hgl).trans (CL.out j y hj))
      have cq6 := (B6.out.cell (p := ⟨g, kk, none⟩) hgw).trans cq
      have hg6 : g < w6.heap.size := Nat.lt_of_lt_of_le hgw B6.out.size
      have B7 : Hid (Below w.heap.size w w6) := chain B3.out B6.out (Nat.le_refl _)
      clear cn cq
      go_upto_region 17 with (go_at_call 13; (with_reducible refine (hpi _).mono ?_); rintro e w7 ⟨rfl, h7⟩; subst w7)
      go_upto_region 18 with (go_at_call 21; (with_reducible refine (hplT _ (by omega)).mono ?_); rintro e w8 ⟨v8, rfl, o8, h8⟩; have O8 : Hid (w8.ownsRow w6.heap.size 3 1 v8 M.length (ints M)) := o8; have B8 : Hid (Below w6.heap.size w6 w8) := h8; clear o8 h8)
      obtain ⟨g8, c8, rfl⟩ := ownsRow_some O8.out hMm.2
      have CM : Hid (∀ (j : Nat) (y : Int), M[j]? = some y → w8.cell? ⟨g8, j, none⟩ = some (.int .i64 y)) := fun j y hj => ownsRow_cell O8.out (ints_get hj)
      have C8 : Hid (∀ (j : Nat) (y : Int), D[j]? = some y → w8.cell? ⟨g, j, none⟩ = some (.int .i64 y)) := fun j y hj => (B8.out.cell (p := ⟨g, j, none⟩) hg6).trans (C6.out j y hj)
      have hg8 : g < w8.heap.size := Nat.lt_of_lt_of_le hg6 B8.out.size
      have hgm : g8 < w8.heap.size := (ownsRow_at O8.out (g := g8) rfl).2.1
      have B9 : Hid (Below w.heap.size w w8) := chain B7.out B8.out (Nat.le_refl _)
      clear cq6 B7 B6 B5 hv1 hc hplT hpp hcol
      go_wp2
      go_loopw [14] (fun i wr => ∃ j : Nat, j ≤ M.length ∧ i = .int .i64 (j : Int) ∧ Below w8.heap.size w8 wr) (fun i _ => M.length - (intOf i).toNat)
      case atStart => exact ⟨0, Nat.zero_le _, rfl, Below.refl _ _⟩
      case round =>
        obtain ⟨j, hj, rfl, hb⟩ := hrel
        have BB : Hid (Below w8.heap.size w8 wr) := hb
        have hz8 := hb.size
        clear hb
        by_cases hlt : j < M.length
        · obtain ⟨y, hy⟩ : ∃ y, M[j]? = some y := ⟨_, List.getElem?_eq_getElem hlt⟩
          have cm := (BB.out.cell (p := ⟨g8, j, none⟩) hgm).trans (CM.out j y hy)
          have hd := HQ3.out j y hy
          obtain ⟨jk, hjk⟩ : ∃ jk, j + kk = jk := ⟨_, rfl⟩
          rw [hjk] at hd
          have hjl : jk < L1 := by have := HMN.out; omega
          have cd := (BB.out.cell (p := ⟨g, jk, none⟩) hg8).trans (C8.out jk _ hd)
          have hyd : y + (q : Int) ∈ plc acc ++ [(s.size : Int)] := by rw [HD.out]; exact List.mem_of_getElem? hd
          have hyr : 0 ≤ y + (q : Int) ∧ y + (q : Int) ≤ 1048576 := by
            rcases List.mem_append.1 hyd with h | h
            · obtain ⟨u, hu, e⟩ := List.mem_map.1 h
              have := PL.out u hu
              omega
            · simp at h; omega
          have w1' : IntKind.wrap .i64 (y + (q : Int)) = y + (q : Int) := wrap_small _ (by omega) (by omega)
          have w2' : IntKind.wrap .i64 ((j : Int) + (kk : Int)) = (jk : Int) := by rw [wrap_small _ (by omega) (by omega)]; omega
          have w3' : IntKind.wrap .i64 ((j : Int) + 1) = (j : Int) + 1 := wrap_small _ (by omega) (by omega)
          clear hy hd hyd hjk
          have j0 : (0 : Int) ≤ (j : Int) := by omega
          have j1 : (j : Int) < (M.length : Int) := by omega
          have j2 : (0 : Int) ≤ (jk : Int) := by omega
          have j3 : (jk : Int) < (L1 : Int) := by omega
          have j4 : ¬ (L1 : Int) ≤ (jk : Int) := by omega
          have j5 : decide ((L1 : Int) ≤ (jk : Int)) = false := by rw [decide_eq_false_iff_not]; exact j4
          have j7 : decide (L1 ≤ jk) = false := by rw [decide_eq_false_iff_not]; omega
          have j6 : ((y + (q : Int)) != (y + (q : Int))) = false := by simp
          have gw1 : g < wr.heap.size := Nat.lt_of_lt_of_le hg8 hz8
          have gw2 : g8 < wr.heap.size := Nat.lt_of_lt_of_le hgm hz8
          go_wp2
          refine wp_region_ext (by kernel_rfl) (by kernel_rfl) ?_
          repeat (go_big_quiet_step (first | exact rfl | (go_at_call 13; exact ext_call_same (hpi _))))
          refine wpQuiet_nil ?_
          intro w9 hw9
          have B10 : Hid (Below w8.heap.size w8 w9) := chain BB.out (ext_of hw9) (Nat.le_refl _)
          clear hw9
          go_wp2
          go_roundw
          case rel => exact ⟨j + 1, by omega, by go_num, B10.out⟩
          case measure => simp only [intOf]; omega
        · have j1 : ¬ (j : Int) < (M.length : Int) := by omega
          go_wp2
          go_ret
          exact ⟨rfl, chain B9.out BB.out (Nat.le_refl _)⟩
end Go.Proofs.YtihmnibopeljaaaDoor
