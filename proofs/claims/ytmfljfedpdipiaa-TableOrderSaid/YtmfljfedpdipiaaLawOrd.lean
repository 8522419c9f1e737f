/-
  The law TableOrder, walked.
-/
import Derived.Test.YtmfljfedpdipiaaOrdB
namespace Go.Proofs.Ytmfljfedpdipiaa
open Go Go.RowKit
attribute [local go_sem] Oper.semAt_some ext_cell eqg_row eqIn_row

/-- The frame: what is known of it behind the first steps. -/
def orTmps (f : Nat → Value) (BL BR b : Nat) : Array Value := #[f 0, .pointer (some ⟨BL, 0, none⟩), .pointer (some ⟨BR, 0, none⟩), f 3, .pointer (some ⟨b, 0, none⟩), f 5, f 6, f 7, f 8, f 9, f 10, f 11, f 12, f 13, f 14, f 15, f 16, f 17, f 18, f 19, f 20, f 21, f 22, f 23, f 24, f 25, f 26, f 27, f 28, f 29, f 30, f 31, f 32, f 33, f 34, f 35, f 36, f 37, f 38, f 39, f 40, f 41, f 42, f 43, f 44, f 45, f 46, f 47, f 48, f 49, f 50, f 51, f 52, f 53, f 54, f 55, f 56, f 57, f 58, f 59, f 60, f 61, f 62, f 63, f 64, f 65, f 66, f 67, f 68, f 69, f 70, f 71, f 72, f 73, f 74, f 75, f 76, f 77, f 78, f 79, f 80, f 81, f 82, f 83, f 84, f 85, f 86, f 87, f 88, f 89, f 90, f 91, f 92, f 93, f 94, f 95, f 96, f 97, f 98, f 99, f 100, f 101, f 102, f 103, f 104, f 105, f 106, f 107, f 108, f 109, f 110, f 111, f 112, f 113, f 114, f 115, f 116, f 117, f 118, f 119, f 120, f 121, f 122, f 123, f 124, f 125, f 126, f 127, f 128, f 129, f 130, f 131, f 132, f 133, f 134, f 135, f 136, f 137, f 138, f 139, f 140, f 141, f 142, f 143, f 144, f 145, f 146, f 147, f 148, f 149, f 150, f 151, f 152, f 153, f 154, f 155, f 156, f 157, f 158, f 159, f 160, f 161, f 162, f 163, f 164, f 165, f 166, f 167, f 168, f 169, f 170, f 171, f 172, f 173, f 174, f 175, f 176, f 177, f 178, f 179, f 180]

/-- The frame behind the range. -/
def orTmps2 (f : Nat → Value) (BL BR b NB LB : Nat) : Array Value := #[f 0, .pointer (some ⟨BL, 0, none⟩), .pointer (some ⟨BR, 0, none⟩), f 3, .pointer (some ⟨b, 0, none⟩), f 5, f 6, .pointer (some ⟨NB, 0, none⟩), .pointer (some ⟨LB, 0, none⟩), f 9, f 10, f 11, f 12, f 13, f 14, f 15, f 16, f 17, f 18, f 19, f 20, f 21, f 22, f 23, f 24, f 25, f 26, f 27, f 28, f 29, f 30, f 31, f 32, f 33, f 34, f 35, f 36, f 37, f 38, f 39, f 40, f 41, f 42, f 43, f 44, f 45, f 46, f 47, f 48, f 49, f 50, f 51, f 52, f 53, f 54, f 55, f 56, f 57, f 58, f 59, f 60, f 61, f 62, f 63, f 64, f 65, f 66, f 67, f 68, f 69, f 70, f 71, f 72, f 73, f 74, f 75, f 76, f 77, f 78, f 79, f 80, f 81, f 82, f 83, f 84, f 85, f 86, f 87, f 88, f 89, f 90, f 91, f 92, f 93, f 94, f 95, f 96, f 97, f 98, f 99, f 100, f 101, f 102, f 103, f 104, f 105, f 106, f 107, f 108, f 109, f 110, f 111, f 112, f 113, f 114, f 115, f 116, f 117, f 118, f 119, f 120, f 121, f 122, f 123, f 124, f 125, f 126, f 127, f 128, f 129, f 130, f 131, f 132, f 133, f 134, f 135, f 136, f 137, f 138, f 139, f 140, f 141, f 142, f 143, f 144, f 145, f 146, f 147, f 148, f 149, f 150, f 151, f 152, f 153, f 154, f 155, f 156, f 157, f 158, f 159, f 160, f 161, f 162, f 163, f 164, f 165, f 166, f 167, f 168, f 169, f 170, f 171, f 172, f 173, f 174, f 175, f 176, f 177, f 178, f 179, f 180]

set_option maxRecDepth 100000 in
set_option maxHeartbeats 16000000 in
theorem law_order (ls : List (Int × Int × Int)) (v0 : Value) (w : World) (hz : ArgA w v0 ls) :
    Calls Try.prog 4 #[v0] w fun e w' => e = .returned (.bool true) ∧ Below w.heap.size w w' := by
  obtain ⟨q, cap0, rfl, hlen, hcap, hc⟩ := hz.slice
  have HC : Hid (∀ (i : Nat) (x : Int × Int × Int), ls[i]? = some x → ∃ g off, q = some ⟨g, off, none⟩ ∧ g < w.heap.size ∧ w.cell? ⟨g, off + i * 3, none⟩ = some (.int .i64 x.1) ∧ w.cell? ⟨g, off + i * 3 + 1, none⟩ = some (.int .i64 x.2.1) ∧ w.cell? ⟨g, off + i * 3 + 2, none⟩ = some (.int .i64 x.2.2)) := hc
  clear hc hz
  unfold maxLen at hlen
  have hfn : ∀ f, Fence.wide.fn f := fun _ => trivial
  refine (callsIn_wide (n := 5)).1 (callsIn_of_wp_marks Try.func4 rfl trivial ?_ rfl)
  simp only [Try.ntmps4, List.size_toArray, List.length_cons, List.length_nil, Nat.reduceAdd, Nat.reduceSub, Array.replicate_succ, Array.replicate_zero, List.push_toArray, List.append_toArray, List.nil_append, List.cons_append]
  refine wpIn_wide.2 (Code.wp_mono noPanicF_imp ?_)
  go_upto_region 3 with first | (go_at_call 5; (with_reducible refine (known_c _).mono ?_); rintro e w0 ⟨rfl, hb⟩; have B0 : Hid (Below w.heap.size w w0) := chain (((Below.refl _ w).alloc (Nat.le_refl _) _).alloc (by simp) _) hb (Nat.le_refl _); have X0 : Hid (Boxed w0 w.heap.size 48 (.slice q ls.length cap0)) := (hb.block _ ((Boxed.new w 48 (.slice q ls.length cap0)).alloc _).lt).trans ((Boxed.new w 48 (.slice q ls.length cap0)).alloc _); have Y0 : Hid (Boxed w0 (w.heap.size + 1) 4 (.bool false)) := (hb.block _ (box2 w _ 4 (.bool false)).lt).trans (box2 w _ 4 (.bool false)); clear hb) | (go_at_call 7; (with_reducible refine (new_s 3 1000000 (by decide) (by decide) _).mono ?_); rintro e w1 ⟨b, rfl, hT, hB⟩; have O0 : Hid (OS w w.heap.size (w.heap.size + 1) b (.slice q ls.length cap0) (ls.take 300) 0 w1) := ⟨⟨0, m0, LastAt.new _, hT.mono B0.out.size⟩, (hB.block _ X0.out.lt).trans X0.out, (hB.block _ Y0.out.lt).trans Y0.out, chain B0.out hB (Nat.le_refl _)⟩; clear hT hB)
  clear X0 Y0 B0
  have hBR : Hid (w.heap.size ≤ w.heap.size + 1) := Nat.le_succ _
  generalize w.heap.size + 1 = BR at O0 hBR ⊢
  have cl := O0.out.bl.cell
  go_upto_region 5 with fail
  rename_i K1 hK1 K2 hK2
  obtain ⟨zs, hzs⟩ : ∃ zs, ls.take 300 = zs := ⟨_, rfl⟩
  have hz3 : zs.length ≤ 300 := by rw [← hzs]; simp; omega
  have HZ : Hid (∀ (i : Nat) (x : Int × Int × Int), zs[i]? = some x → ∃ g off, q = some ⟨g, off, none⟩ ∧ g < w.heap.size ∧ w.cell? ⟨g, off + i * 3, none⟩ = some (.int .i64 x.1) ∧ w.cell? ⟨g, off + i * 3 + 1, none⟩ = some (.int .i64 x.2.1) ∧ w.cell? ⟨g, off + i * 3 + 2, none⟩ = some (.int .i64 x.2.2)) := fun i x hx => HC.out i x (by
    rw [← hzs] at hx
    have := (List.getElem?_eq_some_iff.1 hx).1
    simp at this
    rwa [List.getElem?_take_of_lt (by omega)] at hx)
  rw [hzs] at O0
  suffices hK : ∀ (a : Act) (W : World), a.tmps = orTmps (fun i => a.tmps.getD i undef) w.heap.size BR b → a.defers = [] → OS w w.heap.size BR b (.slice q zs.length cap0) zs 0 W → K1 a W by
    clear hK1
    by_cases h300 : 300 < ls.length
    · have e : zs.length = 300 := by rw [← hzs]; simp; omega
      have hi : (300 : Int) < (ls.length : Int) := by omega
      have hcc : (300 : Int) ≤ (cap0 : Int) := by have := hcap (fun h => by rw [h] at h300; simp at h300); omega
      have fl := O0.out.bl.frozen
      rw [e] at hK
      go_wp2
      refine hK _ _ ?_ ?_ ?_
      · rfl
      · rfl
      exact O0.out.cutTo (Nat.le_refl _) _
    · have e : zs.length = ls.length := by rw [← hzs]; simp; omega
      have hi : ¬ (300 : Int) < (ls.length : Int) := by omega
      rw [e] at hK
      go_wp2
      refine hK _ _ ?_ ?_ O0.out
      · rfl
      · rfl
  clear hK2 K2 cl O0 HC hcap hlen
  rintro ⟨tm, ds⟩ W ha hd hF
  dsimp only at ha hd
  generalize (fun i => tm.getD i undef) = f at ha
  subst ha hd
  refine hK1 _ _ ?_
  clear hK1 K1
  have F0 : Hid (OS w w.heap.size BR b (.slice q zs.length cap0) zs 0 W) := hF
  clear hF hzs
  unfold orTmps
  go_upto_region 8 with fail
  go_loopw [6] (fun i wr => ∃ (k : Nat), k ≤ zs.length ∧ i = .int .i64 k ∧ OS w w.heap.size BR b (.slice q zs.length cap0) zs k wr) (fun i _ => zs.length - (intOf i).toNat)
  case atStart => exact ⟨0, Nat.zero_le _, rfl, F0.out⟩
  case round =>
    obtain ⟨k, hk, rfl, hF⟩ := hrel
    have F : Hid (OS w w.heap.size BR b (.slice q zs.length cap0) zs k wr) := hF
    clear hF F0
    have cl := F.out.bl.cell
    by_cases hlt : k < zs.length
    · as_aux_lemma =>
        obtain ⟨x, hx⟩ : ∃ x, zs[k]? = some x := ⟨_, List.getElem?_eq_getElem hlt⟩
        have HX : Hid (zs[k]? = some x) := hx
        obtain ⟨g, off, rfl, hg, hx1, hx2, hx3⟩ := HZ.out k x hx
        have d1 := (F.out.bel.cell (p := ⟨g, off + k * 3, none⟩) hg).trans hx1
        have d2 := (F.out.bel.cell (p := ⟨g, off + k * 3 + 1, none⟩) hg).trans hx2
        have d3 := (F.out.bel.cell (p := ⟨g, off + k * 3 + 2, none⟩) hg).trans hx3
        have hgr : g < wr.heap.size := Nat.lt_of_lt_of_le hg F.out.bel.size
        have hlr := F.out.bl.lt
        have i0 : (0 : Int) ≤ (k : Int) := by omega
        have i1 : (k : Int) < (zs.length : Int) := by omega
        have hk3 : k < 300 := by omega
        have HXC : Hid (w.cell? ⟨g, off + k * 3, none⟩ = some (.int .i64 x.1) ∧ w.cell? ⟨g, off + k * 3 + 1, none⟩ = some (.int .i64 x.2.1) ∧ w.cell? ⟨g, off + k * 3 + 2, none⟩ = some (.int .i64 x.2.2)) := ⟨hx1, hx2, hx3⟩
        clear hx hx1 hx2 hx3
        have PR := hide3 (put_row F.out HX.out hk3 (X := (wr.alloc (.cells #[.int .i64 x.1, .int .i64 x.2.1, .int .i64 x.2.2] 3)).drew) ((Below.refl _ _).alloc (Nat.le_refl _) _).drew (World.alloc_heap_new wr _))
        go_upto_region 10 with fail
        go_region_held (fun w' => w'.cell? ⟨w.heap.size, 0, none⟩ = some (.slice (some ⟨g, off, none⟩) zs.length cap0) ∧ w'.cell? ⟨g, off + k * 3, none⟩ = some (.int .i64 x.1) ∧ w'.cell? ⟨g, off + k * 3 + 1, none⟩ = some (.int .i64 x.2.1) ∧ w'.cell? ⟨g, off + k * 3 + 2, none⟩ = some (.int .i64 x.2.2)) (go_keep) ((go_at_call 11; (with_reducible refine PR.out.mono ?_); rintro e w6 ⟨rfl, h6⟩; have O6 : Hid (OS w w.heap.size BR b (.slice (some ⟨g, off, none⟩) zs.length cap0) zs (k + 1) w6) := h6; clear h6; have e0 := O6.out.bl.cell; have e1 := (O6.out.bel.cell (p := ⟨g, off + k * 3, none⟩) hg).trans HXC.out.1; have e2 := (O6.out.bel.cell (p := ⟨g, off + k * 3 + 1, none⟩) hg).trans HXC.out.2.1; have e3 := (O6.out.bel.cell (p := ⟨g, off + k * 3 + 2, none⟩) hg).trans HXC.out.2.2))
        go_wp2
        go_roundw
        case rel => exact ⟨k + 1, by omega, by go_num, O6.out⟩
        case measure => simp only [intOf]; omega
    · obtain rfl : k = zs.length := by omega
      have i1 : ¬ (zs.length : Int) < (zs.length : Int) := by omega
      clear hlt hk
      go_upto_region 13 with fail
      rename_i K1 hK1 K2 hK2
      have hfl : firsts zs zs.length ≤ 300 := Nat.le_trans (firsts_le zs zs.length) hz3
      have REST : Hid (∀ (a : Act) (V : World) (D : Nat), a.tmps = orTmps2 (fun i => a.tmps.getD i undef) w.heap.size BR b wr.heap.size (wr.heap.size + 1) → a.defers = [{ target := .collected D, args := #[] }] → RS w w.heap.size BR b wr.heap.size (.slice q zs.length cap0) zs D V → K1 a V) := by
        as_aux_lemma =>
          clear hK2 K2 F cl
          rintro ⟨tm, ds⟩ V D ha hd hR
          dsimp only at ha hd
          generalize (fun i => tm.getD i undef) = f at ha
          subst ha hd
          refine hK1 _ _ ?_
          clear hK1 K1
          have R0 : Hid (RS w w.heap.size BR b wr.heap.size (.slice q zs.length cap0) zs D V) := hR
          clear hR
          generalize wr.heap.size + 1 = LB
          generalize wr.heap.size = NB at R0 ⊢
          unfold orTmps2
          go_upto_region 32 with fail
          go_loopw [13, 14] (fun mv iv W1 => ∃ (k : Nat), k ≤ zs.length ∧ iv = .int .i64 k ∧ mv = .int .i64 (firsts zs k : Nat) ∧ RS w w.heap.size BR b NB (.slice q zs.length cap0) zs D W1) (fun _ iv _ => zs.length - (intOf iv).toNat)
          case atStart => exact ⟨0, Nat.zero_le _, rfl, rfl, R0.out⟩
          case round =>
            obtain ⟨k, hk, rfl, rfl, hR⟩ := hrel
            have R : Hid (RS w w.heap.size BR b NB (.slice q zs.length cap0) zs D wr) := hR
            clear hR R0
            have cl := R.out.bl.cell
            have hfk : firsts zs k ≤ 300 := Nat.le_trans (firsts_le zs k) (by omega)
            by_cases hlt : k < zs.length
            · obtain ⟨x, hx⟩ : ∃ x, zs[k]? = some x := ⟨_, List.getElem?_eq_getElem hlt⟩
              have HX : Hid (zs[k]? = some x) := hx
              obtain ⟨g, off, rfl, hg, hx1, hx2, hx3⟩ := HZ.out k x hx
              have HXC : Hid (w.cell? ⟨g, off + k * 3, none⟩ = some (.int .i64 x.1) ∧ w.cell? ⟨g, off + k * 3 + 1, none⟩ = some (.int .i64 x.2.1) ∧ w.cell? ⟨g, off + k * 3 + 2, none⟩ = some (.int .i64 x.2.2)) := ⟨hx1, hx2, hx3⟩
              have i0 : (0 : Int) ≤ (k : Int) := by omega
              have i2 : (k : Int) < (zs.length : Int) := by omega
              clear hx hx1 hx2 hx3
              go_upto_region 36 with fail
              go_loopw [15, 16] (fun fv jv W2 => ∃ (j : Nat) (ff : Bool), j ≤ k ∧ jv = .int .i64 j ∧ fv = .bool ff ∧ (ff = true ↔ ∀ i, i < j → zs[i]? ≠ some x) ∧ RS w w.heap.size BR b NB (.slice (some ⟨g, off, none⟩) zs.length cap0) zs D W2) (fun _ jv _ => k - (intOf jv).toNat)
              case atStart => exact ⟨0, true, Nat.zero_le _, rfl, rfl, by simp, R.out⟩
              case round =>
                obtain ⟨j, ff, hj, rfl, rfl, hff, hR2⟩ := hrel
                have R2 : Hid (RS w w.heap.size BR b NB (.slice (some ⟨g, off, none⟩) zs.length cap0) zs D wr) := hR2
                have FF : Hid (ff = true ↔ ∀ i, i < j → zs[i]? ≠ some x) := hff
                clear hff hR2 R cl
                have cl := R2.out.bl.cell
                by_cases hjk : j < k
                · obtain ⟨y, hy⟩ : ∃ y, zs[j]? = some y := ⟨_, List.getElem?_eq_getElem (by omega)⟩
                  obtain ⟨g', off', he, _, hy1, hy2, hy3⟩ := HZ.out j y hy
                  cases he
                  have HY : Hid (zs[j]? = some y) := hy
                  have HYC : Hid (w.cell? ⟨g, off + j * 3, none⟩ = some (.int .i64 y.1) ∧ w.cell? ⟨g, off + j * 3 + 1, none⟩ = some (.int .i64 y.2.1) ∧ w.cell? ⟨g, off + j * 3 + 2, none⟩ = some (.int .i64 y.2.2)) := ⟨hy1, hy2, hy3⟩
                  clear hy hy1 hy2 hy3
                  have j0 : (0 : Int) ≤ (j : Int) := by omega
                  have j1 : (j : Int) < (k : Int) := by omega
                  have j2 : (j : Int) < (zs.length : Int) := by omega
                  have l1 : g < wr.heap.size := Nat.lt_of_lt_of_le hg R2.out.bel.size
                  have l2 : w.heap.size < wr.heap.size := R2.out.bl.lt
                  have a0 := (R2.out.bel.cell (p := ⟨g, off + j * 3, none⟩) hg).trans HYC.out.1
                  have a1 := (R2.out.bel.cell (p := ⟨g, off + j * 3 + 1, none⟩) hg).trans HYC.out.2.1
                  have a2 := (R2.out.bel.cell (p := ⟨g, off + j * 3 + 2, none⟩) hg).trans HYC.out.2.2
                  have c0 := (R2.out.bel.cell (p := ⟨g, off + k * 3, none⟩) hg).trans HXC.out.1
                  have c1 := (R2.out.bel.cell (p := ⟨g, off + k * 3 + 1, none⟩) hg).trans HXC.out.2.1
                  have c2 := (R2.out.bel.cell (p := ⟨g, off + k * 3 + 2, none⟩) hg).trans HXC.out.2.2
                  have NX : Hid ((! decide (y = x)) = true ↔ y ≠ x) := (by simp : (! decide (y = x)) = true ↔ y ≠ x)
                  cases ff with
                  | true =>
                    go_upto_region 38 with fail
                    refine wp_region_ext (by kernel_rfl) (by kernel_rfl) ?_
                    repeat (go_big_quiet_step (first | exact rfl))
                    refine wpQuiet_nil ?_
                    intro W9 hw
                    have R9 : Hid (RS w w.heap.size BR b NB (.slice (some ⟨g, off, none⟩) zs.length cap0) zs D W9) := R2.out.kept (ext_of hw)
                    clear hw cl a0 a1 a2 c0 c1 c2 l1 l2
                    go_wp2
                    go_roundw
                    case rel =>
                      refine ⟨j + 1, ! decide (y = x), by omega, by go_num, by simp, ?_, R9.out⟩
                      rw [NX.out]
                      constructor
                      · intro hne i hi
                        rcases Nat.lt_or_ge i j with h | h
                        · exact FF.out.1 rfl i h
                        · obtain rfl : i = j := by omega
                          rw [HY.out]
                          exact fun e => hne (Option.some.inj e)
                      · intro h e
                        exact h j (by omega) (by rw [HY.out, e])
                    case measure => simp only [intOf]; omega
                  | false =>
                    go_upto_region 38 with fail
                    refine wp_region_ext (by kernel_rfl) (by kernel_rfl) ?_
                    repeat (go_big_quiet_step (first | exact rfl))
                    refine wpQuiet_nil ?_
                    intro W9 hw
                    have R9 : Hid (RS w w.heap.size BR b NB (.slice (some ⟨g, off, none⟩) zs.length cap0) zs D W9) := R2.out.kept (ext_of hw)
                    clear hw cl a0 a1 a2 c0 c1 c2 l1 l2
                    go_wp2
                    go_roundw
                    case rel =>
                      refine ⟨j + 1, false, by omega, by go_num, rfl, ?_, R9.out⟩
                      constructor
                      · intro h; cases h
                      · intro h
                        exact FF.out.2 (fun i hi => h i (by omega))
                    case measure => simp only [intOf]; omega
                · obtain rfl : j = k := by omega
                  have j1 : ¬ (j : Int) < (j : Int) := by omega
                  have FN : Hid (firsts zs (j + 1) = firsts zs j + (if ff then 1 else 0)) := (by
                    show firsts zs j + _ = _
                    congr 1
                    have := (fresh_iff HX.out).trans FF.out.symm
                    by_cases h : ff = true
                    · rw [if_pos (this.2 h), if_pos h]
                    · rw [if_neg (fun q => h (this.1 q)), if_neg h])
                  clear FF hjk
                  cases ff with
                  | true =>
                    go_wp2
                    go_roundw
                    case rel => exact ⟨j + 1, by omega, by go_num, by rw [FN.out]; go_num, R2.out⟩
                    case measure => simp only [intOf]; omega
                  | false =>
                    go_wp2
                    go_roundw
                    case rel => exact ⟨j + 1, by omega, by go_num, by rw [FN.out]; simp, R2.out⟩
                    case measure => simp only [intOf]; omega
            · obtain rfl : k = zs.length := by omega
              have i2 : ¬ (zs.length : Int) < (zs.length : Int) := by omega
              obtain ⟨N, m, hT⟩ := R.out.t
              have LN := hide3 (len_s hT)
              have cn := R.out.nb.cell
              have cr := R.out.br.cell
              have fr := R.out.br.frozen
              have e9 : ((firsts zs zs.length : Int) == (firsts zs zs.length : Int)) = true := by simp
              clear hT
              go_wp2_with (go_at_call 12; (with_reducible refine LN.out.mono ?_); rintro e w9 ⟨rfl, h9⟩; subst w9)
              have FI := hide3 R.out.fin
              refine ⟨by simp, .inl ⟨_, _, rfl, run_takeDeferred FI.out.1, ?_⟩⟩
              have cr2 := FI.out.2.1
              exact ⟨.bool true, by simp [results, Try.results4, go_sem, cr2], rfl, FI.out.2.2⟩
      obtain ⟨N, m, hLA, hTS⟩ := F.out.t
      obtain ⟨pb, P, hTM, hcP, hNP, hbp, hPe⟩ := hTS.ex
      have M0 : Hid (TM wr b pb 3 1000000 P m) := hTM
      have LA : Hid (LastAt zs zs.length m) := hLA
      have CP : Hid (cnt P = firsts zs zs.length) := hcP
      have TSX : Hid (∀ V, TM V b pb 3 1000000 P m → TS w.heap.size V b 3 1000000 (firsts zs zs.length) N m) := fun V hV => ⟨⟨pb, P, hV, hcP, hNP, hbp, hPe⟩, hTS.hb⟩
      clear hLA hTS hTM hcP hNP hbp hPe
      go_wp2_with (go_at_call 8; refine (all_c b _).mono ?_; rintro e w7 ⟨rfl, h7⟩; subst w7)
      have BV2 : Below wr.heap.size wr ((wr.alloc (.cells #[.int .i64 0] 3)).alloc (.cells #[.int .i64 0, .int .i64 0, .int .i64 0] 50)) := ((Below.refl _ _).alloc (Nat.le_refl _) _).alloc (by simp) _
      have BV4 : Below wr.heap.size wr (((wr.alloc (.cells #[.int .i64 0] 3)).alloc (.cells #[.int .i64 0, .int .i64 0, .int .i64 0] 50)).alloc (.cells #[.pointer (some ⟨b, 0, none⟩)] 25)) := BV2.alloc BV2.size _
      have NB4 : Boxed (((wr.alloc (.cells #[.int .i64 0] 3)).alloc (.cells #[.int .i64 0, .int .i64 0, .int .i64 0] 50)).alloc (.cells #[.pointer (some ⟨b, 0, none⟩)] 25)) wr.heap.size 3 (.int .i64 0) := ((Boxed.new wr _ _).alloc _).alloc _
      have LB4 : (((wr.alloc (.cells #[.int .i64 0] 3)).alloc (.cells #[.int .i64 0, .int .i64 0, .int .i64 0] 50)).alloc (.cells #[.pointer (some ⟨b, 0, none⟩)] 25)).heap[wr.heap.size + 1]? = some (.cells (ints (k3 (0, 0, 0))).toArray 50 (0, 0)) := by
        have h1 := World.alloc_heap_new (wr.alloc (.cells #[.int .i64 0] 3)) (.cells #[.int .i64 0, .int .i64 0, .int .i64 0] 50)
        rw [World.size_alloc] at h1
        exact (Below.heap_alloc _ _ _ (by simp)).trans h1
      have AB4 : Boxed (((wr.alloc (.cells #[.int .i64 0] 3)).alloc (.cells #[.int .i64 0, .int .i64 0, .int .i64 0] 50)).alloc (.cells #[.pointer (some ⟨b, 0, none⟩)] 25)) (wr.heap.size + 1 + 1) 25 (.pointer (some ⟨b, 0, none⟩)) := by
        have h1 := Boxed.new ((wr.alloc (.cells #[.int .i64 0] 3)).alloc (.cells #[.int .i64 0, .int .i64 0, .int .i64 0] 50)) 25 (.pointer (some ⟨b, 0, none⟩))
        rw [World.size_alloc, World.size_alloc] at h1
        exact h1
      have M4 : TM (((wr.alloc (.cells #[.int .i64 0] 3)).alloc (.cells #[.int .i64 0, .int .i64 0, .int .i64 0] 50)).alloc (.cells #[.pointer (some ⟨b, 0, none⟩)] 25)) b pb 3 1000000 P m := M0.out.kept BV4
      have F4 : OS w w.heap.size BR b (.slice q zs.length cap0) zs zs.length (((wr.alloc (.cells #[.int .i64 0] 3)).alloc (.cells #[.int .i64 0, .int .i64 0, .int .i64 0] 50)).alloc (.cells #[.pointer (some ⟨b, 0, none⟩)] 25)) := F.out.kept BV4
      have ND : Hid (w.heap.size ≤ wr.heap.size ∧ wr.heap.size < wr.heap.size + 1 ∧ ∀ k, kblk P k → k < wr.heap.size) := ⟨F.out.bel.size, Nat.lt_succ_self _, fun k hk => kblk_lt M0.out hk⟩
      generalize (((wr.alloc (.cells #[.int .i64 0] 3)).alloc (.cells #[.int .i64 0, .int .i64 0, .int .i64 0] 50)).alloc (.cells #[.pointer (some ⟨b, 0, none⟩)] 25)) = V4 at BV4 NB4 LB4 AB4 M4 F4 ⊢
      have NL : Hid (wr.heap.size + 1 < V4.heap.size) := lt_of_heap LB4
      generalize wr.heap.size + 1 + 1 = AB at AB4 ⊢
      generalize wr.heap.size + 1 = LB at LB4 ND NL REST ⊢
      clear BV2 BV4 M0 F cl
      generalize wr.heap.size = NB at NB4 ND REST ⊢
      have hsz := F4.bel.size
      refine (wpIn_wide (n := 5)).1 ?_
      refine all_range (by decide) 65 66 9 10 AB rfl rfl AB4 M4 (OI w NB LB w.heap.size BR b (.slice q zs.length cap0) pb P m) (fun _ _ _ => False)
        (OI.own hsz) (fun _ _ _ _ _ h _ _ => h)
        ⟨NB4, ⟨(0, 0, 0), LB4, fun z hz => by simp at hz⟩, F4.bl, F4.br, M4, F4.bel⟩ ?_ ?_ ?_ ?_
      · intro l x W K hK
        gi_wp2
        exact hK
      · as_aux_lemma =>
          clear REST hK1 NB4 LB4 AB4 M4 F4 TSX
          rintro l pre ⟨gx, key, val⟩ V hOI ⟨hk1, hk2, hk3, hpc, hpre⟩
          have hmk : m key = some val := hpre.there (key, val) (by simp)
          obtain ⟨j, x, rfl, hjl, hxj, rfl, hno⟩ := (LA.out key val).1 hmk
          obtain ⟨g, off, rfl, hg, hx1, hx2, hx3⟩ := HZ.out j x hxj
          have OIH : Hid (OI w NB LB w.heap.size BR b (.slice (some ⟨g, off, none⟩) zs.length cap0) pb P m pre V) := hOI
          have HXC : Hid (w.cell? ⟨g, off + j * 3, none⟩ = some (.int .i64 x.1) ∧ w.cell? ⟨g, off + j * 3 + 1, none⟩ = some (.int .i64 x.2.1) ∧ w.cell? ⟨g, off + j * 3 + 2, none⟩ = some (.int .i64 x.2.2)) := ⟨hx1, hx2, hx3⟩
          have HNO : Hid (∀ i, j < i → i < zs.length → zs[i]? ≠ some x) := hno
          obtain ⟨z, hz1, hz2⟩ := hOI.last
          have HKX : Hid (V.heap[gx]? = some (.cells (ints (k3 x)).toArray 3 (0, 0))) := hk1
          have HLZ : Hid (V.heap[LB]? = some (.cells (ints (k3 z)).toArray 50 (0, 0))) := hz1
          have HLX : Hid (pre ≠ [] → lexC (k3 z) (k3 x) = -1) := fun hp => by
            obtain ⟨p', y, rfl⟩ := List.eq_nil_or_concat pre |>.resolve_left hp
            rw [List.concat_eq_append] at hpre hz2
            have hr := hpre.rise
            unfold RisingK at hr
            simp only [List.map_append, List.map_cons, List.map_nil, List.pairwise_append] at hr
            have := hr.2.2 y.2 (by simp) (k3 x, (j : Int)) (by simp)
            rwa [hz2 y (by simp)] at this
          have hpl : pre.length ≤ 300 := by have := CP.out; omega
          have hjb : j < 300 := by omega
          have cl := hOI.bl.cell
          have k0 : V.cell? ⟨gx, 0, none⟩ = some (.int .i64 x.1) := cell_row hk1 (i := 0) rfl
          have k1 : V.cell? ⟨gx, 1, none⟩ = some (.int .i64 x.2.1) := cell_row hk1 (i := 1) rfl
          have k2 : V.cell? ⟨gx, 2, none⟩ = some (.int .i64 x.2.2) := cell_row hk1 (i := 2) rfl
          have a0 := (hOI.bel.cell (p := ⟨g, off + j * 3, none⟩) hg).trans HXC.out.1
          have a1 := (hOI.bel.cell (p := ⟨g, off + j * 3 + 1, none⟩) hg).trans HXC.out.2.1
          have a2 := (hOI.bel.cell (p := ⟨g, off + j * 3 + 2, none⟩) hg).trans HXC.out.2.2
          have l1 : g < V.heap.size := Nat.lt_of_lt_of_le hg hOI.bel.size
          have l2 : w.heap.size < V.heap.size := hOI.bl.lt
          have l3 : gx < V.heap.size := lt_of_heap hk1
          have l4 : LB < V.heap.size := lt_of_heap hz1
          have l5 : NB < V.heap.size := hOI.n.lt
          have f0 : (0 : Int) ≤ (j : Int) := by omega
          have f1 : (j : Int) < (zs.length : Int) := by omega
          have d4 : decide ((j : Int) < 0) = false := by simp
          have d5 : decide (zs.length ≤ j) = false := by simp; omega
          clear hOI hk1 hk2 hk3 hpc hpre hmk hxj hno hx1 hx2 hx3 hz1 hz2
          simp only [roundAct2, List.setIfInBounds_toArray, List.set_cons_succ, List.set_cons_zero, k3_len]
          gi_wp2
          refine wpIn_region_ext (by kernel_rfl) (by kernel_rfl) (by kernel_rfl) (fun ⟨_, _, h⟩ => h) ?_
          repeat (go_big_quiet_step (first | exact rfl))
          refine wpQuiet_nil ?_
          intro W5 hw
          have B5 : Hid (Below V.heap.size V W5) := ext_of hw
          clear hw
          gi_wp2
          clear k0 k1 k2 a0 a1 a2 cl
          have CB : Hid (V.cell? ⟨w.heap.size, 0, none⟩ = some (.slice (some ⟨g, off, none⟩) zs.length cap0)) := OIH.out.bl.cell
          gi_loopw [11] (fun iv W6 => ∃ i : Nat, j + 1 ≤ i ∧ i ≤ zs.length ∧ iv = .int .i64 i ∧ Below V.heap.size V W6) (fun iv _ => zs.length - (intOf iv).toNat)
          case atStart => exact ⟨j + 1, Nat.le_refl _, by omega, by simp, B5.out⟩
          case round =>
            obtain ⟨i, hi1, hi2, rfl, hB6⟩ := hrel
            have B6 : Hid (Below V.heap.size V wr) := hB6
            clear hB6 B5
            have OB : Hid (Below w.heap.size w wr) := chain OIH.out.bel B6.out (Nat.le_refl _)
            have cl := (B6.out.cell (p := ⟨w.heap.size, 0, none⟩) l2).trans CB.out
            have hsw := B6.out.size
            by_cases hilt : i < zs.length
            · as_aux_lemma =>
                obtain ⟨y, hy⟩ : ∃ y, zs[i]? = some y := ⟨_, List.getElem?_eq_getElem hilt⟩
                obtain ⟨g', off', he, _, hy1, hy2, hy3⟩ := HZ.out i y hy
                cases he
                have HYC : Hid (w.cell? ⟨g, off + i * 3, none⟩ = some (.int .i64 y.1) ∧ w.cell? ⟨g, off + i * 3 + 1, none⟩ = some (.int .i64 y.2.1) ∧ w.cell? ⟨g, off + i * 3 + 2, none⟩ = some (.int .i64 y.2.2)) := ⟨hy1, hy2, hy3⟩
                have hne : decide (y = x) = false := by
                  simp only [decide_eq_false_iff_not]
                  rintro rfl
                  exact HNO.out i (by omega) hilt hy
                clear hy hy1 hy2 hy3
                have j0 : (0 : Int) ≤ (i : Int) := by omega
                have j2 : (i : Int) < (zs.length : Int) := by omega
                have m1 : g < wr.heap.size := Nat.lt_of_lt_of_le l1 hsw
                have m2 : w.heap.size < wr.heap.size := Nat.lt_of_lt_of_le l2 hsw
                have a0 := (OB.out.cell (p := ⟨g, off + i * 3, none⟩) hg).trans HYC.out.1
                have a1 := (OB.out.cell (p := ⟨g, off + i * 3 + 1, none⟩) hg).trans HYC.out.2.1
                have a2 := (OB.out.cell (p := ⟨g, off + i * 3 + 2, none⟩) hg).trans HYC.out.2.2
                have c0 := (OB.out.cell (p := ⟨g, off + j * 3, none⟩) hg).trans HXC.out.1
                have c1 := (OB.out.cell (p := ⟨g, off + j * 3 + 1, none⟩) hg).trans HXC.out.2.1
                have c2 := (OB.out.cell (p := ⟨g, off + j * 3 + 2, none⟩) hg).trans HXC.out.2.2
                gi_wp2
                refine wpIn_region_ext (by kernel_rfl) (by kernel_rfl) (by kernel_rfl) (fun ⟨_, _, h⟩ => h) ?_
                repeat (go_big_quiet_step (first | exact rfl))
                refine wpQuiet_nil ?_
                intro W9 hw
                have B9 : Hid (Below V.heap.size V W9) := chain B6.out (ext_of hw) (Nat.le_refl _)
                clear hw cl a0 a1 a2 c0 c1 c2
                gi_wp2
                go_roundw
                case rel => exact ⟨i + 1, by omega, by omega, by go_num, B9.out⟩
                case measure => simp only [intOf]; omega
            · as_aux_lemma =>
                have j2 : ¬ (i : Int) < (zs.length : Int) := by omega
                gi_wp2
                gi_loopw [12] (fun kv W7 => ∃ k : Nat, k ≤ 2 ∧ kv = .int .i64 k ∧ (∀ t, t < k → (k3 z)[t]? = (k3 x)[t]?) ∧ Below V.heap.size V W7) (fun kv _ => 2 - (intOf kv).toNat)
                case atStart => exact ⟨0, by omega, rfl, fun t ht => by omega, B6.out⟩
                case round =>
                  obtain ⟨k, hk, rfl, hkk, hB7⟩ := hrel
                  have B7 : Hid (Below V.heap.size V wr) := hB7
                  have KK : Hid (∀ t, t < k → (k3 z)[t]? = (k3 x)[t]?) := hkk
                  clear hB7 B6 OB hkk cl hsw
                  obtain ⟨a, ha⟩ := k3_at z hk
                  obtain ⟨c, hc⟩ := k3_at x hk
                  have HA : Hid ((k3 z)[k]? = some a ∧ (k3 x)[k]? = some c) := ⟨ha, hc⟩
                  have VA : Hid (V.cell? ⟨LB, k, none⟩ = some (.int .i64 a) ∧ V.cell? ⟨gx, k, none⟩ = some (.int .i64 c)) := ⟨cell_row HLZ.out (i := k) (by simpa using ints_get ha), cell_row HKX.out (i := k) (by simpa using ints_get hc)⟩
                  clear ha hc
                  have ca := (B7.out.cell (p := ⟨LB, k, none⟩) l4).trans VA.out.1
                  have cc := (B7.out.cell (p := ⟨gx, k, none⟩) l3).trans VA.out.2
                  have hsw := B7.out.size
                  have m3 : gx < wr.heap.size := Nat.lt_of_lt_of_le l3 hsw
                  have m4 : LB < wr.heap.size := Nat.lt_of_lt_of_le l4 hsw
                  have q0 : (0 : Int) ≤ (k : Int) := by omega
                  have q3 : (k : Int) < 3 := by omega
                  by_cases hgo : k < 2 ∧ a = c
                  · as_aux_lemma =>
                      obtain ⟨hk2, rfl⟩ := hgo
                      have q2 : decide ((k : Int) < 2) = true := by simp; omega
                      have qe : (a == a) = true := by simp
                      gi_wp2
                      refine wpIn_region_ext (by kernel_rfl) (by kernel_rfl) (by kernel_rfl) (fun ⟨_, _, h⟩ => h) ?_
                      repeat (go_big_quiet_step (first | exact rfl))
                      refine wpQuiet_nil ?_
                      intro W9 hw
                      have B9 : Hid (Below V.heap.size V W9) := chain B7.out (ext_of hw) (Nat.le_refl _)
                      clear hw ca cc
                      gi_wp2
                      go_roundw
                      case rel =>
                        refine ⟨k + 1, by omega, by go_num, fun t ht => ?_, B9.out⟩
                        rcases Nat.lt_or_ge t k with h | h
                        · exact KK.out t h
                        · obtain rfl : t = k := by omega
                          rw [HA.out.1, HA.out.2]
                      case measure => simp only [intOf]; omega
                  · have hor : k = 2 ∨ a ≠ c := by
                      rcases Nat.lt_or_ge k 2 with h | h
                      · exact .inr (fun e => hgo ⟨h, e⟩)
                      · exact .inl (by omega)
                    have HLT : Hid (pre ≠ [] → a < c) := fun hp => lex3 (HLX.out hp) hk KK.out HA.out.1 HA.out.2 hor
                    have hq : (decide ((k : Int) < 2) = true ∧ (a == c) = false) ∨ decide ((k : Int) < 2) = false := by
                      rcases Nat.lt_or_ge k 2 with h | h
                      · refine .inl ⟨by simp; omega, ?_⟩
                        have : a ≠ c := fun e => hgo ⟨h, e⟩
                        simpa using this
                      · exact .inr (by simp; omega)
                    clear hor hgo KK HLX
                    rcases hq with ⟨q2, qe⟩ | q2
                    all_goals
                      as_aux_lemma =>
                        gi_wp2
                        refine wpIn_region_ext (by kernel_rfl) (by kernel_rfl) (by kernel_rfl) (fun ⟨_, _, h⟩ => h) ?_
                        repeat (go_big_quiet_step (first | exact rfl))
                        refine wpQuiet_nil ?_
                        intro W9 hw
                        have B9 : Hid (Below V.heap.size V W9) := chain B7.out (ext_of hw) (Nat.le_refl _)
                        clear hw ca cc m3 m4 hsw
                        have ca := (B9.out.cell (p := ⟨LB, k, none⟩) l4).trans VA.out.1
                        have cc := (B9.out.cell (p := ⟨gx, k, none⟩) l3).trans VA.out.2
                        have hsw := B9.out.size
                        have m3 : gx < W9.heap.size := Nat.lt_of_lt_of_le l3 hsw
                        have m4 : LB < W9.heap.size := Nat.lt_of_lt_of_le l4 hsw
                        have m5 : NB < W9.heap.size := Nat.lt_of_lt_of_le l5 hsw
                        have cn0 := (B9.out.cell (p := ⟨NB, 0, none⟩) l5).trans OIH.out.n.cell
                        obtain ⟨L, hL⟩ : ∃ L, pre.length = L := ⟨_, rfl⟩
                        have LE : Hid (pre.length = L) := hL
                        rw [hL] at cn0 hpl
                        clear hL
                        gi_wp2
                        rcases List.eq_nil_or_concat pre with hp | ⟨p', y', hp⟩
                        · have CNN : W9.cell? ⟨NB, 0, none⟩ = some (.int .i64 0) := (by rw [cn0, ← LE.out, hp]; rfl)
                          have d8 : decide ((0 : Int) > 0) = false := by decide
                          clear cn0
                          refine wpIn_region_ext (by kernel_rfl) (by kernel_rfl) (by kernel_rfl) (fun ⟨_, _, h⟩ => h) ?_
                          repeat (go_big_quiet_step (first | exact rfl))
                          refine wpQuiet_nil ?_
                          intro X hw
                          have BX : Hid (Below V.heap.size V X) := chain B9.out (ext_of hw) (Nat.le_refl _)
                          clear hw ca cc m3 m4 m5 hsw CNN
                          have OX : Hid (Below w.heap.size w X) := chain OIH.out.bel BX.out (Nat.le_refl _)
                          have cl := (BX.out.cell (p := ⟨w.heap.size, 0, none⟩) l2).trans CB.out
                          have c0 := (OX.out.cell (p := ⟨g, off + j * 3, none⟩) hg).trans HXC.out.1
                          have c1 := (OX.out.cell (p := ⟨g, off + j * 3 + 1, none⟩) hg).trans HXC.out.2.1
                          have c2 := (OX.out.cell (p := ⟨g, off + j * 3 + 2, none⟩) hg).trans HXC.out.2.2
                          have HN := hide3 ((BX.out.block NB l5).trans OIH.out.n)
                          have HL := hide3 ((BX.out.block LB l4).trans HLZ.out)
                          have cn : X.cell? ⟨NB, 0, none⟩ = some (.int .i64 (L : Int)) := (by rw [← LE.out]; exact cell_row HN.out (i := 0) rfl)
                          have fn := frz_row HN.out 0
                          have b0 : X.cell? ⟨LB, 0, none⟩ = some (.int .i64 z.1) := cell_row HL.out (i := 0) rfl
                          have b1 : X.cell? ⟨LB, 1, none⟩ = some (.int .i64 z.2.1) := cell_row HL.out (i := 1) rfl
                          have b2 : X.cell? ⟨LB, 2, none⟩ = some (.int .i64 z.2.2) := cell_row HL.out (i := 2) rfl
                          have fl0 := frz_row HL.out 0
                          have fl1 := frz_row HL.out 1
                          have fl2 := frz_row HL.out 2
                          have hNL : NB ≠ LB := (fun e => by have := ND.out.2.1; omega)
                          gi_wp2
                          exact OIH.out.step BX.out rfl HLZ.out LE.out ND.out.2.1 NL.out ND.out.1 ND.out.2.2 _
                        · have CNN := cn0
                          have hlt := HLT.out (by rw [hp]; simp)
                          have d7 : decide (c ≤ a) = false := by simp; omega
                          have d9 : 0 < L := by rw [← LE.out, hp]; simp
                          have d8 : (0 : Int) < (L : Int) := by omega
                          clear cn0
                          refine wpIn_region_ext (by kernel_rfl) (by kernel_rfl) (by kernel_rfl) (fun ⟨_, _, h⟩ => h) ?_
                          repeat (go_big_quiet_step (first | exact rfl))
                          refine wpQuiet_nil ?_
                          intro X hw
                          have BX : Hid (Below V.heap.size V X) := chain B9.out (ext_of hw) (Nat.le_refl _)
                          clear hw ca cc m3 m4 m5 hsw CNN
                          have OX : Hid (Below w.heap.size w X) := chain OIH.out.bel BX.out (Nat.le_refl _)
                          have cl := (BX.out.cell (p := ⟨w.heap.size, 0, none⟩) l2).trans CB.out
                          have c0 := (OX.out.cell (p := ⟨g, off + j * 3, none⟩) hg).trans HXC.out.1
                          have c1 := (OX.out.cell (p := ⟨g, off + j * 3 + 1, none⟩) hg).trans HXC.out.2.1
                          have c2 := (OX.out.cell (p := ⟨g, off + j * 3 + 2, none⟩) hg).trans HXC.out.2.2
                          have HN := hide3 ((BX.out.block NB l5).trans OIH.out.n)
                          have HL := hide3 ((BX.out.block LB l4).trans HLZ.out)
                          have cn : X.cell? ⟨NB, 0, none⟩ = some (.int .i64 (L : Int)) := (by rw [← LE.out]; exact cell_row HN.out (i := 0) rfl)
                          have fn := frz_row HN.out 0
                          have b0 : X.cell? ⟨LB, 0, none⟩ = some (.int .i64 z.1) := cell_row HL.out (i := 0) rfl
                          have b1 : X.cell? ⟨LB, 1, none⟩ = some (.int .i64 z.2.1) := cell_row HL.out (i := 1) rfl
                          have b2 : X.cell? ⟨LB, 2, none⟩ = some (.int .i64 z.2.2) := cell_row HL.out (i := 2) rfl
                          have fl0 := frz_row HL.out 0
                          have fl1 := frz_row HL.out 1
                          have fl2 := frz_row HL.out 2
                          have hNL : NB ≠ LB := (fun e => by have := ND.out.2.1; omega)
                          gi_wp2
                          exact OIH.out.step BX.out rfl HLZ.out LE.out ND.out.2.1 NL.out ND.out.1 ND.out.2.2 _
      · as_aux_lemma =>
          clear hK1
          intro D xs V hD hall hI hK
          have hlen : xs.length = firsts zs zs.length := by have := hall.len; rw [List.length_map, CP.out] at this; exact this
          have hn := hI.n
          rw [hlen] at hn
          simp only [behindAct]
          go_wp2
          refine REST.out _ _ D ?_ ?_ ⟨⟨N, m, TSX.out V hI.t⟩, hI.bl, hI.br, hn, hK, Nat.le_trans hsz hD, hBR.out, hI.bel⟩
          · rfl
          · rfl
      · intro D c pre W _ _ h
        exact h.elim
end Go.Proofs.Ytmfljfedpdipiaa
