/-
  The law PileFollows.
-/
import Derived.Test.YtobeiigmeflbjaaRnd4
import Derived.Test.YtobeiigmeflbjaaArgL
namespace Go.Proofs.Ytobeiigmeflbjaa
open Go Go.RowKit Go.Shelf
attribute [local go_sem] Oper.semAt_some ext_cell

/-- A block that is no cells is none of a pile's. -/
theorem pt_none {base : Nat} {W : World} {pb : Nat} {v : Value} {L : List Th} (p : PT base W pb v L) {D : Nat} {o : Obj} (hD : W.heap[D]? = some o) (ho : o.isCells = false) : ¬ foot pb v D := by
  rintro (q | q)
  · subst q
    rw [p.hb] at hD
    cases hD
    cases ho
  · obtain ⟨_, _, cur, hc⟩ := ownsRow_at p.own q
    rw [hc] at hD
    cases hD
    cases ho
/-- What number a box has, and one more. -/
def kAt (W : World) (BK : Nat) : Nat := match W.cell? ⟨BK, 0, none⟩ with | some (.int _ z) => (z + 1).toNat | _ => 0
/-- How the last loop stands. -/
def LastI (n : Nat) (w : World) (BL BR BP pb BK D : Nat) (sv : Value) (zs : List Th) (c : Nat) (W : World) : Prop :=
  ∃ (m : Nat) (v : Value), m ≤ c ∧ FS n w BL BR BP pb sv v (zs.take m) W ∧ W.heap[BK]? = some (.cells #[.int .i64 ((m : Int) - 1)] 3 (0, 0)) ∧ W.heap[D]? = some (.deferred (some []))
/-- The frame: what is known of it behind the first steps. -/
def pfTmps (f : Nat → Value) (x1 : Int) (BL BR BP : Nat) : Array Value := #[f 0, .int .i64 x1, .pointer (some ⟨BL, 0, none⟩), f 3, .pointer (some ⟨BR, 0, none⟩), f 5, .pointer (some ⟨BP, 0, none⟩), f 7, f 8, f 9, f 10, f 11, f 12, f 13, f 14, f 15, f 16, f 17, f 18, f 19, f 20, f 21, f 22, f 23, f 24, f 25, f 26, f 27, f 28, f 29, f 30, f 31, f 32, f 33, f 34, f 35, f 36, f 37, f 38, f 39, f 40, f 41, f 42, f 43, f 44, f 45, f 46, f 47, f 48, f 49, f 50, f 51, f 52, f 53, f 54, f 55, f 56, f 57, f 58, f 59, f 60, f 61, f 62, f 63, f 64, f 65, f 66, f 67, f 68, f 69, f 70, f 71, f 72, f 73, f 74, f 75, f 76, f 77, f 78, f 79, f 80, f 81, f 82, f 83, f 84, f 85, f 86, f 87, f 88, f 89, f 90, f 91, f 92, f 93, f 94, f 95, f 96, f 97, f 98, f 99, f 100, f 101, f 102, f 103, f 104, f 105, f 106, f 107, f 108, f 109, f 110, f 111, f 112, f 113, f 114, f 115, f 116, f 117, f 118, f 119, f 120, f 121, f 122, f 123, f 124, f 125, f 126, f 127, f 128, f 129, f 130, f 131, f 132, f 133, f 134, f 135, f 136, f 137, f 138, f 139, f 140, f 141, f 142, f 143, f 144, f 145]

set_option maxRecDepth 100000 in
set_option maxHeartbeats 16000000 in
theorem law_pfol (ls : List Th) (v0 : Value) (x1 : Int) (wf1 : (Lit.int .i64 x1).wf = true) (w : World) (hz : ArgT w v0 ls) :
    Calls Try.prog 5 #[v0, .int .i64 x1] w fun e w' => e = .returned (.bool true) ∧ Below w.heap.size w w' := by
  obtain ⟨q, cap0, rfl, hlen, hcap, hc⟩ := hz.slice
  have HC : Hid (∀ (i : Nat) (x : Th), ls[i]? = some x → ∃ g off, q = some ⟨g, off, none⟩ ∧ g < w.heap.size ∧ w.cell? ⟨g, off + i * 2, none⟩ = some (.int .i64 x.1) ∧ w.cell? ⟨g, off + i * 2 + 1, none⟩ = some (.string x.2)) := hc
  clear hc hz
  unfold maxLen at hlen
  have hfn : ∀ f, Fence.wide.fn f := fun _ => trivial
  refine (callsIn_wide (n := 5)).1 (callsIn_of_wp_marks Try.func5 rfl trivial ?_ rfl)
  simp only [Try.ntmps5, List.size_toArray, List.length_cons, List.length_nil, Nat.reduceAdd, Nat.reduceSub, Array.replicate_succ, Array.replicate_zero, List.push_toArray, List.append_toArray, List.nil_append, List.cons_append]
  refine wpIn_wide.2 (Code.wp_mono noPanicF_imp ?_)
  go_upto_region 1 with fail
  have L0 := alloc_new w (.cells #[.slice q ls.length cap0] 29)
  have Z0 : (w.alloc (.cells #[.slice q ls.length cap0] 29)).heap.size = w.heap.size + 1 := by simp
  have E0 : Below w.heap.size w (w.alloc (.cells #[.slice q ls.length cap0] 29)) := (Below.refl _ _).alloc (Nat.le_refl _) _
  generalize (w.alloc (.cells #[.slice q ls.length cap0] 29)) = wa at L0 Z0 E0 ⊢
  have R0 := alloc_new wa (.cells #[.bool false] 4)
  have L1 := (Below.heap_alloc wa (.cells #[.bool false] 4) w.heap.size (by omega)).trans L0
  have E1 : Hid (Below w.heap.size w (wa.alloc (.cells #[.bool false] 4))) := E0.alloc (by omega) _
  have HL1 : Hid ((wa.alloc (.cells #[.bool false] 4)).heap[w.heap.size]? = some (.cells #[.slice q ls.length cap0] 29 (0, 0)) ∧ (wa.alloc (.cells #[.bool false] 4)).heap[wa.heap.size]? = some (.cells #[.bool false] 4 (0, 0))) := ⟨L1, R0⟩
  generalize (wa.alloc (.cells #[.bool false] 4)) = wb at E1 HL1 ⊢
  rw [Z0] at HL1
  have NBR : Hid (w.heap.size ≤ w.heap.size + 1) := Nat.le_succ _
  generalize w.heap.size + 1 = BR at HL1 NBR ⊢
  clear L0 L1 R0 E0 Z0
  go_upto_region 3 with first | (go_at_call 9; (with_reducible refine (known_c _).mono ?_); rintro e w0 ⟨rfl, hb⟩; have B0 : Hid (Below w.heap.size w w0) := chain E1.out hb (Nat.le_refl _); have X0 : Hid (w0.heap[w.heap.size]? = some (.cells #[.slice q ls.length cap0] 29 (0, 0)) ∧ w0.heap[BR]? = some (.cells #[.bool false] 4 (0, 0))) := ⟨(hb.block _ (lt_of_heap HL1.out.1)).trans HL1.out.1, (hb.block _ (lt_of_heap HL1.out.2)).trans HL1.out.2⟩; clear hb) | (go_at_call 10; (with_reducible refine (newT _).mono ?_); rintro e w1 ⟨rfl, hp, hb, hs⟩; have P1 : Hid (PT w0.heap.size w1 w0.heap.size (.slice none 0 0) []) := hp; have B1 : Hid (Below w.heap.size w w1) := chain B0.out hb (Nat.le_refl _); have X1 : Hid (w1.heap[w.heap.size]? = some (.cells #[.slice q ls.length cap0] 29 (0, 0)) ∧ w1.heap[BR]? = some (.cells #[.bool false] 4 (0, 0))) := ⟨(hb.block _ (lt_of_heap X0.out.1)).trans X0.out.1, (hb.block _ (lt_of_heap X0.out.2)).trans X0.out.2⟩; clear hp hb hs)
  have F2 : Hid (FS w.heap.size w w.heap.size BR w1.heap.size w0.heap.size (.slice q ls.length cap0) (.slice none 0 0) [] (w1.alloc (.cells #[.pointer (some ⟨w0.heap.size, 0, none⟩)] 25))) := by
    have hb : Below w1.heap.size w1 (w1.alloc (.cells #[.pointer (some ⟨w0.heap.size, 0, none⟩)] 25)) := (Below.refl _ _).alloc (Nat.le_refl _) _
    have p1 : PT w.heap.size w1 w0.heap.size (.slice none 0 0) [] := ⟨P1.out.hb, B0.out.size, ownsRow_mono P1.out.own B0.out.size⟩
    exact ⟨p1.kept hb, (hb.block _ (lt_of_heap X1.out.1)).trans X1.out.1, (hb.block _ (lt_of_heap X1.out.2)).trans X1.out.2, alloc_new w1 _, chain B1.out hb (Nat.le_refl _), Nat.le_refl _⟩
  obtain ⟨pb, hpb⟩ : ∃ pb, w0.heap.size = pb := ⟨_, rfl⟩
  obtain ⟨BP, hBP⟩ : ∃ BP, w1.heap.size = BP := ⟨_, rfl⟩
  generalize (w1.alloc (.cells #[.pointer (some ⟨w0.heap.size, 0, none⟩)] 25)) = w2 at F2 ⊢
  rw [hpb, hBP] at F2 ⊢
  have cl := F2.out.cl
  have cp := F2.out.cp
  clear P1 X1 X0 B0 B1 E1 HL1 hpb hBP
  go_upto_region 5 with fail
  rename_i K1 hK1 K2 hK2
  obtain ⟨zs, hzs⟩ : ∃ zs, ls.take 300 = zs := ⟨_, rfl⟩
  have hz3 : zs.length ≤ 300 := by rw [← hzs]; simp; omega
  have HZ : Hid (∀ (i : Nat) (x : Th), zs[i]? = some x → ∃ g off, q = some ⟨g, off, none⟩ ∧ g < w.heap.size ∧ w.cell? ⟨g, off + i * 2, none⟩ = some (.int .i64 x.1) ∧ w.cell? ⟨g, off + i * 2 + 1, none⟩ = some (.string x.2)) := fun i x hx => HC.out i x (by
    rw [← hzs] at hx
    have := (List.getElem?_eq_some_iff.1 hx).1
    simp at this
    rwa [List.getElem?_take_of_lt (by omega)] at hx)
  suffices hK : ∀ (a : Act) (W : World), a.tmps = pfTmps (fun i => a.tmps.getD i undef) x1 w.heap.size BR BP → a.defers = [] → FS w.heap.size w w.heap.size BR BP pb (.slice q zs.length cap0) (.slice none 0 0) [] W → K1 a W by
    clear hK1
    by_cases h300 : 300 < ls.length
    · have e : zs.length = 300 := by rw [← hzs]; simp; omega
      have hi : (300 : Int) < (ls.length : Int) := by omega
      have hcc : (300 : Int) ≤ (cap0 : Int) := by have := hcap (fun h => by rw [h] at h300; simp at h300); omega
      have fl := frz_row F2.out.bl 0
      rw [e] at hK
      go_wp2
      refine hK _ _ ?_ ?_ ?_
      · rfl
      · rfl
      have hf : Fr (fun z => z = w.heap.size) w2 (w2.setCell ⟨w.heap.size, 0, none⟩ (.slice q 300 cap0)) := (Fr.refl (fun z => z = w.heap.size) w2).setCell (p := ⟨w.heap.size, 0, none⟩) rfl _
      have F := F2.out
      exact ⟨F.p.fr hf (fun k hk e => pt_other F.p F.bl (by decide) (by decide) (e ▸ hk)), heap_set_in F.bl 0 _, (hf.block _ (lt_of_heap F.br) (ne_type F.br F.bl (by decide))).trans F.br, (hf.block _ (lt_of_heap F.bp) (ne_type F.bp F.bl (by decide))).trans F.bp, chainF F.bel hf F.hn (fun k e => by omega), F.hn⟩
    · have e : zs.length = ls.length := by rw [← hzs]; simp; omega
      have hi : ¬ (300 : Int) < (ls.length : Int) := by omega
      rw [e] at hK
      go_wp2
      refine hK _ _ ?_ ?_ F2.out
      · rfl
      · rfl
  clear hK2 K2 cl cp F2 HC hcap hlen
  rintro ⟨tm, ds⟩ W ha hd hF
  dsimp only at ha hd
  generalize (fun i => tm.getD i undef) = f at ha
  subst ha hd
  refine hK1 _ _ ?_
  clear hK1 K1
  have F0 : Hid (FS w.heap.size w w.heap.size BR BP pb (.slice q zs.length cap0) (.slice none 0 0) [] W) := hF
  clear hF hzs
  unfold pfTmps
  go_upto_region 8 with fail
  go_loopw [7] (fun i wr => ∃ (k : Nat) (v : Value), k ≤ zs.length ∧ i = .int .i64 k ∧ FS w.heap.size w w.heap.size BR BP pb (.slice q zs.length cap0) v (zs.take k) wr) (fun i _ => zs.length - (intOf i).toNat)
  case atStart => exact ⟨0, _, Nat.zero_le _, rfl, F0.out⟩
  case round =>
    obtain ⟨k, v, hk, rfl, hF⟩ := hrel
    have F : Hid (FS w.heap.size w w.heap.size BR BP pb (.slice q zs.length cap0) v (zs.take k) wr) := hF
    clear hF F0
    have cl := F.out.cl
    have cp := F.out.cp
    by_cases hlt : k < zs.length
    · obtain ⟨x, hx⟩ : ∃ x, zs[k]? = some x := ⟨_, List.getElem?_eq_getElem hlt⟩
      have HX : Hid (zs.take (k + 1) = zs.take k ++ [x]) := take_last hx
      obtain ⟨g, off, rfl, hg, hx1, hx2⟩ := HZ.out k x hx
      have HXC : Hid (w.cell? ⟨g, off + k * 2, none⟩ = some (.int .i64 x.1) ∧ w.cell? ⟨g, off + k * 2 + 1, none⟩ = some (.string x.2)) := ⟨hx1, hx2⟩
      have d1 := (F.out.bel.cell (p := ⟨g, off + k * 2, none⟩) hg).trans hx1
      have d2 := (F.out.bel.cell (p := ⟨g, off + k * 2 + 1, none⟩) hg).trans hx2
      have hgr : g < wr.heap.size := Nat.lt_of_lt_of_le hg F.out.bel.size
      have i0 : (0 : Int) ≤ (k : Int) := by omega
      have i1 : (k : Int) < (zs.length : Int) := by omega
      have hkl : (zs.take k).length ≤ 1000000 := by simp; omega
      clear hx hx1 hx2
      go_upto_region 10 with fail
      go_cut [43] from 38 to 43 (fun _ wx => ∃ v', FS w.heap.size w w.heap.size BR BP pb (.slice (some ⟨g, off, none⟩) zs.length cap0) v' (zs.take k ++ [x]) wx)
      case first =>
        go_region_with (go_at_call 14; (with_reducible refine (pushT (F.out.kept (Below.refl _ _).drew).p (F.out.kept (Below.refl _ _).drew).len hkl x).mono ?_); rintro e w6 ⟨rfl, v6, hp6, hm6, hf6⟩; have F6 : Hid (FS w.heap.size w w.heap.size BR BP pb (.slice (some ⟨g, off, none⟩) zs.length cap0) v6 (zs.take k ++ [x]) w6) := (F.out.kept (Below.refl _ _).drew).pile hp6 hf6; clear hp6 hm6 hf6)
        all_goals go_wp2_with fail
        all_goals go_meet
        all_goals exact ⟨_, F6.out⟩
      case rest =>
        obtain ⟨v6, hF6⟩ := hcut
        have F6 : Hid (FS w.heap.size w w.heap.size BR BP pb (.slice (some ⟨g, off, none⟩) zs.length cap0) v6 (zs.take k ++ [x]) wc) := hF6
        clear hF6 cl cp d1 d2 hgr
        have cp := F6.out.cp
        go_upto_region 12 with (go_at_call 28; (with_reducible refine (popT F6.out.p).mono ?_); rintro e w7 ⟨rfl, v7, hp7, hb7, hf7⟩; have F7 : Hid (FS w.heap.size w w.heap.size BR BP pb (.slice (some ⟨g, off, none⟩) zs.length cap0) v7 (zs.take k) w7) := F6.out.pile hp7 hf7; clear hp7 hb7 hf7)
        have F8 : Hid (FS w.heap.size w w.heap.size BR BP pb (.slice (some ⟨g, off, none⟩) zs.length cap0) v7 (zs.take k) (w7.alloc (.cells #[.int .i64 x.1, .string x.2] 28))) := F7.out.kept ((Below.refl _ _).alloc (Nat.le_refl _) _)
        have N8 := alloc_new w7 (.cells #[.int .i64 x.1, .string x.2] 28)
        generalize (w7.alloc (.cells #[.int .i64 x.1, .string x.2] 28)) = w8 at F8 N8 ⊢
        generalize w7.heap.size = b8 at N8 ⊢
        clear cp
        have cl := F8.out.cl
        have cp := F8.out.cp
        have d1 := (F8.out.bel.cell (p := ⟨g, off + k * 2, none⟩) hg).trans HXC.out.1
        have d2 := (F8.out.bel.cell (p := ⟨g, off + k * 2 + 1, none⟩) hg).trans HXC.out.2
        have k1 : w8.cell? ⟨b8, 0, none⟩ = some (.int .i64 x.1) := cell_row N8 (i := 0) rfl
        have k2 : w8.cell? ⟨b8, 1, none⟩ = some (.string x.2) := cell_row N8 (i := 1) rfl
        have l1 : g < w8.heap.size := Nat.lt_of_lt_of_le hg F8.out.bel.size
        have l2 : w.heap.size < w8.heap.size := lt_of_heap F8.out.bl
        have l3 : BP < w8.heap.size := lt_of_heap F8.out.bp
        have l4 : b8 < w8.heap.size := lt_of_heap N8
        have LN : Hid (∀ z : Ext w8, Calls Try.prog 15 #[.pointer (some ⟨pb, 0, none⟩)] z.val fun e w'' => e = .returned (.int .i64 (k : Int)) ∧ ∃ y : Ext w8, w'' = y.val) := fun z => by
          have := ext_call_same (lenT (F8.out.p.kept (ext_below z)))
          rw [show (zs.take k).length = k by simp; omega] at this
          exact this
        have hkk : ((k : Int) != (k : Int)) = false := by simp
        clear N8
        refine wp_region_ext (by kernel_rfl) (by kernel_rfl) ?_
        repeat (go_big_quiet_step (first | exact rfl | (go_at_call 15; with_reducible exact LN.out _)))
        refine wpQuiet_nil ?_
        intro w9 hw
        have F9 : Hid (FS w.heap.size w w.heap.size BR BP pb (.slice (some ⟨g, off, none⟩) zs.length cap0) v7 (zs.take k) w9) := F8.out.kept (ext_of hw)
        clear hw cl cp d1 d2 k1 k2 l1 l2 l3 l4 LN
        have cl := F9.out.cl
        have cp := F9.out.cp
        have d1 := (F9.out.bel.cell (p := ⟨g, off + k * 2, none⟩) hg).trans HXC.out.1
        have d2 := (F9.out.bel.cell (p := ⟨g, off + k * 2 + 1, none⟩) hg).trans HXC.out.2
        have hgr : g < w9.heap.size := Nat.lt_of_lt_of_le hg F9.out.bel.size
        go_upto_region 14 with fail
        go_region_with (go_at_call 14; (with_reducible refine (pushT (F9.out.kept (Below.refl _ _).drew).p (F9.out.kept (Below.refl _ _).drew).len hkl x).mono ?_); rintro e w10 ⟨rfl, v10, hp6, hm6, hf6⟩; have F10 : Hid (FS w.heap.size w w.heap.size BR BP pb (.slice (some ⟨g, off, none⟩) zs.length cap0) v10 (zs.take k ++ [x]) w10) := (F9.out.kept (Below.refl _ _).drew).pile hp6 hf6; clear hp6 hm6 hf6)
        all_goals go_wp2_with fail
        all_goals go_roundw
        all_goals first | exact ⟨k + 1, _, by omega, by go_num, by rw [HX.out]; exact F10.out⟩ | (simp only [intOf]; omega)
    · obtain rfl : k = zs.length := by omega
      have i1 : ¬ (zs.length : Int) < (zs.length : Int) := by omega
      have G : Hid (FS w.heap.size w w.heap.size BR BP pb (.slice q zs.length cap0) v zs wr) := (by have := F.out; rwa [List.take_length] at this)
      clear F hlt hk
      have D0 : Hid (FS w.heap.size w w.heap.size BR BP pb (.slice q zs.length cap0) v zs (wr.alloc (.cells #[.int .i64 zs.length] 3))) := G.out.kept ((Below.refl _ _).alloc (Nat.le_refl _) _)
      have cp1 := D0.out.cp
      go_wp2_with (go_at_call 11; (with_reducible refine (allT _ _).mono ?_); rintro e w3 ⟨rfl, rfl⟩)
      have A4 := alloc_new (wr.alloc (.cells #[.int .i64 zs.length] 3)) (.cells #[.pointer (some ⟨pb, 0, none⟩)] 25)
      have Z3 : (wr.alloc (.cells #[.int .i64 zs.length] 3)).heap.size = wr.heap.size + 1 := by simp
      rw [Z3] at A4
      have F4 := D0.out.kept ((Below.refl _ _).alloc (Nat.le_refl _) (.cells #[.pointer (some ⟨pb, 0, none⟩)] 25))
      have K4 := (Below.heap_alloc (wr.alloc (.cells #[.int .i64 zs.length] 3)) (.cells #[.pointer (some ⟨pb, 0, none⟩)] 25) wr.heap.size (by omega)).trans (alloc_new wr _)
      have hBK := G.out.len
      generalize ((wr.alloc (.cells #[.int .i64 zs.length] 3)).alloc (.cells #[.pointer (some ⟨pb, 0, none⟩)] 25)) = w4 at A4 F4 K4 ⊢
      have HBK : Hid (w.heap.size ≤ wr.heap.size ∧ wr.heap.size < w4.heap.size ∧ w.heap.size < wr.heap.size) := ⟨hBK, lt_of_heap K4, lt_of_heap G.out.bl⟩
      generalize wr.heap.size + 1 = BA at A4 ⊢
      generalize wr.heap.size = BK at K4 HBK ⊢
      clear D0 cp1 cl cp Z3 hBK G
      rename_i KK hKK
      refine (wpIn_wide (n := 5)).1 ?_
      refine rangeT (by decide) 75 11 BA rfl rfl A4 F4.p (by omega)
        (fun pre V => FS w.heap.size w w.heap.size BR BP pb (.slice q zs.length cap0) v zs V ∧ V.heap[BK]? = some (.cells #[.int .i64 ((zs.length : Int) - (pre.length : Int))] 3 (0, 0))) (fun _ _ _ => False)
        ?_ (fun _ _ _ _ _ h _ _ => h) ⟨F4, by simpa using K4⟩ ?_ ?_ ?_ ?_
      · intro pre A A' row hi hg hr
        exact ⟨hi.1.grown F4.len hg hr, cells_kept hg hr hi.2⟩
      · intro l x V K hK
        gi_wp2
        exact hK
      · rintro l pre x bx V ⟨hF, hKb⟩ ⟨ht1, ht2⟩ hbx hbn
        have hpl : pre.length < zs.length := by have := (List.getElem?_eq_some_iff.1 ht2).1; simpa using this
        obtain ⟨j, hj⟩ : ∃ j, zs.length - 1 - pre.length = j := ⟨_, rfl⟩
        have hxj : zs[j]? = some x := by rw [List.getElem?_reverse hpl, hj] at ht2; exact ht2
        have ek : (zs.length : Int) - (pre.length : Int) = (j : Int) + 1 := by omega
        have HEK : Hid ((zs.length : Int) - ((pre ++ [x]).length : Int) = (j : Int)) := (by simp; omega : (zs.length : Int) - ((pre ++ [x]).length : Int) = (j : Int))
        rw [ek] at hKb
        obtain ⟨g, off, rfl, hg, hx1, hx2⟩ := HZ.out j x hxj
        have FV : Hid (FS w.heap.size w w.heap.size BR BP pb (.slice (some ⟨g, off, none⟩) zs.length cap0) v zs V) := hF
        have HXJ : Hid (zs[j]? = some x) := hxj
        have HBX : Hid (V.heap[bx]? = some (.cells #[.int .i64 x.1, .string x.2] 28 (0, 0))) := hbx
        have HXC : Hid (w.cell? ⟨g, off + j * 2, none⟩ = some (.int .i64 x.1) ∧ w.cell? ⟨g, off + j * 2 + 1, none⟩ = some (.string x.2)) := ⟨hx1, hx2⟩
        have F1 : Hid (FS w.heap.size w w.heap.size BR BP pb (.slice (some ⟨g, off, none⟩) zs.length cap0) v zs (V.setCell ⟨BK, 0, none⟩ (.int .i64 (j : Int)))) := hF.setInt hKb HBK.out.1 _
        have R1 : Hid (Fr (fun z => z = BK) V (V.setCell ⟨BK, 0, none⟩ (.int .i64 (j : Int)))) := (Fr.refl (fun z => z = BK) V).setCell (p := ⟨BK, 0, none⟩) rfl _
        have K1 : Hid ((V.setCell ⟨BK, 0, none⟩ (.int .i64 (j : Int))).heap[BK]? = some (.cells #[.int .i64 (j : Int)] 3 (0, 0))) := heap_set_in hKb 0 _
        have ck0 : V.cell? ⟨BK, 0, none⟩ = some (.int .i64 ((j : Int) + 1)) := cell_row hKb (i := 0) rfl
        have fk0 := frz_row hKb 0
        have hjl : (j : Int) ≤ 300 := by omega
        have hj0 : (0 : Int) ≤ (j : Int) := by omega
        clear hF hKb hbx ht1 ht2 hxj ek hx1 hx2 hpl hj F4 K4 A4
        simp only [roundT, List.setIfInBounds_toArray, List.set_cons_succ, List.set_cons_zero]
        generalize hV1 : (V.setCell ⟨BK, 0, none⟩ (.int .i64 (j : Int))) = V1 at F1 R1 K1
        have cp1 := F1.out.cp
        have ck1 : V1.cell? ⟨BK, 0, none⟩ = some (.int .i64 (j : Int)) := cell_row K1.out (i := 0) rfl
        gi_wp2_with (gi_at_call 29; refine (CallsIn.inRound l (callsIn_wide.2 (atT F1.out.p HXJ.out))).mono ?_; rintro e V2 ⟨rfl, hb⟩; have B2 : Hid (Below V1.heap.size V1 V2) := hb; clear hb)
        have B3 : Hid (Below V1.heap.size V1 (V2.alloc (.cells #[.int .i64 x.1, .string x.2] 28))) := B2.out.alloc B2.out.size _
        have N3 := alloc_new V2 (.cells #[.int .i64 x.1, .string x.2] 28)
        generalize (V2.alloc (.cells #[.int .i64 x.1, .string x.2] 28)) = V3 at B3 N3 ⊢
        generalize V2.heap.size = b12 at N3 ⊢
        clear cp1 ck1 ck0 fk0 hV1
        have F3 : Hid (FS w.heap.size w w.heap.size BR BP pb (.slice (some ⟨g, off, none⟩) zs.length cap0) v zs V3) := F1.out.kept B3.out
        have K3 : Hid (V3.heap[BK]? = some (.cells #[.int .i64 (j : Int)] 3 (0, 0))) := (B3.out.block _ (lt_of_heap K1.out)).trans K1.out
        have X3 := (B3.out.block bx (Nat.lt_of_lt_of_le (lt_of_heap HBX.out) R1.out.size)).trans ((R1.out.block bx (lt_of_heap HBX.out) (fun e => by have := HBK.out.2.1; omega)).trans HBX.out)
        have cl := F3.out.cl
        have ck : V3.cell? ⟨BK, 0, none⟩ = some (.int .i64 (j : Int)) := cell_row K3.out (i := 0) rfl
        have e1 : V3.cell? ⟨bx, 0, none⟩ = some (.int .i64 x.1) := cell_row X3 (i := 0) rfl
        have e2 : V3.cell? ⟨bx, 1, none⟩ = some (.string x.2) := cell_row X3 (i := 1) rfl
        have e3 : V3.cell? ⟨b12, 0, none⟩ = some (.int .i64 x.1) := cell_row N3 (i := 0) rfl
        have e4 : V3.cell? ⟨b12, 1, none⟩ = some (.string x.2) := cell_row N3 (i := 1) rfl
        have d1 := (F3.out.bel.cell (p := ⟨g, off + j * 2, none⟩) hg).trans HXC.out.1
        have d2 := (F3.out.bel.cell (p := ⟨g, off + j * 2 + 1, none⟩) hg).trans HXC.out.2
        have l1 : g < V3.heap.size := Nat.lt_of_lt_of_le hg F3.out.bel.size
        have l2 : w.heap.size < V3.heap.size := lt_of_heap F3.out.bl
        have l3 : BK < V3.heap.size := lt_of_heap K3.out
        have l4 : bx < V3.heap.size := lt_of_heap X3
        have l5 : b12 < V3.heap.size := lt_of_heap N3
        have hjz : (j : Int) < (zs.length : Int) := by have := (List.getElem?_eq_some_iff.1 HXJ.out).1; omega
        clear X3 N3
        refine wpIn_region_ext (by kernel_rfl) (by kernel_rfl) (by kernel_rfl) (fun ⟨_, _, h⟩ => h) ?_
        repeat (go_big_quiet_step (first | exact rfl))
        refine wpQuiet_nil ?_
        intro V5 hw
        have B5 : Hid (Below V3.heap.size V3 V5) := ext_of hw
        have HE : Hid (Fr (fun z => z = BK) V V5 ∧ FS w.heap.size w w.heap.size BR BP pb (.slice (some ⟨g, off, none⟩) zs.length cap0) v zs V5 ∧ V5.heap[BK]? = some (.cells #[.int .i64 ((zs.length : Int) - ((pre ++ [x]).length : Int))] 3 (0, 0))) :=
          ⟨(R1.out.trans (Fr.of_below B3.out)).trans (Fr.of_below B5.out), F3.out.kept B5.out, by rw [HEK.out]; exact (B5.out.block _ (lt_of_heap K3.out)).trans K3.out⟩
        clear hw cl ck e1 e2 e3 e4 d1 d2
        gi_wp2
        have hlt := HBK.out.2.1
        exact ⟨HE.out.1.keepsFrom (fun z hz => by omega), HE.out.1.ckeep (fun z hz hN => by omega), HE.out.2.1, HE.out.2.2⟩
      · rintro D V hD ⟨hF, hKb⟩ hK
        rw [List.length_reverse, Int.sub_self] at hKb
        have F : Hid (FS w.heap.size w w.heap.size BR BP pb (.slice q zs.length cap0) v zs V) := hF
        have HKB : Hid (V.heap[BK]? = some (.cells #[.int .i64 0] 3 (0, 0))) := hKb
        have HD : Hid (V.heap[D]? = some (.deferred (some []))) := hK
        obtain ⟨c, hc, hpc⟩ := pk_nat x1 (n := zs.length + 1) (by omega)
        have PC : Hid (∀ W : World, Calls Try.prog 17 #[.int .i64 x1, .int .i64 ((zs.length : Int) + 1)] W fun e w' => e = .returned (.int .i64 (c : Int)) ∧ w' = W) := fun W => by
          have := pick_c x1 (zs.length + 1) (by omega) (by omega) wf1 W
          rw [hpc] at this
          exact this
        have hcz : c ≤ zs.length := by omega
        have cl := hF.cl
        have cp := hF.cp
        have ck : V.cell? ⟨BK, 0, none⟩ = some (.int .i64 0) := cell_row hKb (i := 0) rfl
        clear hF hKb hK F4 K4 A4 hpc
        simp only [behindT]
        go_upto_region 23 with (go_at_call 17; (with_reducible refine (PC.out _).mono ?_); rintro e w9 ⟨rfl, h9⟩; subst w9)
        have LN : Hid (∀ {W : World} {v1 : Value}, PT w.heap.size W pb v1 (zs.take c) → Calls Try.prog 15 #[.pointer (some ⟨pb, 0, none⟩)] W fun e w' => e = .returned (.int .i64 (c : Int)) ∧ w' = W) := fun {W v1} h => by
          have := lenT h
          rw [show (zs.take c).length = c by simp; omega] at this
          exact this
        have hcc : ((c : Int) != (c : Int)) = false := by simp
        go_upto_region 25 with first | (go_at_call 30; (with_reducible refine (cutT F.out.p hcz).mono ?_); rintro e V1 ⟨rfl, v1, hp1, hb1, hf1⟩; have F1 : Hid (FS w.heap.size w w.heap.size BR BP pb (.slice q zs.length cap0) v1 (zs.take c) V1) := F.out.pile hp1 hf1; have HD1 : Hid (V1.heap[D]? = some (.deferred (some []))) := (hf1.block D (lt_of_heap HD.out) (pt_none F.out.p HD.out rfl)).trans HD.out; have HK1 : Hid (V1.heap[BK]? = some (.cells #[.int .i64 0] 3 (0, 0))) := (hf1.block BK (lt_of_heap HKB.out) (pt_other F.out.p HKB.out (by decide) (by decide))).trans HKB.out; have cp1 := F1.out.cp; clear hp1 hb1 hf1) | (go_at_call 15; (with_reducible refine (LN.out F1.out.p).mono ?_); rintro e w9 ⟨rfl, h9⟩; subst w9)
        have ck1 : V1.cell? ⟨BK, 0, none⟩ = some (.int .i64 0) := cell_row HK1.out (i := 0) rfl
        have fk1 := frz_row HK1.out 0
        have L0 : Hid (LastI w.heap.size w w.heap.size BR BP pb BK D (.slice q zs.length cap0) zs c (V1.setCell ⟨BK, 0, none⟩ (.int .i64 ((c : Int) - 1)))) :=
          ⟨c, v1, Nat.le_refl _, F1.out.setInt HK1.out HBK.out.1 _, heap_set_in HK1.out 0 _, (Below.heap_setCell _ _ _ _ (by have := HBK.out.2.1; simp; omega)).trans HD1.out⟩
        clear F HD HKB cl cp ck cp1
        have hc0 : (0 : Int) ≤ (c : Int) := by omega
        have hc1 : (c : Int) ≤ 300 := by omega
        go_upto_region 26 with fail
        go_loopw [121] (fun _ ws => LastI w.heap.size w w.heap.size BR BP pb BK D (.slice q zs.length cap0) zs c ws) (fun _ ws => kAt ws BK)
        case atStart => exact L0.out
        case round =>
          clear L0 F1 HD1 HK1 ck1 fk1
          obtain ⟨m, v2, hmc, hF, hKb, hDd⟩ := hrel
          have F : Hid (FS w.heap.size w w.heap.size BR BP pb (.slice q zs.length cap0) v2 (zs.take m) wr) := hF
          have HKB : Hid (wr.heap[BK]? = some (.cells #[.int .i64 ((m : Int) - 1)] 3 (0, 0))) := hKb
          have HD : Hid (wr.heap[D]? = some (.deferred (some []))) := hDd
          have ck : wr.cell? ⟨BK, 0, none⟩ = some (.int .i64 ((m : Int) - 1)) := cell_row hKb (i := 0) rfl
          have cp := hF.cp
          have KA : Hid (kAt wr BK = m) := (by unfold kAt; rw [ck]; simp : kAt wr BK = m)
          clear hF hKb hDd
          cases m with
          | zero =>
            have e0 : ¬ (0 : Int) ≤ ((0 : Nat) : Int) - 1 := by omega
            have PN : Hid (PT w.heap.size wr pb v2 []) := F.out.p
            go_upto_region 32 with (go_at_call 28; (with_reducible refine (popT_none PN.out).mono ?_); rintro e W7 ⟨rfl, hb⟩; have B7 : Hid (Below wr.heap.size wr W7) := hb; clear hb)
            have F8 : Hid (FS w.heap.size w w.heap.size BR BP pb (.slice q zs.length cap0) v2 (zs.take 0) (W7.alloc (.cells #[.int .i64 0, .string ⟨#[]⟩] 28))) := F.out.kept (B7.out.alloc B7.out.size _)
            have HD8 : Hid ((W7.alloc (.cells #[.int .i64 0, .string ⟨#[]⟩] 28)).heap[D]? = some (.deferred (some []))) := ((B7.out.alloc B7.out.size _).block _ (lt_of_heap HD.out)).trans HD.out
            generalize (W7.alloc (.cells #[.int .i64 0, .string ⟨#[]⟩] 28)) = W8 at F8 HD8 ⊢
            have cr8 : W8.cell? ⟨BR, 0, none⟩ = some (.bool false) := cell_row F8.out.br (i := 0) rfl
            have fr8 := frz_row F8.out.br 0
            have hDB : Hid (D ≠ BR) := fun e => by
              have h1 := HD8.out
              rw [e, F8.out.br] at h1
              cases h1
            have HR9 : Hid ((W8.setCell ⟨BR, 0, none⟩ (.bool true)).heap[BR]? = some (.cells #[.bool true] 4 (0, 0))) := heap_set_in F8.out.br 0 _
            have HD9 : Hid ((W8.setCell ⟨BR, 0, none⟩ (.bool true)).heap[D]? = some (.deferred (some []))) := (Below.heap_setCell _ _ _ _ hDB.out).trans HD8.out
            have B9 : Hid (Below w.heap.size w (W8.setCell ⟨BR, 0, none⟩ (.bool true))) := F8.out.bel.setCell NBR.out _
            clear cp ck
            go_wp2
            refine ⟨by simp, .inl ⟨_, _, rfl, run_takeDeferred HD9.out, ?_⟩⟩
            have cr : ((W8.setCell ⟨BR, 0, none⟩ (.bool true)).putObj D (.deferred none)).cell? ⟨BR, 0, none⟩ = some (.bool true) := cell_row ((World.putObj_heap_other (Ne.symm hDB.out)).trans HR9.out) (i := 0) rfl
            exact ⟨.bool true, by simp [results, Try.results5, go_sem, cr], rfl, below_row B9.out (Nat.le_refl _) (Nat.le_refl _) (grownBy_putObj' _ D _) (fun r e => by cases e; exact ⟨Nat.le_trans (Nat.le_trans HBK.out.1 (Nat.le_of_lt HBK.out.2.1)) hD, _, HD9.out, rfl⟩)⟩
          | succ j =>
            obtain ⟨x, hxj⟩ : ∃ x, zs[j]? = some x := ⟨_, List.getElem?_eq_getElem (by omega)⟩
            have PS1 : Hid (PT w.heap.size wr pb v2 (zs.take j ++ [x])) := (by rw [← take_last hxj]; exact F.out.p)
            obtain ⟨g, off, rfl, hg, hx1, hx2⟩ := HZ.out j x hxj
            have HXC : Hid (w.cell? ⟨g, off + j * 2, none⟩ = some (.int .i64 x.1) ∧ w.cell? ⟨g, off + j * 2 + 1, none⟩ = some (.string x.2)) := ⟨hx1, hx2⟩
            have em : ((j + 1 : Nat) : Int) - 1 = (j : Int) := by omega
            rw [em] at ck
            rw [em] at HKB
            have e0 : (0 : Int) ≤ (j : Int) := by omega
            have hjz : (j : Int) < (zs.length : Int) := by have := (List.getElem?_eq_some_iff.1 hxj).1; omega
            have hjb : (j : Int) ≤ 300 := by omega
            clear hxj hx1 hx2 em
            go_upto_region 29 with (go_at_call 28; (with_reducible refine (popT PS1.out).mono ?_); rintro e W7 ⟨rfl, v7, hp7, hb7, hf7⟩; have F7 : Hid (FS w.heap.size w w.heap.size BR BP pb (.slice (some ⟨g, off, none⟩) zs.length cap0) v7 (zs.take j) W7) := F.out.pile hp7 hf7; have HD7 : Hid (W7.heap[D]? = some (.deferred (some []))) := (hf7.block D (lt_of_heap HD.out) (pt_none F.out.p HD.out rfl)).trans HD.out; have HK7 : Hid (W7.heap[BK]? = some (.cells #[.int .i64 (j : Int)] 3 (0, 0))) := (hf7.block BK (lt_of_heap HKB.out) (pt_other F.out.p HKB.out (by decide) (by decide))).trans HKB.out; clear hp7 hb7 hf7)
            have F8 : Hid (FS w.heap.size w w.heap.size BR BP pb (.slice (some ⟨g, off, none⟩) zs.length cap0) v7 (zs.take j) (W7.alloc (.cells #[.int .i64 x.1, .string x.2] 28))) := F7.out.kept ((Below.refl _ _).alloc (Nat.le_refl _) _)
            have HD8 : Hid ((W7.alloc (.cells #[.int .i64 x.1, .string x.2] 28)).heap[D]? = some (.deferred (some []))) := (Below.heap_alloc _ _ _ (lt_of_heap HD7.out)).trans HD7.out
            have HK8 : Hid ((W7.alloc (.cells #[.int .i64 x.1, .string x.2] 28)).heap[BK]? = some (.cells #[.int .i64 (j : Int)] 3 (0, 0))) := (Below.heap_alloc _ _ _ (lt_of_heap HK7.out)).trans HK7.out
            have N8 := alloc_new W7 (.cells #[.int .i64 x.1, .string x.2] 28)
            generalize (W7.alloc (.cells #[.int .i64 x.1, .string x.2] 28)) = W8 at F8 HD8 HK8 N8 ⊢
            generalize W7.heap.size = b15 at N8 ⊢
            clear cp ck
            have cl := F8.out.cl
            have ck : W8.cell? ⟨BK, 0, none⟩ = some (.int .i64 (j : Int)) := cell_row HK8.out (i := 0) rfl
            have e3 : W8.cell? ⟨b15, 0, none⟩ = some (.int .i64 x.1) := cell_row N8 (i := 0) rfl
            have e4 : W8.cell? ⟨b15, 1, none⟩ = some (.string x.2) := cell_row N8 (i := 1) rfl
            have d1 := (F8.out.bel.cell (p := ⟨g, off + j * 2, none⟩) hg).trans HXC.out.1
            have d2 := (F8.out.bel.cell (p := ⟨g, off + j * 2 + 1, none⟩) hg).trans HXC.out.2
            have l1 : g < W8.heap.size := Nat.lt_of_lt_of_le hg F8.out.bel.size
            have l2 : w.heap.size < W8.heap.size := lt_of_heap F8.out.bl
            have l3 : BK < W8.heap.size := lt_of_heap HK8.out
            have l5 : b15 < W8.heap.size := lt_of_heap N8
            clear N8
            refine wp_region_ext (by kernel_rfl) (by kernel_rfl) ?_
            repeat (go_big_quiet_step (first | exact rfl))
            refine wpQuiet_nil ?_
            intro W9 hw
            have B9 : Hid (Below W8.heap.size W8 W9) := ext_of hw
            have F9 : Hid (FS w.heap.size w w.heap.size BR BP pb (.slice (some ⟨g, off, none⟩) zs.length cap0) v7 (zs.take j) W9) := F8.out.kept B9.out
            have HD9 : Hid (W9.heap[D]? = some (.deferred (some []))) := (B9.out.block _ (lt_of_heap HD8.out)).trans HD8.out
            have HK9 : Hid (W9.heap[BK]? = some (.cells #[.int .i64 (j : Int)] 3 (0, 0))) := (B9.out.block _ (lt_of_heap HK8.out)).trans HK8.out
            clear hw cl ck e3 e4 d1 d2 l1 l2 l3 l5
            have ck : W9.cell? ⟨BK, 0, none⟩ = some (.int .i64 (j : Int)) := cell_row HK9.out (i := 0) rfl
            have fk := frz_row HK9.out 0
            have LX : Hid (LastI w.heap.size w w.heap.size BR BP pb BK D (.slice (some ⟨g, off, none⟩) zs.length cap0) zs c (W9.setCell ⟨BK, 0, none⟩ (.int .i64 ((j : Int) - 1)))) :=
              ⟨j, v7, by omega, F9.out.setInt HK9.out HBK.out.1 _, heap_set_in HK9.out 0 _, (Below.heap_setCell _ _ _ _ (by have := HBK.out.2.1; simp; omega)).trans HD9.out⟩
            have MX : Hid (kAt (W9.setCell ⟨BK, 0, none⟩ (.int .i64 ((j : Int) - 1))) BK = j) := (by
              have h1 : (W9.setCell ⟨BK, 0, none⟩ (.int .i64 ((j : Int) - 1))).cell? ⟨BK, 0, none⟩ = some (.int .i64 ((j : Int) - 1)) := cell_row (heap_set_in HK9.out 0 _) (i := 0) rfl
              unfold kAt
              rw [h1]
              show ((j : Int) - 1 + 1).toNat = j
              omega)
            go_wp2
            go_roundw
            case rel => exact LX.out
            case measure => rw [MX.out, KA.out]; omega
      · intro D c pre V _ _ h
        exact h.elim
end Go.Proofs.Ytobeiigmeflbjaa
