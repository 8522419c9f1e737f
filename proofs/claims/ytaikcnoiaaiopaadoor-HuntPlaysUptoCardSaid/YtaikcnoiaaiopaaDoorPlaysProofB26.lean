/-
  Parts of the proof.
-/
import Derived.Test.YtaikcnoiaaiopaaDoorPlaysProofB17
import Derived.Test.YtaikcnoiaaiopaaDoorPlaysProofB25
import Derived.Test.YtaikcnoiaaiopaaDoorPlaysProofB19
set_option linter.unusedSimpArgs false
namespace Go.Proofs.YtaikcnoiaaiopaaDoor
open Go Go.RowKit Go.Shelf
attribute [local go_sem] Oper.semAt_some ext_cell
def setsC (cs : List z1_S) : List Value := cs.flatMap fun s => [.int .u64 (z1_wd s 0), .int .u64 (z1_wd s 1), .int .u64 (z1_wd s 2), .int .u64 (z1_wd s 3)]
theorem setsC_len (cs : List z1_S) : (setsC cs).length = cs.length * 4 := by
  induction cs with
  | nil => rfl
  | cons s cs ih => simp only [setsC, List.flatMap_cons, List.length_append, List.length_cons] at ih ⊢; rw [ih]; simp; omega
theorem setsC_get {cs : List z1_S} {j : Nat} {s : z1_S} (h : cs[j]? = some s) : (setsC cs)[j * 4]? = some (.int .u64 (z1_wd s 0)) ∧ (setsC cs)[j * 4 + 1]? = some (.int .u64 (z1_wd s 1)) ∧ (setsC cs)[j * 4 + 2]? = some (.int .u64 (z1_wd s 2)) ∧ (setsC cs)[j * 4 + 3]? = some (.int .u64 (z1_wd s 3)) := by
  induction cs generalizing j with
  | nil => simp at h
  | cons t cs ih =>
    cases j with
    | zero =>
      simp at h; subst h
      exact ⟨rfl, rfl, rfl, rfl⟩
    | succ j =>
      have := ih (j := j) (by simpa using h)
      have e : ∀ i, (setsC (t :: cs))[(j + 1) * 4 + i]? = (setsC cs)[j * 4 + i]? := fun i => by
        rw [show (j + 1) * 4 + i = j * 4 + i + 1 + 1 + 1 + 1 by omega]; rfl
      exact ⟨(e 0).trans this.1, (e 1).trans this.2.1, (e 2).trans this.2.2.1, (e 3).trans this.2.2.2⟩
theorem setsC_set {cs : List z1_S} {j : Nat} (h : j < cs.length) (s : z1_S) : (((((setsC cs).set (j * 4) (.int .u64 (z1_wd s 0))).set (j * 4 + 1) (.int .u64 (z1_wd s 1))).set (j * 4 + 2) (.int .u64 (z1_wd s 2))).set (j * 4 + 3) (.int .u64 (z1_wd s 3))) = setsC (cs.set j s) := by
  induction cs generalizing j with
  | nil => simp at h
  | cons t cs ih =>
    cases j with
    | zero => rfl
    | succ j =>
      have := ih (j := j) (by simpa using h)
      have e : ∀ (L : List Value) i v, ((.int .u64 (z1_wd t 0) :: .int .u64 (z1_wd t 1) :: .int .u64 (z1_wd t 2) :: .int .u64 (z1_wd t 3) :: L) : List Value).set ((j + 1) * 4 + i) v = .int .u64 (z1_wd t 0) :: .int .u64 (z1_wd t 1) :: .int .u64 (z1_wd t 2) :: .int .u64 (z1_wd t 3) :: L.set (j * 4 + i) v := fun L i v => by
        rw [show (j + 1) * 4 + i = j * 4 + i + 1 + 1 + 1 + 1 by omega]; rfl
      have e0 := e (setsC cs) 0 (.int .u64 (z1_wd s 0))
      simp only [Nat.add_zero] at e0
      show ((((.int .u64 (z1_wd t 0) :: .int .u64 (z1_wd t 1) :: .int .u64 (z1_wd t 2) :: .int .u64 (z1_wd t 3) :: setsC cs : List Value).set ((j + 1) * 4) _).set _ _).set _ _).set _ _ = .int .u64 (z1_wd t 0) :: .int .u64 (z1_wd t 1) :: .int .u64 (z1_wd t 2) :: .int .u64 (z1_wd t 3) :: setsC (cs.set j s)
      rw [e0, e, e, e, this]
structure WM (V : World) (wb cb m : Nat) (cs : List z1_S) (nx : Nat) : Prop where
  h : V.heap[wb]? = some (.cells #[.slice (some ⟨cb, 0, none⟩) m m, .int .i64 (nx : Int)] 102 (0, 0))
  c : V.heap[cb]? = some (.cells (setsC cs).toArray 63 (0, 0))
  len : cs.length = m
theorem WM.below {V V' : World} {wb cb m nx : Nat} {cs : List z1_S} (h : WM V wb cb m cs nx) (hb : Below V.heap.size V V') : WM V' wb cb m cs nx := ⟨(hb.block _ (lt_of_heap h.h)).trans h.h, (hb.block _ (lt_of_heap h.c)).trans h.c, h.len⟩
theorem WM.cells {V : World} {wb cb m nx : Nat} {cs : List z1_S} (h : WM V wb cb m cs nx) {j : Nat} {s : z1_S} (hj : cs[j]? = some s) : V.cell? ⟨cb, j * 4, none⟩ = some (.int .u64 (z1_wd s 0)) ∧ V.cell? ⟨cb, j * 4 + 1, none⟩ = some (.int .u64 (z1_wd s 1)) ∧ V.cell? ⟨cb, j * 4 + 2, none⟩ = some (.int .u64 (z1_wd s 2)) ∧ V.cell? ⟨cb, j * 4 + 3, none⟩ = some (.int .u64 (z1_wd s 3)) := by
  obtain ⟨h0, h1, h2, h3⟩ := setsC_get hj
  exact ⟨cell_row h.c (by simpa using h0), cell_row h.c (by simpa using h1), cell_row h.c (by simpa using h2), cell_row h.c (by simpa using h3)⟩
def set4 (V : World) (cb j : Nat) (s : z1_S) : World := (((V.setCell ⟨cb, j * 4, none⟩ (.int .u64 (z1_wd s 0))).setCell ⟨cb, j * 4 + 1, none⟩ (.int .u64 (z1_wd s 1))).setCell ⟨cb, j * 4 + 2, none⟩ (.int .u64 (z1_wd s 2))).setCell ⟨cb, j * 4 + 3, none⟩ (.int .u64 (z1_wd s 3))
theorem WM.set {V : World} {wb cb m nx : Nat} {cs : List z1_S} (h : WM V wb cb m cs nx) {j : Nat} (hj : j < m) (s : z1_S) : WM (set4 V cb j s) wb cb m (cs.set j s) nx ∧ Fr (fun k => k = cb) V (set4 V cb j s) := by
  have hne : wb ≠ cb := ne_type h.h h.c (by decide)
  have hF : Fr (fun k => k = cb) V (set4 V cb j s) := ((((Fr.refl (fun k => k = cb) V).setCell (p := ⟨cb, j * 4, none⟩) rfl _).setCell (p := ⟨cb, j * 4 + 1, none⟩) rfl _).setCell (p := ⟨cb, j * 4 + 2, none⟩) rfl _).setCell (p := ⟨cb, j * 4 + 3, none⟩) rfl _
  refine ⟨⟨(hF.block _ (lt_of_heap h.h) hne).trans h.h, ?_, by simpa using h.len⟩, hF⟩
  have h4 := heap_set_in (heap_set_in (heap_set_in (heap_set_in h.c (j * 4) (.int .u64 (z1_wd s 0))) (j * 4 + 1) (.int .u64 (z1_wd s 1))) (j * 4 + 2) (.int .u64 (z1_wd s 2))) (j * 4 + 3) (.int .u64 (z1_wd s 3))
  rw [← setsC_set (by rw [h.len]; exact hj)]
  exact h4.trans (by simp)
theorem info_set : (Tryd.prog.info? 63).map (fun i => (i.zero, i.size, i.bytes)) = some (some (.agg #[.int .u64 0, .int .u64 0, .int .u64 0, .int .u64 0]), 4, 32) := by kernel_rfl
theorem und_sets : Tryd.prog.underlying 100 = some (.slice 63) := by kernel_rfl
theorem made_sets (m : Nat) : madeCells #[.int .u64 0, .int .u64 0, .int .u64 0, .int .u64 0] (m * 4) = (setsC (List.replicate m 0#256)).toArray := by
  apply Array.ext
  · simp [size_madeCells, setsC_len]
  intro i h1 h2
  rw [size_madeCells] at h1
  have hj : (List.replicate m 0#256)[i / 4]? = some 0#256 := by rw [List.getElem?_replicate]; simp; omega
  obtain ⟨q0, q1, q2, q3⟩ := setsC_get hj
  simp only [wd00] at q0 q1 q2 q3
  have hv : (setsC (List.replicate m 0#256))[i]? = some (.int .u64 0) := by
    rcases (by omega : i = i / 4 * 4 ∨ i = i / 4 * 4 + 1 ∨ i = i / 4 * 4 + 2 ∨ i = i / 4 * 4 + 3) with h | h | h | h
    · rw [h]; exact q0
    · rw [h]; exact q1
    · rw [h]; exact q2
    · rw [h]; exact q3
  have hr : (setsC (List.replicate m 0#256)).toArray[i] = .int .u64 0 := by
    have := (List.getElem?_eq_some_iff.1 hv).2
    simpa using this
  rw [hr]
  have hm4 : i % 4 < 4 := Nat.mod_lt _ (by decide)
  simp only [madeCells, Array.getElem_map, Array.getElem_range]
  rcases (by omega : i % 4 = 0 ∨ i % 4 = 1 ∨ i % 4 = 2 ∨ i % 4 = 3) with h | h | h | h <;> simp [h]
theorem make_sets (n : Nat) (h : n ≤ 1000000) (w : World) :
    (Instr.makeSlice 100 (.int .i64 (n : Int)) (.int .i64 (n : Int))).run Tryd.prog w = .ok (.slice (some ⟨w.heap.size, 0, none⟩) n n) (w.alloc (.cells (setsC (List.replicate n 0#256)).toArray 63)) := by
  obtain ⟨i0, hi, hz0, hz1, hz2⟩ := info_parts info_set
  have := run_make (P := Tryd.prog) w 100 63 i0 (.agg #[.int .u64 0, .int .u64 0, .int .u64 0, .int .u64 0]) und_sets hi hz0 .i64 .i64 (n : Int) (n : Int) (by omega) (by omega) (by rw [hz2]; omega) (by omega)
  rw [hz1] at this
  rw [← made_sets]
  simpa [Value.cells] using this
set_option maxRecDepth 100000 in
set_option maxHeartbeats 2000000 in
theorem newWaiting_c (m : Nat) (h : m ≤ 1000000) (w : World) :
    Calls Tryd.prog 32 #[.int .i64 (m : Int)] w fun e w' => ∃ wb cb, e = .returned (.pointer (some ⟨wb, 0, none⟩)) ∧ WM w' wb cb m (List.replicate m 0#256) 0 ∧ w.heap.size ≤ wb ∧ w.heap.size ≤ cb ∧ Below w.heap.size w w' := by
  have m1 := make_sets m h
  go_enter Tryd.func32, Tryd.ntmps32
  go_wp2
  go_ret
  have b1 : Below w.heap.size w (w.alloc (.cells (setsC (List.replicate m 0#256)).toArray 63)) := (Below.refl _ _).alloc (Nat.le_refl _) _
  have x1 := alloc_new w (.cells (setsC (List.replicate m 0#256)).toArray 63)
  have s1 : (w.alloc (.cells (setsC (List.replicate m 0#256)).toArray 63)).heap.size = w.heap.size + 1 := by simp
  refine ⟨w.heap.size + 1, w.heap.size, rfl, ⟨?_, (Below.heap_alloc _ _ _ (by rw [s1]; omega)).trans x1, by simp⟩, by omega, Nat.le_refl _, b1.alloc (by rw [s1]; omega) _⟩
  rw [← s1]; exact alloc_new _ _
set_option maxRecDepth 100000 in
set_option maxHeartbeats 2000000 in
theorem cell_c {V : World} {wb cb m nx : Nat} {cs : List z1_S} (h : WM V wb cb m cs nx) (hm : 0 < m) (hm2 : m ≤ 1000000) (p : Nat) :
    Calls Tryd.prog 44 #[.pointer (some ⟨wb, 0, none⟩), .int .i64 (p : Int)] V fun e w' => e = .returned (.pointer (some ⟨cb, p % m * 4, none⟩)) ∧ Below V.heap.size V w' := by
  have c0 := cell_row h.h (i := 0) rfl
  have l0 := lt_of_heap h.h
  have hmod : (p : Int).tmod (m : Int) = ((p % m : Nat) : Int) := by rw [Int.tmod_eq_emod_of_nonneg (by omega)]; rfl
  have j0 : (0 : Int) ≤ ((p % m : Nat) : Int) := by omega
  have j1 : ((p % m : Nat) : Int) < (m : Int) := by have := Nat.mod_lt p hm; omega
  have z0 : ¬ (m : Int) = 0 := by omega
  have z1 : ((m : Int) == 0) = false := by rw [beq_eq_false_iff_ne]; omega
  go_enter Tryd.func44, Tryd.ntmps44
  go_upto_region 1 with fail
  refine wp_region_ext (by kernel_rfl) (by kernel_rfl) ?_
  repeat (go_big_quiet_step (first | exact rfl))
  refine wpQuiet_nil ?_
  intro V5 hw
  have B5 := hide (ext_of hw)
  clear hw
  go_wp2
  go_ret
  exact ⟨rfl, B5.out⟩
set_option maxRecDepth 100000 in
set_option maxHeartbeats 4000000 in
theorem wput_c {V : World} {wb cb m nx : Nat} {cs : List z1_S} (h : WM V wb cb m cs nx) (hm : 0 < m) (hm2 : m ≤ 1000000) (p : Nat) {c : z1_S} (hc : cs[p % m]? = some c) (s : z1_S) :
    Calls Tryd.prog 34 #[.pointer (some ⟨wb, 0, none⟩), .int .i64 (p : Int), .agg #[.int .u64 (z1_wd s 0), .int .u64 (z1_wd s 1), .int .u64 (z1_wd s 2), .int .u64 (z1_wd s 3)]] V fun e w' => e = .returned (.tuple #[]) ∧ WM w' wb cb m (cs.set (p % m) (z1_sor c s)) nx ∧ Fr (fun k => k = cb) V w' := by
  have B1 : Below V.heap.size V (V.alloc (.cells #[.int .u64 (z1_wd s 0), .int .u64 (z1_wd s 1), .int .u64 (z1_wd s 2), .int .u64 (z1_wd s 3)] 63)) := (Below.refl _ _).alloc (Nat.le_refl _) _
  have X1 := hide (z1_SetAt.new V s)
  have W1 := hide (h.below B1)
  have BB := hide B1
  have HC := hide hc
  have hj : p % m < m := Nat.mod_lt p hm
  clear h B1 hc
  go_enter Tryd.func34, Tryd.ntmps34
  go_upto_region 1 with fail
  generalize (V.alloc (.cells #[.int .u64 (z1_wd s 0), .int .u64 (z1_wd s 1), .int .u64 (z1_wd s 2), .int .u64 (z1_wd s 3)] 63)) = w1 at X1 W1 BB ⊢
  have CC := hide (cell_c W1.out hm hm2 p)
  go_upto_region 2 with (go_at_call 44; (with_reducible refine (CC.out).mono ?_); rintro e w2 ⟨rfl, hb⟩; have B2 := hide hb; clear hb)
  have W2 := hide (W1.out.below B2.out)
  have X2 := hide (X1.out.below B2.out X1.out.lt)
  obtain ⟨d0, d1, d2, d3⟩ := W2.out.cells HC.out
  obtain ⟨x0, x1, x2, x3⟩ := X2.out.cells
  have l1 := lt_of_heap W2.out.c
  have l2 := X2.out.lt
  have OC := hide (fun W => z1_or_any c s W)
  refine wp_region_last_lit (by simp) (by kernel_rfl) (by kernel_rfl) (by kernel_rfl) ?_
  simp only [List.dropLast_cons_cons, List.dropLast_singleton, List.getLast_cons_cons, List.getLast_singleton]
  repeat (go_big_quiet_step (first | exact rfl | (go_at_call 46; (with_reducible exact ext_call (OC.out _)))))
  refine wpQuiet_nil ?_
  intro V6 hw6
  have B6 := hide (ext_of hw6)
  have W6 := hide (W2.out.below B6.out)
  clear hw6 d0 d1 d2 d3 x0 x1 x2 x3 l1 l2
  obtain ⟨d0, d1, d2, d3⟩ := W6.out.cells HC.out
  have f0 := frz_row W6.out.c (p % m * 4)
  have f1 := frz_row W6.out.c (p % m * 4 + 1)
  have f2 := frz_row W6.out.c (p % m * 4 + 2)
  have f3 := frz_row W6.out.c (p % m * 4 + 3)
  have FIN := hide (W6.out.set hj (z1_sor c s))
  have BA := hide (chain (chain BB.out B2.out (Nat.le_refl _)) B6.out (Nat.le_refl _))
  go_wp2
  go_end0
  exact ⟨rfl, FIN.out.1, (Fr.of_below BA.out).trans FIN.out.2⟩
end Go.Proofs.YtaikcnoiaaiopaaDoor
namespace Go.Proofs.YtaikcnoiaaiopaaDoor
open Go Go.RowKit Go.Shelf
attribute [local go_sem] Oper.semAt_some
def encB (x : z1_B8) : Array Value := #[.int .i64 x.1]
set_option maxRecDepth 100000 in
set_option maxHeartbeats 1000000 in
theorem sets_tells (n : Nat) (hn : 1 ≤ n) {w : World} {Bs : Nat} {s : z1_S} (hS : z1_SetAt w Bs s) :
    Tells6 n Tryd.prog 54 #[.pointer (some ⟨Bs, 0, none⟩)] encB z1_Tab (fun _ => False) (fun k t => k = Bs ∧ t = 63) (fun pre x V0 V => Below V0.heap.size V0 V ∧ pre ++ [x] <+: z1_elems s) (fun xs => xs = z1_elems s) (fun pre => pre <+: z1_elems s) w := by
  intro l J Jx J' W hW hJ hJx hJ' hInv hFT hT hY h0
  have hfn : ∀ f, Fence.wide.fn f := fun _ => trivial
  have hS' := hS.below hW hS.lt
  have hTab := hInv _ _ h0
  obtain ⟨hc0, hc1, hc2, hc3⟩ := hS'.cells
  have HS := hide hS'
  have HT := hide hTab
  have HJ := hide (fun pre A B (h : J pre A) (hb : Below A.heap.size A B) => ownFrom_below hJ h hb)
  have HI := hide hInv
  have HTo := hide hT
  have J0 := hide h0
  clear hS hS' hTab hW hJ hInv hT h0 hFT hJx hJ'
  refine callsIn_of_wp Tryd.func54 rfl trivial ?_ rfl
  simp only [Tryd.ntmps54, List.size_toArray, List.length_cons, List.length_nil, Nat.reduceAdd, Nat.reduceSub, Array.replicate_succ, Array.replicate_zero, List.push_toArray, List.append_toArray, List.nil_append, List.cons_append]
  gi_wp2_with (gi_at_call 42; refine (callsIn_wide.2 (z1_next_any s 0 _ HT.out)).mono ?_; rintro e w1 ⟨rfl, hb1⟩)
  have HS1 : Hid (z1_SetAt w1 Bs s) := HS.out.below hb1 HS.out.lt
  have HJ1 : Hid (J [] w1) := HJ.out _ _ _ J0.out hb1
  clear hc0 hc1 hc2 hc3 HS HT J0 hb1
  gi_loopw [3, 4] (fun b ok wr => ∃ (pre rest : List z1_B8), z1_elems s = pre ++ rest ∧ b = .int .i64 (z1_nextV s (z1_fr pre)) ∧ ok = .bool (z1_nextB s (z1_fr pre)) ∧ z1_SetAt wr Bs s ∧ J pre wr)
    (fun b ok _ => z1_leftOf b ok)
  case atStart => exact ⟨[], z1_elems s, rfl, rfl, rfl, HS1.out, HJ1.out⟩
  case round =>
    obtain ⟨pre, rest, hx, rfl, rfl, hs, hj⟩ := hrel
    clear HS1 HJ1
    have HS : Hid (z1_SetAt wr Bs s) := hs
    have J1 := hide hj
    clear hs hj
    cases rest with
    | nil =>
      have hx' : z1_elems s = pre := by simpa using hx
      have hne := z1_next_none s
      rw [hx'] at hne
      rw [hne.1, hne.2]
      have HX : Hid (z1_elems s = pre) := hx'
      clear hx hx' hne
      gi_wp2
      go_end0
      exact ⟨⟨_, rfl⟩, .inl ⟨pre, HX.out.symm, J1.out⟩⟩
    | cons x rest =>
      have hne := z1_next_some s pre x rest hx
      rw [hne.1, hne.2]
      clear hne
      have hxb := x.2
      have TD := hide (HTo.out pre x wr wr J1.out ⟨Below.refl _ _, by rw [hx]; exact ⟨rest, by simp⟩⟩)
      obtain ⟨fn, tmps, assign, body, hy, hR⟩ := hY pre x wr TD.out
      simp only [encB] at hy
      have HX : Hid (z1_elems s = pre ++ x :: rest) := hx
      have HR := hide hR
      clear hx hR
      gi_wp2
      refine HR.out.mono ?_
      rintro e W3 ⟨hkf, (⟨rfl, hJ3, hk3⟩ | ⟨rfl, hJx3⟩)⟩
      · have HS3 : Hid (z1_SetAt W3 Bs s) := hk3.same _ _ _ _ ⟨rfl, rfl⟩ HS.out
        have HT3 : Hid (z1_Tab W3) := HI.out _ _ hJ3
        obtain ⟨hd0, hd1, hd2, hd3⟩ := HS3.out.cells
        have HJ3 : Hid (J (pre ++ [x]) W3) := hJ3
        clear hJ3 hk3 hkf hY hy HR HS TD J1
        gi_wp2_with (gi_at_call 42; refine (callsIn_wide.2 (z1_next_any s _ _ HT3.out)).mono ?_; rintro e w4 ⟨rfl, hb4⟩)
        go_roundw
        case rel => exact ⟨pre ++ [x], rest, by rw [HX.out]; simp, by rw [z1_fr_snoc], by rw [z1_fr_snoc], HS3.out.below hb4 HS3.out.lt, HJ.out _ _ _ HJ3.out hb4⟩
        case measure => exact z1_left_lt s x.1 hxb.1 hxb.2
      · have HX3 := hide hJx3
        clear hJx3 hkf hY hy HR TD
        gi_wp2
        refine bodyPost_ret (results_none rfl _ _ _) rfl ?_
        exact ⟨⟨_, rfl⟩, .inr ⟨pre ++ [x], ⟨rest, by rw [HX.out]; simp⟩, HX3.out⟩⟩
set_option maxRecDepth 100000 in
set_option maxHeartbeats 1000000 in
theorem told_in (n : Nat) (hn : 1 ≤ n) {V : World} {T : Pt} {f : Bool} {lg st : Int} {hb B1 YB l : Nat} {x : Nat × Nat} {R : Ending → World → Prop} (h1 : V.heap[B1]? = some (.cells #[.pointer (some ⟨hb, 0, none⟩)] 25 (0, 0))) (h2 : V.heap[YB]? = some (.cells #[.func (.yield l) #[] #[]] 81 (0, 0))) (hh : HM V hb T f lg st)
    (hY : ∀ V1, Bump hb ((1 : Nat) : Int) V V1 → YieldAt Fence.wide (n - 1) Tryd.prog l (encP x) V1 R) (hR : ∀ e V', R e V' → ∃ b, e = .returned (.bool b)) :
    CallsIn Fence.wide n Tryd.prog 31 #[.int .i64 (x.1 : Int), .int .i64 (x.2 : Int), .pointer (some ⟨B1, 0, none⟩), .pointer (some ⟨YB, 0, none⟩)] V R := by
  have hfn : ∀ f, Fence.wide.fn f := fun _ => trivial
  have c1 := cell_row h1 (i := 0) rfl
  have c3 := cell_row hh (i := 3) rfl
  have f3 := frz_row hh 3
  have l3 := lt_of_heap hh
  have BU := hide (bump_set (d := 1) hh)
  have hne : YB ≠ hb := ne_type h2 hh (by decide)
  have Y2 := hide (show (V.setCell ⟨hb, 3, none⟩ (.int .i64 (wrap64 (st + 1)))).heap[YB]? = some (.cells #[.func (.yield l) #[] #[]] 81 (0, 0)) from (Below.heap_setCell _ _ _ _ hne).trans h2)
  clear h1 h2 hh hne
  refine callsIn_of_wp Tryd.func31 rfl trivial ?_ rfl
  simp only [Tryd.ntmps31, List.size_toArray, List.length_cons, List.length_nil, Nat.reduceAdd, Nat.reduceSub, Array.replicate_succ, Array.replicate_zero, List.push_toArray, List.append_toArray, List.nil_append, List.cons_append]
  gi_upto_region 2 with fail
  generalize (V.setCell ⟨hb, 3, none⟩ (.int .i64 (wrap64 (st + 1)))) = V1 at BU Y2 ⊢
  have cy := cell_row Y2.out (i := 0) rfl
  obtain ⟨fn, tmps, assign, body, hy, hR2⟩ := hY V1 BU.out
  simp only [encP] at hy
  have HR := hide hR2
  have HRE := hide hR
  clear hR2 hR hY c1 c3 f3 l3
  gi_wp2
  refine HR.out.mono ?_
  rintro e W3 h3
  obtain ⟨b, rfl⟩ := HRE.out e W3 h3
  have H3 := hide h3
  clear h3 HR hy HRE
  gi_wp2
  exact H3.out
end Go.Proofs.YtaikcnoiaaiopaaDoor
