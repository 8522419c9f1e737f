/-
  Parts of the proof.
-/
import Derived.Test.YtbghleihgcenmaaC12
set_option linter.unusedSimpArgs false
namespace Go.Proofs.Ytbghleihgcenmaa
open Go Go.RowKit
attribute [local go_sem] Oper.semAt_some
structure EnH (w : World) (rb : Nat) (p : Pg) (s : ByteArray) (A B : Cr4) (st : Int) (C : Cr4) (X l : List Int) (x : Int) : Prop where
  r : RunB w rb p s A B st
  c : CrB w C p.L.length X l
  gp : GP p.L
  li : LI w p.q p.L
  no : ∀ g o, p.q = some ⟨g, o, none⟩ → ¬ ownC C g
  nr : ¬ ownC C rb
  x0 : 0 ≤ x
  x1 : x < p.L.length
def EnR (P : List Ins) (s : List UInt8) (C : Cr4) (X l : List Int) (pl : Nat) (x b : Int) (w : World) (e : Ending) (w' : World) : Prop :=
  ∃ N l', e = .returned (.tuple #[]) ∧ CrB w' C P.length (X ++ N) l' ∧ EnQ P s pl X N x ∧ (∀ y ∈ N, bgOf l' y = b) ∧ (∀ y ∈ X, bgOf l' y = bgOf l y) ∧ Fr (ownC C) w w'
theorem CrB.store {w : World} {C : Cr4} {room : Nat} {X l : List Int} (h : CrB w C room X l) (y : Nat) (b : Int) : CrB (w.setCell ⟨C.gb, y, none⟩ (.int .i64 b)) C room X (l.set y b) := by
  have hb := h.bg
  refine ⟨h.m.same (Below.heap_setCell _ _ _ _ hb) (Below.heap_setCell _ _ _ _ (Ne.symm h.no.1)) (Below.heap_setCell _ _ _ _ (Ne.symm h.no.2)), ?_, by simpa using h.len, h.no⟩
  rw [heap_set_in h.g]
  simp [ints, List.map_set]
theorem CrB.cell {w : World} {C : Cr4} {room : Nat} {X l : List Int} (h : CrB w C room X l) {y : Nat} (hy : y < room) : w.cell? ⟨C.gb, y, none⟩ = some (.int .i64 (bgOf l (y : Int))) := by
  have hl := h.len
  have hx : l[y]? = some (bgOf l (y : Int)) := by
    unfold bgOf
    rw [Int.toNat_natCast, List.getElem?_eq_getElem (show y < l.length by omega)]
    rfl
  have e := ints_get hx
  simp [World.cell?, h.g, e]
theorem CrB.fz {w : World} {C : Cr4} {room : Nat} {X l : List Int} (h : CrB w C room X l) (y : Nat) : w.frozen? ⟨C.gb, y, none⟩ = false := by simp [World.frozen?, h.g]
set_option maxRecDepth 100000 in
set_option maxHeartbeats 8000000 in
theorem enter_c {w : World} {rb : Nat} {p : Pg} {s : ByteArray} {A B : Cr4} {st : Int} {C : Cr4} {X l : List Int} {x b plI : Int} {pl : Nat} (H : EnH w rb p s A B st C X l x) (hpl : plI = (pl : Int)) :
    Calls Try.prog 19 #[.pointer (some ⟨rb, 0, none⟩), crV C p.L.length, .int .i64 x, .int .i64 plI, .int .i64 b] w (EnR p.L (sL s) C X l pl x b w) := by
  subst hpl
  have hn := H.gp.len
  have B1 : Hid (Below w.heap.size w (w.alloc (.cells #[.pointer (some ⟨C.mb, 0, none⟩), .slice (some ⟨C.gb, 0, none⟩) p.L.length p.L.length] 51))) := (Below.refl _ _).alloc (Nat.le_refl _) _
  have X1 : Hid ((w.alloc (.cells #[.pointer (some ⟨C.mb, 0, none⟩), .slice (some ⟨C.gb, 0, none⟩) p.L.length p.L.length] 51)).heap[w.heap.size]? = some (.cells #[.pointer (some ⟨C.mb, 0, none⟩), .slice (some ⟨C.gb, 0, none⟩) p.L.length p.L.length] 51 (0, 0))) := alloc_new w _
  have hlt := hide H.c.lt
  have hrl := lt_of_heap H.r
  have C1 := hide (H.c.kept B1.out)
  have R1 := hide ((B1.out.block _ (lt_of_heap H.r)).trans H.r)
  have L1 := hide (H.li.kept B1.out)
  have HH := hide H
  have kn : Hid (¬ ownC C w.heap.size) := hide (fun q => by have := hlt.out _ q; omega)
  clear H
  go_enter Try.func19, Try.ntmps19
  go_upto_region 1 with fail
  generalize (w.alloc (.cells #[.pointer (some ⟨C.mb, 0, none⟩), .slice (some ⟨C.gb, 0, none⟩) p.L.length p.L.length] 51)) = w1 at B1 X1 C1 R1 L1 ⊢
  have k0 : w1.cell? ⟨w.heap.size, 0, none⟩ = some (.pointer (some ⟨C.mb, 0, none⟩)) := cell_row X1.out (i := 0) rfl
  have LN1 := hide (len_c C1.out.m)
  have l1 := lt_of_heap X1.out
  go_wp2_with first
    | (go_at_call 20; (with_reducible refine (LN1.out).mono ?_); rintro e w2 ⟨rfl, h2⟩; subst w2)
    | (go_at_call 28; (with_reducible refine (put_c C1.out.m _).mono ?_); rintro e w4 ⟨rfl, h41, h42⟩; have M4 := hide h41; have F4 := hide h42; clear h41 h42)
  obtain ⟨N0, hN0, hI0⟩ := enI_start (P := p.L) (s := sL s) (pl := pl) (X := X) (n := p.L.length) (l0 := l) (b := b) HH.out.x0 HH.out.x1
  have C4 : Hid (CrB w4 C p.L.length (X ++ N0) l) := hide (by
    have h1 := M4.out
    rw [hN0] at h1
    exact ⟨h1, (F4.out.block _ (lt_of_heap C1.out.g) (fun q => by
      rcases q with q | q | q
      · exact C1.out.bg q.symm
      · exact C1.out.no.1 q
      · exact C1.out.no.2 q)).trans C1.out.g, C1.out.len, C1.out.no⟩)
  have F4c : Hid (Fr (ownC C) w1 w4) := hide ⟨F4.out.os, F4.out.tape, F4.out.output, F4.out.size, fun i h1 h2 => F4.out.block i h1 (fun q => h2 (.inl q))⟩
  have HI0 := hide hI0
  clear hN0 hI0 M4 k0 LN1
  go_loopw [10] (fun i wr => ∃ (k : Nat) (N Z l1 : List Int), i = .int .i64 (k : Int) ∧ k ≤ Z.length ∧ X ++ N = Z ∧ CrB wr C p.L.length Z l1 ∧ EnI p.L (sL s) pl X N x k l l1 b ∧ Fr (ownC C) w1 wr) (fun i _ => p.L.length + 1 - (intOf i).toNat)
  case atStart => exact ⟨X.length, N0, X ++ N0, l, rfl, by simp, rfl, C4.out, HI0.out, F4c.out⟩
  case round =>
    obtain ⟨k, N, Z, lc, rfl, hk, hZ, hC, hI, hF⟩ := hrel
    have C0 := hide hC
    have I0 := hide hI
    have F0 := hide hF
    have HZ := hide hZ
    have hzl := hC.m.len
    have LN := hide (len_c hC.m)
    have XW := hide ((hF.block _ l1 kn.out).trans X1.out)
    have RW := hide ((hF.block _ (lt_of_heap R1.out) HH.out.nr).trans R1.out)
    have LW := hide (L1.out.same (fun g o hq hg => hF.block g hg (HH.out.no g o hq)) hF.size)
    clear hC hI hF hZ HI0 C4
    by_cases hkl : k < Z.length
    · have i0 : (k : Int) < (Z.length : Int) := by omega
      obtain ⟨y, hy⟩ : ∃ y, Z[k]? = some y := ⟨_, List.getElem?_eq_getElem hkl⟩
      obtain ⟨hy0, hy1⟩ := C0.out.m.inr (List.mem_of_getElem? hy)
      obtain ⟨y, rfl⟩ : ∃ y' : Nat, y = (y' : Int) := ⟨y.toNat, by omega⟩
      have hyl : y < p.L.length := by omega
      have AT : Hid (Calls Try.prog 21 #[.pointer (some ⟨C.mb, 0, none⟩), .int .i64 (k : Int)] wr fun e w' => e = .returned (.tuple #[.int .i64 (y : Int), .bool true]) ∧ w' = wr) := by
        have := at_c C0.out.m (k : Int)
        rw [show atV Z (k : Int) = (y : Int) by unfold atV; rw [if_pos ⟨by omega, by omega⟩, Int.toNat_natCast, hy]; rfl, show atB Z (k : Int) = true from decide_eq_true ⟨by omega, by omega⟩] at this
        exact this
      obtain ⟨i, hi⟩ : ∃ i, p.L[y]? = some i := ⟨_, List.getElem?_eq_getElem hyl⟩
      have y0 : wr.cell? ⟨w.heap.size, 0, none⟩ = some (.pointer (some ⟨C.mb, 0, none⟩)) := cell_row XW.out (i := 0) rfl
      have y1 : wr.cell? ⟨w.heap.size, 1, none⟩ = some (.slice (some ⟨C.gb, 0, none⟩) p.L.length p.L.length) := cell_row XW.out (i := 1) rfl
      have cg := C0.out.cell hyl
      have fg := C0.out.fz y
      have j0 : (y : Int) < (p.L.length : Int) := by omega
      have j1 : (0 : Int) ≤ (y : Int) := by omega
      have C6 := hide (C0.out.store y b)
      have F6 : Hid (Fr (ownC C) wr (wr.setCell ⟨C.gb, y, none⟩ (.int .i64 b))) := (Fr.refl (ownC C) wr).setCell (p := ⟨C.gb, y, none⟩) (.inr rfl) _
      have HY := hide hy
      have HI := hide hi
      clear hy hi hy0 hy1
      go_upto_region 7 with first
        | (go_at_call 20; (with_reducible refine (LN.out).mono ?_); rintro e w5 ⟨rfl, h5⟩; subst w5)
        | (go_at_call 21; (with_reducible refine (AT.out).mono ?_); rintro e w5 ⟨rfl, h5⟩; subst w5)
      clear cg fg y0 y1
      generalize (wr.setCell ⟨C.gb, y, none⟩ (.int .i64 b)) = V at C6 F6 ⊢
      have FV := hide (F0.out.trans F6.out)
      have XV := hide ((FV.out.block _ l1 kn.out).trans X1.out)
      have RV := hide ((FV.out.block _ (lt_of_heap R1.out) HH.out.nr).trans R1.out)
      have LV := hide (L1.out.same (fun g o hq hg => FV.out.block g hg (HH.out.no g o hq)) FV.out.size)
      have z0 : V.cell? ⟨w.heap.size, 0, none⟩ = some (.pointer (some ⟨C.mb, 0, none⟩)) := cell_row XV.out (i := 0) rfl
      have z1 : V.cell? ⟨w.heap.size, 1, none⟩ = some (.slice (some ⟨C.gb, 0, none⟩) p.L.length p.L.length) := cell_row XV.out (i := 1) rfl
      have LD := hide (lead_c (pl := pl) (show LdH V rb p s A B st C Z y i from ⟨RV.out, C6.out.m, hn, HI.out, by
        obtain ⟨g, o, h1, h2, h3⟩ := LV.out y i HI.out
        exact ⟨g, o, h1, h2, fun q => HH.out.no g o h1 (.inl q), h3⟩⟩))
      have ST := enI_step (n := p.L.length) I0.out (y := (y : Int)) (i := i) (by rw [HZ.out]; exact HY.out) (by rw [Int.toNat_natCast]; exact HI.out) (fun z hz => HH.out.gp.eps y i HI.out _ _ z hz) (by rw [HZ.out]; exact C6.out.m.nodup) (by rw [HZ.out]; exact fun z hz => (C6.out.m.inr hz).1) (by rw [Int.toNat_natCast, C0.out.len]; exact hyl)
      obtain ⟨N', hN', hI'⟩ := ST
      rw [HZ.out] at hN'
      rw [Int.toNat_natCast] at hI'
      have HN' := hide hN'
      have HI' := hide hI'
      clear hN' hI'
      go_wp2_with (go_at_call 29; (with_reducible refine (LD.out).mono ?_); rintro e w7 ⟨rfl, h71, h72⟩; have M7 := hide h71; have F7 := hide h72; clear h71 h72)
      have C7 : Hid (CrB w7 C p.L.length (X ++ N') (lc.set y b)) := hide (by
        have h1 := M7.out
        rw [HN'.out] at h1
        exact ⟨h1, (F7.out.block _ (lt_of_heap C6.out.g) (fun q => by
          rcases q with q | q | q
          · exact C6.out.bg q.symm
          · exact C6.out.no.1 q
          · exact C6.out.no.2 q)).trans C6.out.g, C6.out.len, C6.out.no⟩)
      have F7c : Hid (Fr (ownC C) w1 w7) := hide (FV.out.trans ⟨F7.out.os, F7.out.tape, F7.out.output, F7.out.size, fun i h1 h2 => F7.out.block i h1 (fun q => h2 (.inl q))⟩)
      go_roundw
      case rel => exact ⟨k + 1, N', X ++ N', lc.set y b, by go_num, HI'.out.hi, rfl, C7.out, HI'.out, F7c.out⟩
      case measure => simp only [intOf]; omega
    · have i0 : ¬ (k : Int) < (Z.length : Int) := by omega
      have y0 : wr.cell? ⟨w.heap.size, 0, none⟩ = some (.pointer (some ⟨C.mb, 0, none⟩)) := cell_row XW.out (i := 0) rfl
      go_wp2_with (go_at_call 20; (with_reducible refine (LN.out).mono ?_); rintro e w5 ⟨rfl, h5⟩; subst w5)
      go_end0
      obtain ⟨q1, q2, q3⟩ := enI_end I0.out (by rw [HZ.out]; omega)
      refine ⟨N, lc, rfl, by rw [HZ.out]; exact C0.out, q1, q2, q3, (Fr.of_below B1.out).trans F0.out⟩
end Go.Proofs.Ytbghleihgcenmaa
namespace Go.Proofs.Ytbghleihgcenmaa
open Go Go.RowKit
attribute [local go_sem] Oper.semAt_some ext_cell
def tkB (i : Ins) (s : ByteArray) (pl : Nat) : Bool := i.op == 1 && (match (sL s)[pl]? with | some c => z1_shas i.s (c.toNat : Int) | none => false)
section
variable {w : World} {rb : Nat} {p : Pg} {s : ByteArray} {A B : Cr4} {st : Int} {a pl : Nat} {i : Ins}
set_option maxRecDepth 100000 in
set_option maxHeartbeats 4000000 in
theorem takes_no (hr : RunB w rb p s A B st) (hli : LI w p.q p.L) (hi : p.L[a]? = some i) (ho : (i.op == 1) = false) : Calls Try.prog 22 #[.pointer (some ⟨rb, 0, none⟩), .int .i64 (a : Int), .int .i64 (pl : Int)] w fun e w' => e = .returned (.bool false) ∧ Below w.heap.size w w' := by
  obtain ⟨g, o, hq, hg, c0, c1, c2, c3, c4, c5, c6, c7, c8, c9⟩ := hli.ten hi
  have lr := lt_of_heap hr
  have y0 : w.cell? ⟨rb, 0, none⟩ = some (.slice p.q p.L.length p.c) := cell_row hr (i := 0) rfl
  have hal := (List.getElem?_eq_some_iff.1 hi).1
  have i0 : (a : Int) < (p.L.length : Int) := by omega
  have i00 : (0 : Int) ≤ (a : Int) := by omega
  rw [hq] at y0
  obtain ⟨oo, hoo⟩ : ∃ oo, i.op = oo := ⟨_, rfl⟩
  rw [hoo] at c0 ho
  clear hi hr hli hoo
  go_enter Try.func22, Try.ntmps22
  go_upto_region 2 with fail
  refine wp_region_ext (by kernel_rfl) (by kernel_rfl) ?_
  repeat (go_big_quiet_step (first | exact rfl))
  refine wpQuiet_nil ?_
  rintro _ ⟨x, rfl⟩
  go_wp2
  go_ret
  exact ⟨rfl, x.2⟩
set_option maxRecDepth 100000 in
set_option maxHeartbeats 4000000 in
theorem takes_end (hr : RunB w rb p s A B st) (hli : LI w p.q p.L) (hi : p.L[a]? = some i) (ho : i.op = 1) (hpl : ¬ pl < s.size) : Calls Try.prog 22 #[.pointer (some ⟨rb, 0, none⟩), .int .i64 (a : Int), .int .i64 (pl : Int)] w fun e w' => e = .returned (.bool false) ∧ Below w.heap.size w w' := by
  obtain ⟨g, o, hq, hg, c0, c1, c2, c3, c4, c5, c6, c7, c8, c9⟩ := hli.ten hi
  have lr := lt_of_heap hr
  have y0 : w.cell? ⟨rb, 0, none⟩ = some (.slice p.q p.L.length p.c) := cell_row hr (i := 0) rfl
  have y1 : w.cell? ⟨rb, 1, none⟩ = some (.string s) := cell_row hr (i := 1) rfl
  have hal := (List.getElem?_eq_some_iff.1 hi).1
  have i0 : (a : Int) < (p.L.length : Int) := by omega
  have i00 : (0 : Int) ≤ (a : Int) := by omega
  have j0 : decide ((pl : Int) < (s.size : Int)) = false := decide_eq_false (by omega)
  have j1 : decide (pl < s.size) = false := decide_eq_false (by omega)
  rw [hq] at y0
  rw [ho] at c0
  clear hi hr hli
  go_enter Try.func22, Try.ntmps22
  go_upto_region 2 with fail
  refine wp_region_ext (by kernel_rfl) (by kernel_rfl) ?_
  repeat (go_big_quiet_step (first | exact rfl))
  refine wpQuiet_nil ?_
  rintro _ ⟨x, rfl⟩
  go_wp2
  go_ret
  exact ⟨rfl, x.2⟩
set_option maxRecDepth 100000 in
set_option maxHeartbeats 4000000 in
theorem takes_byte (hr : RunB w rb p s A B st) (hli : LI w p.q p.L) (hi : p.L[a]? = some i) (ho : i.op = 1) {c : UInt8} (hc : (sL s)[pl]? = some c) : Calls Try.prog 22 #[.pointer (some ⟨rb, 0, none⟩), .int .i64 (a : Int), .int .i64 (pl : Int)] w fun e w' => e = .returned (.bool (z1_shas i.s (c.toNat : Int))) ∧ Below w.heap.size w w' := by
  obtain ⟨g, o, hq, hg, c0, c1, c2, c3, c4, c5, c6, c7, c8, c9⟩ := hli.ten hi
  have lr := lt_of_heap hr
  have y0 : w.cell? ⟨rb, 0, none⟩ = some (.slice p.q p.L.length p.c) := cell_row hr (i := 0) rfl
  have y1 : w.cell? ⟨rb, 1, none⟩ = some (.string s) := cell_row hr (i := 1) rfl
  have hal := (List.getElem?_eq_some_iff.1 hi).1
  have hpl : pl < s.size := by have := (List.getElem?_eq_some_iff.1 hc).1; rw [sL_len] at this; exact this
  have i0 : (a : Int) < (p.L.length : Int) := by omega
  have i00 : (0 : Int) ≤ (a : Int) := by omega
  have j0 : (pl : Int) < (s.size : Int) := by omega
  have j00 : (0 : Int) ≤ (pl : Int) := by omega
  rw [hq] at y0
  rw [ho] at c0
  have EV : Hid (wrap64 ((s[pl]'hpl).toNat : Int) = (c.toNat : Int)) := hide (by
    have e1 : s[pl]'hpl = c := (List.getElem?_eq_some_iff.1 hc).2
    rw [e1]
    have hc8 : c.toNat < 256 := c.toNat_lt
    unfold wrap64
    omega)
  have HX := hide (fun W => z1_has_any i.s (wrap64 ((s[pl]'hpl).toNat : Int)) W)
  clear hi hr hli hc
  go_enter Try.func22, Try.ntmps22
  go_upto_region 2 with fail
  refine wp_region_ext (by kernel_rfl) (by kernel_rfl) ?_
  repeat (go_big_quiet_step (first | exact rfl | (go_at_call 30; (with_reducible exact ext_call (HX.out _)))))
  refine wpQuiet_nil ?_
  rintro _ ⟨x, rfl⟩
  go_wp2
  go_ret
  exact ⟨by rw [EV.out]; rfl, x.2⟩
theorem takes_c (hr : RunB w rb p s A B st) (hli : LI w p.q p.L) (hi : p.L[a]? = some i) : Calls Try.prog 22 #[.pointer (some ⟨rb, 0, none⟩), .int .i64 (a : Int), .int .i64 (pl : Int)] w fun e w' => e = .returned (.bool (tkB i s pl)) ∧ Below w.heap.size w w' := by
  by_cases ho : i.op = 1
  · have h1 : (i.op == 1) = true := by rw [ho]; rfl
    cases hc : (sL s)[pl]? with
    | none =>
      have : tkB i s pl = false := by unfold tkB; rw [hc, h1]; rfl
      rw [this]
      exact takes_end hr hli hi ho (fun q => by rw [← sL_len] at q; rw [List.getElem?_eq_getElem q] at hc; cases hc)
    | some c =>
      have : tkB i s pl = z1_shas i.s (c.toNat : Int) := by unfold tkB; rw [hc, h1]; rfl
      rw [this]
      exact takes_byte hr hli hi ho hc
  · have h1 : (i.op == 1) = false := by rw [beq_eq_false_iff_ne]; exact ho
    have : tkB i s pl = false := by unfold tkB; rw [h1]; rfl
    rw [this]
    exact takes_no hr hli hi h1
end
end Go.Proofs.Ytbghleihgcenmaa
namespace Go.Proofs.Ytbghleihgcenmaa
open Go Go.RowKit
structure PlW (W0 : World) (own : Nat → Prop) (rb pb : Nat) (p : Pg) (s : ByteArray) (A B : Cr4) (st : Int) (X l Y m : List Int) (F T : Int) (wr : World) : Prop where
  hr : RunB wr rb p s A B st
  ha : CrB wr A p.L.length X l
  hb : CrB wr B p.L.length Y m
  li : LI wr p.q p.L
  hp : wr.heap[pb]? = some (.cells #[.int .i64 F, .int .i64 T] 30 (0, 0))
  fr : Fr own W0 wr
  oa : ∀ k, ownC A k → own k
  ob : ∀ k, ownC B k → own k
  orb : own rb
  opb : own pb
  ab : ∀ k, ownC A k → ¬ ownC B k
  no : ∀ g o, p.q = some ⟨g, o, none⟩ → ¬ own g
  ra : ¬ ownC A rb
  rb1 : ¬ ownC B rb
  pa : ¬ ownC A pb
  pb1 : ¬ ownC B pb
  rp : rb ≠ pb
section
variable {W0 wr w' : World} {own : Nat → Prop} {rb pb : Nat} {p : Pg} {s : ByteArray} {A B : Cr4} {st st' : Int} {X l Y m X' l' Y' m' : List Int} {F T F' T' : Int}
theorem PlW.upd (h : PlW W0 own rb pb p s A B st X l Y m F T wr) {S : Nat → Prop} (hf : Fr S wr w') (hs : ∀ k, S k → own k) (r : RunB w' rb p s A B st') (a : CrB w' A p.L.length X' l') (b : CrB w' B p.L.length Y' m') (q : w'.heap[pb]? = some (.cells #[.int .i64 F', .int .i64 T'] 30 (0, 0))) : PlW W0 own rb pb p s A B st' X' l' Y' m' F' T' w' :=
  ⟨r, a, b, h.li.same (fun g o hq hg => hf.block g hg (fun z => h.no g o hq (hs g z))) hf.size, q, h.fr.trans ⟨hf.os, hf.tape, hf.output, hf.size, fun i h1 h2 => hf.block i h1 (fun z => h2 (hs i z))⟩, h.oa, h.ob, h.orb, h.opb, h.ab, h.no, h.ra, h.rb1, h.pa, h.pb1, h.rp⟩
theorem PlW.below (h : PlW W0 own rb pb p s A B st X l Y m F T wr) (hb : Below wr.heap.size wr w') : PlW W0 own rb pb p s A B st X l Y m F T w' :=
  h.upd (S := fun _ => False) (Fr.of_below hb) (fun _ q => q.elim) ((hb.block _ (lt_of_heap h.hr)).trans h.hr) (h.ha.kept hb) (h.hb.kept hb) ((hb.block _ (lt_of_heap h.hp)).trans h.hp)
theorem PlW.run (h : PlW W0 own rb pb p s A B st X l Y m F T wr) (hf : Fr (fun k => k = rb) wr w') (r : RunB w' rb p s A B st') : PlW W0 own rb pb p s A B st' X l Y m F T w' :=
  h.upd hf (fun _ q => q ▸ h.orb) r (h.ha.fr hf (fun _ q e => h.ra (e ▸ q))) (h.hb.fr hf (fun _ q e => h.rb1 (e ▸ q))) ((hf.block _ (lt_of_heap h.hp) (fun e => h.rp e.symm)).trans h.hp)
theorem PlW.swap (h : PlW W0 own rb pb p s A B st X l Y m F T wr) (hf : Fr (fun k => k = rb) wr w') (r : RunB w' rb p s B A st) : PlW W0 own rb pb p s B A st Y m X l F T w' := by
  have ha := h.ha.fr hf (fun _ q e => h.ra (e ▸ q))
  have hb := h.hb.fr hf (fun _ q e => h.rb1 (e ▸ q))
  exact ⟨r, hb, ha, h.li.same (fun g o hq hg => hf.block g hg (fun z => h.no g o hq (z ▸ h.orb))) hf.size, (hf.block _ (lt_of_heap h.hp) (fun e => h.rp e.symm)).trans h.hp, h.fr.trans ⟨hf.os, hf.tape, hf.output, hf.size, fun i h1 h2 => hf.block i h1 (fun z => h2 (z ▸ h.orb))⟩, h.ob, h.oa, h.orb, h.opb, fun k q1 q2 => h.ab k q2 q1, h.no, h.rb1, h.ra, h.pb1, h.pa, h.rp⟩
theorem PlW.clearB (h : PlW W0 own rb pb p s A B st X l Y m F T wr) (hm : MAt w' B.mb B.mo B.mp p.L.length []) (hf : Fr (own3 B.mb B.mo B.mp) wr w') : PlW W0 own rb pb p s A B st X l [] m F T w' :=
  h.upd hf (fun k q => h.ob k (.inl q)) ((hf.block _ (lt_of_heap h.hr) (fun q => h.rb1 (.inl q))).trans h.hr) (h.ha.fr hf (fun k q e => h.ab k q (.inl e))) (h.hb.clear hm hf) ((hf.block _ (lt_of_heap h.hp) (fun q => h.pb1 (.inl q))).trans h.hp)
theorem PlW.setA (h : PlW W0 own rb pb p s A B st X l Y m F T wr) (hc : CrB w' A p.L.length X' l') (hf : Fr (ownC A) wr w') : PlW W0 own rb pb p s A B st X' l' Y m F T w' :=
  h.upd hf h.oa ((hf.block _ (lt_of_heap h.hr) h.ra).trans h.hr) hc (h.hb.fr hf (fun k q e => h.ab k e q)) ((hf.block _ (lt_of_heap h.hp) h.pa).trans h.hp)
theorem PlW.setB (h : PlW W0 own rb pb p s A B st X l Y m F T wr) (hc : CrB w' B p.L.length Y' m') (hf : Fr (ownC B) wr w') : PlW W0 own rb pb p s A B st X l Y' m' F T w' :=
  h.upd hf h.ob ((hf.block _ (lt_of_heap h.hr) h.rb1).trans h.hr) (h.ha.fr hf (fun k q e => h.ab k q e)) hc ((hf.block _ (lt_of_heap h.hp) h.pb1).trans h.hp)
theorem PlW.part (h : PlW W0 own rb pb p s A B st X l Y m F T wr) (F' T' : Int) : PlW W0 own rb pb p s A B st X l Y m F' T' ((wr.setCell ⟨pb, 0, none⟩ (.int .i64 F')).setCell ⟨pb, 1, none⟩ (.int .i64 T')) := by
  have hf : Fr (fun k => k = pb) wr ((wr.setCell ⟨pb, 0, none⟩ (.int .i64 F')).setCell ⟨pb, 1, none⟩ (.int .i64 T')) := ((Fr.refl (fun k => k = pb) _).setCell (p := ⟨pb, 0, none⟩) rfl _).setCell (p := ⟨pb, 1, none⟩) rfl _
  exact h.upd hf (fun _ q => q ▸ h.opb) ((hf.block _ (lt_of_heap h.hr) h.rp).trans h.hr) (h.ha.fr hf (fun _ q e => h.pa (e ▸ q))) (h.hb.fr hf (fun _ q e => h.pb1 (e ▸ q))) (heap_set_in (heap_set_in h.hp 0 _) 1 _)
theorem PlW.enA (h : PlW W0 own rb pb p s A B st X l Y m F T wr) (gp : GP p.L) {x : Int} (h0 : 0 ≤ x) (h1 : x < p.L.length) : EnH wr rb p s A B st A X l x := ⟨h.hr, h.ha, gp, h.li, fun g o hq q => h.no g o hq (h.oa g q), h.ra, h0, h1⟩
theorem PlW.enB (h : PlW W0 own rb pb p s A B st X l Y m F T wr) (gp : GP p.L) {x : Int} (h0 : 0 ≤ x) (h1 : x < p.L.length) : EnH wr rb p s A B st B Y m x := ⟨h.hr, h.hb, gp, h.li, fun g o hq q => h.no g o hq (h.ob g q), h.rb1, h0, h1⟩
end
end Go.Proofs.Ytbghleihgcenmaa
