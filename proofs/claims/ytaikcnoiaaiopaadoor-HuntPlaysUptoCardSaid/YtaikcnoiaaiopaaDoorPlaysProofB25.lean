/-
  Parts of the proof.
-/
import Derived.Test.YtaikcnoiaaiopaaDoorPlaysProofB24
set_option linter.unusedSimpArgs false
namespace Go.Proofs.YtaikcnoiaaiopaaDoor
open Go Go.RowKit Go.Shelf
attribute [local go_sem] Oper.semAt_some ext_cell
def NxA (f : Bool) (ws : List ByteArray) (line : ByteArray) (m : Int) (p k : Int) (b : Bool) : Prop :=
  (m < 0 ∨ (line.size : Int) < m) ∧ p = 0 ∧ k = 0 ∧ b = false ∨ ∃ m' : Nat, m = (m' : Int) ∧ m' ≤ line.size ∧ ((p = 0 ∧ k = 0 ∧ b = false ∧ ∀ p k, m' ≤ p → ¬ Sd f ws line p k) ∨ ∃ p' k' : Nat, p = (p' : Int) ∧ k = (k' : Int) ∧ b = true ∧ m' ≤ p' ∧ Sd f ws line p' k' ∧ ∀ p k, m' ≤ p → Sd f ws line p k → p' < p ∨ p' = p ∧ k' ≤ k)
def nxS (line : ByteArray) (m : Int) : Nat := if m < 0 ∨ (line.size : Int) < m then 0 else 2 * (line.size - m.toNat) + 1
structure NxS (base : Nat) (f : Bool) (T : Pt) (D : List Nat → Prop) (R : List Nat → Nat → Prop) (K : List Nat → Kn) (hb : Nat) (lg st : Int) (w0 : World) (bs a b : Nat) (c : Nat) (V : World) : Prop where
  hm : HM V hb T f lg (wrap64 (st + (c : Int)))
  tr : TrM base V T D R K
  tab : z1_Tab V
  bx : V.heap[bs]? = some (.cells #[.int .i64 (a : Int), .int .i64 (b : Int)] 73 (0, 0))
  fr : Fr (fun k => k = hb) w0 V
  new : w0.heap.size ≤ bs
section
variable {base : Nat} {f : Bool} {T : Pt} {D : List Nat → Prop} {R : List Nat → Nat → Prop} {K : List Nat → Kn} {hb : Nat} {lg st : Int} {w0 : World} {bs a b c : Nat} {V V' : World}
theorem NxS.below (h : NxS base f T D R K hb lg st w0 bs a b c V) (hb' : Below V.heap.size V V') : NxS base f T D R K hb lg st w0 bs a b c V' :=
  ⟨(hb'.block _ (lt_of_heap h.hm)).trans h.hm, h.tr.below hb', h.tab.below hb', (hb'.block _ (lt_of_heap h.bx)).trans h.bx, h.fr.then hb', h.new⟩
theorem NxS.grown {B : Nat} {row : Option Nat} (h : NxS base f T D R K hb lg st w0 bs a b c V) (hB : w0.heap.size ≤ B) (h0 : 0 < B) (hg : V.grownBy V' row) (hr : ∀ r, row = some r → B ≤ r ∧ ∃ o : Obj, V.heap[r]? = some o ∧ o.isCells = false) : NxS base f T D R K hb lg st w0 bs a b c V' := by
  refine ⟨cells_kept hg hr h.hm, h.tr.grown hg hr, ⟨Nat.lt_of_lt_of_le h.tab.1 hg.size, fun j hj => ?_⟩, cells_kept hg hr h.bx, ?_, h.new⟩
  · have h1 := h.tab.2 j hj
    unfold World.cell? at h1 ⊢
    rw [hg.block 0 h.tab.1 (fun e => by have := (hr 0 e.symm).1; omega)]
    exact h1
  · exact ⟨hg.os.trans h.fr.os, hg.tape.trans h.fr.tape, hg.output.trans h.fr.output, Nat.le_trans h.fr.size hg.size, fun k hk hs => (hg.block k (Nat.lt_of_lt_of_le hk h.fr.size) (fun e => by have := (hr k e.symm).1; omega)).trans (h.fr.block k hk hs)⟩
theorem NxS.ft {N : Nat} (h : NxS base f T D R K hb lg st w0 bs a b c V) (hf : FT N (fun _ => False) V V') : NxS base f T D R K hb lg st w0 bs a b c V' :=
  h.below ⟨hf.fr.os, hf.fr.tape, hf.fr.output, hf.fr.size, fun k hk => hf.fr.block k hk (fun ⟨_, _, _, _, q⟩ => q)⟩
theorem NxS.bump {d : Nat} (h : NxS base f T D R K hb lg st w0 bs a b c V) (hu : Bump hb (d : Int) V V') (h0 : 0 ≠ hb) (hw : hb < w0.heap.size) : NxS base f T D R K hb lg st w0 bs a b (c + d) V' := by
  refine ⟨?_, ((HInv.bump (lg := lg) (f := f) ⟨h.tr, _, h.hm⟩ hu).1), ⟨Nat.lt_of_lt_of_le h.tab.1 hu.fr.size, fun j hj => ?_⟩, (hu.fr.block _ (lt_of_heap h.bx) (by have := h.new; omega)).trans h.bx, h.fr.trans hu.fr, h.new⟩
  · have := hu.st _ _ _ _ h.hm
    rw [wrap64_add, Int.add_assoc] at this
    exact_mod_cast this
  · have h1 := h.tab.2 j hj
    unfold World.cell? at h1 ⊢
    rw [hu.fr.block 0 h.tab.1 h0]
    exact h1
theorem NxS.set (h : NxS base f T D R K hb lg st w0 bs a b c V) (hw : hb < w0.heap.size) (a' b' : Nat) : NxS base f T D R K hb lg st w0 bs a' b' c ((V.setCell ⟨bs, 0, none⟩ (.int .i64 (a' : Int))).setCell ⟨bs, 1, none⟩ (.int .i64 (b' : Int))) := by
  have hF : Fr (fun k => k = bs) V ((V.setCell ⟨bs, 0, none⟩ (.int .i64 (a' : Int))).setCell ⟨bs, 1, none⟩ (.int .i64 (b' : Int))) := ((Fr.refl (fun k => k = bs) V).setCell (p := ⟨bs, 0, none⟩) rfl _).setCell (p := ⟨bs, 1, none⟩) rfl _
  have hn := h.new
  refine ⟨(hF.block _ (lt_of_heap h.hm) (by omega)).trans h.hm, h.tr.keep (TrK.fr hF (fun k cur t hk hc ht => ?_)), ⟨Nat.lt_of_lt_of_le h.tab.1 hF.size, fun j hj => ?_⟩, (set2_cells h.bx _ _).2.2, ?_, h.new⟩
  · subst hk
    rw [h.bx] at hc
    injection hc with hc
    injection hc with _ hc _
    rcases ht with ht | ht <;> exact absurd (hc.trans ht) (by decide)
  · have h1 := h.tab.2 j hj
    unfold World.cell? at h1 ⊢
    rw [hF.block 0 h.tab.1 (by omega)]
    exact h1
  · exact ⟨hF.os.trans h.fr.os, hF.tape.trans h.fr.tape, hF.output.trans h.fr.output, Nat.le_trans h.fr.size hF.size, fun k hk hs => (hF.block k (Nat.lt_of_lt_of_le hk h.fr.size) (by omega)).trans (h.fr.block k hk hs)⟩
end
section
variable (base : Nat) (f : Bool) (ws : List ByteArray) (line : ByteArray) (m : Nat) (T : Pt) (D : List Nat → Prop) (R : List Nat → Nat → Prop) (K : List Nat → Kn) (hb : Nat) (lg st : Int) (w0 : World) (bs : Nat)
def NxI (pre : List St3) (V : World) : Prop := ∃ a b c, NxS base f T D R K hb lg st w0 bs a b c V ∧ FstI f ws line m pre.length a b ∧ c + lastL pre ≤ 2 * pre.length ∧ GoodS f line m D pre
def NxJ (pre : List St3) (x : St3) (V : World) : Prop := ∃ a b c, NxS base f T D R K hb lg st w0 bs a b c V ∧ FstI f ws line m pre.length a b ∧ c + x.2.1.length ≤ 2 * (pre.length + 1) ∧ GoodS f line m D (pre ++ [x])
def NxX (cd : Code) (_ : List St3) (V : World) : Prop := cd = .exit 0 ∧ ∃ a b c, NxS base f T D R K hb lg st w0 bs a b c V ∧ FstA f ws line m a b ∧ c ≤ 2 * (line.size - m)
end
set_option maxRecDepth 100000 in
set_option maxHeartbeats 4000000 in
theorem next_in (n : Nat) (hn : 4 ≤ n) {base : Nat} {w : World} {f : Bool} {ws : List ByteArray} {T : Pt} {D : List Nat → Prop} {R : List Nat → Nat → Prop} {K : List Nat → Kn} {lg st : Int} {hb : Nat} {line : ByteArray} (m : Nat) (hH : Hu base w f ws T D R K lg) (hh : HM w hb T f lg st) (ht : z1_Tab w) (h0 : 0 ≠ hb) (hm : m ≤ line.size) (hsz : line.size ≤ 140737488355328) (hst : wrap64 st = st) :
    CallsIn Fence.wide n Tryd.prog 13 #[.pointer (some ⟨hb, 0, none⟩), .string line, .int .i64 (m : Int)] w fun e w' => ∃ (p k : Int) (b : Bool) (c : Nat), e = .returned (.tuple #[.int .i64 p, .int .i64 k, .bool b]) ∧ NxA f ws line (m : Int) p k b ∧ c ≤ 2 * (line.size - m) + 1 ∧ HM w' hb T f lg (wrap64 (st + (c : Int))) ∧ Fr (fun k => k = hb) w w' := by
  have h1 : 1 ≤ n := by omega
  have h2 : 1 ≤ n - 1 - 1 := by omega
  have hfn : ∀ f, Fence.wide.fn f := fun _ => trivial
  have hmx : Tryd.prog.follows .mixedOrders = true := by kernel_rfl
  have HH := hide hh
  have HHu := hide hH
  have HT := hide ht
  have hbl := lt_of_heap hh
  have HBL := hide hbl
  have HZ := hide h0
  clear hH hh ht h0
  refine callsIn_of_wp_marks Tryd.func13 rfl trivial ?_ rfl
  simp only [Tryd.ntmps13, List.size_toArray, List.length_cons, List.length_nil, Nat.reduceAdd, Nat.reduceSub, Array.replicate_succ, Array.replicate_zero, List.push_toArray, List.append_toArray, List.nil_append, List.cons_append]
  have i0 : ¬ (m : Int) < 0 := by omega
  have i1 : ¬ (line.size : Int) < (m : Int) := by omega
  have RC := hide (fun W => read_c hb m line W)
  gi_wp2_with (gi_at_call 26; refine (callsIn_wide.2 (RC.out _)).mono ?_; rintro e w5 ⟨rfl, h5⟩; subst w5)
  have X1 : ∀ (W : World) (o : Obj), (W.alloc o).heap[W.heap.size]? = some o := fun W o => alloc_new W o
  have KB : ∀ (W : World) (o : Obj) (k : Nat) (q : Obj), W.heap[k]? = some q → (W.alloc o).heap[k]? = some q := fun W o k q h => (Below.heap_alloc _ _ _ (Array.getElem?_eq_some_iff.1 h).1).trans h
  have S0 : (w.alloc (.cells #[.int .i64 (line.size : Int), .int .i64 0] 73)).heap.size = w.heap.size + 1 := by simp
  obtain ⟨wA, hwA⟩ : ∃ wA, wA = w.alloc (.cells #[.int .i64 (line.size : Int), .int .i64 0] 73) := ⟨_, rfl⟩
  have xA : wA.heap[w.heap.size]? = some (.cells #[.int .i64 (line.size : Int), .int .i64 0] 73 (0, 0)) := by rw [hwA]; exact X1 _ _
  rw [← hwA] at S0 ⊢
  have bA : Below w.heap.size w wA := by rw [hwA]; exact (Below.refl _ _).alloc (Nat.le_refl _) _
  clear hwA
  obtain ⟨wB, hwB⟩ : ∃ wB, wB = wA.alloc (.cells #[.pointer (some ⟨hb, 0, none⟩)] 25) := ⟨_, rfl⟩
  have xB : wB.heap[w.heap.size + 1]? = some (.cells #[.pointer (some ⟨hb, 0, none⟩)] 25 (0, 0)) := by rw [hwB, ← S0]; exact X1 _ _
  have SB : wB.heap.size = w.heap.size + 1 + 1 := by rw [hwB]; simp [S0]
  have bB : Below wA.heap.size wA wB := by rw [hwB]; exact (Below.refl _ _).alloc (Nat.le_refl _) _
  rw [← hwB] at ⊢
  clear hwB
  obtain ⟨wC, hwC⟩ : ∃ wC, wC = wB.alloc (.cells #[.string line] 9) := ⟨_, rfl⟩
  have xC : wC.heap[w.heap.size + 1 + 1]? = some (.cells #[.string line] 9 (0, 0)) := by rw [hwC, ← SB]; exact X1 _ _
  have SC : wC.heap.size = w.heap.size + 1 + 2 := by rw [hwC]; simp [SB]
  have bC : Below wB.heap.size wB wC := by rw [hwC]; exact (Below.refl _ _).alloc (Nat.le_refl _) _
  rw [← hwC] at ⊢
  clear hwC
  obtain ⟨wD, hwD⟩ : ∃ wD, wD = wC.alloc (.cells #[.int .i64 (m : Int)] 3) := ⟨_, rfl⟩
  have xD : wD.heap[w.heap.size + 1 + 2]? = some (.cells #[.int .i64 (m : Int)] 3 (0, 0)) := by rw [hwD, ← SC]; exact X1 _ _
  have bD : Below wC.heap.size wC wD := by rw [hwD]; exact (Below.refl _ _).alloc (Nat.le_refl _) _
  rw [← hwD] at ⊢
  clear hwD X1 KB
  have b3 := hide (chain (chain bB bC (Nat.le_refl _)) bD (Nat.le_refl _))
  have bAll := hide (bA.trans (b3.out.mono (by omega)))
  have YA := hide ((b3.out.block _ (by omega)).trans xA)
  have YB := hide (((chain bC bD (Nat.le_refl _)).block _ (by omega)).trans xB)
  have YC := hide ((bD.block _ (by omega)).trans xC)
  have YD := hide xD
  have SZ := hide (show w.heap.size ≤ wD.heap.size from bAll.out.size)
  have HD := hide (show Hu base wD f ws T D R K lg from ⟨HHu.out.tr.below bAll.out, HHu.out.d, HHu.out.kw, HHu.out.bk, HHu.out.wh, HHu.out.lg, HHu.out.ok⟩)
  clear xA xB xC xD S0 SB SC bA bB bC bD b3
  have HPOS := hide HT.out.1
  have TL := read_tells (n - 1) (by omega) HD.out YB.out YD.out YC.out hm hsz (hb := hb)
  have HP := hide (show 0 < wD.heap.size from Nat.lt_of_lt_of_le HPOS.out SZ.out)
  have I0 := hide (show NxI base f ws line m T D R K hb lg st w w.heap.size [] wD from ⟨line.size, 0, 0, ⟨by
    have h5 := (bAll.out.block _ HBL.out).trans HH.out
    rw [show wrap64 (st + ((0 : Nat) : Int)) = st by simp [hst]]
    exact h5, HD.out.tr, HT.out.below bAll.out, YA.out, Fr.of_below bAll.out, Nat.le_refl _⟩, fst0 HHu.out.ok, by simp [lastL], fun j x hx => by simp at hx⟩)
  refine range_told6 (α := St3) h1 (gf := 41) (lb := #[.pointer (some ⟨w.heap.size + 1, 0, none⟩), .pointer (some ⟨w.heap.size + 1 + 2, 0, none⟩), .pointer (some ⟨w.heap.size + 1 + 1, 0, none⟩)]) rfl (enters_of Tryd.func41 (by kernel_rfl) rfl) (encs := encS T) (fun _ => rfl) TL
    (NxI base f ws line m T D R K hb lg st w w.heap.size) (fun pre x V => NxJ base f ws line m T D R K hb lg st w w.heap.size pre x V) (NxX base f ws line m T D R K hb lg st w w.heap.size)
    (fun pre A A' row hi hg hr => ?_) (fun pre x => ?_) (fun c pre A A' row hi hg hr => ?_) (fun pre V h => ?_) (fun pre A B hi hf => ?_) (fun pre x V0 V ht => ?_) (fun pre x V0 V hi ht => ?_) I0.out
    (fun x => { tmps := #[.pointer (some ⟨hb, 0, none⟩), .string line, .int .i64 (m : Int), undef, undef, undef, .int .i64 0, .int .i64 0, .bool false, .pointer (some ⟨w.heap.size, 0, none⟩), .int .i64 (x.1 : Int), nodeP T x.2.1, .int .i64 (m : Int), .bool false, .bool false, .int .i64 (m : Int), .string line, .int .i64 (line.size : Int), .bool false, .bool false, .string line, .int .i64 (line.size : Int), .agg #[.int .i64 (line.size : Int), .int .i64 0], .pointer (some ⟨hb, 0, none⟩), .string line, .int .i64 (m : Int), .func (.func 41) #[] #[.pointer (some ⟨w.heap.size + 1, 0, none⟩), .pointer (some ⟨w.heap.size + 1 + 2, 0, none⟩), .pointer (some ⟨w.heap.size + 1 + 1, 0, none⟩)], .int .i64 (x.1 : Int), nodeP T x.2.1, undef, undef, undef, undef, undef, undef, undef, undef, undef, undef, undef, undef, undef, undef, undef, undef, undef, undef, undef, undef, undef, undef, undef, undef, undef, undef, undef, undef, undef, undef, undef, undef, undef, undef, undef, undef, undef, undef, undef, undef, undef, undef, undef, undef, undef, undef, undef], defers := [] }) ?_ ?_ ?_ ?_
  · obtain ⟨a, b, c, q1, q2, q3, q4⟩ := hi
    exact ⟨a, b, c, q1.grown SZ.out HP.out hg hr, q2, q3, q4⟩
  · rintro _ A A' row ⟨a, b, c, q1, q2⟩ hg hr
    exact ⟨a, b, c, q1.grown SZ.out HP.out hg hr, q2⟩
  · obtain ⟨e, a, b, c, q1, q2⟩ := hi
    exact ⟨e, a, b, c, q1.grown SZ.out HP.out hg hr, q2⟩
  · obtain ⟨a, b, c, q1, q2⟩ := h
    exact ⟨q1.tr, _, q1.hm⟩
  · obtain ⟨a, b, c, q1, q2⟩ := hi
    exact ⟨a, b, c, q1.ft hf, q2⟩
  · obtain ⟨T', f', lg', st', h5⟩ := ht.hm
    exact ht.bump.only h5
  · obtain ⟨a, b, c, q1, q2, q3, q4⟩ := hi
    refine ⟨a, b, c + (1 + x.2.2), q1.bump (by exact_mod_cast ht.bump) HZ.out HBL.out, q2, ?_, ht.good⟩
    have := ht.len
    omega
  · intro l x W K' hK
    simp only [encS]
    gi_wp2
    exact hK
  · rintro l pre ⟨e, r, kk⟩ V ⟨a, b, c, q1, q2, q3, q4⟩
    dsimp only
    obtain ⟨he, hlt, hlg⟩ := q4 pre.length (e, r, kk) (by simp)
    simp only at he hlt hlg
    have N1 := hide q1
    have F1 := hide q2
    have C1 := hide q3
    have G1 := hide q4
    have LG := hide hlg
    have HE := hide he
    have hrD : D r := hlg.2.1
    have cd := q1.tr.cDep hrD
    have cb := cell_row q1.bx (i := 0) rfl
    have l1 := q1.tr.lt hrD
    have l2 := lt_of_heap q1.bx
    have hrl : r.length ≤ e := by have := hlg.len; rw [rdP_len (by omega)] at this; omega
    have hee : e ≤ line.size := by omega
    have wsub : IntKind.wrap .i64 ((e : Int) - (r.length : Int)) = (e : Int) - (r.length : Int) := by rw [IntKind.wrap_i64]; omega
    clear q1 q2 q3 q4 hlg he
    gi_upto_region 7 with fail
    refine wpIn_region_ext (by kernel_rfl) (by kernel_rfl) (by kernel_rfl) (fun ⟨_, _, h⟩ => h) ?_
    repeat (go_big_quiet_step (first | exact rfl))
    refine wpQuiet_nil ?_
    intro V5 hw
    have B5 := hide (ext_of hw)
    have N5 := hide (N1.out.below B5.out)
    clear hw cd cb l1 l2 wsub
    by_cases hgt : (a : Int) < (e : Int) - (r.length : Int)
    · have FIN := hide (show NxX base f ws line m T D R K hb lg st w w.heap.size (.exit 0) (pre ++ [(e, r, kk)]) V5 from ⟨rfl, a, b, c, N5.out, fst_stop HHu.out F1.out (by have := HE.out; omega) LG.out (by have := HE.out; omega), by have := C1.out; simp only at this; omega⟩)
      gi_wp2
      exact ⟨keeps_below B5.out, FIN.out⟩
    · have cw := N5.out.tr.cWh hrD
      have WR := hide (wh_lg (WK_D HHu.out) LG.out (HHu.out.wh r hrD))
      have EI := hide (show e = m + (pre.length + 1) by have := HE.out; omega)
      have CC := hide (show c + lastL (pre ++ [(e, r, kk)]) ≤ 2 * (pre ++ [(e, r, kk)]).length by have := C1.out; simp [lastL] at this ⊢; omega)
      rcases hwh : (K r).wh with _ | y
      · rw [hwh] at cw WR
        simp only [ndV, ndA] at cw
        have F2 := hide (fst_none HHu.out F1.out (by have := EI.out; omega) WR.out)
        have FIN := hide (show NxI base f ws line m T D R K hb lg st w w.heap.size (pre ++ [(e, r, kk)]) V5 from ⟨a, b, c, N5.out, by rw [List.length_append]; exact F2.out, CC.out, G1.out⟩)
        clear hwh
        gi_wp2
        exact ⟨keeps_below B5.out, TKeep.below B5.out, FIN.out⟩
      · rw [hwh] at cw WR
        simp only [ndV, ndA] at cw
        have YD := hide (N5.out.tr.whd r y hrD hwh)
        have cy := N5.out.tr.cDep YD.out
        have cs0 := cell_row N5.out.bx (i := 0) rfl
        have cs1 := cell_row N5.out.bx (i := 1) rfl
        have l1 := N5.out.tr.lt hrD
        have l3 := N5.out.tr.lt YD.out
        have l2 := lt_of_heap N5.out.bx
        have YL := hide (show y.length ≤ e ∧ WK K y by
          rcases WR.out with ⟨q, _⟩ | ⟨z, q1, q2, q3, _⟩
          · cases q
          · cases q1; have := q2.length_le; rw [rdP_len (by have := EI.out; omega)] at this; exact ⟨by have := EI.out; omega, q3⟩)
        obtain ⟨nn, hnn⟩ : ∃ nn, LeastK K y nn := exists_least (by obtain ⟨k, _, hk⟩ := set_ne.1 YL.out.2; exact ⟨k, hk⟩)
        have F2 := hide (fst_some HHu.out F1.out (by have := EI.out; omega) WR.out hnn)
        have wsub : IntKind.wrap .i64 ((e : Int) - (y.length : Int)) = ((e - y.length : Nat) : Int) := by have := YL.out.1; rw [IntKind.wrap_i64]; omega
        have LC := hide (fun W (h : Below V5.heap.size V5 W) => least_c (N5.out.tr.below h) (N5.out.tab.below h) YD.out hnn)
        have EC := hide (fun W => earlier_c a b (e - y.length) nn W)
        clear hwh hnn
        gi_upto_region 9 with fail
        refine wpIn_region_last_lit (by simp) (by kernel_rfl) (by kernel_rfl) (fun ⟨_, _, h⟩ => h) (by kernel_rfl) (by kernel_rfl) ?_
        simp only [List.dropLast_cons_cons, List.dropLast_singleton, List.getLast_cons_cons, List.getLast_singleton]
        repeat (go_big_quiet_step (first | exact rfl | (go_at_call 28; (with_reducible exact ext_call (LC.out _ (ext_below _)))) | (go_at_call 27; (with_reducible exact ext_call (EC.out _)))))
        refine wpQuiet_nil ?_
        intro V6 hw6
        have B6 := hide (ext_of hw6)
        have N6 := hide (N5.out.below B6.out)
        clear hw6 cs0 cs1 l1 l2 l3 cw cy
        have cs0 := cell_row N6.out.bx (i := 0) rfl
        have cs1 := cell_row N6.out.bx (i := 1) rfl
        have fs0 := frz_row N6.out.bx 0
        have fs1 := frz_row N6.out.bx 1
        obtain ⟨P, hP⟩ : ∃ P, earl a b (e - y.length) nn = P := ⟨_, rfl⟩
        rw [← EI.out, hP] at F2
        have FIN := hide (show KeepsFrom wD.heap.size V ((V6.setCell ⟨w.heap.size, 0, none⟩ (.int .i64 (P.1 : Int))).setCell ⟨w.heap.size, 1, none⟩ (.int .i64 (P.2 : Int))) ∧ TKeep (fun k _ => k = w.heap.size + 1 ∨ k = w.heap.size + 1 + 1) V ((V6.setCell ⟨w.heap.size, 0, none⟩ (.int .i64 (P.1 : Int))).setCell ⟨w.heap.size, 1, none⟩ (.int .i64 (P.2 : Int))) ∧ NxI base f ws line m T D R K hb lg st w w.heap.size (pre ++ [(e, r, kk)]) ((V6.setCell ⟨w.heap.size, 0, none⟩ (.int .i64 (P.1 : Int))).setCell ⟨w.heap.size, 1, none⟩ (.int .i64 (P.2 : Int))) from by
          have hF : Fr (fun k => k = w.heap.size) V6 ((V6.setCell ⟨w.heap.size, 0, none⟩ (.int .i64 (P.1 : Int))).setCell ⟨w.heap.size, 1, none⟩ (.int .i64 (P.2 : Int))) := ((Fr.refl (fun k => k = w.heap.size) V6).setCell (p := ⟨w.heap.size, 0, none⟩) rfl _).setCell (p := ⟨w.heap.size, 1, none⟩) rfl _
          have hB := chain B5.out B6.out (Nat.le_refl _)
          have hC : CellsOnly V6 ((V6.setCell ⟨w.heap.size, 0, none⟩ (.int .i64 (P.1 : Int))).setCell ⟨w.heap.size, 1, none⟩ (.int .i64 (P.2 : Int))) := (cellsOnly_set N6.out.bx _).trans (cellsOnly_set (heap_set_in N6.out.bx 0 _) _)
          refine ⟨(keeps_below hB).trans (hC.keeps hF.size _), (TKeep.below hB).trans (hF.tkeep (fun k cur t fr hk _ hN => by omega)), P.1, P.2, c, N6.out.set HBL.out _ _, by rw [List.length_append]; exact F2.out, CC.out, G1.out⟩)
        rw [hP]
        clear hP
        go_wp2
        exact FIN.out
  · rintro D' xs V hD' ⟨hS1, hS2⟩ ⟨a, b, c, q1, q2, q3, q4⟩ hK
    have N := hide q1
    have FA := hide (fst_all HHu.out.ok (by rw [hS2] at q2; exact q2) hm)
    have CB := hide (show c ≤ 2 * (line.size - m) by omega)
    have HK := hide hK
    have HDD := hide hD'
    clear q1 q2 q3 q4 hS1 hS2 hK hD' TL I0
    obtain ⟨hNP, hNP2⟩ : True ∧ NxS base f T D R K hb lg st w w.heap.size a b c (V.putObj D' (.deferred none)) := ⟨trivial, N.out.grown SZ.out HP.out (grownBy_putObj' V D' (.deferred none)) (fun r e => by cases e; exact ⟨HDD.out, _, HK.out, rfl⟩)⟩
    have NP := hide hNP2
    clear hNP hNP2
    have ca := cell_row N.out.bx (i := 0) rfl
    have cb := cell_row N.out.bx (i := 1) rfl
    by_cases hae : a = line.size
    · have e0 : ((a : Int) == (line.size : Int)) = true := by rw [beq_iff_eq]; omega
      have NON := hide (show NxA f ws line (m : Int) 0 0 false from .inr ⟨m, rfl, hm, .inl ⟨rfl, rfl, rfl, by
        rcases FA.out with ⟨_, _, q⟩ | ⟨_, ⟨s, q1, q2⟩, _⟩
        · exact q
        · have := sd_len q2 ((mayB_of HHu.out.ok).1 s (List.mem_of_getElem? q1)).1
          have := ((mayB_of HHu.out.ok).1 s (List.mem_of_getElem? q1)).1
          omega⟩⟩)
      clear hae
      gi_wp2
      refine ⟨by simp, .inl ⟨_, _, rfl, run_takeDeferred HK.out, ?_⟩⟩
      exact ⟨.tuple #[.int .i64 0, .int .i64 0, .bool false], by simp [results, Tryd.results13, go_sem], 0, 0, false, c, rfl, NON.out, by have := CB.out; omega, NP.out.hm, NP.out.fr⟩
    · have e0 : ((a : Int) == (line.size : Int)) = false := by rw [beq_eq_false_iff_ne]; omega
      have YES := hide (show NxA f ws line (m : Int) (a : Int) (b : Int) true from .inr ⟨m, rfl, hm, .inr (by
        rcases FA.out with ⟨q, _⟩ | ⟨q1, q2, q3⟩
        · exact absurd q hae
        · exact ⟨a, b, rfl, rfl, rfl, q1, q2, q3⟩)⟩)
      have c3 := cell_row N.out.hm (i := 3) rfl
      have f3 := frz_row N.out.hm 3
      have BU := bump_set (d := ((1 : Nat) : Int)) N.out.hm
      rw [show ((1 : Nat) : Int) = 1 from rfl] at BU
      have N2 := hide (N.out.bump (d := 1) BU HZ.out HBL.out)
      have K2 := hide (cellsOnly_set N.out.hm (j := 3) (.int .i64 (wrap64 (wrap64 (st + (c : Int)) + 1))) D' _ HK.out rfl)
      have hbl2 := lt_of_heap N.out.hm
      clear hae BU
      gi_upto_region 13 with fail
      generalize (V.setCell ⟨hb, 3, none⟩ (.int .i64 (wrap64 (wrap64 (st + (c : Int)) + 1)))) = V2 at N2 K2 ⊢
      clear c3 f3 ca cb
      have ca := cell_row N2.out.bx (i := 0) rfl
      have cb := cell_row N2.out.bx (i := 1) rfl
      have l2 := lt_of_heap N2.out.bx
      refine (wpIn_wide (n := n)).2 ?_
      go_quiet (fail)
      have BD := hide (below_drewN V2 nq)
      have K3 := hide ((BD.out.block _ (Array.getElem?_eq_some_iff.1 K2.out).1).trans K2.out)
      have N3 := hide (N2.out.below BD.out)
      generalize V2.drewN nq = V3 at K3 N3 ⊢
      have NP2 := hide (N3.out.grown SZ.out HP.out (grownBy_putObj' V3 D' (.deferred none)) (fun r e => by cases e; exact ⟨HDD.out, _, K3.out, rfl⟩))
      gi_wp2
      refine ⟨by simp, .inl ⟨_, _, rfl, run_takeDeferred K3.out, ?_⟩⟩
      exact ⟨.tuple #[.int .i64 (a : Int), .int .i64 (b : Int), .bool true], by simp [results, Tryd.results13, go_sem], _, _, true, c + 1, rfl, YES.out, by have := CB.out; omega, NP2.out.hm, NP2.out.fr⟩
  · rintro D' c' pre V hD' hSp ⟨rfl, a, b, c, q1, q2, q3⟩ hK
    have N := hide q1
    have FA := hide q2
    have CB := hide q3
    have HK := hide hK
    have HDD := hide hD'
    clear q1 q2 q3 hSp hK hD' TL I0
    obtain ⟨hNP, hNP2⟩ : True ∧ NxS base f T D R K hb lg st w w.heap.size a b c (V.putObj D' (.deferred none)) := ⟨trivial, N.out.grown SZ.out HP.out (grownBy_putObj' V D' (.deferred none)) (fun r e => by cases e; exact ⟨HDD.out, _, HK.out, rfl⟩)⟩
    have NP := hide hNP2
    clear hNP hNP2
    have ca := cell_row N.out.bx (i := 0) rfl
    have cb := cell_row N.out.bx (i := 1) rfl
    by_cases hae : a = line.size
    · have e0 : ((a : Int) == (line.size : Int)) = true := by rw [beq_iff_eq]; omega
      have NON := hide (show NxA f ws line (m : Int) 0 0 false from .inr ⟨m, rfl, hm, .inl ⟨rfl, rfl, rfl, by
        rcases FA.out with ⟨_, _, q⟩ | ⟨_, ⟨s, q1, q2⟩, _⟩
        · exact q
        · have := sd_len q2 ((mayB_of HHu.out.ok).1 s (List.mem_of_getElem? q1)).1
          have := ((mayB_of HHu.out.ok).1 s (List.mem_of_getElem? q1)).1
          omega⟩⟩)
      clear hae
      gi_wp2
      refine ⟨by simp, .inl ⟨_, _, rfl, run_takeDeferred HK.out, ?_⟩⟩
      exact ⟨.tuple #[.int .i64 0, .int .i64 0, .bool false], by simp [results, Tryd.results13, go_sem], 0, 0, false, c, rfl, NON.out, by have := CB.out; omega, NP.out.hm, NP.out.fr⟩
    · have e0 : ((a : Int) == (line.size : Int)) = false := by rw [beq_eq_false_iff_ne]; omega
      have YES := hide (show NxA f ws line (m : Int) (a : Int) (b : Int) true from .inr ⟨m, rfl, hm, .inr (by
        rcases FA.out with ⟨q, _⟩ | ⟨q1, q2, q3⟩
        · exact absurd q hae
        · exact ⟨a, b, rfl, rfl, rfl, q1, q2, q3⟩)⟩)
      have c3 := cell_row N.out.hm (i := 3) rfl
      have f3 := frz_row N.out.hm 3
      have BU := bump_set (d := ((1 : Nat) : Int)) N.out.hm
      rw [show ((1 : Nat) : Int) = 1 from rfl] at BU
      have N2 := hide (N.out.bump (d := 1) BU HZ.out HBL.out)
      have K2 := hide (cellsOnly_set N.out.hm (j := 3) (.int .i64 (wrap64 (wrap64 (st + (c : Int)) + 1))) D' _ HK.out rfl)
      have hbl2 := lt_of_heap N.out.hm
      clear hae BU
      gi_upto_region 13 with fail
      generalize (V.setCell ⟨hb, 3, none⟩ (.int .i64 (wrap64 (wrap64 (st + (c : Int)) + 1)))) = V2 at N2 K2 ⊢
      clear c3 f3 ca cb
      have ca := cell_row N2.out.bx (i := 0) rfl
      have cb := cell_row N2.out.bx (i := 1) rfl
      have l2 := lt_of_heap N2.out.bx
      refine (wpIn_wide (n := n)).2 ?_
      go_quiet (fail)
      have BD := hide (below_drewN V2 nq)
      have K3 := hide ((BD.out.block _ (Array.getElem?_eq_some_iff.1 K2.out).1).trans K2.out)
      have N3 := hide (N2.out.below BD.out)
      generalize V2.drewN nq = V3 at K3 N3 ⊢
      have NP2 := hide (N3.out.grown SZ.out HP.out (grownBy_putObj' V3 D' (.deferred none)) (fun r e => by cases e; exact ⟨HDD.out, _, K3.out, rfl⟩))
      gi_wp2
      refine ⟨by simp, .inl ⟨_, _, rfl, run_takeDeferred K3.out, ?_⟩⟩
      exact ⟨.tuple #[.int .i64 (a : Int), .int .i64 (b : Int), .bool true], by simp [results, Tryd.results13, go_sem], _, _, true, c + 1, rfl, YES.out, by have := CB.out; omega, NP2.out.hm, NP2.out.fr⟩
theorem next_bad {w : World} {hb : Nat} {line : ByteArray} {m : Int} (hm : m < 0 ∨ (line.size : Int) < m) :
    Calls Tryd.prog 13 #[.pointer (some ⟨hb, 0, none⟩), .string line, .int .i64 m] w fun e w' => e = .returned (.tuple #[.int .i64 0, .int .i64 0, .bool false]) ∧ w' = w := by
  by_cases h0 : m < 0
  · clear hm
    refine (callsIn_wide (n := 4)).1 ?_
    refine callsIn_of_wp_marks Tryd.func13 rfl trivial ?_ rfl
    simp only [Tryd.ntmps13, List.size_toArray, List.length_cons, List.length_nil, Nat.reduceAdd, Nat.reduceSub, Array.replicate_succ, Array.replicate_zero, List.push_toArray, List.append_toArray, List.nil_append, List.cons_append]
    gi_wp2
    exact ⟨.tuple #[.int .i64 0, .int .i64 0, .bool false], by simp [results, Tryd.results13, go_sem], rfl, rfl⟩
  · have h1 : (line.size : Int) < m := by omega
    clear hm
    refine (callsIn_wide (n := 4)).1 ?_
    refine callsIn_of_wp_marks Tryd.func13 rfl trivial ?_ rfl
    simp only [Tryd.ntmps13, List.size_toArray, List.length_cons, List.length_nil, Nat.reduceAdd, Nat.reduceSub, Array.replicate_succ, Array.replicate_zero, List.push_toArray, List.append_toArray, List.nil_append, List.cons_append]
    gi_wp2
    exact ⟨.tuple #[.int .i64 0, .int .i64 0, .bool false], by simp [results, Tryd.results13, go_sem], rfl, rfl⟩
end Go.Proofs.YtaikcnoiaaiopaaDoor
