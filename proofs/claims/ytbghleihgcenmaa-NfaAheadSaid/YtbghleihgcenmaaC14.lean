/-
  Parts of the proof.
-/
import Derived.Test.YtbghleihgcenmaaC13
import Derived.WalkMore
import Derived.Deep.DeepCutAuto
import Derived.Deep.CutBlock
import Derived.Deep.LoopGhost
import Derived.Deep.RegionHeld
set_option linter.unusedSimpArgs false
namespace Go.Proofs.Ytbghleihgcenmaa
open Go Go.RowKit
attribute [local go_sem] Oper.semAt_some
structure PlI (w : World) (rb : Nat) (p : Pg) (s : ByteArray) (A B : Cr4) (la lb : List Int) : Prop where
  hr : RunB w rb p s A B 0
  ha : CrB w A p.L.length [] la
  hb : CrB w B p.L.length [] lb
  gp : GP p.L
  li : LI w p.q p.L
  ab : ∀ k, ownC A k → ¬ ownC B k
  ra : ¬ ownC A rb
  rb1 : ¬ ownC B rb
  no : ∀ g o, p.q = some ⟨g, o, none⟩ → g < w.heap.size ∧ g ≠ rb ∧ ¬ ownC A g ∧ ¬ ownC B g
def PlR (P : List Ins) (s : ByteArray) (first last : Nat) (rb : Nat) (w : World) (own : Nat → Prop) (p : Pg) (e : Ending) (w' : World) : Prop :=
  ∃ fd F T, e = .returned (.tuple #[.agg #[.int .i64 F, .int .i64 T], .bool fd]) ∧ FinM P (sL s) first last fd F T ∧ (∃ A B st, RunB w' rb p s A B st) ∧ Fr own w w'
section
variable {w W0 wr w' : World} {own : Nat → Prop} {rb pb ob first last : Nat} {p : Pg} {s : ByteArray} {A B A0 B0 : Cr4} {st : Int} {X l Y m la lb : List Int} {F T : Int} {fd : Bool}
theorem pl_start (H : PlI w rb p s A B la lb) (hB : Below w.heap.size w W0) (hp : W0.heap[w.heap.size + 1]? = some (.cells #[.int .i64 0, .int .i64 0] 30 (0, 0))) (hpb : w.heap.size + 1 = pb) : PlW W0 (fun k => ownC A k ∨ ownC B k ∨ k = rb ∨ k = pb) rb pb p s A B 0 [] la [] lb 0 0 W0 := by
  subst hpb
  have la' := H.ha.lt
  have lb' := H.hb.lt
  have lr := lt_of_heap H.hr
  refine ⟨(hB.block _ lr).trans H.hr, H.ha.kept hB, H.hb.kept hB, H.li.kept hB, hp, Fr.refl _ _, fun k q => .inl q, fun k q => .inr (.inl q), .inr (.inr (.inl rfl)), .inr (.inr (.inr rfl)), H.ab, fun g o hq q => ?_, H.ra, H.rb1, fun q => by have := la' _ q; omega, fun q => by have := lb' _ q; omega, by omega⟩
  obtain ⟨h0, h1, h2, h3⟩ := H.no g o hq
  rcases q with q | q | q | q
  · exact h2 q
  · exact h3 q
  · exact h1 q
  · omega
theorem cw_start : Cw p.L (sL s) first last first first [] (bgOf lb) false 0 := ⟨fun _ q => by (cases q), List.Pairwise.nil, fun b a h1 _ h3 => by omega⟩
theorem fd_start : Fd p.L (sL s) first last first false 0 0 := ⟨fun _ => ⟨rfl, rfl⟩, fun _ b e h1 _ h3 hm => by have := hm.ge; omega, fun q => by cases q⟩
theorem pl_ob (h : PlW W0 own rb pb p s A B st X l Y m F T wr) (OB : W0.heap[ob]? = some (.cells #[.int .i64 0, .int .i64 0] 30 (0, 0))) (hno : ¬ own ob) : wr.heap[ob]? = some (.cells #[.int .i64 0, .int .i64 0] 30 (0, 0)) := (h.fr.block _ (lt_of_heap OB) hno).trans OB
theorem pl_fin (h : PlW W0 (fun k => ownC A0 k ∨ ownC B0 k ∨ k = rb ∨ k = pb) rb pb p s A B st X l Y m F T wr) (hB : Below w.heap.size w W0) (hob : w.heap.size = ob) (hpb : w.heap.size + 1 = pb) (hro : rb ≠ ob) (hf : FinM p.L (sL s) first last fd F T) :
    PlR p.L s first last rb w (fun k => ownC A0 k ∨ ownC B0 k ∨ k = rb) p (.returned (.tuple #[.agg #[.int .i64 F, .int .i64 T], .bool fd])) ((wr.setCell ⟨ob, 0, none⟩ (.int .i64 F)).setCell ⟨ob, 1, none⟩ (.int .i64 T)) := by
  have hfr : Fr (fun k => k = ob) wr ((wr.setCell ⟨ob, 0, none⟩ (.int .i64 F)).setCell ⟨ob, 1, none⟩ (.int .i64 T)) := ((Fr.refl (fun k => k = ob) _).setCell (p := ⟨ob, 0, none⟩) rfl _).setCell (p := ⟨ob, 1, none⟩) rfl _
  have h1 : Fr (fun k => ownC A0 k ∨ ownC B0 k ∨ k = rb) w wr := ⟨h.fr.os.trans hB.os, h.fr.tape.trans hB.tape, h.fr.output.trans hB.output, Nat.le_trans hB.size h.fr.size, fun i hi hn => (h.fr.block i (Nat.lt_of_lt_of_le hi hB.size) (fun q => by
    rcases q with q | q | q | q
    · exact hn (.inl q)
    · exact hn (.inr (.inl q))
    · exact hn (.inr (.inr q))
    · omega)).trans (hB.block i hi)⟩
  refine ⟨fd, F, T, rfl, hf, ⟨A, B, st, (hfr.block _ (lt_of_heap h.hr) hro).trans h.hr⟩, ?_⟩
  exact (h1.setNew (p := ⟨ob, 0, none⟩) (by show w.heap.size ≤ ob; omega) _).setNew (p := ⟨ob, 1, none⟩) (by show w.heap.size ≤ ob; omega) _
theorem run_swap {V : World} (h : RunB V rb p s A B st) : RunB ((((V.setCell ⟨rb, 2, none⟩ (.pointer (some ⟨B.mb, 0, none⟩))).setCell ⟨rb, 3, none⟩ (.slice (some ⟨B.gb, 0, none⟩) p.L.length p.L.length)).setCell ⟨rb, 4, none⟩ (.pointer (some ⟨A.mb, 0, none⟩))).setCell ⟨rb, 5, none⟩ (.slice (some ⟨A.gb, 0, none⟩) p.L.length p.L.length)) rb p s B A st := heap_set_in (heap_set_in (heap_set_in (heap_set_in h 2 _) 3 _) 4 _) 5 _
theorem run_fr4 (V : World) (a b c d : Value) : Fr (fun k => k = rb) V ((((V.setCell ⟨rb, 2, none⟩ a).setCell ⟨rb, 3, none⟩ b).setCell ⟨rb, 4, none⟩ c).setCell ⟨rb, 5, none⟩ d) := ((((Fr.refl (fun k => k = rb) _).setCell (p := ⟨rb, 2, none⟩) rfl _).setCell (p := ⟨rb, 3, none⟩) rfl _).setCell (p := ⟨rb, 4, none⟩) rfl _).setCell (p := ⟨rb, 5, none⟩) rfl _
end
set_option maxRecDepth 100000 in
set_option maxHeartbeats 16000000 in
theorem play_c {w : World} {rb : Nat} {p : Pg} {s : ByteArray} {A B : Cr4} {la lb : List Int} {first last : Nat} (H : PlI w rb p s A B la lb) (hfl : first ≤ last) (hls : last ≤ s.size) (hsz : s.size ≤ 4611686018427387904) :
    Calls Try.prog 14 #[.pointer (some ⟨rb, 0, none⟩), .int .i64 (first : Int), .int .i64 (last : Int)] w (PlR p.L s first last rb w (fun k => ownC A k ∨ ownC B k ∨ k = rb) p) := by
  have HH := hide H
  have hn := H.gp.len
  have lrb := lt_of_heap H.hr
  have lA := hide H.ha.lt
  have lB := hide H.hb.lt
  clear H
  have B0 : Hid (Below w.heap.size w ((w.alloc (.cells #[.int .i64 0, .int .i64 0] 30)).alloc (.cells #[.int .i64 0, .int .i64 0] 30))) := ((Below.refl _ _).alloc (Nat.le_refl _) _).alloc (by simp) _
  have OB : Hid (((w.alloc (.cells #[.int .i64 0, .int .i64 0] 30)).alloc (.cells #[.int .i64 0, .int .i64 0] 30)).heap[w.heap.size]? = some (.cells #[.int .i64 0, .int .i64 0] 30 (0, 0))) := (Below.heap_alloc _ _ _ (by simp)).trans (alloc_new w _)
  have PB : Hid (((w.alloc (.cells #[.int .i64 0, .int .i64 0] 30)).alloc (.cells #[.int .i64 0, .int .i64 0] 30)).heap[w.heap.size + 1]? = some (.cells #[.int .i64 0, .int .i64 0] 30 (0, 0))) := (by
    have := alloc_new (w.alloc (.cells #[.int .i64 0, .int .i64 0] 30)) (.cells #[.int .i64 0, .int .i64 0] 30)
    rwa [World.size_alloc] at this)
  go_enter Try.func14, Try.ntmps14
  go_upto_region 1 with fail
  go_step3
  go_upto_region 2 with fail
  generalize ((w.alloc (.cells #[.int .i64 0, .int .i64 0] 30)).alloc (.cells #[.int .i64 0, .int .i64 0] 30)) = W0 at B0 OB PB ⊢
  obtain ⟨pb, hpb⟩ : ∃ pb, w.heap.size + 1 = pb := ⟨_, rfl⟩
  obtain ⟨ob, hob⟩ : ∃ ob, w.heap.size = ob := ⟨_, rfl⟩
  have P0 := hide (pl_start HH.out B0.out PB.out hpb)
  have HPB := hide hpb
  have HOB := hide hob
  have nob : Hid (¬ (ownC A ob ∨ ownC B ob ∨ ob = rb ∨ ob = pb)) := hide (fun q => by
    rcases q with q | q | q | q
    · have := lA.out _ q; omega
    · have := lB.out _ q; omega
    · omega
    · omega)
  rw [hob] at OB ⊢
  rw [show ob + 1 = pb by omega]
  have hro : Hid (rb ≠ ob) := hide (by omega)
  clear hpb hob PB
  try go_step3
  --MARKA
  go_wp2
  go_loopw [9, 10] (fun f pv wr => ∃ (pl : Nat) (fd : Bool) (A' B' : Cr4) (st : Int) (X l Y m : List Int) (F T : Int), f = .bool fd ∧ pv = .int .i64 (pl : Int) ∧ first ≤ pl ∧ pl ≤ s.size + 1 ∧ PlW W0 (fun k => ownC A k ∨ ownC B k ∨ k = rb ∨ k = pb) rb pb p s A' B' st X l Y m F T wr ∧ Cw p.L (sL s) first last pl pl Y (bgOf m) fd F ∧ Fd p.L (sL s) first last pl fd F T) (fun f pv _ => s.size + 2 - (intOf pv).toNat)
  case atStart => exact ⟨first, false, A, B, 0, [], la, [], lb, 0, 0, rfl, rfl, Nat.le_refl _, by omega, P0.out, cw_start, fd_start⟩
  case round =>
    obtain ⟨pl, fd, A', B', st, X, l, Y, m, F, T, rfl, rfl, hfp, hpl, hP, hC, hD⟩ := hrel
    have P1 := hide hP
    have C1 := hide hC
    have D1 := hide hD
    have y1 : wr.cell? ⟨rb, 1, none⟩ = some (.string s) := cell_row hP.hr (i := 1) rfl
    clear hP hC hD P0
    by_cases hps : pl ≤ s.size
    case neg =>
      have i0 : ¬ (pl : Int) ≤ (s.size : Int) := by omega
      have OBW := pl_ob P1.out OB.out nob.out
      have o0 := cell_row OBW (i := 0) rfl
      have o1 := cell_row OBW (i := 1) rfl
      have g0 := frz_row OBW 0
      have g1 := frz_row OBW 1
      have q0 := cell_row P1.out.hp (i := 0) rfl
      have q1 := cell_row P1.out.hp (i := 1) rfl
      have FN := hide (pl_fin P1.out B0.out HOB.out HPB.out hro.out (fin_end D1.out (by rw [sL_len]; exact hls) (by rw [sL_len]; omega)))
      have hz := heap_set_in (heap_set_in OBW 0 (.int .i64 F)) 1 (.int .i64 T)
      have k0 := cell_row hz (i := 0) rfl
      have k1 := cell_row hz (i := 1) rfl
      clear hz OBW
      go_wp2
      refine bodyPost_ret (v := .tuple #[.agg #[.int .i64 F, .int .i64 T], .bool fd]) (by simp [results, Try.results14, go_sem, k0, k1]) rfl ?_
      exact FN.out
    case pos =>
      have i0 : (pl : Int) ≤ (s.size : Int) := by omega
      have HFP := hide hfp
      have HPS := hide hps
      go_upto_region 5 with fail
      --MARKB
      go_cut [35] (fun _ wx => PlW W0 (fun k => ownC A k ∨ ownC B k ∨ k = rb ∨ k = pb) rb pb p s B' A' st Y m X l F T wx)
      case first =>
        have RD : Hid (RunB wr.drew rb p s A' B' st) := P1.out.hr
        have PD : Hid (PlW W0 (fun k => ownC A k ∨ ownC B k ∨ k = rb ∨ k = pb) rb pb p s A' B' st X l Y m F T wr.drew) := hide (P1.out.below (Below.refl _ _).drew)
        refine wp_region_held_drew (S := fun _ => True) (by kernel_rfl) trivial ?_
        intro hS0
        generalize wr.drew = V at RD PD ⊢
        have r2 := cell_row RD.out (i := 2) rfl
        have r3 := cell_row RD.out (i := 3) rfl
        have r4 := cell_row RD.out (i := 4) rfl
        have r5 := cell_row RD.out (i := 5) rfl
        have f2 := frz_row RD.out 2
        have f3 := frz_row RD.out 3
        have f4 := frz_row RD.out 4
        have f5 := frz_row RD.out 5
        refine wpAnyH_take (i := 0) (oi := _) (v := ?_) rfl (by kernel_rfl) (by kernel_rfl) (by kernel_rfl) (fun _ _ _ h => h) (Or.inl ⟨by rfl, ?_⟩) (by assumption) ?_
        rotate_left
        · intro wz hSw
          go_simp
          try with_reducible rfl
        dsimp only [Act.put, List.getElem_toArray, List.getElem_cons_zero, List.getElem_cons_succ]
        simp only [List.setIfInBounds_toArray, List.set_cons_zero, List.set_cons_succ]
        refine wpAnyH_take (i := 1) (oi := _) (v := ?_) rfl (by kernel_rfl) (by kernel_rfl) (by kernel_rfl) (fun _ _ _ h => h) (Or.inl ⟨by rfl, ?_⟩) (by assumption) ?_
        rotate_left
        · intro wz hSw
          go_simp
          try with_reducible rfl
        dsimp only [Act.put, List.getElem_toArray, List.getElem_cons_zero, List.getElem_cons_succ]
        simp only [List.setIfInBounds_toArray, List.set_cons_zero, List.set_cons_succ]
        refine wpAnyH_take (i := 2) (oi := _) (v := ?_) rfl (by kernel_rfl) (by kernel_rfl) (by kernel_rfl) (fun _ _ _ h => h) (Or.inl ⟨by rfl, ?_⟩) (by assumption) ?_
        rotate_left
        · intro wz hSw
          go_simp
          try with_reducible rfl
        dsimp only [Act.put, List.getElem_toArray, List.getElem_cons_zero, List.getElem_cons_succ]
        simp only [List.setIfInBounds_toArray, List.set_cons_zero, List.set_cons_succ]
        refine wpAnyH_take (i := 3) (oi := _) (v := ?_) rfl (by kernel_rfl) (by kernel_rfl) (by kernel_rfl) (fun _ _ _ h => h) (Or.inl ⟨by rfl, ?_⟩) (by assumption) ?_
        rotate_left
        · intro wz hSw
          go_simp
          try with_reducible rfl
        dsimp only [Act.put, List.getElem_toArray, List.getElem_cons_zero, List.getElem_cons_succ]
        simp only [List.setIfInBounds_toArray, List.set_cons_zero, List.set_cons_succ]
        refine wpAnyH_take (i := 4) (oi := _) (v := ?_) rfl (by kernel_rfl) (by kernel_rfl) (by kernel_rfl) (fun _ _ _ h => h) (Or.inl ⟨by rfl, ?_⟩) (by assumption) ?_
        rotate_left
        · intro wz hSw
          go_simp
          try with_reducible rfl
        dsimp only [Act.put, List.getElem_toArray, List.getElem_cons_zero, List.getElem_cons_succ]
        simp only [List.setIfInBounds_toArray, List.set_cons_zero, List.set_cons_succ]
        refine wpAnyH_take (i := 6) (oi := _) (v := ?_) rfl (by kernel_rfl) (by kernel_rfl) (by kernel_rfl) (fun _ _ _ h => h) (Or.inl ⟨by rfl, ?_⟩) (by assumption) ?_
        rotate_left
        · intro wz hSw
          go_simp
          try with_reducible rfl
        dsimp only [Act.put, List.getElem_toArray, List.getElem_cons_zero, List.getElem_cons_succ]
        simp only [List.setIfInBounds_toArray, List.set_cons_zero, List.set_cons_succ]
        refine wpAnyH_take (i := 7) (oi := _) (v := ?_) rfl (by kernel_rfl) (by kernel_rfl) (by kernel_rfl) (fun _ _ _ h => h) (Or.inl ⟨by rfl, ?_⟩) (by assumption) ?_
        rotate_left
        · intro wz hSw
          go_simp
          try with_reducible rfl
        dsimp only [Act.put, List.getElem_toArray, List.getElem_cons_zero, List.getElem_cons_succ]
        simp only [List.setIfInBounds_toArray, List.set_cons_zero, List.set_cons_succ]
        refine wpAnyH_take (i := 8) (oi := _) (v := ?_) rfl (by kernel_rfl) (by kernel_rfl) (by kernel_rfl) (fun _ _ _ h => h) (Or.inl ⟨by rfl, ?_⟩) (by assumption) ?_
        rotate_left
        · intro wz hSw
          go_simp
          try with_reducible rfl
        dsimp only [Act.put, List.getElem_toArray, List.getElem_cons_zero, List.getElem_cons_succ]
        simp only [List.setIfInBounds_toArray, List.set_cons_zero, List.set_cons_succ]
        refine wpAnyH_ready (rs := [5, 9]) (by kernel_rfl) (by simp) ?_
        refine AllReadyH.cons rfl (fun K hK => ?_) (AllReadyH.cons rfl (fun K hK => ?_) AllReadyH.nil)
        · go_simp
          refine hK.out _ _ trivial (fun hSx => ?_)
          clear hK K hSx
          refine wpAnyH_ready (rs := [9]) (by kernel_rfl) (by simp) ?_
          refine AllReadyH.cons rfl (fun K hK => ?_) AllReadyH.nil
          go_simp
          refine hK.out _ _ trivial (fun hSx => ?_)
          clear hK K hSx
          refine wpAnyH_ready (rs := [10]) (by kernel_rfl) (by simp) ?_
          refine AllReadyH.cons rfl (fun K hK => ?_) AllReadyH.nil
          go_simp
          refine hK.out _ _ trivial (fun hSx => ?_)
          clear hK K hSx
          refine wpAnyH_ready (rs := [11]) (by kernel_rfl) (by simp) ?_
          refine AllReadyH.cons rfl (fun K hK => ?_) AllReadyH.nil
          go_simp
          refine hK.out _ _ trivial (fun hSx => ?_)
          clear hK K hSx
          refine wpAnyH_ready (rs := [12]) (by kernel_rfl) (by simp) ?_
          refine AllReadyH.cons rfl (fun K hK => ?_) AllReadyH.nil
          go_simp
          refine hK.out _ _ trivial (fun hSx => ?_)
          clear hK K hSx
          refine wpAnyH_ready (rs := [13]) (by kernel_rfl) (by simp) ?_
          refine AllReadyH.cons rfl (fun K hK => ?_) AllReadyH.nil
          go_simp
          refine hK.out _ _ trivial (fun hSx => ?_)
          clear hK K hSx
          refine wpAnyH_ready (rs := [14]) (by kernel_rfl) (by simp) ?_
          refine AllReadyH.cons rfl (fun K hK => ?_) AllReadyH.nil
          go_simp
          refine hK.out _ _ trivial (fun hSx => ?_)
          clear hK K hSx
          refine wpAnyH_ready (rs := [15]) (by kernel_rfl) (by simp) ?_
          refine AllReadyH.cons rfl (fun K hK => ?_) AllReadyH.nil
          go_simp
          refine hK.out _ _ trivial (fun hSx => ?_)
          clear hK K hSx
          refine wpAnyH_done (by kernel_rfl) ?_ _
          have SW := hide (PD.out.swap (run_fr4 V _ _ _ _) (run_swap RD.out))
          clear r2 r3 r4 r5 f2 f3 f4 f5
          go_wp2_with fail
          go_meet
          exact SW.out
        · go_simp
          refine hK.out _ _ trivial (fun hSx => ?_)
          clear hK K hSx
          refine wpAnyH_ready (rs := [5]) (by kernel_rfl) (by simp) ?_
          refine AllReadyH.cons rfl (fun K hK => ?_) AllReadyH.nil
          go_simp
          refine hK.out _ _ trivial (fun hSx => ?_)
          clear hK K hSx
          refine wpAnyH_ready (rs := [10]) (by kernel_rfl) (by simp) ?_
          refine AllReadyH.cons rfl (fun K hK => ?_) AllReadyH.nil
          go_simp
          refine hK.out _ _ trivial (fun hSx => ?_)
          clear hK K hSx
          refine wpAnyH_ready (rs := [11]) (by kernel_rfl) (by simp) ?_
          refine AllReadyH.cons rfl (fun K hK => ?_) AllReadyH.nil
          go_simp
          refine hK.out _ _ trivial (fun hSx => ?_)
          clear hK K hSx
          refine wpAnyH_ready (rs := [12]) (by kernel_rfl) (by simp) ?_
          refine AllReadyH.cons rfl (fun K hK => ?_) AllReadyH.nil
          go_simp
          refine hK.out _ _ trivial (fun hSx => ?_)
          clear hK K hSx
          refine wpAnyH_ready (rs := [13]) (by kernel_rfl) (by simp) ?_
          refine AllReadyH.cons rfl (fun K hK => ?_) AllReadyH.nil
          go_simp
          refine hK.out _ _ trivial (fun hSx => ?_)
          clear hK K hSx
          refine wpAnyH_ready (rs := [14]) (by kernel_rfl) (by simp) ?_
          refine AllReadyH.cons rfl (fun K hK => ?_) AllReadyH.nil
          go_simp
          refine hK.out _ _ trivial (fun hSx => ?_)
          clear hK K hSx
          refine wpAnyH_ready (rs := [15]) (by kernel_rfl) (by simp) ?_
          refine AllReadyH.cons rfl (fun K hK => ?_) AllReadyH.nil
          go_simp
          refine hK.out _ _ trivial (fun hSx => ?_)
          clear hK K hSx
          refine wpAnyH_done (by kernel_rfl) ?_ _
          have SW := hide (PD.out.swap (run_fr4 V _ _ _ _) (run_swap RD.out))
          clear r2 r3 r4 r5 f2 f3 f4 f5
          go_wp2_with fail
          go_meet
          exact SW.out
      case rest =>
      have P2 := hide hcut
      clear hcut P1 y1
      have r4 := cell_row P2.out.hr (i := 4) rfl
      have CL := hide (clear_c P2.out.hb.m)
      go_upto_region 7 with (go_at_call 18; (with_reducible refine (CL.out).mono ?_); rintro e w3 ⟨rfl, h1, h2⟩; have P3 := hide (P2.out.clearB h1 h2); clear h1 h2)
      clear r4 CL P2
      obtain ⟨ge, hge⟩ : ∃ b : Bool, b = (decide (pl ≤ last) && !fd) := ⟨_, rfl⟩
      have HGE := hide hge
      clear hge
      go_cut [52] (fun v wx => v = .bool ge ∧ wx = w3)
      case first =>
        by_cases hl : pl ≤ last
        · have i1 : (pl : Int) ≤ (last : Int) := by omega
          have HL := hide hl
          clear hl
          cases fd
          · have e : ge = true := by rw [HGE.out, decide_eq_true HL.out]; rfl
            subst e
            go_wp2_with fail
            go_meet
            exact ⟨rfl, rfl⟩
          · have e : ge = false := by rw [HGE.out]; simp
            subst e
            go_wp2_with fail
            go_meet
            exact ⟨rfl, rfl⟩
        · have i1 : ¬ (pl : Int) ≤ (last : Int) := by omega
          have e : ge = false := by rw [HGE.out, decide_eq_false hl]; rfl
          clear hl
          subst e
          go_wp2_with fail
          go_meet
          exact ⟨rfl, rfl⟩
      case rest =>
      obtain ⟨h52, hwx⟩ := hcut
      subst h52
      subst hwx
      go_upto_if 52 with fail
      go_cut [60] (fun _ wx => ∃ X' l', PlW W0 (fun k => ownC A k ∨ ownC B k ∨ k = rb ∨ k = pb) rb pb p s B' A' st X' l' [] l F T wx ∧ Cw p.L (sL s) first last pl (pl + 1) X' (bgOf l') fd F)
      case first =>
        have hlt : Hid (fd = true → F < pl) := hide (fun q => by
          obtain ⟨b, e, q1, q2, q3, q4, q5, q6, q7⟩ := D1.out.yes q
          have := q6.ge
          omega)
        cases ge with
        | true =>
          have hh : pl ≤ last ∧ fd = false := by have := HGE.out; simpa using this.symm
          obtain ⟨hl, hfd⟩ := hh
          subst hfd
          have HL := hide hl
          clear hl hlt
          have r2 := cell_row P3.out.hr (i := 2) rfl
          have r3 := cell_row P3.out.hr (i := 3) rfl
          have EN := hide (enter_c (b := (pl : Int)) (pl := pl) (P3.out.enA HH.out.gp (Int.le_refl 0) (by have := HH.out.gp.pos; omega)) rfl)
          go_wp2_with (go_at_call 19; (with_reducible refine (EN.out).mono ?_); rintro e w4 ⟨N, l', rfl, h1, h2, h3, h4, h5⟩; have P4 := hide (P3.out.setA h1 h5); have C4 := hide (cw_enter C1.out hfp HL.out rfl h2 h3 h4); clear h1 h2 h3 h4 h5)
          go_meet
          exact ⟨_, _, P4.out, C4.out⟩
        | false =>
          have hh : Hid (last < pl ∨ fd = true) := hide (by
            have q := HGE.out
            cases fd with
            | true => exact .inr rfl
            | false =>
              left
              have : ¬ pl ≤ last := fun z => by rw [decide_eq_true z] at q; cases q
              omega)
          have CS := hide (cw_skip C1.out hh.out hlt.out)
          clear hlt hh
          go_wp2_with fail
          go_meet
          exact ⟨_, _, P3.out, CS.out⟩
      case rest =>
      obtain ⟨X', l', hP4, hC4⟩ := hcut
      have P4 := hide hP4
      have C4 := hide hC4
      clear hP4 hC4 P3 C1
      have r2 : wc.cell? ⟨rb, 2, none⟩ = some (.pointer (some ⟨B'.mb, 0, none⟩)) := cell_row P4.out.hr (i := 2) rfl
      have LN := hide (len_c P4.out.ha.m)
      by_cases hX : X' = []
      · subst hX
        have OBW := pl_ob P4.out OB.out nob.out
        have o0 := cell_row OBW (i := 0) rfl
        have o1 := cell_row OBW (i := 1) rfl
        have g0 := frz_row OBW 0
        have g1 := frz_row OBW 1
        have q0 := cell_row P4.out.hp (i := 0) rfl
        have q1 := cell_row P4.out.hp (i := 1) rfl
        have FN := hide (pl_fin P4.out B0.out HOB.out HPB.out hro.out (fin_empty D1.out C4.out hfp))
        have hz := heap_set_in (heap_set_in OBW 0 (.int .i64 F)) 1 (.int .i64 T)
        have k0 := cell_row hz (i := 0) rfl
        have k1 := cell_row hz (i := 1) rfl
        clear hz OBW
        go_wp2_with (go_at_call 20; (with_reducible refine (LN.out).mono ?_); rintro e w5 ⟨rfl, h5⟩; subst w5)
        refine bodyPost_ret (v := .tuple #[.agg #[.int .i64 F, .int .i64 T], .bool fd]) (by simp [results, Try.results14, go_sem, k0, k1]) rfl ?_
        exact FN.out
      have hXl : X'.length ≠ 0 := fun q => hX (List.eq_nil_of_length_eq_zero q)
      have x0 : ((X'.length : Int) == 0) = false := by rw [beq_eq_false_iff_ne]; omega
      clear hX
      go_upto_region 10 with (go_at_call 20; (with_reducible refine (LN.out).mono ?_); rintro e w5 ⟨rfl, h5⟩; subst w5)
      clear x0 r2 LN
      go_cut [78] (fun _ wx => ∃ st', PlW W0 (fun k => ownC A k ∨ ownC B k ∨ k = rb ∨ k = pb) rb pb p s B' A' st' X' l' [] l F T wx)
      case first =>
        have PD : Hid (PlW W0 (fun k => ownC A k ∨ ownC B k ∨ k = rb ∨ k = pb) rb pb p s B' A' st X' l' [] l F T wc.drew) := hide (P4.out.below (Below.refl _ _).drew)
        have Z2 : Hid (wc.drew.cell? ⟨rb, 2, none⟩ = some (.pointer (some ⟨B'.mb, 0, none⟩))) := hide (cell_row PD.out.hr (i := 2) rfl)
        refine wp_region_held_drew (S := fun w' => w'.cell? ⟨rb, 2, none⟩ = some (.pointer (some ⟨B'.mb, 0, none⟩))) (by kernel_rfl) Z2.out ?_
        intro hS0
        generalize wc.drew = V at PD Z2 hS0 ⊢
        have r2 : V.cell? ⟨rb, 2, none⟩ = some (.pointer (some ⟨B'.mb, 0, none⟩)) := Z2.out
        have r6 := cell_row PD.out.hr (i := 6) rfl
        have f6 := frz_row PD.out.hr 6
        have LN := hide (len_c PD.out.ha.m)
        refine wpAnyH_take (i := 0) (oi := _) (v := ?_) rfl (by kernel_rfl) (by kernel_rfl) (by kernel_rfl) (fun _ _ _ h => h) (Or.inl ⟨by rfl, ?_⟩) (by assumption) ?_
        rotate_left
        · intro wz hSw
          have hs0 : wz.cell? ⟨rb, 2, none⟩ = some (.pointer (some ⟨B'.mb, 0, none⟩)) := hSw
          go_simp
          try with_reducible rfl
        dsimp only [Act.put, List.getElem_toArray, List.getElem_cons_zero, List.getElem_cons_succ]
        simp only [List.setIfInBounds_toArray, List.set_cons_zero, List.set_cons_succ]
        refine wpAnyH_take (i := 1) (oi := _) (v := ?_) rfl (by kernel_rfl) (by kernel_rfl) (by kernel_rfl) (fun _ _ _ h => h) (Or.inl ⟨by rfl, ?_⟩) (by assumption) ?_
        rotate_left
        · intro wz hSw
          have hs0 : wz.cell? ⟨rb, 2, none⟩ = some (.pointer (some ⟨B'.mb, 0, none⟩)) := hSw
          go_simp
          try with_reducible rfl
        dsimp only [Act.put, List.getElem_toArray, List.getElem_cons_zero, List.getElem_cons_succ]
        simp only [List.setIfInBounds_toArray, List.set_cons_zero, List.set_cons_succ]
        refine wpAnyH_take (i := 2) (oi := _) (v := ?_) rfl (by kernel_rfl) (by kernel_rfl) (by kernel_rfl) (fun _ _ _ h => h) (Or.inl ⟨by rfl, ?_⟩) (by assumption) ?_
        rotate_left
        · intro wz hSw
          have hs0 : wz.cell? ⟨rb, 2, none⟩ = some (.pointer (some ⟨B'.mb, 0, none⟩)) := hSw
          go_simp
          try with_reducible rfl
        dsimp only [Act.put, List.getElem_toArray, List.getElem_cons_zero, List.getElem_cons_succ]
        simp only [List.setIfInBounds_toArray, List.set_cons_zero, List.set_cons_succ]
        refine wpAnyH_take (i := 4) (oi := _) (v := ?_) rfl (by kernel_rfl) (by kernel_rfl) (by kernel_rfl) (fun _ _ _ h => h) (Or.inl ⟨by rfl, ?_⟩) (by assumption) ?_
        rotate_left
        · intro wz hSw
          have hs0 : wz.cell? ⟨rb, 2, none⟩ = some (.pointer (some ⟨B'.mb, 0, none⟩)) := hSw
          go_simp
          try with_reducible rfl
        dsimp only [Act.put, List.getElem_toArray, List.getElem_cons_zero, List.getElem_cons_succ]
        simp only [List.setIfInBounds_toArray, List.set_cons_zero, List.set_cons_succ]
        refine wpAnyH_take (i := 5) (oi := _) (v := ?_) rfl (by kernel_rfl) (by kernel_rfl) (by kernel_rfl) (fun _ _ _ h => h) (Or.inl ⟨by rfl, ?_⟩) (by assumption) ?_
        rotate_left
        · intro wz hSw
          have hs0 : wz.cell? ⟨rb, 2, none⟩ = some (.pointer (some ⟨B'.mb, 0, none⟩)) := hSw
          go_simp
          try with_reducible rfl
        dsimp only [Act.put, List.getElem_toArray, List.getElem_cons_zero, List.getElem_cons_succ]
        simp only [List.setIfInBounds_toArray, List.set_cons_zero, List.set_cons_succ]
        refine wpAnyH_take (i := 6) (oi := _) (v := ?_) rfl (by kernel_rfl) (by kernel_rfl) (by kernel_rfl) (fun _ _ _ h => h) (Or.inl ⟨by rfl, ?_⟩) (by assumption) ?_
        rotate_left
        · intro wz hSw
          have hs0 : wz.cell? ⟨rb, 2, none⟩ = some (.pointer (some ⟨B'.mb, 0, none⟩)) := hSw
          go_simp
          try with_reducible rfl
        dsimp only [Act.put, List.getElem_toArray, List.getElem_cons_zero, List.getElem_cons_succ]
        simp only [List.setIfInBounds_toArray, List.set_cons_zero, List.set_cons_succ]
        refine wpAnyH_take (i := 7) (oi := _) (v := ?_) rfl (by kernel_rfl) (by kernel_rfl) (by kernel_rfl) (fun _ _ _ h => h) (Or.inl ⟨by rfl, ?_⟩) (by assumption) ?_
        rotate_left
        · intro wz hSw
          have hs0 : wz.cell? ⟨rb, 2, none⟩ = some (.pointer (some ⟨B'.mb, 0, none⟩)) := hSw
          go_simp
          try with_reducible rfl
        dsimp only [Act.put, List.getElem_toArray, List.getElem_cons_zero, List.getElem_cons_succ]
        simp only [List.setIfInBounds_toArray, List.set_cons_zero, List.set_cons_succ]
        refine wpAnyH_take (i := 8) (oi := _) (v := ?_) rfl (by kernel_rfl) (by kernel_rfl) (by kernel_rfl) (fun _ _ _ h => h) (Or.inl ⟨by rfl, ?_⟩) (by assumption) ?_
        rotate_left
        · intro wz hSw
          have hs0 : wz.cell? ⟨rb, 2, none⟩ = some (.pointer (some ⟨B'.mb, 0, none⟩)) := hSw
          go_simp
          try with_reducible rfl
        dsimp only [Act.put, List.getElem_toArray, List.getElem_cons_zero, List.getElem_cons_succ]
        simp only [List.setIfInBounds_toArray, List.set_cons_zero, List.set_cons_succ]
        refine wpAnyH_ready (rs := [3, 9]) (by kernel_rfl) (by simp) ?_
        refine AllReadyH.cons rfl (fun K hK => ?_) (AllReadyH.cons rfl (fun K hK => ?_) AllReadyH.nil)
        · go_simp
          refine hK.out _ _ Z2.out (fun hSx => ?_)
          clear hK K hSx
          refine wpAnyH_ready (rs := [9]) (by kernel_rfl) (by simp) ?_
          refine AllReadyH.cons rfl (fun K hK => ?_) AllReadyH.nil
          go_simp
          go_at_call 20
          refine (LN.out).mono ?_
          rintro e w5 ⟨rfl, h5⟩
          subst w5
          refine hK.out _ _ Z2.out (fun hSx => ?_)
          clear hK K hSx
          refine wpAnyH_ready (rs := [10]) (by kernel_rfl) (by simp) ?_
          refine AllReadyH.cons rfl (fun K hK => ?_) AllReadyH.nil
          go_simp
          refine hK.out _ _ Z2.out (fun hSx => ?_)
          clear hK K hSx
          refine wpAnyH_ready (rs := [11]) (by kernel_rfl) (by simp) ?_
          refine AllReadyH.cons rfl (fun K hK => ?_) AllReadyH.nil
          go_simp
          refine hK.out _ _ Z2.out (fun hSx => ?_)
          clear hK K hSx
          refine wpAnyH_ready (rs := [12]) (by kernel_rfl) (by simp) ?_
          refine AllReadyH.cons rfl (fun K hK => ?_) AllReadyH.nil
          go_simp
          refine hK.out _ _ Z2.out (fun hSx => ?_)
          clear hK K hSx
          refine wpAnyH_ready (rs := [13]) (by kernel_rfl) (by simp) ?_
          refine AllReadyH.cons rfl (fun K hK => ?_) AllReadyH.nil
          go_simp
          refine hK.out _ _ (cell_row (heap_set_in PD.out.hr 6 _) (i := 2) rfl) (fun hSx => ?_)
          clear hK K hSx
          refine wpAnyH_done (by kernel_rfl) ?_ _
          have SW := hide (fun x => PD.out.run (st' := x) (((Fr.refl (fun k => k = rb) _).setCell (p := ⟨rb, 6, none⟩) rfl _)) (heap_set_in PD.out.hr 6 (.int .i64 x)))
          clear r2 r6 f6 LN
          go_wp2_with fail
          go_meet
          exact ⟨_, SW.out _⟩
        · go_simp
          go_at_call 20
          refine (LN.out).mono ?_
          rintro e w5 ⟨rfl, h5⟩
          subst w5
          refine hK.out _ _ Z2.out (fun hSx => ?_)
          clear hK K hSx
          refine wpAnyH_ready (rs := [3]) (by kernel_rfl) (by simp) ?_
          refine AllReadyH.cons rfl (fun K hK => ?_) AllReadyH.nil
          go_simp
          refine hK.out _ _ Z2.out (fun hSx => ?_)
          clear hK K hSx
          refine wpAnyH_ready (rs := [10]) (by kernel_rfl) (by simp) ?_
          refine AllReadyH.cons rfl (fun K hK => ?_) AllReadyH.nil
          go_simp
          refine hK.out _ _ Z2.out (fun hSx => ?_)
          clear hK K hSx
          refine wpAnyH_ready (rs := [11]) (by kernel_rfl) (by simp) ?_
          refine AllReadyH.cons rfl (fun K hK => ?_) AllReadyH.nil
          go_simp
          refine hK.out _ _ Z2.out (fun hSx => ?_)
          clear hK K hSx
          refine wpAnyH_ready (rs := [12]) (by kernel_rfl) (by simp) ?_
          refine AllReadyH.cons rfl (fun K hK => ?_) AllReadyH.nil
          go_simp
          refine hK.out _ _ Z2.out (fun hSx => ?_)
          clear hK K hSx
          refine wpAnyH_ready (rs := [13]) (by kernel_rfl) (by simp) ?_
          refine AllReadyH.cons rfl (fun K hK => ?_) AllReadyH.nil
          go_simp
          refine hK.out _ _ (cell_row (heap_set_in PD.out.hr 6 _) (i := 2) rfl) (fun hSx => ?_)
          clear hK K hSx
          refine wpAnyH_done (by kernel_rfl) ?_ _
          have SW := hide (fun x => PD.out.run (st' := x) (((Fr.refl (fun k => k = rb) _).setCell (p := ⟨rb, 6, none⟩) rfl _)) (heap_set_in PD.out.hr 6 (.int .i64 x)))
          clear r2 r6 f6 LN
          go_wp2_with fail
          go_meet
          exact ⟨_, SW.out _⟩
      case rest =>
      obtain ⟨st', hP5⟩ := hcut
      have P5 := hide hP5
      clear hP5 P4
      have r2 := cell_row P5.out.hr (i := 2) rfl
      have LN := hide (len_c P5.out.ha.m)
      go_wp2_with (go_at_call 20; (with_reducible refine (LN.out).mono ?_); rintro e w5 ⟨rfl, h5⟩; subst w5)
      clear r2 LN
      go_loopw [9, 87] (fun f kv wr => ∃ (k : Nat) (fd' : Bool) (Y' m' : List Int) (F' T' : Int), f = .bool fd' ∧ kv = .int .i64 (k : Int) ∧ k ≤ X'.length ∧ PlW W0 (fun k => ownC A k ∨ ownC B k ∨ k = rb ∨ k = pb) rb pb p s B' A' st' X' l' Y' m' F' T' wr ∧ Go2 p.L (sL s) first last pl X' (bgOf l') fd F T k Y' (bgOf m') fd' F' T') (fun f kv _ => X'.length - (intOf kv).toNat)
      case atStart => exact ⟨0, fd, [], l, F, T, rfl, rfl, Nat.zero_le _, P5.out, go2_nil⟩
      case round =>
        obtain ⟨k, fd', Y', m', F', T', rfl, rfl, hk, hP6, hG6⟩ := hrel
        have P6 := hide hP6
        have G6 := hide hG6
        clear hP6 hG6 P5
        have hw1 : IntKind.wrap .i64 ((pl : Int) + 1) = (pl : Int) + 1 := wrap_small _ (by omega) (by omega)
        by_cases hkx : k < X'.length
        case neg =>
          have i1 : ¬ (k : Int) < (X'.length : Int) := by omega
          have DN := hide (go2_done D1.out C4.out G6.out (.inl (by omega)))
          go_wp2
          go_roundw
          case rel => exact ⟨pl + 1, fd', B', A', st', X', l', Y', m', F', T', rfl, by go_num, Nat.le_succ_of_le HFP.out, Nat.succ_le_succ HPS.out, P6.out, DN.out.1, DN.out.2⟩
          case measure => simp only [intOf]; omega
        case pos =>
          have i1 : (k : Int) < (X'.length : Int) := by omega
          obtain ⟨x, hx⟩ : ∃ x, X'[k]? = some x := ⟨_, List.getElem?_eq_getElem hkx⟩
          obtain ⟨hx0, hx1⟩ := P6.out.ha.m.inr (List.mem_of_getElem? hx)
          obtain ⟨x, rfl⟩ : ∃ x' : Nat, x = (x' : Int) := ⟨x.toNat, by omega⟩
          have hxl : x < p.L.length := by omega
          have AT : Hid (Calls Try.prog 21 #[.pointer (some ⟨B'.mb, 0, none⟩), .int .i64 (k : Int)] wr fun e w' => e = .returned (.tuple #[.int .i64 (x : Int), .bool true]) ∧ w' = wr) := by
            have := at_c P6.out.ha.m (k : Int)
            rw [show atV X' (k : Int) = (x : Int) by unfold atV; rw [if_pos ⟨by omega, by omega⟩, Int.toNat_natCast, hx]; rfl, show atB X' (k : Int) = true from decide_eq_true ⟨by omega, by omega⟩] at this
            exact this
          obtain ⟨i, hi⟩ : ∃ i, p.L[x]? = some i := ⟨_, List.getElem?_eq_getElem hxl⟩
          obtain ⟨g, o, hq, hg, c0, c1, c2, c3, c4, c5, c6, c7, c8, c9⟩ := P6.out.li.ten hi
          clear c1 c2 c3 c4 c5 c6 c7 c8 c9
          have hi' : Hid (p.L[((x : Int)).toNat]? = some i) := hide (by rw [Int.toNat_natCast]; exact hi)
          have HX := hide hx
          have HI := hide hi
          have cg := P6.out.ha.cell hxl
          have r0 : wr.cell? ⟨rb, 0, none⟩ = some (.slice p.q p.L.length p.c) := cell_row P6.out.hr (i := 0) rfl
          rw [hq] at r0
          have r1 : wr.cell? ⟨rb, 1, none⟩ = some (.string s) := cell_row P6.out.hr (i := 1) rfl
          have r2 := cell_row P6.out.hr (i := 2) rfl
          have r3 := cell_row P6.out.hr (i := 3) rfl
          have q0 := cell_row P6.out.hp (i := 0) rfl
          have j0 : (x : Int) < (p.L.length : Int) := by omega
          have j1 : (0 : Int) ≤ (x : Int) := by omega
          have hw2 : IntKind.wrap .i64 ((x : Int) + 1) = (x : Int) + 1 := wrap_small _ (by omega) (by omega)
          have hxr := P6.out.ha.m.len
          have hw3 : IntKind.wrap .i64 ((k : Int) + 1) = (k : Int) + 1 := wrap_small _ (by omega) (by omega)
          clear hx hi hx0 hx1
          go_upto_region 16 with (go_at_call 21; (with_reducible refine (AT.out).mono ?_); rintro e w5 ⟨rfl, h5⟩; subst w5)
          clear AT cg r2 r3
          go_cut [108] (fun v wx => v = .bool (fd' && decide (F' < bgOf l' (x : Int))) ∧ wx = wr)
          case first =>
            cases fd'
            all_goals go_wp2_with fail
            all_goals go_meet
            all_goals exact ⟨rfl, rfl⟩
          case rest =>
          obtain ⟨h108, hwx⟩ := hcut
          subst h108
          subst hwx
          by_cases hgb : (fd' && decide (F' < bgOf l' (x : Int))) = true
          · have hh : fd' = true ∧ F' < bgOf l' (x : Int) := by simpa using hgb
            have DN := hide (go2_done D1.out C4.out G6.out (.inr ⟨hh.1, _, HX.out, hh.2⟩))
            rw [hgb]
            clear hgb hh
            go_wp2
            go_roundw
            case rel => exact ⟨pl + 1, fd', B', A', st', X', l', Y', m', F', T', rfl, by go_num, Nat.le_succ_of_le HFP.out, Nat.succ_le_succ HPS.out, P6.out, DN.out.1, DN.out.2⟩
            case measure => simp only [intOf]; omega
          have hgF : Hid (fd' = true → bgOf l' (x : Int) ≤ F') := hide (fun q => by
            rw [q] at hgb
            simp only [Bool.true_and, decide_eq_true_eq] at hgb
            omega)
          rw [Bool.eq_false_iff.2 hgb]
          clear hgb
          by_cases ho : i.op = 11
          · rw [ho] at c0
            have HO := hide ho
            have pf0 := frz_row P6.out.hp 0
            have pf1 := frz_row P6.out.hp 1
            have q1 := cell_row P6.out.hp (i := 1) rfl
            have P7 := hide (P6.out.part (bgOf l' (x : Int)) (pl : Int))
            clear ho
            go_upto_region 19 with fail
            clear pf0 pf1 q0 q1 c0 r0 r1
            generalize ((wc.setCell ⟨pb, 0, none⟩ (.int .i64 (bgOf l' (x : Int)))).setCell ⟨pb, 1, none⟩ (.int .i64 (pl : Int))) = V at P7 ⊢
            have r1 : V.cell? ⟨rb, 1, none⟩ = some (.string s) := cell_row P7.out.hr (i := 1) rfl
            by_cases hpe : pl = s.size
            · have e0 : ((pl : Int) == (s.size : Int)) = true := by rw [beq_iff_eq]; omega
              have e1 : (pl : Int) = (s.size : Int) := by omega
              have FL := hide (go2_last D1.out C4.out G6.out HX.out hi'.out HO.out hgF.out (by rw [sL_len]; exact hls) (by rw [sL_len]; exact hpe))
              clear hpe
              have OBW := pl_ob P7.out OB.out nob.out
              have o0 := cell_row OBW (i := 0) rfl
              have o1 := cell_row OBW (i := 1) rfl
              have g0 := frz_row OBW 0
              have g1 := frz_row OBW 1
              have q0 := cell_row P7.out.hp (i := 0) rfl
              have q1 := cell_row P7.out.hp (i := 1) rfl
              have FN := hide (pl_fin P7.out B0.out HOB.out HPB.out hro.out FL.out)
              have hz := heap_set_in (heap_set_in OBW 0 (.int .i64 (bgOf l' (x : Int)))) 1 (.int .i64 (pl : Int))
              have k0 := cell_row hz (i := 0) rfl
              have k1 := cell_row hz (i := 1) rfl
              clear hz OBW
              clear FL e1
              go_wp2
              refine bodyPost_ret (v := .tuple #[.agg #[.int .i64 (bgOf l' (x : Int)), .int .i64 (pl : Int)], .bool true]) (by simp [results, Try.results14, go_sem, k0, k1]) rfl ?_
              exact FN.out
            · have e0 : ((pl : Int) == (s.size : Int)) = false := by rw [beq_eq_false_iff_ne]; omega
              have GM := hide (go2_match C4.out G6.out HX.out hi'.out HO.out hgF.out)
              clear hpe
              go_wp2
              go_roundw
              case rel => exact ⟨k + 1, true, Y', m', bgOf l' (x : Int), (pl : Int), rfl, by go_num, Nat.succ_le_of_lt hkx, P7.out, GM.out⟩
              case measure => simp only [intOf]; omega
          · obtain ⟨oo, hoo⟩ : ∃ oo, i.op = oo := ⟨_, rfl⟩
            have HNO : Hid (i.op ≠ 11) := hide ho
            have eo : (oo == 11) = false := by rw [beq_eq_false_iff_ne, ← hoo]; exact ho
            rw [hoo] at c0
            clear ho hoo
            have TK := hide (takes_c (pl := pl) P6.out.hr P6.out.li HI.out)
            obtain ⟨tb, htb⟩ : ∃ tb, tkB i s pl = tb := ⟨_, rfl⟩
            rw [htb] at TK
            have HTB := hide htb
            clear htb
            cases tb with
            | false =>
              have GS := hide (go2_skip G6.out HX.out hi'.out HNO.out (fun c h1 h2 => by
                have := HTB.out
                unfold tkB at this
                rw [h1, h2] at this
                simpa using this))
              go_wp2_with (go_at_call 22; (with_reducible refine (TK.out).mono ?_); rintro e w7 ⟨rfl, h7⟩; have P7 := hide (P6.out.below h7); clear h7)
              go_roundw
              case rel => exact ⟨k + 1, fd', Y', m', F', T', rfl, by go_num, Nat.succ_le_of_lt hkx, P7.out, GS.out⟩
              case measure => simp only [intOf]; omega
            | true =>
              have hb : ∃ c, i.op = 1 ∧ (sL s)[pl]? = some c ∧ z1_shas i.s (c.toNat : Int) = true := by
                have := HTB.out
                unfold tkB at this
                cases hc : (sL s)[pl]? with
                | none => rw [hc] at this; simp at this
                | some c => rw [hc] at this; simp at this; exact ⟨c, this.1, rfl, this.2⟩
              obtain ⟨c, hc1, hc2, hc3⟩ := hb
              have HC := hide (And.intro hc1 (And.intro hc2 hc3))
              have hnx := HH.out.gp.nx x i HI.out hc1
              have hnx1 : (x : Int) + 1 < (p.L.length : Int) := by omega
              clear hc1 hc2 hc3 hnx
              go_upto_region 21 with (go_at_call 22; (with_reducible refine (TK.out).mono ?_); rintro e w7 ⟨rfl, h7⟩; have P7 := hide (P6.out.below h7); clear h7)
              have r4 := cell_row P7.out.hr (i := 4) rfl
              have r5 := cell_row P7.out.hr (i := 5) rfl
              have EN := hide (enter_c (b := bgOf l' (x : Int)) (plI := (pl : Int) + 1) (pl := pl + 1) (P7.out.enB HH.out.gp (x := (x : Int) + 1) (by omega) hnx1) (by omega))
              clear q0 c0 r0 r1
              go_wp2_with (go_at_call 19; (with_reducible refine (EN.out).mono ?_); rintro e w8 ⟨N, l8, rfl, h1, h2, h3, h4, h5⟩; have P8 := hide (P7.out.setB h1 h5); have G8 := hide (go2_byte C4.out G6.out HX.out hi'.out HC.out.1 HC.out.2.1 HC.out.2.2 h2 h3 h4); clear h1 h2 h3 h4 h5)
              go_roundw
              case rel => exact ⟨k + 1, fd', _, _, F', T', rfl, by go_num, Nat.succ_le_of_lt hkx, P8.out, G8.out⟩
              case measure => simp only [intOf]; omega
end Go.Proofs.Ytbghleihgcenmaa
