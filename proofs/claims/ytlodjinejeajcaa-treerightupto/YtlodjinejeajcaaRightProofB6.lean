/-
  dredgeref06.All, Norm, Not, Right, Fold.
-/
import Derived.Test.YtlodjinejeajcaaRightProofB5
import Derived.Test.YtlodjinejeajcaaC10
namespace Go.Proofs.Ytlodjinejeajcaa
open Go Go.RowKit

theorem below_al (W : World) (o : Obj) : Below W.heap.size W (W.alloc o) := (Below.refl _ _).alloc (Nat.le_refl _) _
theorem rall_c (m : Bool) (w : World) : Calls Try.prog 83 #[.bool m] w fun e w' => ∃ v, e = .returned v ∧ RR w.heap.size w' v (charsL m) ∧ Below w.heap.size w w' := by
  cases m with
  | true =>
    go_enter Try.func83, Try.ntmps83
    go_wp2
    go_ret
    exact ⟨_, rfl, World.ownsRow_lit w #[.int .i64 0, .int .i64 55295, .int .i64 57344, .int .i64 1114111] 2 (Nat.le_refl _) (by unfold maxLen; omega) rfl, (Below.refl _ _).alloc (Nat.le_refl _) _⟩
  | false =>
    go_enter Try.func83, Try.ntmps83
    go_wp2
    go_ret
    exact ⟨_, rfl, World.ownsRow_lit w #[.int .i64 0, .int .i64 255] 1 (Nat.le_refl _) (by unfold maxLen; omega) rfl, (Below.refl _ _).alloc (Nat.le_refl _) _⟩
set_option maxHeartbeats 1000000 in
theorem rnorm_c {w : World} {v : Value} {L : List (Int × Int)} {m : Bool} (h : ArgR w v L) (hF : Fit L) (hl : L.length ≤ 1048580) :
    Calls Try.prog 73 #[v, .bool m] w (Gets w (fun c => In L c ∧ isChar m c) (L.length * (charsL m).length)) := by
  have H : Hid (ArgR w v L ∧ Fit L) := ⟨h, hF⟩
  have hc := charsL_length m
  have HM : Hid (L.length * (charsL m).length + 1 ≤ 8796093022208) := hide (by have := Nat.mul_le_mul hl hc; omega)
  clear h hF
  go_enter Try.func73, Try.ntmps73
  go_wp2_with first
    | (go_at_call 83; refine (rall_c m _).mono ?_; rintro e w5 ⟨v5, rfl, h1, h2⟩; have X5 : Hid (RR w.heap.size w5 v5 (charsL m) ∧ Below w.heap.size w w5) := ⟨h1, h2⟩; clear h1 h2)
    | (go_at_call 75; refine (rand_c (H.out.1.kept X5.out.2) X5.out.1.arg H.out.2 (charsL_is m).fit (by omega) (by omega) HM.out).mono ?_; rintro e w6 ⟨v6, C6, rfl, h1, h2, h3, h4⟩; have X6 : Hid (RR w5.heap.size w6 v6 C6 ∧ IsC C6 (fun c => In L c ∧ In (charsL m) c) ∧ C6.length ≤ L.length * (charsL m).length ∧ Below w5.heap.size w5 w6) := ⟨h1, h2, h3, h4⟩; clear h1 h2 h3 h4)
  go_ret
  exact ⟨_, _, rfl, X6.out.1.mono X5.out.2.size, X6.out.2.1.to fun c => by rw [(charsL_is m).mem], X6.out.2.2.1, chain X5.out.2 X6.out.2.2.2 (Nat.le_refl _)⟩
set_option maxHeartbeats 1000000 in
theorem rright_c {w : World} {v : Value} {L : List (Int × Int)} {m : Bool} (h : ArgR w v L) (hF : Fit L) (hl : L.length ≤ 1048580) :
    Calls Try.prog 62 #[v, .bool m] w fun e w' => ∃ b : Bool, e = .returned (.bool b) ∧ (b = true ↔ IsC L (fun c => In L c ∧ isChar m c)) ∧ Below w.heap.size w w' := by
  have H : Hid (ArgR w v L ∧ Fit L) := ⟨h, hF⟩
  clear h hF
  go_enter Try.func62, Try.ntmps62
  go_wp2_with first
    | (go_at_call 73; refine (rnorm_c H.out.1 H.out.2 hl).mono ?_; rintro e w5 ⟨v5, C5, rfl, h1, h2, h3, h4⟩; have X5 : Hid (RR w.heap.size w5 v5 C5 ∧ IsC C5 (fun c => In L c ∧ isChar m c) ∧ Below w.heap.size w w5) := ⟨h1, h2, h4⟩; clear h1 h2 h3 h4)
    | (go_at_call 43; refine (alike_c (H.out.1.kept X5.out.2.2) X5.out.1.arg).mono ?_; obtain ⟨bb, hbb⟩ : ∃ bb, decide (L = C5) = bb := ⟨_, rfl⟩; rw [hbb]; have EB : Hid (decide (L = C5) = bb) := hbb; clear hbb; rintro e w7 ⟨rfl, h1⟩; have X7 : Hid (Below w5.heap.size w5 w7) := h1; clear h1)
  go_ret
  refine ⟨bb, rfl, ?_, chain X5.out.2.2 X7.out (Nat.le_refl _)⟩
  rw [← EB.out, decide_eq_true_iff]
  constructor
  · intro e
    have h2 := X5.out.2.1
    rw [← e] at h2
    exact h2
  · intro e
    exact e.one X5.out.2.1 fun _ => Iff.rfl

/-- The first j ranges, moved. -/
def shL (G : List (Int × Int)) (j : Nat) (d : Int) : List (Int × Int) := (G.take j).map fun r => (r.1 + d, r.2 + d)
theorem shL_next {G : List (Int × Int)} {j : Nat} {r : Int × Int} (h : G[j]? = some r) (d : Int) : shL G (j + 1) d = shL G j d ++ [(r.1 + d, r.2 + d)] := by
  obtain ⟨hk, rfl⟩ := List.getElem?_eq_some_iff.1 h
  unfold shL
  rw [take_next G j hk, List.map_append]
  rfl
theorem lit_one (W : World) (a b : Int) : ArgR (W.alloc (.cells #[.int .i64 a, .int .i64 b] 72)) (.slice (some ⟨W.heap.size, 0, none⟩) 1 1) [(a, b)] :=
  RR.arg (base := W.heap.size) (World.ownsRow_lit W #[.int .i64 a, .int .i64 b] 1 (Nat.le_refl _) (by unfold maxLen; omega) rfl)
theorem bd_of {C L : List (Int × Int)} {a b : Int} (h : IsC C (fun c => In L c ∧ In [(a, b)] c)) : ∀ (i : Nat) (r : Int × Int), C[i]? = some r → (a ≤ r.1 ∧ r.1 ≤ b) ∧ (a ≤ r.2 ∧ r.2 ≤ b) := fun i r hr => by
  have hm := List.mem_of_getElem? hr
  have hs := h.cls.some r hm
  have p := ((h.mem r.1).1 ⟨r, hm, Int.le_refl _, hs⟩).2
  have q := ((h.mem r.2).1 ⟨r, hm, hs, Int.le_refl _⟩).2
  rw [in_one] at p q
  exact ⟨p, q⟩

/-- The blocks of the list that grows, where it began. -/
def midB (w w4 : World) (k : Nat) : Prop := w.heap.size ≤ k ∧ k < w4.heap.size
theorem cell_same {w w' : World} {k : Nat} (h : w'.heap[k]? = w.heap[k]?) (o : Nat) : w'.cell? ⟨k, o, none⟩ = w.cell? ⟨k, o, none⟩ := by unfold World.cell?; simp only [h]
structure FW (w w4 W1 wr : World) (ov : Value) (O : List (Int × Int)) : Prop where
  own : RR w.heap.size wr ov O
  fr : Fr (midB w w4) W1 wr
  at' : ∀ g, ov.ownBlock = some g → midB w w4 g ∨ W1.heap.size ≤ g
theorem FW.drew {w w4 W1 wr : World} {ov : Value} {O : List (Int × Int)} (h : FW w w4 W1 wr ov O) : FW w w4 W1 wr.drew ov O := ⟨World.ownsRow.drew h.own, h.fr.drew, h.at'⟩
theorem FW.app {w w4 W1 wr w6 : World} {q : Option Addr} {co : Nat} {L : List (Int × Int)} {o : Obj} {g6 cap6 : Nat} {a b : Int} (h : FW w w4 W1 wr (.slice q L.length co) L) (hg : (wr.alloc o).grownBy w6 (Value.slice q L.length co).ownBlock)
    (ho : w6.ownsRow w.heap.size 72 2 (.slice (some ⟨g6, 0, none⟩) (L.length + 1) cap6) (L.length + 1) (cellsR L ++ [.int .i64 a, .int .i64 b]))
    (hb : (Value.slice (some ⟨g6, 0, none⟩) (L.length + 1) cap6).ownBlock = (Value.slice q L.length co).ownBlock ∨ (Value.slice (some ⟨g6, 0, none⟩) (L.length + 1) cap6).ownBlock = some (wr.alloc o).heap.size) : FW w w4 W1 w6 (.slice (some ⟨g6, 0, none⟩) (L.length + 1) cap6) (L ++ [(a, b)]) := by
  refine ⟨rr_app ho, ?_, fun g e => ?_⟩
  · refine ⟨hg.os.trans h.fr.os, hg.tape.trans h.fr.tape, hg.output.trans h.fr.output, Nat.le_trans h.fr.size (Nat.le_trans (by simp) hg.size), fun k hk hs => ?_⟩
    have hkr : k < wr.heap.size := Nat.lt_of_lt_of_le hk h.fr.size
    refine (hg.block k (by simp; omega) (fun e => ?_)).trans ((Below.heap_alloc _ _ _ hkr).trans (h.fr.block k hk hs))
    rcases h.at' k e.symm with q | q
    · exact hs q
    · omega
  · rcases hb with hb | hb
    · rw [hb] at e; exact h.at' g e
    · rw [hb] at e
      cases e
      exact .inr (Nat.le_trans h.fr.size (by simp))
theorem arg_cells {W : World} {q : Option Addr} {n k : Nat} {L : List (Int × Int)} (h : ArgR W (.slice q n k) L) {lo : Nat} (hlo : ∀ g, (Value.slice q n k).ownBlock = some g → lo ≤ g) : ∀ (i : Nat) (r : Int × Int), L[i]? = some r → ∃ g off, q = some ⟨g, off, none⟩ ∧ lo ≤ g ∧ g < W.heap.size ∧ W.cell? ⟨g, off + i * 2, none⟩ = some (.int .i64 r.1) ∧ W.cell? ⟨g, off + i * 2 + 1, none⟩ = some (.int .i64 r.2) := fun i r hi => by
  obtain ⟨q', c', e, -, -, hc⟩ := h.slice
  cases e
  obtain ⟨g, off, rfl, h1, h2, h3⟩ := hc i r hi
  rw [Nat.mul_comm] at h2 h3
  exact ⟨g, off, rfl, hlo g rfl, h1, h2, h3⟩

set_option maxRecDepth 100000 in
set_option maxHeartbeats 4000000 in
theorem rfold_c {w : World} {v : Value} {L : List (Int × Int)} (h : ArgR w v L) (hF : Fit L) (hl : L.length ≤ 1048580) :
    Calls Try.prog 63 #[v] w (Gets w (foldP L) (3 * L.length)) := by
  obtain ⟨t0, ti, hz0, hz1, hz2⟩ := info_parts size_range
  have H : Hid (ArgR w v L ∧ Fit L) := ⟨h, hF⟩
  clear h hF
  go_enter Try.func63, Try.ntmps63
  go_upto_region 5 with first
    | (go_at_call 74; refine (rclass_c H.out.1 H.out.2 (by omega)).mono ?_; rintro e w4 ⟨v4, C, rfl, h1, h2, h3, h4⟩; obtain ⟨qc, cc, rfl⟩ := h1.shape; have X4 : Hid (RR w.heap.size w4 (.slice qc C.length cc) C ∧ IsC C (In L) ∧ C.length ≤ L.length ∧ Below w.heap.size w w4) := ⟨h1, h2, h3, h4⟩; clear h1 h2 h3 h4)
    | (go_at_call 75; have hx := X5.out; clear hx; have hih := rand_c (((H.out.1.kept X4.out.2.2.2).kept X5.out.2.2.2).kept (below_al w5 (.cells #[.int .i64 97, .int .i64 122] 72))) (lit_one w5 97 122) H.out.2 (fit_one (by omega)) (by omega) (by simp) (by simp; omega); (with_reducible refine hih.mono ?_); clear hih; rintro e w6 ⟨v6, S, rfl, h1, h2, h3, h4⟩; obtain ⟨qs, cs, rfl⟩ := h1.shape; have X6 : Hid (RR w5.heap.size w6 (.slice qs S.length cs) S ∧ IsC S (fun c => In L c ∧ In [(97, 122)] c) ∧ S.length ≤ L.length ∧ Below w5.heap.size w5 w6) := ⟨h1.mono (by simp), h2, (by simpa using h3), (below_al w5 _).trans (h4.mono (by simp))⟩; clear h1 h2 h3 h4)
    | (go_at_call 75; have hih := rand_c ((H.out.1.kept X4.out.2.2.2).kept (below_al w4 (.cells #[.int .i64 65, .int .i64 90] 72))) (lit_one w4 65 90) H.out.2 (fit_one (by omega)) (by omega) (by simp) (by simp; omega); (with_reducible refine hih.mono ?_); clear hih; rintro e w5 ⟨v5, G, rfl, h1, h2, h3, h4⟩; obtain ⟨qg, cg, rfl⟩ := h1.shape; have X5 : Hid (RR w4.heap.size w5 (.slice qg G.length cg) G ∧ IsC G (fun c => In L c ∧ In [(65, 90)] c) ∧ G.length ≤ L.length ∧ Below w4.heap.size w4 w5) := ⟨h1.mono (by simp), h2, (by simpa using h3), (below_al w4 _).trans (h4.mono (by simp))⟩; clear h1 h2 h3 h4)
  rename World => W1
  have BTW : Hid (Below w.heap.size w W1) := chain (chain X4.out.2.2.2 X5.out.2.2.2 (Nat.le_refl _)) X6.out.2.2.2 (Nat.le_refl _)
  have B4W : Hid (Below w4.heap.size w4 W1) := chain X5.out.2.2.2 X6.out.2.2.2 (Nat.le_refl _)
  have HGG : Hid _ := arg_cells (X5.out.1.kept X6.out.2.2.2).arg (lo := w4.heap.size) (fun g e => (ownsRow_at X5.out.1 e).1)
  have HGS : Hid _ := arg_cells X6.out.1.arg (lo := w4.heap.size) (fun g e => Nat.le_trans X5.out.2.2.2.size (ownsRow_at X6.out.1 e).1)
  have BDG : Hid _ := bd_of X5.out.2.1
  have BDS : Hid _ := bd_of X6.out.2.1
  have hcl := X4.out.2.2.1
  have hgl := X5.out.2.2.1
  have hsl := X6.out.2.2.1
  have ST : Hid (FW w w4 W1 W1 (.slice qc C.length cc) C) := ⟨X4.out.1.kept B4W.out, Fr.refl _ _, fun g e => .inl ⟨(ownsRow_at X4.out.1 e).1, (ownsRow_at X4.out.1 e).2.1⟩⟩
  go_wp2
  go_loopw [3, 6] (fun ov i wr => ∃ j : Nat, j ≤ G.length ∧ i = .int .i64 j ∧ FW w w4 W1 wr ov (C ++ shL G j 32)) (fun _ i _ => G.length - (intOf i).toNat)
  case atStart => exact ⟨0, Nat.zero_le _, rfl, by simpa [shL] using ST.out⟩
  case round =>
    obtain ⟨j, hj, rfl, hW⟩ := hrel
    obtain ⟨qo, co, e3⟩ := hW.own.shape
    subst e3
    by_cases hlt : j < G.length
    · obtain ⟨O, hO⟩ : ∃ O, C ++ shL G j 32 = O := ⟨_, rfl⟩
      have EO : Hid (C ++ shL G j 32 = O) := hO
      rw [hO] at hW ⊢
      have M0 : Hid (FW w w4 W1 wr (.slice qo O.length co) O) := hW
      have hol : O.length + 1 ≤ 8796093022208 := by rw [← hO]; simp [shL]; omega
      clear hW hO
      obtain ⟨r, er⟩ : ∃ r, G[j]? = some r := ⟨_, List.getElem?_eq_getElem hlt⟩
      obtain ⟨gg, og, rfl, hg4, hgg, z1, z2⟩ := HGG.out j _ er
      have hbd := BDG.out j r er
      have NXT : Hid (shL G (j + 1) (32) = shL G j (32) ++ [(r.1 + (32), r.2 + (32))]) := shL_next er (32)
      obtain ⟨lo, hi⟩ := r
      dsimp only at z1 z2 hbd NXT
      have wa : IntKind.wrap .i64 (lo + 32) = lo + 32 := by rw [IntKind.wrap_i64]; omega
      have wb : IntKind.wrap .i64 (hi + 32) = hi + 32 := by rw [IntKind.wrap_i64]; omega
      have j0 : (0 : Int) ≤ (j : Int) := by omega
      have j1 : (j : Int) < (G.length : Int) := by omega
      have QC : Hid (∀ w', Fr (midB w w4) W1 w' → w'.cell? ⟨gg, og + j * 2, none⟩ = some (.int .i64 lo) ∧ w'.cell? ⟨gg, og + j * 2 + 1, none⟩ = some (.int .i64 hi)) := fun w' hf => by
        have hbk := hf.block gg hgg (fun q => by have := q.2; omega)
        exact ⟨(cell_same hbk _).trans z1, (cell_same hbk _).trans z2⟩
      have MD : Hid (FW w w4 W1 wr.drew (.slice qo O.length co) O) := M0.out.drew
      have hw1 : w.heap.size ≤ wr.heap.size := Nat.le_trans BTW.out.size M0.out.fr.size
      clear z1 z2 er
      go_wp2
      refine wp_region_held_drew (S := fun w' => Fr (midB w w4) W1 w') (by kernel_rfl) MD.out.fr (fun hHeld => ?_)
      refine wpAnyH_take (i := 0) (oi := _) (v := ?_) rfl (by kernel_rfl) (by kernel_rfl) (by kernel_rfl) (fun _ _ _ h => h) (Or.inl ⟨by rfl, ?_⟩) (by assumption) ?_
      rotate_left
      · intro wz hSw; obtain ⟨q1, q2⟩ := QC.out wz hSw; clear hSw; go_simp; try with_reducible rfl
      dsimp only [Act.put, List.getElem_toArray, List.getElem_cons_zero, List.getElem_cons_succ]
      simp only [List.setIfInBounds_toArray, List.set_cons_zero, List.set_cons_succ]
      refine wpAnyH_take (i := 1) (oi := _) (v := ?_) rfl (by kernel_rfl) (by kernel_rfl) (by kernel_rfl) (fun _ _ _ h => h) (Or.inl ⟨by rfl, ?_⟩) (by assumption) ?_
      rotate_left
      · intro wz hSw; obtain ⟨q1, q2⟩ := QC.out wz hSw; clear hSw; go_simp; try with_reducible rfl
      dsimp only [Act.put, List.getElem_toArray, List.getElem_cons_zero, List.getElem_cons_succ]
      simp only [List.setIfInBounds_toArray, List.set_cons_zero, List.set_cons_succ]
      refine wpAnyH_take (i := 2) (oi := _) (v := ?_) rfl (by kernel_rfl) (by kernel_rfl) (by kernel_rfl) (fun _ _ _ h => h) (Or.inl ⟨by rfl, ?_⟩) (by assumption) ?_
      rotate_left
      · intro wz hSw; obtain ⟨q1, q2⟩ := QC.out wz hSw; clear hSw; go_simp; try with_reducible rfl
      dsimp only [Act.put, List.getElem_toArray, List.getElem_cons_zero, List.getElem_cons_succ]
      simp only [List.setIfInBounds_toArray, List.set_cons_zero, List.set_cons_succ]
      refine wpAnyH_take (i := 3) (oi := _) (v := ?_) rfl (by kernel_rfl) (by kernel_rfl) (by kernel_rfl) (fun _ _ _ h => h) (Or.inl ⟨by rfl, ?_⟩) (by assumption) ?_
      rotate_left
      · intro wz hSw; obtain ⟨q1, q2⟩ := QC.out wz hSw; clear hSw; go_simp; try with_reducible rfl
      dsimp only [Act.put, List.getElem_toArray, List.getElem_cons_zero, List.getElem_cons_succ]
      simp only [List.setIfInBounds_toArray, List.set_cons_zero, List.set_cons_succ]
      refine wpAnyH_take (i := 4) (oi := _) (v := ?_) rfl (by kernel_rfl) (by kernel_rfl) (by kernel_rfl) (fun _ _ _ h => h) (Or.inl ⟨by rfl, ?_⟩) (by assumption) ?_
      rotate_left
      · intro wz hSw; obtain ⟨q1, q2⟩ := QC.out wz hSw; clear hSw; go_simp; try with_reducible rfl
      dsimp only [Act.put, List.getElem_toArray, List.getElem_cons_zero, List.getElem_cons_succ]
      simp only [List.setIfInBounds_toArray, List.set_cons_zero, List.set_cons_succ]
      refine wpAnyH_take (i := 5) (oi := _) (v := ?_) rfl (by kernel_rfl) (by kernel_rfl) (by kernel_rfl) (fun _ _ _ h => h) (Or.inl ⟨by rfl, ?_⟩) (by assumption) ?_
      rotate_left
      · intro wz hSw; obtain ⟨q1, q2⟩ := QC.out wz hSw; clear hSw; go_simp; try with_reducible rfl
      dsimp only [Act.put, List.getElem_toArray, List.getElem_cons_zero, List.getElem_cons_succ]
      simp only [List.setIfInBounds_toArray, List.set_cons_zero, List.set_cons_succ]
      refine wpAnyH_take (i := 6) (oi := _) (v := ?_) rfl (by kernel_rfl) (by kernel_rfl) (by kernel_rfl) (fun _ _ _ h => h) (Or.inl ⟨by rfl, ?_⟩) (by assumption) ?_
      rotate_left
      · intro wz hSw; obtain ⟨q1, q2⟩ := QC.out wz hSw; clear hSw; go_simp; try with_reducible rfl
      dsimp only [Act.put, List.getElem_toArray, List.getElem_cons_zero, List.getElem_cons_succ]
      simp only [List.setIfInBounds_toArray, List.set_cons_zero, List.set_cons_succ]
      refine wpAnyH_take (i := 7) (oi := _) (v := ?_) rfl (by kernel_rfl) (by kernel_rfl) (by kernel_rfl) (fun _ _ _ h => h) (Or.inl ⟨by rfl, ?_⟩) (by assumption) ?_
      rotate_left
      · intro wz hSw; obtain ⟨q1, q2⟩ := QC.out wz hSw; clear hSw; go_simp; try with_reducible rfl
      dsimp only [Act.put, List.getElem_toArray, List.getElem_cons_zero, List.getElem_cons_succ]
      simp only [List.setIfInBounds_toArray, List.set_cons_zero, List.set_cons_succ]
      refine wpAnyH_take (i := 8) (oi := _) (v := ?_) rfl (by kernel_rfl) (by kernel_rfl) (by kernel_rfl) (fun _ _ _ h => h) (Or.inl ⟨by rfl, ?_⟩) (by assumption) ?_
      rotate_left
      · intro wz hSw; obtain ⟨q1, q2⟩ := QC.out wz hSw; clear hSw; go_simp; try with_reducible rfl
      dsimp only [Act.put, List.getElem_toArray, List.getElem_cons_zero, List.getElem_cons_succ]
      simp only [List.setIfInBounds_toArray, List.set_cons_zero, List.set_cons_succ]
      refine wpAnyH_take (i := 9) (oi := _) (v := ?_) rfl (by kernel_rfl) (by kernel_rfl) (by kernel_rfl) (fun _ _ _ h => h) (Or.inl ⟨by rfl, ?_⟩) (by assumption) ?_
      rotate_left
      · intro wz hSw; obtain ⟨q1, q2⟩ := QC.out wz hSw; clear hSw; go_simp; try with_reducible rfl
      dsimp only [Act.put, List.getElem_toArray, List.getElem_cons_zero, List.getElem_cons_succ]
      simp only [List.setIfInBounds_toArray, List.set_cons_zero, List.set_cons_succ]
      refine wpAnyH_take (i := 10) (oi := _) (v := ?_) rfl (by kernel_rfl) (by kernel_rfl) (by kernel_rfl) (fun _ _ _ h => h) (Or.inl ⟨by rfl, ?_⟩) (by assumption) ?_
      rotate_left
      · intro wz hSw; obtain ⟨q1, q2⟩ := QC.out wz hSw; clear hSw; go_simp; try with_reducible rfl
      dsimp only [Act.put, List.getElem_toArray, List.getElem_cons_zero, List.getElem_cons_succ]
      simp only [List.setIfInBounds_toArray, List.set_cons_zero, List.set_cons_succ]
      refine wpAnyH_take (i := 11) (oi := _) (v := ?_) rfl (by kernel_rfl) (by kernel_rfl) (by kernel_rfl) (fun _ _ _ h => h) (Or.inl ⟨by rfl, ?_⟩) (by assumption) ?_
      rotate_left
      · intro wz hSw; obtain ⟨q1, q2⟩ := QC.out wz hSw; clear hSw; go_simp; try with_reducible rfl
      dsimp only [Act.put, List.getElem_toArray, List.getElem_cons_zero, List.getElem_cons_succ]
      simp only [List.setIfInBounds_toArray, List.set_cons_zero, List.set_cons_succ]
      refine wpAnyH_take (i := 12) (oi := _) (v := ?_) rfl (by kernel_rfl) (by kernel_rfl) (by kernel_rfl) (fun _ _ _ h => h) (Or.inl ⟨by rfl, ?_⟩) (by assumption) ?_
      rotate_left
      · intro wz hSw; obtain ⟨q1, q2⟩ := QC.out wz hSw; clear hSw; go_simp; try with_reducible rfl
      dsimp only [Act.put, List.getElem_toArray, List.getElem_cons_zero, List.getElem_cons_succ]
      simp only [List.setIfInBounds_toArray, List.set_cons_zero, List.set_cons_succ]
      refine wpAnyH_take (i := 13) (oi := _) (v := ?_) rfl (by kernel_rfl) (by kernel_rfl) (by kernel_rfl) (fun _ _ _ h => h) (Or.inl ⟨by rfl, ?_⟩) (by assumption) ?_
      rotate_left
      · intro wz hSw; obtain ⟨q1, q2⟩ := QC.out wz hSw; clear hSw; go_simp; try with_reducible rfl
      dsimp only [Act.put, List.getElem_toArray, List.getElem_cons_zero, List.getElem_cons_succ]
      simp only [List.setIfInBounds_toArray, List.set_cons_zero, List.set_cons_succ]
      refine wpAnyH_ready (rs := [14]) (by kernel_rfl) (by simp) ?_
      refine AllReadyH.cons rfl (fun K hK => ?_) AllReadyH.nil
      go_simp
      refine hK.out _ _ (MD.out.fr.alloc _) (fun hHeld2 => ?_)
      clear hK K
      refine wpAnyH_ready (rs := [15]) (by kernel_rfl) (by simp) ?_
      refine AllReadyH.cons rfl (fun K hK => ?_) AllReadyH.nil
      refine step_append_at rfl _ _ 22 rfl w.heap.size 72 t0 (.agg #[.int .i64 0, .int .i64 0]) 2 16 und_ranges ti hz0 hz1 hz2 rfl (by decide) (.slice qo O.length co) O.length (cellsR O) (by simp [Act.eval]) (World.ownsRow.alloc MD.out.own (.cells #[.int .i64 (lo + 32), .int .i64 (hi + 32)] 72)) ⟨wr.heap.size, 0, none⟩ 1 1 [.int .i64 (lo + 32), .int .i64 (hi + 32)] (by simp [Act.eval]) rfl (news2 _ _ _ _) (by simp [Value.oneCell']) (by unfold maxLen; omega) (by omega) (by simp; omega) ?_
      intro v' w6' hown' hgrow hblk
      obtain ⟨g6, cap6, rfl⟩ := ownsRow_some hown' (Nat.succ_pos _)
      have M6 : Hid (FW w w4 W1 w6' (.slice (some ⟨g6, 0, none⟩) (O.length + 1) cap6) (O ++ [(lo + 32, hi + 32)])) := MD.out.app hgrow hown' hblk
      clear hown' hgrow hblk
      refine hK.out _ _ M6.out.fr (fun hHeld3 => ?_)
      clear hK K
      refine wpAnyH_ready (rs := [16]) (by kernel_rfl) (by simp) ?_
      refine AllReadyH.cons rfl (fun K hK => ?_) AllReadyH.nil
      go_simp
      refine hK.out _ _ M6.out.fr (fun hHeld4 => ?_)
      clear hK K
      refine wpAnyH_done (by kernel_rfl) ?_ _
      go_wp2
      go_roundw
      case rel => exact ⟨j + 1, by omega, by go_num, by rw [NXT.out, ← List.append_assoc, EO.out]; exact M6.out⟩
      case measure => simp [intOf]; omega
    · have j1 : ¬ (j : Int) < (G.length : Int) := by omega
      have EJ : Hid (shL G j 32 = shL G G.length 32) := hide (by unfold shL; rw [List.take_of_length_le (by omega), List.take_length])
      rw [EJ.out] at hW ⊢
      obtain ⟨C2, hC2⟩ : ∃ C2, C ++ shL G G.length 32 = C2 := ⟨_, rfl⟩
      have EC : Hid (C ++ shL G G.length 32 = C2) := hC2
      have hc2 : C2.length ≤ 2 * L.length := by rw [← hC2]; simp [shL]; omega
      rw [hC2] at hW ⊢
      have ST2 : Hid (FW w w4 W1 wr (.slice qo C2.length co) C2) := hW
      clear hW hC2
      rename World => W5
      go_wp2
      go_loopw [3, 7] (fun ov i wr => ∃ j : Nat, j ≤ S.length ∧ i = .int .i64 j ∧ FW w w4 W1 wr ov (C2 ++ shL S j (-32))) (fun _ i _ => S.length - (intOf i).toNat)
      case atStart => exact ⟨0, Nat.zero_le _, rfl, by simpa [shL] using ST2.out⟩
      case round =>
        clear ST2
        obtain ⟨j, hj, rfl, hW⟩ := hrel
        obtain ⟨qo, co, e3⟩ := hW.own.shape
        subst e3
        by_cases hlt : j < S.length
        · obtain ⟨O, hO⟩ : ∃ O, C2 ++ shL S j (-32) = O := ⟨_, rfl⟩
          have EO : Hid (C2 ++ shL S j (-32) = O) := hO
          rw [hO] at hW ⊢
          have M0 : Hid (FW w w4 W1 wr (.slice qo O.length co) O) := hW
          have hol : O.length + 1 ≤ 8796093022208 := by rw [← hO]; simp [shL]; omega
          clear hW hO
          obtain ⟨r, er⟩ : ∃ r, S[j]? = some r := ⟨_, List.getElem?_eq_getElem hlt⟩
          obtain ⟨gg, og, rfl, hg4, hgg, z1, z2⟩ := HGS.out j _ er
          have hbd := BDS.out j r er
          have NXT : Hid (shL S (j + 1) (-32) = shL S j (-32) ++ [(r.1 + (-32), r.2 + (-32))]) := shL_next er (-32)
          obtain ⟨lo, hi⟩ := r
          dsimp only at z1 z2 hbd NXT
          have wa : IntKind.wrap .i64 (lo - 32) = lo - 32 := by rw [IntKind.wrap_i64]; omega
          have wb : IntKind.wrap .i64 (hi - 32) = hi - 32 := by rw [IntKind.wrap_i64]; omega
          have j0 : (0 : Int) ≤ (j : Int) := by omega
          have j1 : (j : Int) < (S.length : Int) := by omega
          have QC : Hid (∀ w', Fr (midB w w4) W1 w' → w'.cell? ⟨gg, og + j * 2, none⟩ = some (.int .i64 lo) ∧ w'.cell? ⟨gg, og + j * 2 + 1, none⟩ = some (.int .i64 hi)) := fun w' hf => by
            have hbk := hf.block gg hgg (fun q => by have := q.2; omega)
            exact ⟨(cell_same hbk _).trans z1, (cell_same hbk _).trans z2⟩
          have MD : Hid (FW w w4 W1 wr.drew (.slice qo O.length co) O) := M0.out.drew
          have hw1 : w.heap.size ≤ wr.heap.size := Nat.le_trans BTW.out.size M0.out.fr.size
          clear z1 z2 er
          go_wp2
          refine wp_region_held_drew (S := fun w' => Fr (midB w w4) W1 w') (by kernel_rfl) MD.out.fr (fun hHeld => ?_)
          refine wpAnyH_take (i := 0) (oi := _) (v := ?_) rfl (by kernel_rfl) (by kernel_rfl) (by kernel_rfl) (fun _ _ _ h => h) (Or.inl ⟨by rfl, ?_⟩) (by assumption) ?_
          rotate_left
          · intro wz hSw; obtain ⟨q1, q2⟩ := QC.out wz hSw; clear hSw; go_simp; try with_reducible rfl
          dsimp only [Act.put, List.getElem_toArray, List.getElem_cons_zero, List.getElem_cons_succ]
          simp only [List.setIfInBounds_toArray, List.set_cons_zero, List.set_cons_succ]
          refine wpAnyH_take (i := 1) (oi := _) (v := ?_) rfl (by kernel_rfl) (by kernel_rfl) (by kernel_rfl) (fun _ _ _ h => h) (Or.inl ⟨by rfl, ?_⟩) (by assumption) ?_
          rotate_left
          · intro wz hSw; obtain ⟨q1, q2⟩ := QC.out wz hSw; clear hSw; go_simp; try with_reducible rfl
          dsimp only [Act.put, List.getElem_toArray, List.getElem_cons_zero, List.getElem_cons_succ]
          simp only [List.setIfInBounds_toArray, List.set_cons_zero, List.set_cons_succ]
          refine wpAnyH_take (i := 2) (oi := _) (v := ?_) rfl (by kernel_rfl) (by kernel_rfl) (by kernel_rfl) (fun _ _ _ h => h) (Or.inl ⟨by rfl, ?_⟩) (by assumption) ?_
          rotate_left
          · intro wz hSw; obtain ⟨q1, q2⟩ := QC.out wz hSw; clear hSw; go_simp; try with_reducible rfl
          dsimp only [Act.put, List.getElem_toArray, List.getElem_cons_zero, List.getElem_cons_succ]
          simp only [List.setIfInBounds_toArray, List.set_cons_zero, List.set_cons_succ]
          refine wpAnyH_take (i := 3) (oi := _) (v := ?_) rfl (by kernel_rfl) (by kernel_rfl) (by kernel_rfl) (fun _ _ _ h => h) (Or.inl ⟨by rfl, ?_⟩) (by assumption) ?_
          rotate_left
          · intro wz hSw; obtain ⟨q1, q2⟩ := QC.out wz hSw; clear hSw; go_simp; try with_reducible rfl
          dsimp only [Act.put, List.getElem_toArray, List.getElem_cons_zero, List.getElem_cons_succ]
          simp only [List.setIfInBounds_toArray, List.set_cons_zero, List.set_cons_succ]
          refine wpAnyH_take (i := 4) (oi := _) (v := ?_) rfl (by kernel_rfl) (by kernel_rfl) (by kernel_rfl) (fun _ _ _ h => h) (Or.inl ⟨by rfl, ?_⟩) (by assumption) ?_
          rotate_left
          · intro wz hSw; obtain ⟨q1, q2⟩ := QC.out wz hSw; clear hSw; go_simp; try with_reducible rfl
          dsimp only [Act.put, List.getElem_toArray, List.getElem_cons_zero, List.getElem_cons_succ]
          simp only [List.setIfInBounds_toArray, List.set_cons_zero, List.set_cons_succ]
          refine wpAnyH_take (i := 5) (oi := _) (v := ?_) rfl (by kernel_rfl) (by kernel_rfl) (by kernel_rfl) (fun _ _ _ h => h) (Or.inl ⟨by rfl, ?_⟩) (by assumption) ?_
          rotate_left
          · intro wz hSw; obtain ⟨q1, q2⟩ := QC.out wz hSw; clear hSw; go_simp; try with_reducible rfl
          dsimp only [Act.put, List.getElem_toArray, List.getElem_cons_zero, List.getElem_cons_succ]
          simp only [List.setIfInBounds_toArray, List.set_cons_zero, List.set_cons_succ]
          refine wpAnyH_take (i := 6) (oi := _) (v := ?_) rfl (by kernel_rfl) (by kernel_rfl) (by kernel_rfl) (fun _ _ _ h => h) (Or.inl ⟨by rfl, ?_⟩) (by assumption) ?_
          rotate_left
          · intro wz hSw; obtain ⟨q1, q2⟩ := QC.out wz hSw; clear hSw; go_simp; try with_reducible rfl
          dsimp only [Act.put, List.getElem_toArray, List.getElem_cons_zero, List.getElem_cons_succ]
          simp only [List.setIfInBounds_toArray, List.set_cons_zero, List.set_cons_succ]
          refine wpAnyH_take (i := 7) (oi := _) (v := ?_) rfl (by kernel_rfl) (by kernel_rfl) (by kernel_rfl) (fun _ _ _ h => h) (Or.inl ⟨by rfl, ?_⟩) (by assumption) ?_
          rotate_left
          · intro wz hSw; obtain ⟨q1, q2⟩ := QC.out wz hSw; clear hSw; go_simp; try with_reducible rfl
          dsimp only [Act.put, List.getElem_toArray, List.getElem_cons_zero, List.getElem_cons_succ]
          simp only [List.setIfInBounds_toArray, List.set_cons_zero, List.set_cons_succ]
          refine wpAnyH_take (i := 8) (oi := _) (v := ?_) rfl (by kernel_rfl) (by kernel_rfl) (by kernel_rfl) (fun _ _ _ h => h) (Or.inl ⟨by rfl, ?_⟩) (by assumption) ?_
          rotate_left
          · intro wz hSw; obtain ⟨q1, q2⟩ := QC.out wz hSw; clear hSw; go_simp; try with_reducible rfl
          dsimp only [Act.put, List.getElem_toArray, List.getElem_cons_zero, List.getElem_cons_succ]
          simp only [List.setIfInBounds_toArray, List.set_cons_zero, List.set_cons_succ]
          refine wpAnyH_take (i := 9) (oi := _) (v := ?_) rfl (by kernel_rfl) (by kernel_rfl) (by kernel_rfl) (fun _ _ _ h => h) (Or.inl ⟨by rfl, ?_⟩) (by assumption) ?_
          rotate_left
          · intro wz hSw; obtain ⟨q1, q2⟩ := QC.out wz hSw; clear hSw; go_simp; try with_reducible rfl
          dsimp only [Act.put, List.getElem_toArray, List.getElem_cons_zero, List.getElem_cons_succ]
          simp only [List.setIfInBounds_toArray, List.set_cons_zero, List.set_cons_succ]
          refine wpAnyH_take (i := 10) (oi := _) (v := ?_) rfl (by kernel_rfl) (by kernel_rfl) (by kernel_rfl) (fun _ _ _ h => h) (Or.inl ⟨by rfl, ?_⟩) (by assumption) ?_
          rotate_left
          · intro wz hSw; obtain ⟨q1, q2⟩ := QC.out wz hSw; clear hSw; go_simp; try with_reducible rfl
          dsimp only [Act.put, List.getElem_toArray, List.getElem_cons_zero, List.getElem_cons_succ]
          simp only [List.setIfInBounds_toArray, List.set_cons_zero, List.set_cons_succ]
          refine wpAnyH_take (i := 11) (oi := _) (v := ?_) rfl (by kernel_rfl) (by kernel_rfl) (by kernel_rfl) (fun _ _ _ h => h) (Or.inl ⟨by rfl, ?_⟩) (by assumption) ?_
          rotate_left
          · intro wz hSw; obtain ⟨q1, q2⟩ := QC.out wz hSw; clear hSw; go_simp; try with_reducible rfl
          dsimp only [Act.put, List.getElem_toArray, List.getElem_cons_zero, List.getElem_cons_succ]
          simp only [List.setIfInBounds_toArray, List.set_cons_zero, List.set_cons_succ]
          refine wpAnyH_take (i := 12) (oi := _) (v := ?_) rfl (by kernel_rfl) (by kernel_rfl) (by kernel_rfl) (fun _ _ _ h => h) (Or.inl ⟨by rfl, ?_⟩) (by assumption) ?_
          rotate_left
          · intro wz hSw; obtain ⟨q1, q2⟩ := QC.out wz hSw; clear hSw; go_simp; try with_reducible rfl
          dsimp only [Act.put, List.getElem_toArray, List.getElem_cons_zero, List.getElem_cons_succ]
          simp only [List.setIfInBounds_toArray, List.set_cons_zero, List.set_cons_succ]
          refine wpAnyH_take (i := 13) (oi := _) (v := ?_) rfl (by kernel_rfl) (by kernel_rfl) (by kernel_rfl) (fun _ _ _ h => h) (Or.inl ⟨by rfl, ?_⟩) (by assumption) ?_
          rotate_left
          · intro wz hSw; obtain ⟨q1, q2⟩ := QC.out wz hSw; clear hSw; go_simp; try with_reducible rfl
          dsimp only [Act.put, List.getElem_toArray, List.getElem_cons_zero, List.getElem_cons_succ]
          simp only [List.setIfInBounds_toArray, List.set_cons_zero, List.set_cons_succ]
          refine wpAnyH_ready (rs := [14]) (by kernel_rfl) (by simp) ?_
          refine AllReadyH.cons rfl (fun K hK => ?_) AllReadyH.nil
          go_simp
          refine hK.out _ _ (MD.out.fr.alloc _) (fun hHeld2 => ?_)
          clear hK K
          refine wpAnyH_ready (rs := [15]) (by kernel_rfl) (by simp) ?_
          refine AllReadyH.cons rfl (fun K hK => ?_) AllReadyH.nil
          refine step_append_at rfl _ _ 22 rfl w.heap.size 72 t0 (.agg #[.int .i64 0, .int .i64 0]) 2 16 und_ranges ti hz0 hz1 hz2 rfl (by decide) (.slice qo O.length co) O.length (cellsR O) (by simp [Act.eval]) (World.ownsRow.alloc MD.out.own (.cells #[.int .i64 (lo - 32), .int .i64 (hi - 32)] 72)) ⟨wr.heap.size, 0, none⟩ 1 1 [.int .i64 (lo - 32), .int .i64 (hi - 32)] (by simp [Act.eval]) rfl (news2 _ _ _ _) (by simp [Value.oneCell']) (by unfold maxLen; omega) (by omega) (by simp; omega) ?_
          intro v' w6' hown' hgrow hblk
          obtain ⟨g6, cap6, rfl⟩ := ownsRow_some hown' (Nat.succ_pos _)
          have M6 : Hid (FW w w4 W1 w6' (.slice (some ⟨g6, 0, none⟩) (O.length + 1) cap6) (O ++ [(lo - 32, hi - 32)])) := MD.out.app hgrow hown' hblk
          clear hown' hgrow hblk
          refine hK.out _ _ M6.out.fr (fun hHeld3 => ?_)
          clear hK K
          refine wpAnyH_ready (rs := [16]) (by kernel_rfl) (by simp) ?_
          refine AllReadyH.cons rfl (fun K hK => ?_) AllReadyH.nil
          go_simp
          refine hK.out _ _ M6.out.fr (fun hHeld4 => ?_)
          clear hK K
          refine wpAnyH_done (by kernel_rfl) ?_ _
          go_wp2
          go_roundw
          case rel => exact ⟨j + 1, by omega, by go_num, by rw [NXT.out, ← List.append_assoc, EO.out]; exact M6.out⟩
          case measure => simp [intOf]; omega
        · have j1 : ¬ (j : Int) < (S.length : Int) := by omega
          have EJ : Hid (shL S j (-32) = S.map fun r : Int × Int => (r.1 + -32, r.2 + -32)) := hide (by unfold shL; rw [List.take_of_length_le (by omega)])
          have EG : Hid (C2 = C ++ G.map fun r : Int × Int => (r.1 + 32, r.2 + 32)) := hide (by rw [← EC.out]; unfold shL; rw [List.take_length])
          rw [EJ.out] at hW ⊢
          have MZ : Hid _ := hW
          have FZ : Hid (Fit (C2 ++ S.map fun r : Int × Int => (r.1 + -32, r.2 + -32))) := hide (by
            rw [EG.out]
            refine fit_append (fit_append X4.out.2.1.fit fun r hr => ?_) fun r hr => ?_
            · obtain ⟨x, hx, e⟩ := List.mem_map.1 hr
              subst e
              obtain ⟨i, hi⟩ := List.getElem?_of_mem hx
              have := BDG.out i x hi
              simp only
              omega
            · obtain ⟨x, hx, e⟩ := List.mem_map.1 hr
              subst e
              obtain ⟨i, hi⟩ := List.getElem?_of_mem hx
              have := BDS.out i x hi
              simp only
              omega)
          have LZ : Hid ((C2 ++ S.map fun r : Int × Int => (r.1 + -32, r.2 + -32)).length ≤ 3 * L.length) := hide (by simp; omega)
          have IZ : Hid (∀ c, In (C2 ++ S.map fun r : Int × Int => (r.1 + -32, r.2 + -32)) c ↔ foldP L c) := fun c => by
            rw [EG.out, in_append, in_append, in_map_shift, in_map_shift, X4.out.2.1.mem, X5.out.2.1.mem, X6.out.2.1.mem, in_one, in_one]
            unfold foldP
            rw [show c - -32 = c + 32 by omega, or_assoc]
          clear hW
          generalize (C2 ++ S.map fun r : Int × Int => (r.1 + -32, r.2 + -32)) = Z at *
          go_wp2_with (go_at_call 74; refine (rclass_c MZ.out.own.arg FZ.out (by have := LZ.out; omega)).mono ?_; rintro e w7 ⟨v7, D, rfl, h1, h2, h3, h4⟩; have X7 : Hid (RR wr.heap.size w7 v7 D ∧ IsC D (In Z) ∧ D.length ≤ Z.length ∧ Below wr.heap.size wr w7) := ⟨h1, h2, h3, h4⟩; clear h1 h2 h3 h4)
          go_ret
          have BZ : Below w.heap.size w wr := chainF BTW.out MZ.out.fr (Nat.le_refl _) (fun k hk => hk.1)
          exact ⟨_, _, rfl, X7.out.1.mono BZ.size, X7.out.2.1.to IZ.out, Nat.le_trans X7.out.2.2.1 LZ.out, chain BZ X7.out.2.2.2 (Nat.le_refl _)⟩
end Go.Proofs.Ytlodjinejeajcaa
