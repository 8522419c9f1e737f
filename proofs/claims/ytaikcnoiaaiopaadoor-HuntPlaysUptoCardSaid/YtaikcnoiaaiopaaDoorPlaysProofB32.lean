/-
  Parts of the proof.
-/
import Derived.Test.YtaikcnoiaaiopaaDoorPlaysProofB31
set_option linter.unusedSimpArgs false
namespace Go.Proofs.YtaikcnoiaaiopaaDoor
open Go Go.RowKit Go.Shelf
attribute [local go_sem] Oper.semAt_some ext_cell
theorem ex_next {m : Nat} {p k : Int} {b : Bool} (hm : m ≤ 6) (h : NxA false exWs exLn (m : Int) p k b) : match [(1, 1), (2, 0), (2, 2)].find? (fun x : Nat × Nat => decide (m ≤ x.1)) with
    | none => b = false ∧ p = 0 ∧ k = 0
    | some x => b = true ∧ p = (x.1 : Int) ∧ k = (x.2 : Int) := by
  have h2 := nxA_first ex_ok (line := exLn) (m := m) hm h
  rw [show allM false exWs exLn exLn.size = [(1, 1), (2, 0), (2, 2)] from ex_all] at h2
  exact h2
theorem ex_n0 {p k : Int} {b : Bool} (h : NxA false exWs exLn 0 p k b) : b = true ∧ p = 1 ∧ k = 1 := by
  have h2 := ex_next (m := 0) (by omega) h
  simpa using h2
theorem ex_n2 {p k : Int} {b : Bool} (h : NxA false exWs exLn 2 p k b) : b = true ∧ p = 2 ∧ k = 0 := by
  have h2 := ex_next (m := 2) (by omega) h
  simpa using h2
theorem ex_n3 {p k : Int} {b : Bool} (h : NxA false exWs exLn 3 p k b) : b = false ∧ p = 0 ∧ k = 0 := by
  have h2 := ex_next (m := 3) (by omega) h
  simpa using h2
def gat (l : List (Nat × Nat)) : Nat := l.foldl (fun n x => 100 * n + 10 * x.1 + x.2) 0
theorem gat_snoc (l : List (Nat × Nat)) (x : Nat × Nat) : gat (l ++ [x]) = 100 * gat l + 10 * x.1 + x.2 := by simp [gat]
theorem gat_ok {l : List (Nat × Nat)} (h : l <+: [(1, 1), (2, 0), (2, 2)]) : gat l ≤ 112022 := by
  obtain ⟨r, hr⟩ := h
  rcases l with _ | ⟨a, l⟩
  · decide
  rcases l with _ | ⟨b, l⟩
  · simp at hr; obtain ⟨rfl, _⟩ := hr; decide
  rcases l with _ | ⟨c, l⟩
  · simp at hr; obtain ⟨rfl, rfl, _⟩ := hr; decide
  rcases l with _ | ⟨d, l⟩
  · simp at hr; obtain ⟨rfl, rfl, rfl, _⟩ := hr; decide
  · simp at hr
set_option maxRecDepth 100000 in
set_option maxHeartbeats 4000000 in
theorem known_in (n : Nat) (hn : 8 ≤ n) {w : World} (ht : z1_Tab w) : CallsIn Fence.wide n Tryd.prog 9 #[] w fun e w' => e = .returned (.bool true) ∧ Below w.heap.size w w' := by
  have h1 : 1 ≤ n := by omega
  have h2 : 1 ≤ n - 1 - 1 := by omega
  have hfn : ∀ f, Fence.wide.fn f := fun _ => trivial
  have hmx : Tryd.prog.follows .mixedOrders = true := by kernel_rfl
  have HT := hide ht
  have HP := hide ht.1
  have NC := hide (fun (W : World) (v : Value) (h : ArgW W v exWs) => new_c false h)
  clear ht
  refine callsIn_of_wp_marks Tryd.func9 rfl trivial ?_ rfl
  simp only [Tryd.ntmps9, List.size_toArray, List.length_cons, List.length_nil, Nat.reduceAdd, Nat.reduceSub, Array.replicate_succ, Array.replicate_zero, List.push_toArray, List.append_toArray, List.nil_append, List.cons_append]
  have AW : ArgW (w.alloc (.cells #[.string ⟨#[104, 101]⟩, .string ⟨#[115, 104, 101]⟩, .string ⟨#[104, 101, 114, 115]⟩] 9)) (.slice (some ⟨w.heap.size, 0, none⟩) 3 3) exWs := by
    have h5 := alloc_new w (.cells #[.string ⟨#[104, 101]⟩, .string ⟨#[115, 104, 101]⟩, .string ⟨#[104, 101, 114, 115]⟩] 9)
    refine .inr ⟨w.heap.size, 0, 3, rfl, by simp, by decide, by decide, fun i s hs => ?_⟩
    rcases i with _ | _ | _ | i
    · have e : s = ⟨#[104, 101]⟩ := by simpa using hs.symm
      subst e; exact cell_row h5 (i := 0) rfl
    · have e : s = ⟨#[115, 104, 101]⟩ := by simpa using hs.symm
      subst e; exact cell_row h5 (i := 1) rfl
    · have e : s = ⟨#[104, 101, 114, 115]⟩ := by simpa using hs.symm
      subst e; exact cell_row h5 (i := 2) rfl
    · simp at hs
  have BW := hide (show Below w.heap.size w (w.alloc (.cells #[.string ⟨#[104, 101]⟩, .string ⟨#[115, 104, 101]⟩, .string ⟨#[104, 101, 114, 115]⟩] 9)) from (Below.refl _ _).alloc (Nat.le_refl _) _)
  have SW := hide (show (w.alloc (.cells #[.string ⟨#[104, 101]⟩, .string ⟨#[115, 104, 101]⟩, .string ⟨#[104, 101, 114, 115]⟩] 9)).heap.size = w.heap.size + 1 by simp)
  have T1 := hide (HT.out.below BW.out)
  have AWH := hide AW
  clear AW
  gi_upto_region 1 with fail
  gi_upto_region 2 with (gi_at_call 10; refine (callsIn_wide.2 (NC.out _ _ AWH.out)).mono ?_; rintro e w5 ⟨hbl, (⟨hmm, _⟩ | ⟨hb, T, D, R, K, lg, rfl, hlb, hH, hM⟩)⟩; · exact absurd (ex_ok.symm.trans hmm) (by decide))
  rw [SW.out] at hlb hbl hH
  generalize (w.alloc (.cells #[.string ⟨#[104, 101]⟩, .string ⟨#[115, 104, 101]⟩, .string ⟨#[104, 101, 114, 115]⟩] 9)) = w1 at BW SW T1 AWH hH hbl ⊢
  have KP5 := hide (show Kp (w.heap.size + 1) (w.heap.size + 1) w1 false T D R K hb lg w5 from by
    have h6 := kp_new (w := w1) (by rw [SW.out]; exact hH) hM (by unfold wrap64; omega) T1.out (by rw [SW.out]; exact hbl) (by rw [SW.out]; exact hlb)
    rw [SW.out] at h6
    exact h6)
  have HU5 := hide hH
  have HM5 := hide hM
  have HB := hide (show 0 ≠ hb from by omega)
  have NX := hide (fun (V : World) (st : Int) (m : Nat) (hk : Kp (w.heap.size + 1) (w.heap.size + 1) w1 false T D R K hb lg V) (hm : HM V hb T false lg st) (hs : wrap64 st = st) (hm6 : m ≤ 6) =>
    (next_in (n - 1) (by omega) m (HU5.out.at hk.hi.1) hm hk.tab HB.out (line := exLn) hm6 (by decide) hs).mono (R' := fun e V' => ∃ (p k : Int) (b : Bool) (st' : Int), e = .returned (.tuple #[.int .i64 p, .int .i64 k, .bool b]) ∧ NxA false exWs exLn (m : Int) p k b ∧ Kp (w.heap.size + 1) (w.heap.size + 1) w1 false T D R K hb lg V' ∧ HM V' hb T false lg st' ∧ wrap64 st' = st') (fun e V' ⟨p, k, b, c, q1, q2, _, q4, q5⟩ => ⟨p, k, b, _, q1, q2, hk.next q4 (by unfold wrap64; omega) q5, q4, by unfold wrap64; omega⟩))
  have N0 := hide (fun V st hk hm hs => NX.out V st 0 hk hm hs (by omega))
  have N2 := hide (fun V st hk hm hs => NX.out V st 2 hk hm hs (by omega))
  have N3 := hide (fun V st hk hm hs => NX.out V st 3 hk hm hs (by omega))
  simp only [show ((0 : Nat) : Int) = 0 from rfl] at N0
  simp only [show ((2 : Nat) : Int) = 2 from rfl] at N2
  simp only [show ((3 : Nat) : Int) = 3 from rfl] at N3
  clear hH hM hlb hbl NX
  gi_upto_region 5 with (gi_at_call 13; refine (N0.out _ _ KP5.out HM5.out (by unfold wrap64; omega)).mono ?_; rintro e w6 ⟨p, k, b, st6, rfl, q1, q2, q3, q4⟩; obtain ⟨rfl, rfl, rfl⟩ := ex_n0 q1; have KP6 := hide q2; have HM6 := hide q3; have S6 := hide q4; clear q1 q2 q3 q4)
  gi_upto_region 6 with (gi_at_call 13; refine (N2.out _ _ KP6.out HM6.out S6.out).mono ?_; rintro e w7 ⟨p, k, b, st7, rfl, q1, q2, q3, q4⟩; obtain ⟨rfl, rfl, rfl⟩ := ex_n2 q1; have KP7 := hide q2; have HM7 := hide q3; have S7 := hide q4; clear q1 q2 q3 q4)
  gi_upto_region 7 with (gi_at_call 13; refine (N3.out _ _ KP7.out HM7.out S7.out).mono ?_; rintro e w8 ⟨p, k, b, st8, rfl, q1, q2, q3, q4⟩; obtain ⟨rfl, rfl, rfl⟩ := ex_n3 q1; have KP8 := hide q2; clear q1 q2 q3 q4)
  clear N0 N2 N3 KP5 KP6 KP7 HM5 HM6 HM7 S6 S7
  gi_upto_region 8 with fail
  have XN := hide (alloc_new w8 (.cells #[.int .i64 0] 3))
  have KP9 := hide (KP8.out.below (show Below w8.heap.size w8 (w8.alloc (.cells #[.int .i64 0] 3)) from (Below.refl _ _).alloc (Nat.le_refl _) _))
  have S9 := hide (show w8.heap.size < (w8.alloc (.cells #[.int .i64 0] 3)).heap.size ∧ w.heap.size + 1 ≤ w8.heap.size by have := KP8.out.bl.size; have := SW.out; exact ⟨by simp, by omega⟩)
  generalize (w8.alloc (.cells #[.int .i64 0] 3)) = w9 at XN KP9 S9 ⊢
  have AC := hide (fun W => all_c hb exLn W)
  gi_wp2_with (gi_at_call 16; refine (callsIn_wide.2 (AC.out _)).mono ?_; rintro e w5 ⟨rfl, h5⟩; subst w5)
  obtain ⟨UD, hUD⟩ : ∃ UD, UD = (w9.alloc (.cells #[.pointer (some ⟨hb, 0, none⟩)] 25)).alloc (.cells #[.string exLn] 9) := ⟨_, rfl⟩
  rw [← hUD]
  have BD : Hid (Below w9.heap.size w9 UD) := hide (by rw [hUD]; exact ((Below.refl _ _).alloc (Nat.le_refl _) _).alloc (by simp only [World.size_alloc]; omega) _)
  have R1 : Hid (UD.heap[w9.heap.size]? = some (.cells #[.pointer (some ⟨hb, 0, none⟩)] 25 (0, 0))) := hide (by
    rw [hUD]; exact (Below.heap_alloc _ _ _ (by simp only [World.size_alloc]; omega)).trans (alloc_new w9 _))
  have R2 : Hid (UD.heap[w9.heap.size + 1]? = some (.cells #[.string exLn] 9 (0, 0))) := hide (by
    rw [hUD]
    have := alloc_new (w9.alloc (.cells #[.pointer (some ⟨hb, 0, none⟩)] 25)) (.cells #[.string exLn] 9)
    rw [World.size_alloc] at this
    exact this)
  clear hUD AC
  have KD := hide (KP9.out.below BD.out)
  have XD := hide ((BD.out.block _ S9.out.1).trans XN.out)
  have SD := hide (show w.heap.size + 1 ≤ UD.heap.size from by have := BD.out.size; have := S9.out; omega)
  have TL := all_tells (n - 1) (by omega) (n0 := w9.heap.size) (line := exLn) (HU5.out.at KD.out.hi.1) R1.out R2.out (by have := S9.out.1; omega) (Nat.le_refl _) (Nat.le_succ _) (by decide)
  clear R1 R2 KP8 KP9 XN
  refine range_toldE h1 (gf := 30) (lb := #[.pointer (some ⟨w9.heap.size, 0, none⟩), .pointer (some ⟨w9.heap.size + 1, 0, none⟩)]) rfl (enters_of Tryd.func30 (by kernel_rfl) rfl) rfl TL
    (fun pre Z => Kp (w.heap.size + 1) (w.heap.size + 1) w1 false T D R K hb lg Z ∧ Z.heap[w8.heap.size]? = some (.cells #[.int .i64 ((gat (tl pre) : Nat) : Int)] 3 (0, 0)) ∧ tl pre <+: [(1, 1), (2, 0), (2, 2)]) (fun _ _ _ => False)
    (fun pre A A' row hi hg hr => ⟨hi.1.grown SD.out hg hr, cells_kept hg hr hi.2.1, hi.2.2⟩) (fun _ _ _ _ _ hi => hi.elim) (fun pre V hi => ⟨hi.1.hi, hi.1.tab⟩) (fun pre A B hi hf => ⟨hi.1.ft SD.out hf, hf.keep hi.2.1 (fun cur t e => by injection e with _ e _; subst e; unfold tyP; decide), hi.2.2⟩) (fun _ _ _ _ hi => hi.elim)
    (fun V hv => by obtain ⟨⟨_, st, hm⟩, _⟩ := hv; exact ⟨T, false, lg, st, hm⟩) (fun pre d A B hi hu => ?_) ⟨KD.out, XD.out, by simp [tl]⟩
    (fun x => { tmps := #[.bool false, .pointer (some ⟨hb, 0, none⟩), .int .i64 0, .int .i64 1, .int .i64 1, .bool true, .int .i64 2, .int .i64 0, .bool true, .int .i64 0, .int .i64 0, .bool false, .pointer (some ⟨w8.heap.size, 0, none⟩), .int .i64 (x.1 : Int), .int .i64 (x.2 : Int), .tuple #[.pointer (some ⟨hb, 0, none⟩), .int .i64 0], .slice (some ⟨w.heap.size, 0, none⟩) 3 3, .tuple #[.pointer (some ⟨hb, 0, none⟩), .int .i64 0], .pointer (some ⟨hb, 0, none⟩), .int .i64 0, .pointer (some ⟨hb, 0, none⟩), .bool false, .bool false, .int .i64 0, .bool false, .bool false, .tuple #[.int .i64 1, .int .i64 1, .bool true], .pointer (some ⟨hb, 0, none⟩), .tuple #[.int .i64 1, .int .i64 1, .bool true], .int .i64 1, .int .i64 1, .bool true, .tuple #[.int .i64 2, .int .i64 0, .bool true], .pointer (some ⟨hb, 0, none⟩), .tuple #[.int .i64 2, .int .i64 0, .bool true], .int .i64 2, .int .i64 0, .bool true, .tuple #[.int .i64 0, .int .i64 0, .bool false], .pointer (some ⟨hb, 0, none⟩), .tuple #[.int .i64 0, .int .i64 0, .bool false], .int .i64 0, .int .i64 0, .bool false, .pointer (some ⟨hb, 0, none⟩), .func (.func 30) #[] #[.pointer (some ⟨w9.heap.size, 0, none⟩), .pointer (some ⟨w9.heap.size + 1, 0, none⟩)], .int .i64 (x.1 : Int), .int .i64 (x.2 : Int), undef, undef, undef, undef, undef, undef, undef, undef, undef, undef, undef, undef, undef, undef, undef, undef, undef, undef, undef, undef, undef, undef, undef, undef, undef, undef, undef, undef, undef, undef, undef, undef, undef, undef, undef], defers := [] }) ?_ ?_ ?_ ?_
  · obtain ⟨⟨_, st, hm⟩, _⟩ := And.intro hi.1.hi hi.1.tab
    exact ⟨hi.1.bump hu, by rw [tl_inr]; exact (hu.fr.block _ (lt_of_heap hi.2.1) (ne_type hi.2.1 hm (by decide))).trans hi.2.1, by rw [tl_inr]; exact hi.2.2⟩
  · intro l' x Z K' hK
    simp only [encP]
    gi_wp2
    exact hK
  · rintro l' pre ⟨p, k⟩ Z ⟨k1, k2, k3⟩ hok
    dsimp only
    unfold OkA at hok
    obtain ⟨hok, _⟩ := hok
    rw [show allM false exWs exLn exLn.size = [(1, 1), (2, 0), (2, 2)] from ex_all] at hok
    have hb1 := gat_ok hok
    rw [gat_snoc] at hb1
    have hb0 : 100 * gat (tl pre) + 10 * p + k ≤ 112022 := hb1
    have HO := hide hok
    have c0 := cell_row k2 (i := 0) rfl
    have f0 := frz_row k2 0
    have w1' : IntKind.wrap .i64 (100 * ((gat (tl pre) : Nat) : Int)) = 100 * ((gat (tl pre) : Nat) : Int) := wrap_small _ (by omega) (by omega)
    have w2' : IntKind.wrap .i64 (10 * (p : Int)) = 10 * (p : Int) := wrap_small _ (by omega) (by omega)
    have w3' : IntKind.wrap .i64 (100 * ((gat (tl pre) : Nat) : Int) + 10 * (p : Int)) = 100 * ((gat (tl pre) : Nat) : Int) + 10 * (p : Int) := wrap_small _ (by omega) (by omega)
    have w4' : IntKind.wrap .i64 (100 * ((gat (tl pre) : Nat) : Int) + 10 * (p : Int) + (k : Int)) = 100 * ((gat (tl pre) : Nat) : Int) + 10 * (p : Int) + (k : Int) := wrap_small _ (by omega) (by omega)
    have FIN := hide (show KeepsFrom UD.heap.size Z (Z.setCell ⟨w8.heap.size, 0, none⟩ (.int .i64 (100 * ((gat (tl pre) : Nat) : Int) + 10 * (p : Int) + (k : Int)))) ∧ TKeep (keepA w9.heap.size) Z (Z.setCell ⟨w8.heap.size, 0, none⟩ (.int .i64 (100 * ((gat (tl pre) : Nat) : Int) + 10 * (p : Int) + (k : Int)))) ∧ (Kp (w.heap.size + 1) (w.heap.size + 1) w1 false T D R K hb lg (Z.setCell ⟨w8.heap.size, 0, none⟩ (.int .i64 (100 * ((gat (tl pre) : Nat) : Int) + 10 * (p : Int) + (k : Int)))) ∧ (Z.setCell ⟨w8.heap.size, 0, none⟩ (.int .i64 (100 * ((gat (tl pre) : Nat) : Int) + 10 * (p : Int) + (k : Int)))).heap[w8.heap.size]? = some (.cells #[.int .i64 ((gat (tl (pre ++ [.inl (p, k)])) : Nat) : Int)] 3 (0, 0)) ∧ tl (pre ++ [.inl (p, k)]) <+: [(1, 1), (2, 0), (2, 2)]) from by
      have hF : Fr (fun i => i = w8.heap.size) Z (Z.setCell ⟨w8.heap.size, 0, none⟩ (.int .i64 (100 * ((gat (tl pre) : Nat) : Int) + 10 * (p : Int) + (k : Int)))) := (Fr.refl (fun i => i = w8.heap.size) Z).setCell (p := ⟨w8.heap.size, 0, none⟩) rfl _
      refine ⟨(cellsOnly_set k2 _).keeps hF.size _, hF.tkeep (fun i cur t fr q hc hN => ?_), k1.set k2 S9.out.2 (by decide) _, (heap_set_in k2 0 _).trans ?_, by rw [tl_inl]; exact HO.out⟩
      · subst q
        rw [k2] at hc
        injection hc with hc
        injection hc with _ hc _
        subst hc
        rcases hN with ⟨_, q⟩ | q
        · rcases q with q | q | q | q | q | q | q <;> exact absurd q (by decide)
        · exact absurd q (by decide)
      · rw [tl_inl, gat_snoc]
        push_cast
        simp)
    clear hok hb1 k1 k2 k3
    gi_wp2
    exact FIN.out
  · rintro D' xs Z hD' ⟨hS1, _⟩ ⟨k1, k2, k3⟩ hK
    rw [show allM false exWs exLn exLn.size = [(1, 1), (2, 0), (2, 2)] from ex_all] at hS1
    have c0 : Z.cell? ⟨w8.heap.size, 0, none⟩ = some (.int .i64 112022) := by
      have := cell_row k2 (i := 0) rfl
      rw [hS1] at this
      exact this
    have HK := hide hK
    have FIN := hide (show Below w.heap.size w (Z.putObj D' (.deferred none)) from by
      have h5 := k1.grown SD.out (grownBy_putObj' Z D' (.deferred none)) (fun r e => by cases e; exact ⟨hD', _, hK, rfl⟩)
      exact chain BW.out (by rw [SW.out]; exact h5.bl) (Nat.le_refl _))
    clear k1 k2 k3 hK hD' hS1 TL
    gi_wp2
    refine ⟨by simp, .inl ⟨_, _, rfl, run_takeDeferred HK.out, ?_⟩⟩
    exact ⟨.bool true, by simp [results, Tryd.results9, go_sem], rfl, FIN.out⟩
  · rintro D' c pre Z hD' hSp hF hK
    exact hF.elim
end Go.Proofs.YtaikcnoiaaiopaaDoor
