/-
  Parts of the proof.
-/
import Derived.Test.YtaikcnoiaaiopaaDoorFollowsProofB31
import Derived.Test.YtaikcnoiaaiopaaDoorFollowsProofB32
import Derived.BigQuiet
import Derived.Sort.QuietIn
set_option linter.unusedSimpArgs false
namespace Go.Proofs.YtaikcnoiaaiopaaDoor
open Go Go.RowKit Go.Shelf
attribute [local go_sem] Oper.semAt_some ext_cell
theorem four (w : World) (a b c d : Obj) : ∃ W1, W1 = (((w.alloc a).alloc b).alloc c).alloc d ∧ Below w.heap.size w W1 ∧ W1.heap.size = w.heap.size + 4 ∧ W1.heap[w.heap.size]? = some a ∧ W1.heap[w.heap.size + 1]? = some b ∧ W1.heap[w.heap.size + 1 + 1]? = some c ∧ W1.heap[w.heap.size + 1 + 1 + 1]? = some d := by
  refine ⟨_, rfl, ?_, by simp, ?_, ?_, ?_, ?_⟩
  · exact ((((Below.refl _ _).alloc (Nat.le_refl _) _).alloc (by simp only [World.size_alloc]; omega) _).alloc (by simp only [World.size_alloc]; omega) _).alloc (by simp only [World.size_alloc]; omega) _
  · exact (Below.heap_alloc _ _ _ (by simp only [World.size_alloc]; omega)).trans ((Below.heap_alloc _ _ _ (by simp only [World.size_alloc]; omega)).trans ((Below.heap_alloc _ _ _ (by simp only [World.size_alloc]; omega)).trans (World.alloc_heap_new w _)))
  · refine (Below.heap_alloc _ _ _ (by simp only [World.size_alloc]; omega)).trans ((Below.heap_alloc _ _ _ (by simp only [World.size_alloc]; omega)).trans ?_)
    have := World.alloc_heap_new (w.alloc a) b
    simpa only [World.size_alloc] using this
  · refine (Below.heap_alloc _ _ _ (by simp only [World.size_alloc]; omega)).trans ?_
    have := World.alloc_heap_new ((w.alloc a).alloc b) c
    simpa only [World.size_alloc] using this
  · have := World.alloc_heap_new (((w.alloc a).alloc b).alloc c) d
    simpa only [World.size_alloc] using this
theorem two (w : World) (a b : Obj) : ∃ W1, W1 = (w.alloc a).alloc b ∧ Below w.heap.size w W1 ∧ W1.heap.size = w.heap.size + 2 ∧ W1.heap[w.heap.size]? = some a ∧ W1.heap[w.heap.size + 1]? = some b := by
  refine ⟨_, rfl, ?_, by simp, ?_, ?_⟩
  · exact ((Below.refl _ _).alloc (Nat.le_refl _) _).alloc (by simp only [World.size_alloc]; omega) _
  · exact (Below.heap_alloc _ _ _ (by simp only [World.size_alloc]; omega)).trans (World.alloc_heap_new w _)
  · have := World.alloc_heap_new (w.alloc a) b
    simpa only [World.size_alloc] using this
theorem make_ints (n : Nat) (h : n ≤ 1000000) (w : World) :
    (Instr.makeSlice 43 (.int .i64 (n : Int)) (.int .i64 (n : Int))).run Tryd.prog w = .ok (.slice (some ⟨w.heap.size, 0, none⟩) n n) (w.alloc (.cells (cntC [] n).toArray 3)) := by
  obtain ⟨i0, hi, hz0, hz1, hz2⟩ := info_parts size_int
  have := run_make (P := Tryd.prog) w 43 3 i0 (.int .i64 0) und_ints hi hz0 .i64 .i64 (n : Int) (n : Int) (by omega) (by omega) (by rw [hz2]; omega) (by omega)
  rw [hz1] at this
  have e : madeCells #[.int .i64 0] n = (cntC [] n).toArray := by
    rw [cntC_nil]
    apply Array.ext
    · simp [madeCells]
    intro i h1 h2
    simp [madeCells, Nat.mod_one]
  rw [← e]
  simpa [Value.cells] using this
structure Bx (n1 m wn fm : Nat) (l : List (Nat × Nat)) (Z : World) : Prop where
  b1 : Z.heap[n1]? = some (.cells #[.int .i64 (fst' l fm).1] 3 (0, 0))
  b2 : Z.heap[n1 + 1]? = some (.cells #[.int .i64 (fst' l fm).2] 3 (0, 0))
  row : Z.heap[m]? = some (.cells (cntC l wn).toArray 3 (0, 0))
  bm : Z.heap[m + 1]? = some (.cells #[.slice (some ⟨m, 0, none⟩) wn wn] 43 (0, 0))
  b3 : Z.heap[m + 1 + 1]? = some (.cells #[.int .i64 (lst l).1] 3 (0, 0))
  b4 : Z.heap[m + 1 + 1 + 1]? = some (.cells #[.int .i64 (lst l).2] 3 (0, 0))
  le : n1 + 2 ≤ m
theorem Bx.fr {n1 m wn fm : Nat} {l : List (Nat × Nat)} {Z Z' : World} {S : Nat → Prop} (h : Bx n1 m wn fm l Z) (hf : Fr S Z Z') (hs : ∀ k, n1 ≤ k → k < m + 4 → ¬ S k) : Bx n1 m wn fm l Z' := by
  have := h.le
  exact ⟨(hf.block _ (lt_of_heap h.b1) (hs _ (by omega) (by omega))).trans h.b1, (hf.block _ (lt_of_heap h.b2) (hs _ (by omega) (by omega))).trans h.b2, (hf.block _ (lt_of_heap h.row) (hs _ (by omega) (by omega))).trans h.row, (hf.block _ (lt_of_heap h.bm) (hs _ (by omega) (by omega))).trans h.bm, (hf.block _ (lt_of_heap h.b3) (hs _ (by omega) (by omega))).trans h.b3, (hf.block _ (lt_of_heap h.b4) (hs _ (by omega) (by omega))).trans h.b4, h.le⟩
theorem Kp.reset {base b0 : Nat} {w0 V : World} {f : Bool} {T : Pt} {D : List Nat → Prop} {R : List Nat → Nat → Prop} {K : List Nat → Kn} {hb : Nat} {lg : Int} (h : Kp base b0 w0 f T D R K hb lg V) {k j : Nat} {cur : Array Value} {t : TypeId} (hk : V.heap[k]? = some (.cells cur t (0, 0))) (h0 : k ≠ 0) (ht : t ≠ 65 ∧ t ≠ 112 ∧ t ≠ 67) (v : Value) : Kp base b0 (V.setCell ⟨k, j, none⟩ v) f T D R K hb lg (V.setCell ⟨k, j, none⟩ v) := by
  have hf : Fr (fun i => i = k) V (V.setCell ⟨k, j, none⟩ v) := (Fr.refl (fun i => i = k) V).setCell (p := ⟨k, j, none⟩) rfl v
  obtain ⟨h1, st, h2⟩ := h.hi
  have hne : ∀ (i : Nat) cur' t', V.heap[i]? = some (.cells cur' t' (0, 0)) → i = k → t' = t := fun i cur' t' hc q => by
    subst q
    rw [hk] at hc
    injection hc with hc
    injection hc with _ hc _
    exact hc.symm
  refine ⟨⟨h1.keep (TrK.fr hf (fun i cur' t' hi hc q => ?_)), st, (hf.block _ (lt_of_heap h2) (fun q => ht.2.2 (hne _ _ _ h2 q).symm)).trans h2⟩, tab_fr h.tab hf (fun q => h0 q.symm), Below.refl _ _, h.pos, h.lb, Nat.le_trans h.lw (Nat.le_trans h.bl.size hf.size), fun st' h' => h.sw st' (by
    have h9 := (hf.block _ (lt_of_heap h2) (fun q => ht.2.2 (hne _ _ _ h2 q).symm)).trans h2
    have := HM.inj h' h9
    subst this; exact h2)⟩
  have e := hne _ _ _ hc hi
  rcases q with q | q
  · exact ht.1 (e.symm.trans q)
  · exact ht.2.1 (e.symm.trans q)
def Sx (n1 m i : Nat) : Prop := i = n1 ∨ i = n1 + 1 ∨ i = m ∨ i = m + 1 + 1 ∨ i = m + 1 + 1 + 1
section
variable {n1 m wn fm : Nat} {l : List (Nat × Nat)} {Z Z' : World}
theorem Bx.ty (h : Bx n1 m wn fm l Z) {i : Nat} (hi : Sx n1 m i) : ∃ cur, Z.heap[i]? = some (.cells cur 3 (0, 0)) := by
  rcases hi with rfl | rfl | rfl | rfl | rfl
  · exact ⟨_, h.b1⟩
  · exact ⟨_, h.b2⟩
  · exact ⟨_, h.row⟩
  · exact ⟨_, h.b3⟩
  · exact ⟨_, h.b4⟩
theorem Bx.keeps (h : Bx n1 m wn fm l Z) (hf : Fr (Sx n1 m) Z Z') (D N : Nat) : KeepsFrom D Z Z' ∧ TKeep (keepA N) Z Z' := by
  refine ⟨⟨hf.size, fun i o _ hc ho => (hf.block i (Array.getElem?_eq_some_iff.1 hc).1 (fun q => ?_)).trans hc⟩, hf.tkeep (fun i cur t fr q hc hN => ?_)⟩
  · obtain ⟨cur, q1⟩ := h.ty q
    rw [q1] at hc; injection hc with hc; subst hc; cases ho
  · obtain ⟨cur', q1⟩ := h.ty q
    rw [q1] at hc; injection hc with hc; injection hc with _ hc _; subst hc
    rcases hN with ⟨_, q⟩ | q
    · rcases q with q | q | q | q | q | q | q <;> exact absurd q (by decide)
    · exact absurd q (by decide)
theorem Bx.kp (h : Bx n1 m wn fm l Z) (hf : Fr (Sx n1 m) Z Z') {base b0 : Nat} {w0 : World} {f : Bool} {T : Pt} {D : List Nat → Prop} {R : List Nat → Nat → Prop} {K : List Nat → Kn} {hb : Nat} {lg : Int} (k : Kp base b0 w0 f T D R K hb lg Z) (hb0 : b0 ≤ n1) : Kp base b0 w0 f T D R K hb lg Z' :=
  k.fr hf (fun i q => by have := h.le; rcases q with q | q | q | q | q <;> omega) (fun i cur t q hc => by
    obtain ⟨cur', q1⟩ := h.ty q
    rw [q1] at hc; injection hc with hc; injection hc with _ hc _; subst hc
    refine ⟨?_, ?_, ?_⟩ <;> decide)
def nOf (ws : List ByteArray) (line : ByteArray) (k : Nat) (s : ByteArray) (i : Nat) : Nat := if s.size = 1 then ones ws line k i else 0
theorem nOf_zero (ws : List ByteArray) (line : ByteArray) (k : Nat) (s : ByteArray) : nOf ws line k s 0 = 0 := by unfold nOf ones; split <;> rfl
theorem nOf_le (ws : List ByteArray) (line : ByteArray) (k : Nat) (s : ByteArray) (i : Nat) : nOf ws line k s i ≤ i := by
  unfold nOf
  split
  · exact ones_le ws line k i
  · omega
theorem nOf_not (ws : List ByteArray) (line : ByteArray) (k : Nat) (s : ByteArray) (i : Nat) (h : ¬ s.size = 1) : nOf ws line k s (i + 1) = nOf ws line k s i := by unfold nOf; rw [if_neg h, if_neg h]
theorem nOf_all (ws : List ByteArray) (line : ByteArray) (k : Nat) (s : ByteArray) (h : s.size = 1) : nOf ws line k s line.size = ones ws line k line.size := by unfold nOf; rw [if_pos h]
theorem nOf_hit {ws : List ByteArray} {line : ByteArray} {k : Nat} {s : ByteArray} {i : Nat} (hk : ws[k]? = some s) (h1 : s.size = 1) (hp : i < line.size) {hz : 0 < s.size} (h : line[i]'hp = s[0]'hz) : nOf ws line k s (i + 1) = nOf ws line k s i + 1 := by
  unfold nOf
  rw [if_pos h1, if_pos h1, ones_next, if_pos ((sdB_one hk h1 hp).2 h)]
theorem nOf_miss {ws : List ByteArray} {line : ByteArray} {k : Nat} {s : ByteArray} {i : Nat} (hk : ws[k]? = some s) (h1 : s.size = 1) (hp : i < line.size) {hz : 0 < s.size} (h : ¬ line[i]'hp = s[0]'hz) : nOf ws line k s (i + 1) = nOf ws line k s i := by
  unfold nOf
  rw [if_pos h1, if_pos h1, ones_next, if_neg (fun q => h ((sdB_one hk h1 hp).1 q))]
  rfl
theorem wpIn_region_read {P : Program} {id l n : Nat} {Q : Exit → Act → World → Prop} {a : Act} {w : World} {ops : List Oper} (hm : P.follows .mixedOrders = true) (hB : Region.lexB .any ops.toArray = true) (hd : noDefer ops = true) (hL : ¬ LetsOut Q)
    (h : wpQuiet P ops.toArray (fun w' => ∃ n, w' = w.drewN n) (fun a' => ∀ w', (∃ n, w' = w.drewN n) → Q .normal a' w') ops a) : (Code.region id ops.toArray true).wpIn (Fence.wide.inRound l) n P Q a w := by
  have hC : (fun w' => ∃ n, w' = w.drewN n) { w with drawn := w.drawn + 1 } := ⟨1, rfl⟩
  simp only [Region.lexB, Bool.and_eq_true] at hB
  refine wpIn_region_any hm (any_round (noDefer_spec hd) hL _ _ _ _ (wpAny_of_quiet (C := fun w' => ∃ n, w' = w.drewN n) (Q := fun a' => ∀ w', (∃ n, w' = w.drewN n) → Q .normal a' w') (fun _ w' hw' h => h w' hw') _ _ _ _ hC ?_))
  have := wpAnyQ_lex (C := fun w' => ∃ n, w' = w.drewN n) (md := .any) hB.1 ops 0 (Array.replicate ops.length false) a (by simp) (by simpa using hB.2) h
  simpa using this
theorem off_set {i j : Nat} {o : Obj} (Z : World) (v : Value) {c : Nat} (h : Z.heap[i]? = some o) (hne : i ≠ j) : (Z.setCell ⟨j, c, none⟩ v).heap[i]? = some o := (Below.heap_setCell Z ⟨j, c, none⟩ v i hne).trans h
theorem Bx.new (h : Bx n1 m wn fm l Z) {p k : Nat} (hk : k < wn) (h1 : (fst' l fm).1 < 0) (hp : fm ≤ p) :
    Bx n1 m wn fm (l ++ [(p, k)]) (((((Z.setCell ⟨n1, 0, none⟩ (.int .i64 (p : Int))).setCell ⟨n1 + 1, 0, none⟩ (.int .i64 (k : Int))).setCell ⟨m, k, none⟩ (.int .i64 ((cnt l k : Int) + 1))).setCell ⟨m + 1 + 1, 0, none⟩ (.int .i64 (p : Int))).setCell ⟨m + 1 + 1 + 1, 0, none⟩ (.int .i64 (k : Int)))
    ∧ Fr (Sx n1 m) Z (((((Z.setCell ⟨n1, 0, none⟩ (.int .i64 (p : Int))).setCell ⟨n1 + 1, 0, none⟩ (.int .i64 (k : Int))).setCell ⟨m, k, none⟩ (.int .i64 ((cnt l k : Int) + 1))).setCell ⟨m + 1 + 1, 0, none⟩ (.int .i64 (p : Int))).setCell ⟨m + 1 + 1 + 1, 0, none⟩ (.int .i64 (k : Int))) := by
  have hle := h.le
  constructor
  · refine ⟨?_, ?_, ?_, ?_, ?_, ?_, hle⟩
    · rw [fst_snoc_new h1 hp]
      exact off_set _ _ (off_set _ _ (off_set _ _ (off_set _ _ (heap_set_in h.b1 0 _) (by omega)) (by omega)) (by omega)) (by omega)
    · rw [fst_snoc_new h1 hp]
      exact off_set _ _ (off_set _ _ (off_set _ _ (heap_set_in (off_set _ _ h.b2 (by omega)) 0 _) (by omega)) (by omega)) (by omega)
    · refine (off_set _ _ (off_set _ _ (heap_set_in (off_set _ _ (off_set _ _ h.row (by omega)) (by omega)) k _) (by omega)) (by omega)).trans ?_
      rw [cntC_snoc l hk]
      simp
    · exact off_set _ _ (off_set _ _ (off_set _ _ (off_set _ _ (off_set _ _ h.bm (by omega)) (by omega)) (by omega)) (by omega)) (by omega)
    · rw [lst_snoc]
      exact off_set _ _ (heap_set_in (off_set _ _ (off_set _ _ (off_set _ _ h.b3 (by omega)) (by omega)) (by omega)) 0 _) (by omega)
    · rw [lst_snoc]
      exact heap_set_in (off_set _ _ (off_set _ _ (off_set _ _ (off_set _ _ h.b4 (by omega)) (by omega)) (by omega)) (by omega)) 0 _
  · exact (((((Fr.refl _ Z).setCell (p := ⟨n1, 0, none⟩) (.inl rfl) _).setCell (p := ⟨n1 + 1, 0, none⟩) (.inr (.inl rfl)) _).setCell (p := ⟨m, k, none⟩) (.inr (.inr (.inl rfl))) _).setCell (p := ⟨m + 1 + 1, 0, none⟩) (.inr (.inr (.inr (.inl rfl)))) _).setCell (p := ⟨m + 1 + 1 + 1, 0, none⟩) (.inr (.inr (.inr (.inr rfl)))) _
theorem Bx.old (h : Bx n1 m wn fm l Z) {p k : Nat} (hk : k < wn) (h1 : fst' (l ++ [(p, k)]) fm = fst' l fm) :
    Bx n1 m wn fm (l ++ [(p, k)]) (((Z.setCell ⟨m, k, none⟩ (.int .i64 ((cnt l k : Int) + 1))).setCell ⟨m + 1 + 1, 0, none⟩ (.int .i64 (p : Int))).setCell ⟨m + 1 + 1 + 1, 0, none⟩ (.int .i64 (k : Int)))
    ∧ Fr (Sx n1 m) Z (((Z.setCell ⟨m, k, none⟩ (.int .i64 ((cnt l k : Int) + 1))).setCell ⟨m + 1 + 1, 0, none⟩ (.int .i64 (p : Int))).setCell ⟨m + 1 + 1 + 1, 0, none⟩ (.int .i64 (k : Int))) := by
  have hle := h.le
  constructor
  · refine ⟨?_, ?_, ?_, ?_, ?_, ?_, hle⟩
    · rw [h1]
      exact off_set _ _ (off_set _ _ (off_set _ _ h.b1 (by omega)) (by omega)) (by omega)
    · rw [h1]
      exact off_set _ _ (off_set _ _ (off_set _ _ h.b2 (by omega)) (by omega)) (by omega)
    · refine (off_set _ _ (off_set _ _ (heap_set_in h.row k _) (by omega)) (by omega)).trans ?_
      rw [cntC_snoc l hk]
      simp
    · exact off_set _ _ (off_set _ _ (off_set _ _ h.bm (by omega)) (by omega)) (by omega)
    · rw [lst_snoc]
      exact off_set _ _ (heap_set_in (off_set _ _ h.b3 (by omega)) 0 _) (by omega)
    · rw [lst_snoc]
      exact heap_set_in (off_set _ _ (off_set _ _ h.b4 (by omega)) (by omega)) 0 _
  · exact (((Fr.refl _ Z).setCell (p := ⟨m, k, none⟩) (.inr (.inr (.inl rfl))) _).setCell (p := ⟨m + 1 + 1, 0, none⟩) (.inr (.inr (.inr (.inl rfl)))) _).setCell (p := ⟨m + 1 + 1 + 1, 0, none⟩) (.inr (.inr (.inr (.inr rfl)))) _
theorem fin_round {Z2 Z3 : World} {l' : List (Nat × Nat)} {base b0 : Nat} {w0 : World} {f : Bool} {T : Pt} {D : List Nat → Prop} {R : List Nat → Nat → Prop} {K : List Nat → Kn} {hb : Nat} {lg : Int} (k1 : Kp base b0 w0 f T D R K hb lg Z2) (h : Bx n1 m wn fm l Z2) (hq : Below Z.heap.size Z Z2) (hf : Fr (Sx n1 m) Z2 Z3) (h' : Bx n1 m wn fm l' Z3) (hb0 : b0 ≤ n1) (Dz N : Nat) :
    KeepsFrom Dz Z Z3 ∧ TKeep (keepA N) Z Z3 ∧ Kp base b0 w0 f T D R K hb lg Z3 ∧ Bx n1 m wn fm l' Z3 :=
  ⟨(keeps_below hq).trans (h.keeps hf Dz N).1, TKeep.trans ⟨hq.size, fun i _ _ _ _ hc => (hq.block i (lt_of_heap hc)).trans hc⟩ (h.keeps hf Dz N).2, h.kp hf k1 hb0, h'⟩
end
set_option maxRecDepth 100000 in
set_option maxHeartbeats 4000000 in
theorem follows_in (n : Nat) (hn : 12 ≤ n) {w : World} {v : Value} {ws : List ByteArray} (line : ByteArray) (c : Int) (hc : (Lit.int .i64 c).wf = true) (hsz : line.size ≤ 140737488355328) (ht : z1_Tab w) (hv : ArgW w v ws) :
    CallsIn Fence.wide n Tryd.prog 4 #[v, .string line, .int .i64 c] w fun e w' => e = .returned (.bool true) ∧ Below w.heap.size w w' := by
  have h1 : 1 ≤ n := by omega
  have h2 : 1 ≤ n - 1 - 1 := by omega
  have hfn : ∀ f, Fence.wide.fn f := fun _ => trivial
  have hmx : Tryd.prog.follows .mixedOrders = true := by kernel_rfl
  have HT := hide ht
  have HV := hide hv
  obtain ⟨q, cap, rfl, hml, hcap, _⟩ := hv.slice
  clear ht hv
  obtain ⟨W1, hW1, bW, sW, x0, x1, x2, x3⟩ := four w (.cells #[.slice q ws.length cap] 22) (.cells #[.string line] 9) (.cells #[.int .i64 c] 3) (.cells #[.bool false] 4)
  have HW1 := hide hW1
  have BW := hide bW
  have SW := hide sW
  have X0 := hide x0
  have X1 := hide x1
  have X2 := hide x2
  have X3 := hide x3
  have KN := hide (known_in (n - 1) (by omega) (HT.out.below bW))
  clear hW1 bW sW x0 x1 x2 x3
  refine callsIn_of_wp_marks Tryd.func4 rfl trivial ?_ rfl
  simp only [Tryd.ntmps4, List.size_toArray, List.length_cons, List.length_nil, Nat.reduceAdd, Nat.reduceSub, Array.replicate_succ, Array.replicate_zero, List.push_toArray, List.append_toArray, List.nil_append, List.cons_append]
  gi_upto_region 1 with fail
  rw [← HW1.out]
  clear HW1
  gi_upto_region 2 with (gi_at_call 9; refine KN.out.mono ?_; rintro e w1 ⟨rfl, k1⟩; have B1 := hide k1; clear k1)
  have V1 := hide ((HV.out.below BW.out (Nat.le_refl _)).below B1.out (Nat.le_refl _))
  have Y0 := hide ((B1.out.block _ (by rw [SW.out]; omega)).trans X0.out)
  have Y1 := hide ((B1.out.block _ (by rw [SW.out]; omega)).trans X1.out)
  have Y2 := hide ((B1.out.block _ (by rw [SW.out]; omega)).trans X2.out)
  have Y3 := hide ((B1.out.block _ (by rw [SW.out]; omega)).trans X3.out)
  have BB := hide (show Below w.heap.size w w1 from chain BW.out B1.out (Nat.le_refl _))
  have SB := hide (show w.heap.size + 4 ≤ w1.heap.size from by have := B1.out.size; have := SW.out; omega)
  have T1 := hide (HT.out.below BB.out)
  clear X0 X1 X2 X3 KN B1 BW SW HT
  have NC := hide (new_c false V1.out)
  have c0 := cell_row Y0.out (i := 0) rfl
  gi_upto_region 3 with (gi_at_call 10; refine (callsIn_wide.2 NC.out).mono ?_; rintro e w5 ⟨hbl, (⟨hmm, rfl⟩ | ⟨hb, T, D, R, K, lg, rfl, hlb, hH, hM⟩)⟩)
  · have c3 := cell_row ((hbl.block _ (by have := SB.out; omega)).trans Y3.out) (i := 0) rfl
    have f3 := frz_row ((hbl.block _ (by have := SB.out; omega)).trans Y3.out) 0
    have FIN := hide (show Below w.heap.size w (w5.setCell ⟨w.heap.size + 1 + 1 + 1, 0, none⟩ (.bool true)) from (chain BB.out hbl (Nat.le_refl _)).setCell (by show w.heap.size ≤ w.heap.size + 1 + 1 + 1; omega) _)
    have c9 := cell_row (heap_set_in ((hbl.block _ (by have := SB.out; omega)).trans Y3.out) 0 (.bool true)) (i := 0) (v := .bool true) rfl
    clear hbl c0
    gi_wp2
    refine ⟨.bool true, by simp [results, Tryd.results4, go_sem, c9], rfl, FIN.out⟩
  have OK := hide hH.ok
  have BH := hide hbl
  have KP5 := hide (kp_new (w := w1) hH hM (by unfold wrap64; omega) T1.out hbl hlb)
  have HU5 := hide hH
  have HBL := hide (show hb < w5.heap.size from lt_of_heap hM)
  have Z0 := hide ((hbl.block _ (by have := SB.out; omega)).trans Y0.out)
  have Z1 := hide ((hbl.block _ (by have := SB.out; omega)).trans Y1.out)
  have Z2 := hide ((hbl.block _ (by have := SB.out; omega)).trans Y2.out)
  have Z3 := hide ((hbl.block _ (by have := SB.out; omega)).trans Y3.out)
  have S5 := hide (show w.heap.size + 4 ≤ w5.heap.size from by have := hbl.size; have := SB.out; omega)
  have B5 := hide (chain BB.out hbl (Nat.le_refl _))
  have wl := (mayB_of hH.ok).2
  have MK := make_ints ws.length (by omega)
  clear hH hM hlb hbl NC c0 Y0 Y1 Y2 Y3 V1
  have c0 := cell_row Z0.out (i := 0) rfl
  gi_upto_region 9 with fail
  obtain ⟨U, hU, bU, sU, u0, u1⟩ := two w5 (.cells #[.int .i64 (-1)] 3) (.cells #[.int .i64 (-1)] 3)
  rw [← hU]
  clear hU
  have BU := hide bU
  have SU := hide sU
  have U0 := hide u0
  have U1 := hide u1
  have V0 := hide ((bU.block _ (by have := S5.out; omega)).trans Z0.out)
  clear bU sU u0 u1 c0
  have c0 := cell_row V0.out (i := 0) rfl
  gi_upto_region 12 with fail
  obtain ⟨X, hX, bX, sX, x0, x1, x2, x3⟩ := four U (.cells (cntC [] ws.length).toArray 3) (.cells #[.slice (some ⟨U.heap.size, 0, none⟩) ws.length ws.length] 43) (.cells #[.int .i64 (-1)] 3) (.cells #[.int .i64 (-1)] 3)
  rw [← hX]
  clear hX
  have X2' := hide ((bX.block _ (by have := SU.out; have := S5.out; omega)).trans ((BU.out.block _ (by have := S5.out; omega)).trans Z2.out))
  have X1' := hide ((bX.block _ (by have := SU.out; have := S5.out; omega)).trans ((BU.out.block _ (by have := S5.out; omega)).trans Z1.out))
  have X0' := hide ((bX.block _ (by have := SU.out; have := S5.out; omega)).trans V0.out)
  have X3' := hide ((bX.block _ (by have := SU.out; have := S5.out; omega)).trans ((BU.out.block _ (by have := S5.out; omega)).trans Z3.out))
  have KX := hide ((KP5.out.below BU.out).below bX)
  have BX0 : Hid (Bx w5.heap.size U.heap.size ws.length 0 [] X) := hide ⟨(bX.block _ (by have := SU.out; omega)).trans U0.out, (bX.block _ (by have := SU.out; omega)).trans U1.out, x0, x1, x2, x3, by have := SU.out; omega⟩
  have BXX := hide (show Below w.heap.size w X from chain (chain B5.out BU.out (by have := S5.out; omega)) bX (by have := S5.out; have := SU.out; omega))
  have SX := hide sX
  clear bX sX x0 x1 x2 x3 c0 U0 U1 V0 Z0 Z1 Z2 Z3 KP5 BU B5 MK
  have c1 := cell_row X1'.out (i := 0) rfl
  have c2 := cell_row X2'.out (i := 0) rfl
  have f2 := frz_row X2'.out 0
  have wr1 : IntKind.wrap .i64 ((line.size : Int) + 1) = (line.size : Int) + 1 := wrap_small _ (by omega) (by omega)
  have PC := hide (fun W => pick_c c (line.size + 1) (by omega) (by omega) hc W)
  simp only [show ((line.size + 1 : Nat) : Int) = (line.size : Int) + 1 by omega] at PC
  gi_upto_region 13 with (gi_at_call 18; refine (callsIn_wide.2 (PC.out _)).mono ?_; rintro e w6 ⟨⟨m, rfl, hm⟩, h6⟩; subst w6)
  have X2q := X2'.out
  have X2p := hide (heap_set_in X2q 0 (.int .i64 (m : Int)))
  have X1p := hide ((Below.heap_setCell X ⟨w.heap.size + 1 + 1, 0, none⟩ (.int .i64 (m : Int)) (w.heap.size + 1) (by show w.heap.size + 1 ≠ w.heap.size + 1 + 1; omega)).trans X1'.out)
  have X0p := hide ((Below.heap_setCell X ⟨w.heap.size + 1 + 1, 0, none⟩ (.int .i64 (m : Int)) w.heap.size (by show w.heap.size ≠ w.heap.size + 1 + 1; omega)).trans X0'.out)
  have X3p := hide ((Below.heap_setCell X ⟨w.heap.size + 1 + 1, 0, none⟩ (.int .i64 (m : Int)) (w.heap.size + 1 + 1 + 1) (by show w.heap.size + 1 + 1 + 1 ≠ w.heap.size + 1 + 1; omega)).trans X3'.out)
  have KY := hide (KX.out.reset X2q (j := 0) (by omega) (by decide) (.int .i64 (m : Int)))
  have BYX : Hid (Bx w5.heap.size U.heap.size ws.length m [] (X.setCell ⟨w.heap.size + 1 + 1, 0, none⟩ (.int .i64 (m : Int)))) := hide (by
    have h5 : Bx w5.heap.size U.heap.size ws.length m [] X := ⟨BX0.out.b1, BX0.out.b2, BX0.out.row, BX0.out.bm, BX0.out.b3, BX0.out.b4, BX0.out.le⟩
    exact h5.fr ((Fr.refl (fun i => i = w.heap.size + 1 + 1) X).setCell (p := ⟨w.heap.size + 1 + 1, 0, none⟩) rfl _) (fun k h6 h7 e => by have := S5.out; omega))
  have BWY := hide (show Below w.heap.size w (X.setCell ⟨w.heap.size + 1 + 1, 0, none⟩ (.int .i64 (m : Int))) from BXX.out.setCell (by show w.heap.size ≤ w.heap.size + 1 + 1; omega) _)
  have SY := hide (show (X.setCell ⟨w.heap.size + 1 + 1, 0, none⟩ (.int .i64 (m : Int))).heap.size = U.heap.size + 4 from by rw [World.size_setCell]; exact SX.out)
  clear X2q X2' X1' X0' X3' KX BX0 BXX SX c1 c2 f2 PC wr1
  generalize (X.setCell ⟨w.heap.size + 1 + 1, 0, none⟩ (.int .i64 (m : Int))) = Y at X0p X1p X2p X3p KY BYX BWY SY ⊢
  have AC := hide (fun W => all_c hb line W)
  have c1 := cell_row X1p.out (i := 0) rfl
  gi_wp2_with (gi_at_call 16; refine (callsIn_wide.2 (AC.out _)).mono ?_; rintro e w8 ⟨rfl, h5⟩; subst w8)
  obtain ⟨UD, hUD, bD, sD, r1, r2⟩ := two Y (.cells #[.pointer (some ⟨hb, 0, none⟩)] 25) (.cells #[.string line] 9)
  rw [← hUD]
  clear hUD AC c1
  have SD := hide sD
  have KD := hide (KY.out.below bD)
  have BD := hide (BYX.out.fr (S := fun k => Y.heap.size ≤ k) ((Fr.of_below bD)) (fun k h6 h7 e => by have := SY.out; omega))
  have R1 := hide r1
  have R2 := hide r2
  have BWD := hide (chain BWY.out bD (by have := SY.out; have := SU.out; have := S5.out; omega))
  clear bD sD r1 r2 BYX
  have NUM := hide (show w1.heap.size ≤ w5.heap.size ∧ U.heap.size = w5.heap.size + 2 ∧ Y.heap.size = U.heap.size + 4 ∧ UD.heap.size = Y.heap.size + 2 ∧ w.heap.size + 4 ≤ w1.heap.size from ⟨BH.out.size, SU.out, SY.out, SD.out, SB.out⟩)
  obtain ⟨g, off, rfl, CE, CG⟩ : ∃ g off, q = some ⟨g, off, none⟩ ∧ Hid (∀ (i : Nat) (s : ByteArray), ws[i]? = some s → w.cell? ⟨g, off + i, none⟩ = some (.string s)) ∧ Hid (g < w.heap.size) := by
    rcases HV.out with ⟨_, _, e, rfl⟩ | ⟨g, off, cap', e, hg, _, _, hcs⟩
    · simp at wl
    · injection e with e _ _
      exact ⟨g, off, e, hide hcs, hide hg⟩
  have wl100 := hide wl
  have HU6 := hide HU5.out
  have TL := all_tells (n - 1) (by omega) (n0 := Y.heap.size) (line := line) (HU5.out.at KD.out.hi.1) R1.out R2.out (by have := NUM.out; omega) (Nat.le_refl _) (Nat.le_succ _) (by omega)
  clear R1 R2 KY SY SU S5 SD SB HU5 T1 BH HV wl hcap
  refine range_toldE h1 (gf := 30) (lb := #[.pointer (some ⟨Y.heap.size, 0, none⟩), .pointer (some ⟨Y.heap.size + 1, 0, none⟩)]) rfl (enters_of Tryd.func30 (by kernel_rfl) rfl) rfl TL
    (fun pre Z => Kp w1.heap.size w1.heap.size Y false T D R K hb lg Z ∧ Bx w5.heap.size U.heap.size ws.length m (tl pre) Z ∧ tl pre <+: allM false ws line line.size) (fun _ _ _ => False)
    (fun pre A A' row hi hg hr => ?_) (fun _ _ _ _ _ hi => hi.elim) (fun pre V hi => ⟨hi.1.hi, hi.1.tab⟩) (fun pre A B hi hf => ?_) (fun _ _ _ _ hi => hi.elim)
    (fun V hv => by obtain ⟨⟨_, st, hm⟩, _⟩ := hv; exact ⟨T, false, lg, st, hm⟩) (fun pre d A B hi hu => ?_) ⟨KD.out, BD.out, by simp [tl]⟩
    (fun x => { tmps := #[.slice (some ⟨g, off, none⟩) ws.length cap, .string line, .int .i64 c, .pointer (some ⟨w.heap.size, 0, none⟩), .pointer (some ⟨w.heap.size + 1, 0, none⟩), .pointer (some ⟨w.heap.size + 1 + 1, 0, none⟩), .pointer (some ⟨w.heap.size + 1 + 1 + 1, 0, none⟩), .bool true, .pointer (some ⟨hb, 0, none⟩), .int .i64 0, .pointer (some ⟨w5.heap.size, 0, none⟩), .pointer (some ⟨w5.heap.size + 1, 0, none⟩), .pointer (some ⟨U.heap.size + 1, 0, none⟩), .pointer (some ⟨U.heap.size + 1 + 1, 0, none⟩), .pointer (some ⟨U.heap.size + 1 + 1 + 1, 0, none⟩), .int .i64 (x.1 : Int), .int .i64 (x.2 : Int), undef, undef, undef, undef, undef, undef, .bool true, .tuple #[.pointer (some ⟨hb, 0, none⟩), .int .i64 0], .slice (some ⟨g, off, none⟩) ws.length cap, .tuple #[.pointer (some ⟨hb, 0, none⟩), .int .i64 0], .pointer (some ⟨hb, 0, none⟩), .int .i64 0, .int .i64 0, .bool false, undef, .bool true, .bool false, .bool false, .pointer (some ⟨hb, 0, none⟩), .bool false, .bool false, .slice (some ⟨g, off, none⟩) ws.length cap, .int .i64 (ws.length : Int), .slice (some ⟨U.heap.size, 0, none⟩) ws.length ws.length, .int .i64 c, .string line, .int .i64 (line.size : Int), .int .i64 ((line.size : Int) + 1), .int .i64 (m : Int), .pointer (some ⟨hb, 0, none⟩), .string line, .func (.func 30) #[] #[.pointer (some ⟨Y.heap.size, 0, none⟩), .pointer (some ⟨Y.heap.size + 1, 0, none⟩)], .int .i64 (x.1 : Int), .int .i64 (x.2 : Int), undef, undef, undef, undef, undef, undef, undef, undef, undef, undef, undef, undef, undef, undef, undef, undef, undef, undef, undef, undef, undef, undef, undef, undef, undef, undef, undef, undef, undef, undef, undef, undef, undef, undef, undef, undef, undef, undef, undef, undef, undef, undef, undef, undef, undef, undef, undef, undef, undef, undef, undef, undef, undef, undef, undef, undef, undef, undef, undef, undef, undef, undef, undef, undef, undef, undef, undef, undef, undef, undef, undef, undef, undef, undef, undef, undef, undef, undef, undef, undef, undef, undef, undef, undef, undef, undef, undef, undef, undef, undef, undef, undef, undef, undef, undef, undef, undef, undef, undef, undef, undef, undef, undef, undef, undef, undef, undef, undef, undef, undef, undef, undef, undef, undef, undef, undef, undef, undef, undef, undef, undef, undef, undef, undef, undef, undef, undef, undef, undef, undef, undef, undef, undef, undef, undef, undef, undef, undef, undef, undef, undef, undef, undef, undef, undef, undef, undef, undef, undef], defers := [] }) ?_ ?_ ?_ ?_
  · obtain ⟨k1, k2, k3⟩ := hi
    have nu := NUM.out
    exact ⟨k1.grown (by omega) hg hr, k2.fr (S := fun k => row = some k) ⟨hg.os, hg.tape, hg.output, hg.size, fun k hk hs => hg.block k hk (fun e => hs e.symm)⟩ (fun k h6 h7 e => by obtain ⟨q, _⟩ := hr k e; omega), k3⟩
  · obtain ⟨k1, k2, k3⟩ := hi
    have nu := NUM.out
    exact ⟨k1.ft (by omega) hf, k2.fr hf.fr (fun k h6 h7 e => by have := e.1; omega), k3⟩
  · obtain ⟨k1, k2, k3⟩ := hi
    have nu := NUM.out
    rw [tl_inr]
    exact ⟨k1.bump hu, k2.fr hu.fr (fun k h6 h7 e => by have := HBL.out; omega), k3⟩
  · intro l' x Z K' hK
    simp only [encP]
    gi_wp2
    exact hK
  · rintro l' pre ⟨p, k⟩ Z ⟨k1, k2, k3⟩ hok
    dsimp only
    unfold OkA at hok
    have nu := NUM.out
    obtain ⟨s, hs, s1, s2, s3, s4, s5⟩ := round_facts OK.out hok
    have hkl : k < ws.length := (List.getElem?_eq_some_iff.1 hs).1
    have hln := told_len (l := tl pre) k3 OK.out
    have hcn := cnt_le (tl pre) k
    have c0 := cell_row ((k1.bl.block w.heap.size (by omega)).trans X0p.out) (i := 0) rfl
    have c1 := cell_row ((k1.bl.block (w.heap.size + 1) (by omega)).trans X1p.out) (i := 0) rfl
    have c2 := cell_row ((k1.bl.block (w.heap.size + 1 + 1) (by omega)).trans X2p.out) (i := 0) (v := .int .i64 (m : Int)) rfl
    have cw : Z.cell? ⟨g, off + k, none⟩ = some (.string s) := ((BWY.out.trans (k1.bl.mono (by omega))).cell (p := ⟨g, off + k, none⟩) CG.out).trans (CE.out k s hs)
    have d3 := cell_row k2.b3 (i := 0) rfl
    have d4 := cell_row k2.b4 (i := 0) rfl
    have HP := hide (show k < ws.length ∧ Kp w1.heap.size w1.heap.size Y false T D R K hb lg Z ∧ Bx w5.heap.size U.heap.size ws.length m (tl pre) Z ∧ tl pre ++ [(p, k)] <+: allM false ws line line.size from ⟨hkl, k1, k2, hok⟩)
    have q1 : decide ((k : Int) < 0) = false := decide_eq_false (by omega)
    have q2 : decide ((ws.length : Int) ≤ (k : Int)) = false := decide_eq_false (by omega)
    have q2' : decide (ws.length ≤ k) = false := decide_eq_false (by omega)
    have q3 : decide ((p : Int) < 0) = false := decide_eq_false (by omega)
    have w1' : IntKind.wrap .i64 ((line.size : Int) - (s.size : Int)) = (line.size : Int) - (s.size : Int) := wrap_small _ (by omega) (by omega)
    have w2' : IntKind.wrap .i64 ((p : Int) + (s.size : Int)) = (p : Int) + (s.size : Int) := wrap_small _ (by omega) (by omega)
    have q4 : decide ((line.size : Int) - (s.size : Int) < (p : Int)) = false := decide_eq_false (by omega)
    have q5 : decide ((p : Int) < (lst (tl pre)).1) = false := decide_eq_false (by omega)
    have e1 : (k : Int) < (ws.length : Int) := by omega
    have e2 : (0 : Int) ≤ (k : Int) := by omega
    have e3 : (0 : Int) ≤ (p : Int) := by omega
    have e4 : (p : Int) ≤ (p : Int) + (s.size : Int) := by omega
    have e5 : (p : Int) + (s.size : Int) ≤ (line.size : Int) := by omega
    have e6 : ((p : Int) + (s.size : Int)).toNat = p + s.size := by omega
    have S4 := hide s4
    have S5' := hide s5
    have HL := hide hln
    have HC := hide hcn
    clear hok k1 k2 k3 hs hkl s4 s5 nu hln hcn
    by_cases hq : (p : Int) = (lst (tl pre)).1
    · have q6 : ((p : Int) == (lst (tl pre)).1) = true := by rw [beq_iff_eq]; exact hq
      have q7 : decide ((k : Int) ≤ (lst (tl pre)).2) = false := decide_eq_false (by have := S5'.out hq.symm; omega)
      clear hq
      gi_upto_region 16 with fail
      refine wpIn_region_read (by kernel_rfl) (by kernel_rfl) (by kernel_rfl) (fun ⟨_, _, h⟩ => h) ?_
      repeat (go_big_quiet_step (fail))
      clear q7
      refine wpQuiet_nil ?_
      intro Z2 hw'
      have BQ := hide (show Below Z.heap.size Z Z2 from by obtain ⟨nq, rfl⟩ := hw'; exact below_drewN _ _)
      clear hw' c0 c1 d3 d4 cw q1 q2 q2' q3 q4 q5 q6 w1' w2' e4 e5 e6 S4 S5'
      have B2 := hide (HP.out.2.2.1.fr (S := fun _ => False) (Fr.of_below BQ.out) (fun _ _ _ q => q))
      have K2 := hide (HP.out.2.1.below BQ.out)
      have c2 := cell_row ((K2.out.bl.block (w.heap.size + 1 + 1) (by have := NUM.out; omega)).trans X2p.out) (i := 0) (v := .int .i64 (m : Int)) rfl
      have d1 := cell_row B2.out.b1 (i := 0) rfl
      have dm := cell_row B2.out.bm (i := 0) rfl
      have dk := cell_row B2.out.row (i := k) (v := .int .i64 (cnt (tl pre) k : Int)) (by rw [List.getElem?_toArray]; exact cntC_get _ HP.out.1)
      have d2 := cell_row B2.out.b2 (i := 0) rfl
      have d3 := cell_row B2.out.b3 (i := 0) rfl
      have d4 := cell_row B2.out.b4 (i := 0) rfl
      have z1 := frz_row B2.out.b1 0
      have z2 := frz_row B2.out.b2 0
      have zk := frz_row B2.out.row k
      have z3 := frz_row B2.out.b3 0
      have z4 := frz_row B2.out.b4 0
      have wc : IntKind.wrap .i64 ((cnt (tl pre) k : Int) + 1) = (cnt (tl pre) k : Int) + 1 := wrap_small _ (by omega) (by have := HL.out; have := HC.out; omega)
      by_cases hm' : m ≤ p
      · have i1 : (m : Int) ≤ (p : Int) := by omega
        by_cases hf1 : (fst' (tl pre) m).1 < 0
        · have FIN := hide (fin_round K2.out B2.out BQ.out (B2.out.new (p := p) (k := k) HP.out.1 hf1 hm').2 (B2.out.new (p := p) (k := k) HP.out.1 hf1 hm').1 (by have := NUM.out; omega) UD.heap.size Y.heap.size)
          have dm' : ((Z2.setCell ⟨w5.heap.size, 0, none⟩ (.int .i64 (p : Int))).setCell ⟨w5.heap.size + 1, 0, none⟩ (.int .i64 (k : Int))).cell? ⟨U.heap.size + 1, 0, none⟩ = some (.slice (some ⟨U.heap.size, 0, none⟩) ws.length ws.length) := cell_row (off_set _ _ (off_set _ _ B2.out.bm (by have := NUM.out; omega)) (by have := NUM.out; omega)) (i := 0) rfl
          have dk' : ((Z2.setCell ⟨w5.heap.size, 0, none⟩ (.int .i64 (p : Int))).setCell ⟨w5.heap.size + 1, 0, none⟩ (.int .i64 (k : Int))).cell? ⟨U.heap.size, k, none⟩ = some (.int .i64 (cnt (tl pre) k : Int)) := cell_row (off_set _ _ (off_set _ _ B2.out.row (by have := NUM.out; omega)) (by have := NUM.out; omega)) (i := k) (by rw [List.getElem?_toArray]; exact cntC_get _ HP.out.1)
          have d3' : ((Z2.setCell ⟨w5.heap.size, 0, none⟩ (.int .i64 (p : Int))).setCell ⟨w5.heap.size + 1, 0, none⟩ (.int .i64 (k : Int))).cell? ⟨U.heap.size + 1 + 1, 0, none⟩ = some (.int .i64 (lst (tl pre)).1) := cell_row (off_set _ _ (off_set _ _ B2.out.b3 (by have := NUM.out; omega)) (by have := NUM.out; omega)) (i := 0) rfl
          have d4' : ((Z2.setCell ⟨w5.heap.size, 0, none⟩ (.int .i64 (p : Int))).setCell ⟨w5.heap.size + 1, 0, none⟩ (.int .i64 (k : Int))).cell? ⟨U.heap.size + 1 + 1 + 1, 0, none⟩ = some (.int .i64 (lst (tl pre)).2) := cell_row (off_set _ _ (off_set _ _ B2.out.b4 (by have := NUM.out; omega)) (by have := NUM.out; omega)) (i := 0) rfl
          gi_wp2
          refine ⟨FIN.out.1, FIN.out.2.1, FIN.out.2.2.1, ?_, ?_⟩
          · rw [tl_inl]; exact FIN.out.2.2.2
          · rw [tl_inl]; exact HP.out.2.2.2
        · have FIN := hide (fin_round K2.out B2.out BQ.out (B2.out.old (p := p) (k := k) HP.out.1 (fst_snoc_old hf1 _)).2 (B2.out.old (p := p) (k := k) HP.out.1 (fst_snoc_old hf1 _)).1 (by have := NUM.out; omega) UD.heap.size Y.heap.size)
          gi_wp2
          refine ⟨FIN.out.1, FIN.out.2.1, FIN.out.2.2.1, ?_, ?_⟩
          · rw [tl_inl]; exact FIN.out.2.2.2
          · rw [tl_inl]; exact HP.out.2.2.2
      · have i1 : ¬ (m : Int) ≤ (p : Int) := by omega
        have FIN := hide (fin_round K2.out B2.out BQ.out (B2.out.old (p := p) (k := k) HP.out.1 (fst_snoc_low hm')).2 (B2.out.old (p := p) (k := k) HP.out.1 (fst_snoc_low hm')).1 (by have := NUM.out; omega) UD.heap.size Y.heap.size)
        gi_wp2
        refine ⟨FIN.out.1, FIN.out.2.1, FIN.out.2.2.1, ?_, ?_⟩
        · rw [tl_inl]; exact FIN.out.2.2.2
        · rw [tl_inl]; exact HP.out.2.2.2
    · have q6 : ((p : Int) == (lst (tl pre)).1) = false := by rw [beq_eq_false_iff_ne]; exact hq
      clear hq
      gi_upto_region 16 with fail
      refine wpIn_region_read (by kernel_rfl) (by kernel_rfl) (by kernel_rfl) (fun ⟨_, _, h⟩ => h) ?_
      repeat (go_big_quiet_step (fail))
      refine wpQuiet_nil ?_
      intro Z2 hw'
      have BQ := hide (show Below Z.heap.size Z Z2 from by obtain ⟨nq, rfl⟩ := hw'; exact below_drewN _ _)
      clear hw' c0 c1 d3 d4 cw q1 q2 q2' q3 q4 q5 q6 w1' w2' e4 e5 e6 S4 S5'
      have B2 := hide (HP.out.2.2.1.fr (S := fun _ => False) (Fr.of_below BQ.out) (fun _ _ _ q => q))
      have K2 := hide (HP.out.2.1.below BQ.out)
      have c2 := cell_row ((K2.out.bl.block (w.heap.size + 1 + 1) (by have := NUM.out; omega)).trans X2p.out) (i := 0) (v := .int .i64 (m : Int)) rfl
      have d1 := cell_row B2.out.b1 (i := 0) rfl
      have dm := cell_row B2.out.bm (i := 0) rfl
      have dk := cell_row B2.out.row (i := k) (v := .int .i64 (cnt (tl pre) k : Int)) (by rw [List.getElem?_toArray]; exact cntC_get _ HP.out.1)
      have d2 := cell_row B2.out.b2 (i := 0) rfl
      have d3 := cell_row B2.out.b3 (i := 0) rfl
      have d4 := cell_row B2.out.b4 (i := 0) rfl
      have z1 := frz_row B2.out.b1 0
      have z2 := frz_row B2.out.b2 0
      have zk := frz_row B2.out.row k
      have z3 := frz_row B2.out.b3 0
      have z4 := frz_row B2.out.b4 0
      have wc : IntKind.wrap .i64 ((cnt (tl pre) k : Int) + 1) = (cnt (tl pre) k : Int) + 1 := wrap_small _ (by omega) (by have := HL.out; have := HC.out; omega)
      by_cases hm' : m ≤ p
      · have i1 : (m : Int) ≤ (p : Int) := by omega
        by_cases hf1 : (fst' (tl pre) m).1 < 0
        · have FIN := hide (fin_round K2.out B2.out BQ.out (B2.out.new (p := p) (k := k) HP.out.1 hf1 hm').2 (B2.out.new (p := p) (k := k) HP.out.1 hf1 hm').1 (by have := NUM.out; omega) UD.heap.size Y.heap.size)
          have dm' : ((Z2.setCell ⟨w5.heap.size, 0, none⟩ (.int .i64 (p : Int))).setCell ⟨w5.heap.size + 1, 0, none⟩ (.int .i64 (k : Int))).cell? ⟨U.heap.size + 1, 0, none⟩ = some (.slice (some ⟨U.heap.size, 0, none⟩) ws.length ws.length) := cell_row (off_set _ _ (off_set _ _ B2.out.bm (by have := NUM.out; omega)) (by have := NUM.out; omega)) (i := 0) rfl
          have dk' : ((Z2.setCell ⟨w5.heap.size, 0, none⟩ (.int .i64 (p : Int))).setCell ⟨w5.heap.size + 1, 0, none⟩ (.int .i64 (k : Int))).cell? ⟨U.heap.size, k, none⟩ = some (.int .i64 (cnt (tl pre) k : Int)) := cell_row (off_set _ _ (off_set _ _ B2.out.row (by have := NUM.out; omega)) (by have := NUM.out; omega)) (i := k) (by rw [List.getElem?_toArray]; exact cntC_get _ HP.out.1)
          have d3' : ((Z2.setCell ⟨w5.heap.size, 0, none⟩ (.int .i64 (p : Int))).setCell ⟨w5.heap.size + 1, 0, none⟩ (.int .i64 (k : Int))).cell? ⟨U.heap.size + 1 + 1, 0, none⟩ = some (.int .i64 (lst (tl pre)).1) := cell_row (off_set _ _ (off_set _ _ B2.out.b3 (by have := NUM.out; omega)) (by have := NUM.out; omega)) (i := 0) rfl
          have d4' : ((Z2.setCell ⟨w5.heap.size, 0, none⟩ (.int .i64 (p : Int))).setCell ⟨w5.heap.size + 1, 0, none⟩ (.int .i64 (k : Int))).cell? ⟨U.heap.size + 1 + 1 + 1, 0, none⟩ = some (.int .i64 (lst (tl pre)).2) := cell_row (off_set _ _ (off_set _ _ B2.out.b4 (by have := NUM.out; omega)) (by have := NUM.out; omega)) (i := 0) rfl
          gi_wp2
          refine ⟨FIN.out.1, FIN.out.2.1, FIN.out.2.2.1, ?_, ?_⟩
          · rw [tl_inl]; exact FIN.out.2.2.2
          · rw [tl_inl]; exact HP.out.2.2.2
        · have FIN := hide (fin_round K2.out B2.out BQ.out (B2.out.old (p := p) (k := k) HP.out.1 (fst_snoc_old hf1 _)).2 (B2.out.old (p := p) (k := k) HP.out.1 (fst_snoc_old hf1 _)).1 (by have := NUM.out; omega) UD.heap.size Y.heap.size)
          gi_wp2
          refine ⟨FIN.out.1, FIN.out.2.1, FIN.out.2.2.1, ?_, ?_⟩
          · rw [tl_inl]; exact FIN.out.2.2.2
          · rw [tl_inl]; exact HP.out.2.2.2
      · have i1 : ¬ (m : Int) ≤ (p : Int) := by omega
        have FIN := hide (fin_round K2.out B2.out BQ.out (B2.out.old (p := p) (k := k) HP.out.1 (fst_snoc_low hm')).2 (B2.out.old (p := p) (k := k) HP.out.1 (fst_snoc_low hm')).1 (by have := NUM.out; omega) UD.heap.size Y.heap.size)
        gi_wp2
        refine ⟨FIN.out.1, FIN.out.2.1, FIN.out.2.2.1, ?_, ?_⟩
        · rw [tl_inl]; exact FIN.out.2.2.2
        · rw [tl_inl]; exact HP.out.2.2.2
  · rintro D' xs Z hD' ⟨hS1, _⟩ ⟨k1, k2, _⟩ hK
    rw [hS1] at k2
    have nu := NUM.out
    have FA : Hid (∀ V, Below Z.heap.size Z V → V.cell? ⟨w.heap.size, 0, none⟩ = some (.slice (some ⟨g, off, none⟩) ws.length cap) ∧ V.cell? ⟨w.heap.size + 1, 0, none⟩ = some (.string line) ∧ V.cell? ⟨w.heap.size + 1 + 1, 0, none⟩ = some (.int .i64 (m : Int)) ∧ V.cell? ⟨U.heap.size + 1, 0, none⟩ = some (.slice (some ⟨U.heap.size, 0, none⟩) ws.length ws.length) ∧ (∀ (i : Nat) (s : ByteArray), ws[i]? = some s → V.cell? ⟨g, off + i, none⟩ = some (.string s)) ∧ (∀ k, k < ws.length → V.cell? ⟨U.heap.size, k, none⟩ = some (.int .i64 ((ones ws line k line.size : Nat) : Int)))) := hide (fun V hV => by
      have e0 := (k1.bl.block w.heap.size (by omega)).trans X0p.out
      have e1 := (k1.bl.block (w.heap.size + 1) (by omega)).trans X1p.out
      have e2 := (k1.bl.block (w.heap.size + 1 + 1) (by omega)).trans X2p.out
      refine ⟨cell_row ((hV.block _ (lt_of_heap e0)).trans e0) (i := 0) rfl, cell_row ((hV.block _ (lt_of_heap e1)).trans e1) (i := 0) rfl, cell_row ((hV.block _ (lt_of_heap e2)).trans e2) (i := 0) (v := .int .i64 (m : Int)) rfl, cell_row ((hV.block _ (lt_of_heap k2.bm)).trans k2.bm) (i := 0) rfl, fun i s hs => ?_, fun k hk => cell_row ((hV.block _ (lt_of_heap k2.row)).trans k2.row) (i := k) (by rw [List.getElem?_toArray, ← ones_all]; exact cntC_get _ hk)⟩
      have e3 := ((BWY.out.trans (k1.bl.mono (by omega))).cell (p := ⟨g, off + i, none⟩) CG.out).trans (CE.out i s hs)
      have hgz : g < Z.heap.size := by have := CG.out; have := k1.bl.size; have := BWY.out.size; omega
      exact (hV.cell (p := ⟨g, off + i, none⟩) hgz).trans e3)
    have HK := hide hK
    have K1 := hide k1
    have K2 := hide k2
    have HD := hide hD'
    clear hK k1 k2 hS1 nu TL hD' X0p X1p X2p CE CG
    gi_upto_region 25 with fail
    obtain ⟨LI, hLI⟩ : ∃ LI : Act → World → Prop, LI = (fun a V => ∃ k : Nat, a.tmps = #[.slice (some ⟨g, off, none⟩) ws.length cap, .string line, .int .i64 c, .pointer (some ⟨w.heap.size, 0, none⟩), .pointer (some ⟨w.heap.size + 1, 0, none⟩), .pointer (some ⟨w.heap.size + 1 + 1, 0, none⟩), .pointer (some ⟨w.heap.size + 1 + 1 + 1, 0, none⟩), .bool true, .pointer (some ⟨hb, 0, none⟩), .int .i64 0, .pointer (some ⟨w5.heap.size, 0, none⟩), .pointer (some ⟨w5.heap.size + 1, 0, none⟩), .pointer (some ⟨U.heap.size + 1, 0, none⟩), .pointer (some ⟨U.heap.size + 1 + 1, 0, none⟩), .pointer (some ⟨U.heap.size + 1 + 1 + 1, 0, none⟩), tw a 15, tw a 16, .int .i64 (k : Int), tw a 18, tw a 19, tw a 20, tw a 21, tw a 22, tw a 23, tw a 24, tw a 25, tw a 26, tw a 27, tw a 28, tw a 29, tw a 30, tw a 31, tw a 32, tw a 33, tw a 34, tw a 35, tw a 36, tw a 37, tw a 38, tw a 39, tw a 40, tw a 41, tw a 42, tw a 43, tw a 44, tw a 45, tw a 46, tw a 47, tw a 48, tw a 49, tw a 50, tw a 51, tw a 52, tw a 53, tw a 54, tw a 55, tw a 56, tw a 57, tw a 58, tw a 59, tw a 60, tw a 61, tw a 62, tw a 63, tw a 64, tw a 65, tw a 66, tw a 67, tw a 68, tw a 69, tw a 70, tw a 71, tw a 72, tw a 73, tw a 74, tw a 75, tw a 76, tw a 77, tw a 78, tw a 79, tw a 80, tw a 81, tw a 82, tw a 83, tw a 84, tw a 85, tw a 86, tw a 87, tw a 88, tw a 89, tw a 90, tw a 91, tw a 92, tw a 93, tw a 94, tw a 95, tw a 96, tw a 97, tw a 98, tw a 99, tw a 100, tw a 101, tw a 102, tw a 103, tw a 104, tw a 105, tw a 106, tw a 107, tw a 108, tw a 109, tw a 110, tw a 111, tw a 112, tw a 113, tw a 114, tw a 115, tw a 116, tw a 117, tw a 118, tw a 119, tw a 120, tw a 121, tw a 122, tw a 123, tw a 124, tw a 125, tw a 126, tw a 127, tw a 128, tw a 129, tw a 130, tw a 131, tw a 132, tw a 133, tw a 134, tw a 135, tw a 136, tw a 137, tw a 138, tw a 139, tw a 140, tw a 141, tw a 142, tw a 143, tw a 144, tw a 145, tw a 146, tw a 147, tw a 148, tw a 149, tw a 150, tw a 151, tw a 152, tw a 153, tw a 154, tw a 155, tw a 156, tw a 157, tw a 158, tw a 159, tw a 160, tw a 161, tw a 162, tw a 163, tw a 164, tw a 165, tw a 166, tw a 167, tw a 168, tw a 169, tw a 170, tw a 171, tw a 172, tw a 173, tw a 174, tw a 175, tw a 176, tw a 177, tw a 178, tw a 179, tw a 180, tw a 181, tw a 182, tw a 183, tw a 184, tw a 185, tw a 186, tw a 187, tw a 188, tw a 189, tw a 190, tw a 191, tw a 192, tw a 193, tw a 194, tw a 195, tw a 196, tw a 197, tw a 198, tw a 199] ∧ a.defers = [{ target := .collected D', args := #[] }] ∧ Below Z.heap.size Z V ∧ k ≤ ws.length) := ⟨_, rfl⟩
    refine wpIn_loop LI (fun a _ => ((ws.length : Int) - intOf (a.tmps.getD 17 undef)).toNat) ?_ ?_
    · rw [hLI]
      exact ⟨0, rfl, rfl, Below.refl _ _, Nat.zero_le _⟩
    · rintro ⟨tm, ds⟩ V hI
      rw [hLI] at hI
      obtain ⟨k, ha, hd, hbV, hk⟩ := hI
      dsimp only at ha hd
      generalize tw { tmps := tm, defers := ds } = f' at ha
      subst ha hd
      have HLI := hide hLI
      have HBV := hide hbV
      clear hLI hbV
      by_cases hlt : k < ws.length
      · have i0 : (k : Int) < (ws.length : Int) := by omega
        have i1 : (0 : Int) ≤ (k : Int) := by omega
        obtain ⟨s, hs⟩ : ∃ s, ws[k]? = some s := ⟨_, List.getElem?_eq_getElem hlt⟩
        have c0 := (FA.out V HBV.out).1
        have wk : IntKind.wrap .i64 ((k : Int) + 1) = (k : Int) + 1 := wrap_small _ (by omega) (by have := wl100.out; omega)
        have HS := hide hs
        clear hs
        gi_upto_region 29 with fail
        obtain ⟨LJ, hLJ⟩ : ∃ LJ : Act → World → Prop, LJ = (fun a U2 => ∃ i : Nat, a.tmps = #[.slice (some ⟨g, off, none⟩) ws.length cap, .string line, .int .i64 c, .pointer (some ⟨w.heap.size, 0, none⟩), .pointer (some ⟨w.heap.size + 1, 0, none⟩), .pointer (some ⟨w.heap.size + 1 + 1, 0, none⟩), .pointer (some ⟨w.heap.size + 1 + 1 + 1, 0, none⟩), .bool true, .pointer (some ⟨hb, 0, none⟩), .int .i64 0, .pointer (some ⟨w5.heap.size, 0, none⟩), .pointer (some ⟨w5.heap.size + 1, 0, none⟩), .pointer (some ⟨U.heap.size + 1, 0, none⟩), .pointer (some ⟨U.heap.size + 1 + 1, 0, none⟩), .pointer (some ⟨U.heap.size + 1 + 1 + 1, 0, none⟩), tw a 15, tw a 16, .int .i64 (k : Int), .int .i64 ((nOf ws line k s i : Nat) : Int), .int .i64 (i : Int), tw a 20, tw a 21, tw a 22, tw a 23, tw a 24, tw a 25, tw a 26, tw a 27, tw a 28, tw a 29, tw a 30, tw a 31, tw a 32, tw a 33, tw a 34, tw a 35, tw a 36, tw a 37, tw a 38, tw a 39, tw a 40, tw a 41, tw a 42, tw a 43, tw a 44, tw a 45, tw a 46, tw a 47, tw a 48, tw a 49, tw a 50, tw a 51, tw a 52, tw a 53, tw a 54, tw a 55, tw a 56, tw a 57, tw a 58, tw a 59, tw a 60, tw a 61, tw a 62, tw a 63, tw a 64, tw a 65, tw a 66, tw a 67, tw a 68, tw a 69, tw a 70, tw a 71, tw a 72, tw a 73, tw a 74, tw a 75, tw a 76, tw a 77, tw a 78, tw a 79, tw a 80, tw a 81, tw a 82, tw a 83, tw a 84, tw a 85, tw a 86, tw a 87, tw a 88, tw a 89, tw a 90, tw a 91, tw a 92, tw a 93, tw a 94, tw a 95, tw a 96, tw a 97, tw a 98, tw a 99, tw a 100, tw a 101, tw a 102, tw a 103, tw a 104, tw a 105, tw a 106, tw a 107, tw a 108, tw a 109, tw a 110, tw a 111, tw a 112, tw a 113, tw a 114, tw a 115, tw a 116, tw a 117, tw a 118, tw a 119, tw a 120, tw a 121, tw a 122, tw a 123, tw a 124, tw a 125, tw a 126, tw a 127, tw a 128, tw a 129, tw a 130, tw a 131, tw a 132, tw a 133, tw a 134, tw a 135, tw a 136, tw a 137, tw a 138, tw a 139, tw a 140, tw a 141, tw a 142, tw a 143, tw a 144, tw a 145, tw a 146, tw a 147, tw a 148, tw a 149, tw a 150, tw a 151, tw a 152, tw a 153, tw a 154, tw a 155, tw a 156, tw a 157, tw a 158, tw a 159, tw a 160, tw a 161, tw a 162, tw a 163, tw a 164, tw a 165, tw a 166, tw a 167, tw a 168, tw a 169, tw a 170, tw a 171, tw a 172, tw a 173, tw a 174, tw a 175, tw a 176, tw a 177, tw a 178, tw a 179, tw a 180, tw a 181, tw a 182, tw a 183, tw a 184, tw a 185, tw a 186, tw a 187, tw a 188, tw a 189, tw a 190, tw a 191, tw a 192, tw a 193, tw a 194, tw a 195, tw a 196, tw a 197, tw a 198, tw a 199] ∧ a.defers = [{ target := .collected D', args := #[] }] ∧ Below Z.heap.size Z U2 ∧ i ≤ line.size) := ⟨_, rfl⟩
        refine wpIn_loop LJ (fun a _ => ((line.size : Int) - intOf (a.tmps.getD 19 undef)).toNat) ?_ ?_
        · rw [hLJ]
          exact ⟨0, by rw [nOf_zero]; rfl, rfl, HBV.out, Nat.zero_le _⟩
        · clear c0
          rintro ⟨tm, ds⟩ U2 hI
          rw [hLJ] at hI
          obtain ⟨i, ha, hd, hb2, hi⟩ := hI
          dsimp only at ha hd
          generalize tw { tmps := tm, defers := ds } = f'' at ha
          subst ha hd
          have HLJ := hide hLJ
          have HB2 := hide hb2
          obtain ⟨c0, c1, c2, dm, hcw, hrk⟩ := FA.out U2 hb2
          have cw := hcw k s HS.out
          have rk := hrk k hlt
          have nle := nOf_le ws line k s i
          clear hLJ hb2 hcw hrk
          by_cases hlt2 : i < line.size
          · have j0 : (i : Int) < (line.size : Int) := by omega
            have j1 : (0 : Int) ≤ (i : Int) := by omega
            have wi : IntKind.wrap .i64 ((i : Int) + 1) = (i : Int) + 1 := wrap_small _ (by omega) (by omega)
            have wn : IntKind.wrap .i64 (((nOf ws line k s i : Nat) : Int) + 1) = ((nOf ws line k s i : Nat) : Int) + 1 := wrap_small _ (by omega) (by omega)
            by_cases hs1 : s.size = 1
            · have hz : 0 < s.size := by omega
              have b1 : ((s.size : Int) == 1) = true := by rw [hs1]; rfl
              by_cases hE : line[i] = s[0]
              · have b2 : ((line[i].toNat : Int) == (s[0].toNat : Int)) = true := by rw [hE]; simp
                have NN := hide (nOf_hit (ws := ws) HS.out hs1 hlt2 hE)
                gi_upto_region 31 with fail
                gi_quiet (fail)
                have FIN := hide (show Below Z.heap.size Z (U2.drewN nq) from chain HB2.out (below_drewN _ _) (Nat.le_refl _))
                gi_wp2
                refine ⟨by rw [HLJ.out]; exact ⟨i + 1, by rw [NN.out]; push_cast; rfl, rfl, FIN.out, hlt2⟩, ?_⟩
                simp [intOf]
                omega
              · have b2 : ((line[i].toNat : Int) == (s[0].toNat : Int)) = false := by
                  rw [beq_eq_false_iff_ne]
                  intro h
                  exact hE (UInt8.toNat_inj.1 (by omega))
                have NN := hide (nOf_miss (ws := ws) HS.out hs1 hlt2 hE)
                gi_upto_region 31 with fail
                gi_quiet (fail)
                have FIN := hide (show Below Z.heap.size Z (U2.drewN nq) from chain HB2.out (below_drewN _ _) (Nat.le_refl _))
                gi_wp2
                refine ⟨by rw [HLJ.out]; exact ⟨i + 1, by rw [NN.out]; rfl, rfl, FIN.out, hlt2⟩, ?_⟩
                simp [intOf]
                omega
            · have b1 : ((s.size : Int) == 1) = false := by
                rw [beq_eq_false_iff_ne]; omega
              have NN := hide (nOf_not ws line k s i hs1)
              gi_upto_region 31 with fail
              gi_quiet (fail)
              have FIN := hide (show Below Z.heap.size Z (U2.drewN nq) from chain HB2.out (below_drewN _ _) (Nat.le_refl _))
              gi_wp2
              refine ⟨by rw [HLJ.out]; exact ⟨i + 1, by rw [NN.out]; rfl, rfl, FIN.out, hlt2⟩, ?_⟩
              simp [intOf]
              omega
          · have j0 : ¬ (i : Int) < (line.size : Int) := by omega
            obtain rfl : i = line.size := by omega
            have HB3 := HB2.out
            by_cases hs1 : s.size = 1
            · have NN := nOf_all ws line k s hs1
              rw [NN]
              have FIN := hide HB3
              gi_wp2
              refine ⟨by rw [HLI.out]; exact ⟨k + 1, rfl, rfl, FIN.out, hlt⟩, ?_⟩
              simp [intOf]
              omega
            · have s1 : ¬ (s.size : Int) = 1 := by omega
              have FIN := hide HB3
              gi_wp2
              refine ⟨by rw [HLI.out]; exact ⟨k + 1, rfl, rfl, FIN.out, hlt⟩, ?_⟩
              simp [intOf]
              omega
      · have i0 : ¬ (k : Int) < (ws.length : Int) := by omega
        have KV := hide (K1.out.below HBV.out)
        have KB := hide (K2.out.fr (S := fun _ => False) (Fr.of_below HBV.out) (fun _ _ _ q => q))
        have DV := hide ((HBV.out.block _ (lt_of_heap HK.out)).trans HK.out)
        obtain ⟨c0, c1, c2, dm, _, _⟩ := FA.out V HBV.out
        obtain ⟨_, st, hm9⟩ := KV.out.hi
        have NX := hide (next_in (n - 1) (by omega) m (HU6.out.at KV.out.hi.1) hm9 KV.out.tab (by have := KV.out.pos; have := KV.out.lb; omega) (line := line) (by omega) hsz (KV.out.sw _ hm9))
        clear hm9
        gi_upto_region 36 with (gi_at_call 13; refine NX.out.mono ?_; rintro e V9 ⟨p, kk, b, cc, rfl, a1, _, a4, a5⟩)
        have A9 := nxA_first OK.out (show m ≤ line.size by omega) a1
        have KV9 := hide (KV.out.next a4 (by unfold wrap64; omega) a5)
        have KB9 := hide (KB.out.fr a5 (fun i h6 h7 e => by have := HBL.out; have := NUM.out; omega))
        have DV9 := hide ((a5.block D' (lt_of_heap DV.out) (fun e => by have := HBL.out; have := NUM.out; have := HD.out; omega)).trans DV.out)
        have e3 := hide ((KV9.out.bl.block (w.heap.size + 1 + 1 + 1) (by have := NUM.out; omega)).trans X3p.out)
        have c3 := cell_row e3.out (i := 0) (v := .bool false) rfl
        have f3 := frz_row e3.out 0
        have GO : Hid (Below w.heap.size w ((V9.setCell ⟨w.heap.size + 1 + 1 + 1, 0, none⟩ (.bool true)).putObj D' (.deferred none)) ∧ (V9.setCell ⟨w.heap.size + 1 + 1 + 1, 0, none⟩ (.bool true)).heap[D']? = some (.deferred (some [])) ∧ ((V9.setCell ⟨w.heap.size + 1 + 1 + 1, 0, none⟩ (.bool true)).putObj D' (.deferred none)).cell? ⟨w.heap.size + 1 + 1 + 1, 0, none⟩ = some (.bool true)) := hide (by
          have g1 : Below w.heap.size w (V9.setCell ⟨w.heap.size + 1 + 1 + 1, 0, none⟩ (.bool true)) := (BWY.out.trans (KV9.out.bl.mono (by have := NUM.out; omega))).setCell (by show w.heap.size ≤ w.heap.size + 1 + 1 + 1; omega) _
          have g2 := grownBy_putObj' (V9.setCell ⟨w.heap.size + 1 + 1 + 1, 0, none⟩ (.bool true)) D' (.deferred none)
          have nu := NUM.out
          have hd := HD.out
          refine ⟨⟨g2.os.trans g1.os, g2.tape.trans g1.tape, g2.output.trans g1.output, Nat.le_trans g1.size g2.size, fun i hi => (g2.block i (by have := g1.size; omega) (fun e => by injection e with e; omega)).trans (g1.block i hi)⟩, off_set _ _ DV9.out (by omega), ?_⟩
          have h9 := heap_set_in e3.out 0 (.bool true)
          exact cell_row ((g2.block _ (lt_of_heap h9) (fun e => by injection e with e; omega)).trans h9) (i := 0) rfl)
        clear a1 a4 a5 NX
        rcases h9 : (allM false ws line line.size).find? (fun x => decide (m ≤ x.1)) with _ | x
        · rw [h9] at A9
          obtain ⟨rfl, rfl, rfl⟩ := A9
          have b1 := KB9.out.b1
          rw [show fst' (allM false ws line line.size) m = (-1, -1) from by unfold fst'; rw [h9]; rfl] at b1
          have d1 := cell_row b1 (i := 0) (v := .int .i64 (-1)) rfl
          clear h9 b1
          gi_wp2
          refine ⟨by simp, .inl ⟨_, _, rfl, run_takeDeferred GO.out.2.1, ?_⟩⟩
          exact ⟨.bool true, by simp [results, Tryd.results4, go_sem, GO.out.2.2], rfl, GO.out.1⟩
        · rw [h9] at A9
          obtain ⟨rfl, rfl, rfl⟩ := A9
          have b1 := KB9.out.b1
          have b2 := KB9.out.b2
          rw [show fst' (allM false ws line line.size) m = ((x.1 : Int), (x.2 : Int)) from by unfold fst'; rw [h9]; rfl] at b1 b2
          have d1 := cell_row b1 (i := 0) (v := .int .i64 (x.1 : Int)) rfl
          have d2 := cell_row b2 (i := 0) (v := .int .i64 (x.2 : Int)) rfl
          clear h9 b1 b2
          have x0 : ¬ (x.1 : Int) < 0 := by omega
          gi_wp2
          refine ⟨by simp, .inl ⟨_, _, rfl, run_takeDeferred GO.out.2.1, ?_⟩⟩
          exact ⟨.bool true, by simp [results, Tryd.results4, go_sem, GO.out.2.2], rfl, GO.out.1⟩
  · rintro D' c pre Z hD' hSp hF hK
    exact hF.elim
end Go.Proofs.YtaikcnoiaaiopaaDoor
