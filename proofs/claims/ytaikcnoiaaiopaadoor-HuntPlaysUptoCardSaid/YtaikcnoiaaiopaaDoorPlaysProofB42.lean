/-
  Parts of the proof.
-/
import Derived.Test.YtaikcnoiaaiopaaDoorPlaysProofB41
set_option linter.unusedSimpArgs false
namespace Go.Proofs.YtaikcnoiaaiopaaDoor
open Go Go.RowKit Go.Shelf
attribute [local go_sem] Oper.semAt_some ext_cell
theorem Kp.reset {base b0 : Nat} {w0 V : World} {f : Bool} {T : Pt} {D : List Nat → Prop} {R : List Nat → Nat → Prop} {K : List Nat → Kn} {hb : Nat} {lg : Int} (h : Kp base b0 w0 f T D R K hb lg V) {k j : Nat} {cur : Array Value} {t : TypeId} (hk : V.heap[k]? = some (.cells cur t (0, 0))) (h0 : k ≠ 0) (ht : t ≠ 65 ∧ t ≠ 112 ∧ t ≠ 67) (v : Value) : Kp base b0 (V.setCell ⟨k, j, none⟩ v) f T D R K hb lg (V.setCell ⟨k, j, none⟩ v) := by
  have hf : Fr (fun i => i = k) V (V.setCell ⟨k, j, none⟩ v) := (Fr.refl (fun i => i = k) V).setCell (p := ⟨k, j, none⟩) rfl v
  obtain ⟨h1, st, h2⟩ := h.hi
  have hne : ∀ (i : Nat) cur' t', V.heap[i]? = some (.cells cur' t' (0, 0)) → i = k → t' = t := fun i cur' t' hc q => by
    subst q
    rw [hk] at hc
    injection hc with hc
    injection hc with _ hc _
    exact hc.symm
  refine ⟨⟨h1.keep (TrK.fr hf (fun i cur' t' hi hc q => ?_)), st, (hf.block _ (lt_of_heap h2) (fun q => ht.2.2 (hne _ _ _ h2 q).symm)).trans h2⟩, tab_fr h.tab hf (fun q => h0 q.symm), Below.refl _ _, h.pos, h.lb, Nat.le_trans h.lw (Nat.le_trans h.bl.size hf.size), fun st' h' => h.sw st' (by
    have h9 := (hf.block _ (lt_of_heap h2) (fun q => ht.2.2 (hne _ _ _ h2 q).symm)).trans h2
    have := HM.inj h' h9
    subst this; exact h2)⟩
  have e := hne _ _ _ hc hi
  rcases q with q | q
  · exact ht.1 (e.symm.trans q)
  · exact ht.2.1 (e.symm.trans q)
structure JC (base b0 : Nat) (V : World) (f : Bool) (T : Pt) (D : List Nat → Prop) (R : List Nat → Nat → Prop) (K : List Nat → Kn) (hb : Nat) (lg : Int) (NB W0 : Nat) (Ds : List Nat) (hi : Nat) (s0 : Int) (m b : Nat) (Z : World) : Prop where
  kp : Kp base b0 V f T D R K hb lg Z
  fr : Fr (fun k => k = hb ∨ V.heap.size ≤ k) V Z
  nb : Z.heap[NB]? = some (.cells #[.int .i64 (m : Int)] 3 (0, 0))
  mr : MK W0 hi Ds Z
  st : HM Z hb T f lg (wrap64 (s0 + (b : Int)))
section
variable {base b0 : Nat} {V Z Z' : World} {f : Bool} {T : Pt} {D : List Nat → Prop} {R : List Nat → Nat → Prop} {K : List Nat → Kn} {hb : Nat} {lg : Int} {NB W0 : Nat} {Ds : List Nat} {hi : Nat} {s0 : Int} {m b : Nat}
theorem JC.low {S : Nat → Prop} (h : JC base b0 V f T D R K hb lg NB W0 Ds hi s0 m b Z) (hk : Kp base b0 V f T D R K hb lg Z') (hf : Fr S Z Z') (hs : ∀ k, S k → hi ≤ k) (hN : NB < hi) (hV : V.heap.size ≤ hi) (hB : hb < V.heap.size) : JC base b0 V f T D R K hb lg NB W0 Ds hi s0 m b Z' :=
  ⟨hk, h.fr.trans (hf.mono (fun k q => .inr (by have := hs k q; omega))), (hf.block _ (lt_of_heap h.nb) (fun q => by have := hs _ q; omega)).trans h.nb, ⟨h.mr.1, fun D hD => by
    obtain ⟨q1, q2, q3⟩ := h.mr.2 D hD
    exact ⟨q1, q2, (hf.block _ (lt_of_heap q3) (fun q => by have := hs _ q; omega)).trans q3⟩⟩, (hf.block _ (lt_of_heap h.st) (fun q => by have := hs _ q; omega)).trans h.st⟩
theorem JC.bump (h : JC base b0 V f T D R K hb lg NB W0 Ds hi s0 m b Z) {d : Nat} (hu : Bump hb (d : Int) Z Z') : JC base b0 V f T D R K hb lg NB W0 Ds hi s0 m (b + d) Z' := by
  refine ⟨h.kp.bump hu, h.fr.trans (hu.fr.mono (fun k q => .inl q)), (hu.fr.block _ (lt_of_heap h.nb) (ne_type h.nb h.st (by decide))).trans h.nb, ⟨h.mr.1, fun D hD => by
    obtain ⟨q1, q2, q3⟩ := h.mr.2 D hD
    exact ⟨q1, q2, (hu.fr.block _ (lt_of_heap q3) (fun q => by
      have h9 := h.st
      unfold HM at h9
      rw [← q, q3] at h9
      cases h9)).trans q3⟩⟩, ?_⟩
  have h9 := hu.st _ _ _ _ h.st
  have e : wrap64 (wrap64 (s0 + (b : Int)) + (d : Int)) = wrap64 (s0 + ((b + d : Nat) : Int)) := by
    unfold wrap64
    push_cast
    omega
  rwa [e] at h9
theorem JC.inc (h : JC base b0 V f T D R K hb lg NB W0 Ds hi s0 m b Z) (hN : V.heap.size ≤ NB) (hB : hb < V.heap.size) : JC base b0 V f T D R K hb lg NB W0 Ds hi s0 (m + 1) b (Z.setCell ⟨NB, 0, none⟩ (.int .i64 ((m : Int) + 1))) := by
  have hf : Fr (fun i => i = NB) Z (Z.setCell ⟨NB, 0, none⟩ (.int .i64 ((m : Int) + 1))) := (Fr.refl (fun i => i = NB) Z).setCell (p := ⟨NB, 0, none⟩) rfl _
  have hl : b0 ≤ NB := by
    have := h.kp.lb
    omega
  exact ⟨h.kp.set h.nb hl (by decide) _, h.fr.trans (hf.mono (fun k q => .inr (by omega))), (heap_set_in h.nb 0 _).trans (by simp), ⟨h.mr.1, fun D hD => by
    obtain ⟨q1, q2, q3⟩ := h.mr.2 D hD
    exact ⟨q1, q2, (hf.block _ (lt_of_heap q3) (fun q => by rw [q, h.nb] at q3; cases q3)).trans q3⟩⟩, (hf.block _ (lt_of_heap h.st) (fun q => by omega)).trans h.st⟩
theorem MK.call {Z Z' : World} {n0 hb : Nat} {cur : Array Value} (h : MK W0 hi Ds Z) (hf : Fr (fun k => k = hb ∨ n0 ≤ k) Z Z') (hn : Z.heap.size ≤ n0) (hh : Z.heap[hb]? = some (.cells cur 67 (0, 0))) (hhi : hi ≤ Z'.heap.size) : MK W0 Z'.heap.size Ds Z' := ⟨h.1, fun D hD => by
  obtain ⟨q1, q2, q3⟩ := h.2 D hD
  have hl := lt_of_heap q3
  exact ⟨q1, by omega, (hf.block _ hl (fun q => by
    rcases q with q | q
    · rw [q, hh] at q3; cases q3
    · omega)).trans q3⟩⟩
end
theorem own_lower {W : World} {b1 b2 sz m : Nat} {e : TypeId} {v : Value} {xs : List Value} (h : W.ownsRow b1 e sz v m xs) (hb : b2 ≤ b1) : W.ownsRow b2 e sz v m xs :=
  ⟨h.1, h.2.imp id fun ⟨g, cap, cur, q1, q2, q3⟩ => ⟨g, cap, cur, q1, Nat.le_trans hb q2, q3⟩⟩
theorem over_true {n : Nat} (hn : 12 ≤ n) {base b0 : Nat} {w0 V : World} {f : Bool} {ws : List ByteArray} {T : Pt} {D : List Nat → Prop} {R : List Nat → Nat → Prop} {K : List Nat → Kn} {hb : Nat} {lg st : Int} {q : Option Addr} {c : Nat} (o : Cl) (hk : Kp base b0 w0 f T D R K hb lg V) (hH : Hu base V f ws T D R K lg) (hh : HM V hb T f lg st) (hsz : o.line.size ≤ 1048576) (hwf : (Lit.int .i64 o.tn).wf = true)
    (hw : V.ownsRow b0 80 2 (.slice q (allM f ws o.line o.line.size).length c) (allM f ws o.line o.line.size).length (prC (allM f ws o.line o.line.size))) (hst : 0 ≤ st ∧ st ≤ 100000000000) :
    CallsIn Fence.wide n Tryd.prog 17 #[.pointer (some ⟨hb, 0, none⟩), .slice q (allM f ws o.line o.line.size).length c, .agg #[.string o.line, .int .i64 o.fm, .int .i64 o.lv, .int .i64 o.tn], .bool true] V (OverP base b0 f T D R K hb lg 1000000000 st V) := by
  have h := over_in n hn o true hk hH hh hsz hwf hw (BS := 100000000000) (by omega) hst (fun _ U st2 hkU hm hb2 ho => by
    have h2 := callsIn_wide.1 (over_in 12 (Nat.le_refl _) o false hkU (hH.at hkU.hi.1) hm hsz hwf ho (BS := 100000000000 + 2000000000) (by omega) hb2 (fun e => by cases e))
    exact h2)
  exact h
theorem nxA_eq {f : Bool} {ws : List ByteArray} {line : ByteArray} (hok : mayB ws = true) {m p k p2 k2 : Int} {b b2 : Bool} (h : NxA f ws line m p k b) (h2 : NxA f ws line m p2 k2 b2) : p2 = p ∧ k2 = k ∧ b2 = b := by
  have a := nxA_any hok h
  have c := nxA_any hok h2
  rcases h9 : lkd (allM f ws line line.size) m with _ | x
  · rw [h9] at a c
    obtain ⟨rfl, rfl, rfl⟩ := a
    obtain ⟨rfl, rfl, rfl⟩ := c
    exact ⟨rfl, rfl, rfl⟩
  · rw [h9] at a c
    obtain ⟨rfl, rfl, rfl⟩ := a
    obtain ⟨rfl, rfl, rfl⟩ := c
    exact ⟨rfl, rfl, rfl⟩
def CL (w : World) (q : Option Addr) (cs : List Cl) : Prop := ∀ (j : Nat) (o : Cl), cs[j]? = some o → o.line.size ≤ 1048576 ∧ (Lit.int .i64 o.fm).wf = true ∧ (Lit.int .i64 o.lv).wf = true ∧ (Lit.int .i64 o.tn).wf = true ∧ ∃ g off, q = some ⟨g, off, none⟩ ∧ g < w.heap.size ∧ w.cell? ⟨g, off + j * 4, none⟩ = some (.string o.line) ∧ w.cell? ⟨g, off + j * 4 + 1, none⟩ = some (.int .i64 o.fm) ∧ w.cell? ⟨g, off + j * 4 + 2, none⟩ = some (.int .i64 o.lv) ∧ w.cell? ⟨g, off + j * 4 + 3, none⟩ = some (.int .i64 o.tn)
def OwX (g : Nat) (ws : List ByteArray) (i : Nat) (U : World) : Prop := ∃ cur : Array Value, U.heap[g]? = some (.cells cur 9 (0, 0)) ∧ ∀ (j : Nat) (s : ByteArray), i ≤ j → ws[j]? = some s → cur[j]? = some (.string s)
theorem OwX.put {g i : Nat} {ws : List ByteArray} {U : World} (h : OwX g ws i U) (x : Value) : OwX g ws (i + 1) (U.setCell ⟨g, i, none⟩ x) := by
  obtain ⟨cur, h1, h2⟩ := h
  refine ⟨_, heap_set_in h1 i x, fun j s hj hs => ?_⟩
  rw [Array.getElem?_setIfInBounds, if_neg (by omega)]
  exact h2 j s (by omega) hs
theorem OwX.frz {g i : Nat} {ws : List ByteArray} {U : World} (h : OwX g ws i U) (j : Nat) : U.frozen? ⟨g, j, none⟩ = false := by
  obtain ⟨cur, h1, _⟩ := h
  exact frz_row h1 j
theorem OwX.get {g i : Nat} {ws : List ByteArray} {U : World} (h : OwX g ws i U) {s : ByteArray} (hs : ws[i]? = some s) : U.cell? ⟨g, i, none⟩ = some (.string s) := by
  obtain ⟨cur, h1, h2⟩ := h
  exact cell_row h1 (h2 i s (Nat.le_refl _) hs)
theorem OwX.below {g i : Nat} {ws : List ByteArray} {U V : World} (h : OwX g ws i U) (hb : Below U.heap.size U V) : OwX g ws i V := by
  obtain ⟨cur, h1, h2⟩ := h
  exact ⟨cur, (hb.block _ (lt_of_heap h1)).trans h1, h2⟩
set_option maxRecDepth 100000 in
set_option maxHeartbeats 4000000 in
theorem plays_in (n : Nat) (hn : 16 ≤ n) {w : World} {v : Value} {ws : List ByteArray} (f : Bool) {qc : Option Addr} {cc : Nat} {cs : List Cl} (ht : z1_Tab w) (hv : ArgW w v ws) (hv0 : v = .slice none 0 0 ∨ ∃ ad l c, v = .slice (some ad) l c) (hwl : ws.length ≤ 1048576) (hcs : CL w qc cs) :
    CallsIn Fence.wide n Tryd.prog 3 #[v, .bool f, .slice qc cs.length cc] w fun e w' => e = .returned (.bool true) ∧ Below w.heap.size w w' := by
  have h1 : 1 ≤ n := by omega
  have h2 : 1 ≤ n - 1 - 1 := by omega
  have hfn : ∀ f, Fence.wide.fn f := fun _ => trivial
  have hmx : Tryd.prog.follows .mixedOrders = true := by kernel_rfl
  have HV := hide hv
  have HV0 := hide hv0
  have HT := hide ht
  have HCS := hide hcs
  obtain ⟨q, cap, rfl, hml, _, _⟩ := hv.slice
  have KN := hide (known_in (n - 1) (by omega) ht)
  clear ht hv hv0 hcs
  refine callsIn_of_wp_marks Tryd.func3 rfl trivial ?_ rfl
  simp only [Tryd.ntmps3, List.size_toArray, List.length_cons, List.length_nil, Nat.reduceAdd, Nat.reduceSub, Array.replicate_succ, Array.replicate_zero, List.push_toArray, List.append_toArray, List.nil_append, List.cons_append]
  gi_upto_region 2 with (gi_at_call 9; refine KN.out.mono ?_; rintro e w1 ⟨rfl, k1⟩; have B1 := hide k1; clear k1)
  have V1 := hide (HV.out.below B1.out (Nat.le_refl _))
  gi_upto_region 3 with (gi_at_builtin; refine wpListIn_append_words rfl _ _ rfl (.slice q ws.length cap) ws rfl rfl V1.out HV0.out hwl ?_; intro v8 w8 ho8 hb8; obtain ⟨q8, c8, rfl⟩ := ownsRow_shape ho8; have O8 := hide ho8; have B8 := hide hb8; clear ho8 hb8)
  have SOME8 := hide (show 0 < ws.length → ∃ g, q8 = some ⟨g, 0, none⟩ from fun h => by
    rcases O8.out.2 with ⟨_, e2⟩ | ⟨g, cap, cur, e, _⟩
    · omega
    · injection e with e _ _; exact ⟨g, e⟩)
  have OW8 := hide (show ∀ g, q8 = some ⟨g, 0, none⟩ → w1.heap.size ≤ g ∧ OwX g ws 0 w8 from fun g hg => by
    obtain ⟨q1, cur, q2⟩ := own_typ O8.out (k := g) (by rw [hg]; rfl)
    refine ⟨q1, cur, q2, fun j s _ hs => ?_⟩
    have hj := (List.getElem?_eq_some_iff.1 hs).1
    subst hg
    have h9 := O8.out.cellAt j (by omega)
    have h10 : w8.cell? ⟨g, j, none⟩ = some (.string s) := h9.trans (by rw [strC, List.getElem?_map, hs]; rfl)
    have h11 : w8.cell? ⟨g, j, none⟩ = cur[j]? := by unfold World.cell?; simp [q2]
    rw [← h11]; exact h10)
  have A8 := hide (argW_own O8.out)
  have NC := hide (new_c f A8.out)
  have SZ := hide (show w.heap.size ≤ w1.heap.size ∧ w1.heap.size ≤ w8.heap.size from ⟨B1.out.size, B8.out.size⟩)
  have B18 := hide (chain B1.out B8.out (by have := B1.out.size; omega))
  clear KN V1 O8
  gi_upto_region 4 with (gi_at_call 10; refine (callsIn_wide.2 NC.out).mono ?_; rintro e w9 ⟨hbl, (⟨hmm, rfl⟩ | ⟨hb, T, D, R, K, lg, rfl, hlb, hH, hM⟩)⟩)
  · have BW9 := hide (chain B18.out hbl (by have := SZ.out; omega))
    have OW9 := hide (show ∀ g, q8 = some ⟨g, 0, none⟩ → w.heap.size ≤ g ∧ OwX g ws 0 w9 from fun g hg => ⟨Nat.le_trans SZ.out.1 (OW8.out g hg).1, (OW8.out g hg).2.below hbl⟩)
    have MM := hide hmm
    clear hbl NC hmm A8 OW8
    gi_upto_region 5 with fail
    obtain ⟨LI, hLI⟩ : ∃ LI : Act → World → Prop, LI = (fun a U => ∃ (i : Nat), a.tmps = #[.slice q ws.length cap, .bool f, .slice qc cs.length cc, tw a 3, tw a 4, tw a 5, .bool false, .bool true, .slice q8 ws.length c8, .pointer none, .int .i64 1, .int .i64 (i : Int), tw a 12, tw a 13, tw a 14, tw a 15, tw a 16, tw a 17, tw a 18, tw a 19, tw a 20, tw a 21, tw a 22, tw a 23, tw a 24, tw a 25, tw a 26, tw a 27, tw a 28, tw a 29, tw a 30, tw a 31, tw a 32, tw a 33, tw a 34, tw a 35, tw a 36, tw a 37, tw a 38, tw a 39, tw a 40, tw a 41, tw a 42, tw a 43, tw a 44, tw a 45, tw a 46, tw a 47, tw a 48, tw a 49, tw a 50, tw a 51, tw a 52, tw a 53, tw a 54, tw a 55, tw a 56, tw a 57, tw a 58, tw a 59, tw a 60, tw a 61, tw a 62, tw a 63, tw a 64, tw a 65, tw a 66, tw a 67, tw a 68, tw a 69, tw a 70, tw a 71, tw a 72, tw a 73, tw a 74, tw a 75, tw a 76, tw a 77, tw a 78, tw a 79, tw a 80, tw a 81, tw a 82, tw a 83, tw a 84, tw a 85, tw a 86, tw a 87, tw a 88, tw a 89, tw a 90, tw a 91, tw a 92, tw a 93, tw a 94, tw a 95, tw a 96, tw a 97, tw a 98, tw a 99, tw a 100, tw a 101, tw a 102, tw a 103, tw a 104, tw a 105, tw a 106, tw a 107, tw a 108, tw a 109, tw a 110, tw a 111, tw a 112, tw a 113, tw a 114, tw a 115, tw a 116, tw a 117, tw a 118, tw a 119, tw a 120, tw a 121, tw a 122, tw a 123, tw a 124, tw a 125, tw a 126, tw a 127, tw a 128, tw a 129, tw a 130, tw a 131, tw a 132, tw a 133, tw a 134, tw a 135, tw a 136, tw a 137, tw a 138, tw a 139, tw a 140, tw a 141, tw a 142, tw a 143, tw a 144, tw a 145, tw a 146, tw a 147, tw a 148, tw a 149, tw a 150, tw a 151, tw a 152, tw a 153, tw a 154, tw a 155, tw a 156, tw a 157, tw a 158, tw a 159, tw a 160, tw a 161, tw a 162, tw a 163, tw a 164, tw a 165, tw a 166, tw a 167, tw a 168, tw a 169, tw a 170, tw a 171, tw a 172, tw a 173, tw a 174, tw a 175, tw a 176, tw a 177, tw a 178, tw a 179, tw a 180, tw a 181, tw a 182, tw a 183, tw a 184, tw a 185, tw a 186, tw a 187, tw a 188, tw a 189, tw a 190, tw a 191, tw a 192, tw a 193, tw a 194, tw a 195, tw a 196, tw a 197, tw a 198, tw a 199, tw a 200, tw a 201, tw a 202, tw a 203, tw a 204, tw a 205, tw a 206, tw a 207, tw a 208, tw a 209, tw a 210, tw a 211] ∧ a.defers = [] ∧ Below w.heap.size w U ∧ (∀ g, q8 = some ⟨g, 0, none⟩ → w.heap.size ≤ g ∧ OwX g ws i U) ∧ i ≤ ws.length) := ⟨_, rfl⟩
    refine wpIn_loop LI (fun a _ => ((ws.length : Int) - intOf (a.tmps.getD 11 undef)).toNat) ?_ ?_
    · rw [hLI]
      exact ⟨0, rfl, rfl, BW9.out, OW9.out, Nat.zero_le _⟩
    rintro ⟨tm, ds⟩ U hI
    rw [hLI] at hI
    obtain ⟨i, ha, hd, hbU, hox, hi⟩ := hI
    dsimp only at ha hd
    generalize tw { tmps := tm, defers := ds } = f' at ha
    subst ha hd
    have HLI := hide hLI
    have HBU := hide hbU
    have HOX := hide hox
    clear hLI hbU hox
    by_cases hlt : i < ws.length
    · have i0 : (i : Int) < (ws.length : Int) := by omega
      have i1 : (0 : Int) ≤ (i : Int) := by omega
      have wk : IntKind.wrap .i64 ((i : Int) + 1) = (i : Int) + 1 := wrap_small _ (by omega) (by omega)
      obtain ⟨s, hs⟩ : ∃ s, ws[i]? = some s := ⟨_, List.getElem?_eq_getElem hlt⟩
      obtain ⟨q', cap', e', _, _, hcs'⟩ := (HV.out.below HBU.out (Nat.le_refl _)).slice
      obtain ⟨rfl, rfl⟩ : q' = q ∧ cap' = cap := by
        injection e' with e1 _ e3
        exact ⟨e1.symm, e3.symm⟩
      obtain ⟨g, off, rfl, hgl, cw⟩ := hcs' i s hs
      obtain ⟨g8, rfl⟩ := SOME8.out (by omega)
      have OX := hide (HOX.out g8 rfl).2
      have G8 := hide (HOX.out g8 rfl).1
      have cx := OX.out.get hs
      have HS := hide hs
      clear hs hcs'
      gi_upto_region 7 with fail
      gi_quiet (fail)
      have BN := hide (below_drewN U nq)
      generalize U.drewN nq = U4 at BN ⊢
      have OX4 := hide (OX.out.below BN.out)
      have f4 := OX4.out.frz i
      have c4 := OX4.out.get HS.out
      have FIN := hide (show Below w.heap.size w (U4.setCell ⟨g8, i, none⟩ (.string ⟨#[120]⟩)) from (chain HBU.out BN.out (by have := HBU.out.size; omega)).setCell G8.out _)
      have OX5 := hide (OX4.out.put (.string ⟨#[120]⟩))
      clear cw cx
      gi_wp2
      refine ⟨by rw [HLI.out]; exact ⟨i + 1, rfl, rfl, FIN.out, fun g hg => by (injection hg with hg; injection hg with hg; subst hg; exact ⟨G8.out, OX5.out⟩), hlt⟩, ?_⟩
      simp [intOf]
      omega
    have i0 : ¬ (i : Int) < (ws.length : Int) := by omega
    obtain rfl : i = ws.length := by omega
    have VU := hide (HV.out.below HBU.out (Nat.le_refl _))
    have RC := hide (rright_c VU.out)
    clear HLI HOX
    have HBF := hide HBU.out
    gi_wp2_with (gi_at_call 11; refine (callsIn_wide.2 RC.out).mono ?_; rintro e wR ⟨rfl, hR⟩; subst wR; rw [MM.out])
    exact ⟨.bool true, by simp [results, Tryd.results3, go_sem], rfl, HBF.out⟩
  have BW9 := hide (chain B18.out hbl (by have := SZ.out; omega))
  have OW9 := hide (show ∀ g, q8 = some ⟨g, 0, none⟩ → w.heap.size ≤ g ∧ OwX g ws 0 w9 from fun g hg => ⟨Nat.le_trans SZ.out.1 (OW8.out g hg).1, (OW8.out g hg).2.below hbl⟩)
  have GW := hide (show ∀ g, q8 = some ⟨g, 0, none⟩ → g ≠ 0 from fun g hg => by have := (OW8.out g hg).1; have := HT.out.1; have := SZ.out; omega)
  have KP9 := hide (kp_new (w := w8) hH hM (by unfold wrap64; omega) (HT.out.below B18.out) hbl hlb).self
  have HUU := hide hH
  have OK := hide hH.ok
  have HM9 := hide hM
  have HBB := hide (show w8.heap.size ≤ hb from hlb)
  clear hbl NC A8 OW8 hH hM hlb
  gi_upto_region 5 with fail
  obtain ⟨LI, hLI⟩ : ∃ LI : Act → World → Prop, LI = (fun a U => ∃ (i : Nat), a.tmps = #[.slice q ws.length cap, .bool f, .slice qc cs.length cc, tw a 3, tw a 4, tw a 5, .bool false, .bool true, .slice q8 ws.length c8, .pointer (some ⟨hb, 0, none⟩), .int .i64 0, .int .i64 (i : Int), tw a 12, tw a 13, tw a 14, tw a 15, tw a 16, tw a 17, tw a 18, tw a 19, tw a 20, tw a 21, tw a 22, tw a 23, tw a 24, tw a 25, tw a 26, tw a 27, tw a 28, tw a 29, tw a 30, tw a 31, tw a 32, tw a 33, tw a 34, tw a 35, tw a 36, tw a 37, tw a 38, tw a 39, tw a 40, tw a 41, tw a 42, tw a 43, tw a 44, tw a 45, tw a 46, tw a 47, tw a 48, tw a 49, tw a 50, tw a 51, tw a 52, tw a 53, tw a 54, tw a 55, tw a 56, tw a 57, tw a 58, tw a 59, tw a 60, tw a 61, tw a 62, tw a 63, tw a 64, tw a 65, tw a 66, tw a 67, tw a 68, tw a 69, tw a 70, tw a 71, tw a 72, tw a 73, tw a 74, tw a 75, tw a 76, tw a 77, tw a 78, tw a 79, tw a 80, tw a 81, tw a 82, tw a 83, tw a 84, tw a 85, tw a 86, tw a 87, tw a 88, tw a 89, tw a 90, tw a 91, tw a 92, tw a 93, tw a 94, tw a 95, tw a 96, tw a 97, tw a 98, tw a 99, tw a 100, tw a 101, tw a 102, tw a 103, tw a 104, tw a 105, tw a 106, tw a 107, tw a 108, tw a 109, tw a 110, tw a 111, tw a 112, tw a 113, tw a 114, tw a 115, tw a 116, tw a 117, tw a 118, tw a 119, tw a 120, tw a 121, tw a 122, tw a 123, tw a 124, tw a 125, tw a 126, tw a 127, tw a 128, tw a 129, tw a 130, tw a 131, tw a 132, tw a 133, tw a 134, tw a 135, tw a 136, tw a 137, tw a 138, tw a 139, tw a 140, tw a 141, tw a 142, tw a 143, tw a 144, tw a 145, tw a 146, tw a 147, tw a 148, tw a 149, tw a 150, tw a 151, tw a 152, tw a 153, tw a 154, tw a 155, tw a 156, tw a 157, tw a 158, tw a 159, tw a 160, tw a 161, tw a 162, tw a 163, tw a 164, tw a 165, tw a 166, tw a 167, tw a 168, tw a 169, tw a 170, tw a 171, tw a 172, tw a 173, tw a 174, tw a 175, tw a 176, tw a 177, tw a 178, tw a 179, tw a 180, tw a 181, tw a 182, tw a 183, tw a 184, tw a 185, tw a 186, tw a 187, tw a 188, tw a 189, tw a 190, tw a 191, tw a 192, tw a 193, tw a 194, tw a 195, tw a 196, tw a 197, tw a 198, tw a 199, tw a 200, tw a 201, tw a 202, tw a 203, tw a 204, tw a 205, tw a 206, tw a 207, tw a 208, tw a 209, tw a 210, tw a 211] ∧ a.defers = [] ∧ Below w.heap.size w U ∧ (∀ g, q8 = some ⟨g, 0, none⟩ → w.heap.size ≤ g ∧ OwX g ws i U) ∧ i ≤ ws.length ∧ Kp w8.heap.size w8.heap.size U f T D R K hb lg U ∧ HM U hb T f lg 0) := ⟨_, rfl⟩
  refine wpIn_loop LI (fun a _ => ((ws.length : Int) - intOf (a.tmps.getD 11 undef)).toNat) ?_ ?_
  · rw [hLI]
    exact ⟨0, rfl, rfl, BW9.out, OW9.out, Nat.zero_le _, KP9.out, HM9.out⟩
  rintro ⟨tm, ds⟩ U hI
  rw [hLI] at hI
  obtain ⟨i, ha, hd, hbU, hox, hi, hkp, hhm⟩ := hI
  dsimp only at ha hd
  generalize tw { tmps := tm, defers := ds } = f' at ha
  subst ha hd
  have HLI := hide hLI
  have HBU := hide hbU
  have HOX := hide hox
  clear hLI hbU hox
  by_cases hlt : i < ws.length
  · have i0 : (i : Int) < (ws.length : Int) := by omega
    have i1 : (0 : Int) ≤ (i : Int) := by omega
    have wk : IntKind.wrap .i64 ((i : Int) + 1) = (i : Int) + 1 := wrap_small _ (by omega) (by omega)
    obtain ⟨s, hs⟩ : ∃ s, ws[i]? = some s := ⟨_, List.getElem?_eq_getElem hlt⟩
    obtain ⟨q', cap', e', _, _, hcs'⟩ := (HV.out.below HBU.out (Nat.le_refl _)).slice
    obtain ⟨rfl, rfl⟩ : q' = q ∧ cap' = cap := by
      injection e' with e1 _ e3
      exact ⟨e1.symm, e3.symm⟩
    obtain ⟨g, off, rfl, hgl, cw⟩ := hcs' i s hs
    obtain ⟨g8, rfl⟩ := SOME8.out (by omega)
    have OX := hide (HOX.out g8 rfl).2
    have G8 := hide (HOX.out g8 rfl).1
    have cx := OX.out.get hs
    have HS := hide hs
    clear hs hcs'
    gi_upto_region 7 with fail
    gi_quiet (fail)
    have BN := hide (below_drewN U nq)
    generalize U.drewN nq = U4 at BN ⊢
    have OX4 := hide (OX.out.below BN.out)
    have f4 := OX4.out.frz i
    have c4 := OX4.out.get HS.out
    have KQ := hide (hkp.below BN.out).self
    have KX := hide (by obtain ⟨cur, hc, _⟩ := OX4.out; exact KQ.out.reset hc (j := i) (GW.out g8 rfl) (by decide) (.string ⟨#[120]⟩))
    have HX := hide (show HM (U4.setCell ⟨g8, i, none⟩ (.string ⟨#[120]⟩)) hb T f lg 0 from by
      obtain ⟨cur, hc, _⟩ := OX4.out
      have h9 := (BN.out.block _ (lt_of_heap hhm)).trans hhm
      exact (Below.heap_setCell _ _ _ _ (ne_type h9 hc (by decide))).trans h9)
    clear hkp hhm
    have FIN := hide (show Below w.heap.size w (U4.setCell ⟨g8, i, none⟩ (.string ⟨#[120]⟩)) from (chain HBU.out BN.out (by have := HBU.out.size; omega)).setCell G8.out _)
    have OX5 := hide (OX4.out.put (.string ⟨#[120]⟩))
    clear cw cx
    gi_wp2
    refine ⟨by rw [HLI.out]; exact ⟨i + 1, rfl, rfl, FIN.out, fun g hg => by (injection hg with hg; injection hg with hg; subst hg; exact ⟨G8.out, OX5.out⟩), hlt, KX.out, HX.out⟩, ?_⟩
    simp [intOf]
    omega
  have i0 : ¬ (i : Int) < (ws.length : Int) := by omega
  obtain rfl : i = ws.length := by omega
  have VU := hide (HV.out.below HBU.out (Nat.le_refl _))
  have RC := hide (rright_c VU.out)
  clear HLI HOX
  have KU := hide hkp
  have HMU := hide hhm
  clear hkp hhm
  gi_upto_region 16 with (gi_at_call 11; refine (callsIn_wide.2 RC.out).mono ?_; rintro e wR ⟨rfl, hR⟩; subst wR; rw [OK.out])
  obtain ⟨LK, hLK⟩ : ∃ LK : Act → World → Prop, LK = (fun a U => ∃ (i : Nat) (Ds : List Nat), a.tmps = #[.slice q ws.length cap, .bool f, .slice qc cs.length cc, tw a 3, tw a 4, tw a 5, .bool false, .bool true, tw a 8, .pointer (some ⟨hb, 0, none⟩), tw a 10, tw a 11, tw a 12, .int .i64 (i : Int), tw a 14, tw a 15, tw a 16, tw a 17, tw a 18, tw a 19, tw a 20, tw a 21, tw a 22, tw a 23, tw a 24, tw a 25, tw a 26, tw a 27, tw a 28, tw a 29, tw a 30, tw a 31, tw a 32, tw a 33, tw a 34, tw a 35, tw a 36, tw a 37, tw a 38, tw a 39, tw a 40, tw a 41, tw a 42, tw a 43, tw a 44, tw a 45, tw a 46, tw a 47, tw a 48, tw a 49, tw a 50, tw a 51, tw a 52, tw a 53, tw a 54, tw a 55, tw a 56, tw a 57, tw a 58, tw a 59, tw a 60, tw a 61, tw a 62, tw a 63, tw a 64, tw a 65, tw a 66, tw a 67, tw a 68, tw a 69, tw a 70, tw a 71, tw a 72, tw a 73, tw a 74, tw a 75, tw a 76, tw a 77, tw a 78, tw a 79, tw a 80, tw a 81, tw a 82, tw a 83, tw a 84, tw a 85, tw a 86, tw a 87, tw a 88, tw a 89, tw a 90, tw a 91, tw a 92, tw a 93, tw a 94, tw a 95, tw a 96, tw a 97, tw a 98, tw a 99, tw a 100, tw a 101, tw a 102, tw a 103, tw a 104, tw a 105, tw a 106, tw a 107, tw a 108, tw a 109, tw a 110, tw a 111, tw a 112, tw a 113, tw a 114, tw a 115, tw a 116, tw a 117, tw a 118, tw a 119, tw a 120, tw a 121, tw a 122, tw a 123, tw a 124, tw a 125, tw a 126, tw a 127, tw a 128, tw a 129, tw a 130, tw a 131, tw a 132, tw a 133, tw a 134, tw a 135, tw a 136, tw a 137, tw a 138, tw a 139, tw a 140, tw a 141, tw a 142, tw a 143, tw a 144, tw a 145, tw a 146, tw a 147, tw a 148, tw a 149, tw a 150, tw a 151, tw a 152, tw a 153, tw a 154, tw a 155, tw a 156, tw a 157, tw a 158, tw a 159, tw a 160, tw a 161, tw a 162, tw a 163, tw a 164, tw a 165, tw a 166, tw a 167, tw a 168, tw a 169, tw a 170, tw a 171, tw a 172, tw a 173, tw a 174, tw a 175, tw a 176, tw a 177, tw a 178, tw a 179, tw a 180, tw a 181, tw a 182, tw a 183, tw a 184, tw a 185, tw a 186, tw a 187, tw a 188, tw a 189, tw a 190, tw a 191, tw a 192, tw a 193, tw a 194, tw a 195, tw a 196, tw a 197, tw a 198, tw a 199, tw a 200, tw a 201, tw a 202, tw a 203, tw a 204, tw a 205, tw a 206, tw a 207, tw a 208, tw a 209, tw a 210, tw a 211] ∧ a.defers = Ds.map mkD ∧ Below w.heap.size w U ∧ Kp w8.heap.size w8.heap.size U f T D R K hb lg U ∧ MK w.heap.size U.heap.size Ds U ∧ (∃ s, HM U hb T f lg s ∧ 0 ≤ s ∧ s ≤ (i : Int) * 1200000000) ∧ i ≤ 30 ∧ i ≤ cs.length) := ⟨_, rfl⟩
  refine wpIn_loop LK (fun a _ => ((cs.length : Int) - intOf (a.tmps.getD 13 undef)).toNat) ?_ ?_
  · rw [hLK]
    exact ⟨0, [], rfl, rfl, HBU.out, KU.out, ⟨List.nodup_nil, fun D h => by cases h⟩, ⟨0, HMU.out, Int.le_refl _, by simp⟩, by omega, Nat.zero_le _⟩
  clear KU HMU HBU VU RC
  rintro ⟨tm, ds⟩ U hI
  rw [hLK] at hI
  obtain ⟨i, Ds, ha, hd, hbU, hkp, hmk, ⟨s0, hs0, hs1, hs2⟩, hi30, hic⟩ := hI
  dsimp only at ha hd
  generalize tw { tmps := tm, defers := ds } = f' at ha
  subst ha hd
  have HLK := hide hLK
  have HBU := hide hbU
  have KU := hide hkp
  have MU := hide hmk
  have HS := hide (show HM U hb T f lg s0 ∧ 0 ≤ s0 ∧ s0 ≤ (i : Int) * 1200000000 from ⟨hs0, hs1, hs2⟩)
  clear hLK hbU hkp hmk hs0 hs1 hs2
  by_cases hlt : i < cs.length
  · by_cases h30 : i < 30
    · have i0 : (i : Int) < (cs.length : Int) := by omega
      have i1 : (0 : Int) ≤ (i : Int) := by omega
      have i2 : (i : Int) < 30 := by omega
      have wk : IntKind.wrap .i64 ((i : Int) + 1) = (i : Int) + 1 := wrap_small _ (by omega) (by omega)
      obtain ⟨o, ho⟩ : ∃ o, cs[i]? = some o := ⟨_, List.getElem?_eq_getElem hlt⟩
      obtain ⟨hsz, wfm, wlv, wtn, g, off, rfl, hgl, e1, e2, e3, e4⟩ := HCS.out i o ho
      have g1 := (HBU.out.cell (p := ⟨g, off + i * 4, none⟩) hgl).trans e1
      have g2 := (HBU.out.cell (p := ⟨g, off + i * 4 + 1, none⟩) hgl).trans e2
      have g3 := (HBU.out.cell (p := ⟨g, off + i * 4 + 2, none⟩) hgl).trans e3
      have g4 := (HBU.out.cell (p := ⟨g, off + i * 4 + 3, none⟩) hgl).trans e4
      have WF := hide (show (Lit.int .i64 o.fm).wf = true ∧ (Lit.int .i64 o.tn).wf = true from ⟨wfm, wtn⟩)
      clear ho e1 e2 e3 e4 wlv wfm wtn
      gi_upto_region 19 with fail
      have XO := hide (alloc_new U (.cells #[.string o.line, .int .i64 o.fm, .int .i64 o.lv, .int .i64 o.tn] 31))
      have BA := hide (show Below U.heap.size U (U.alloc (.cells #[.string o.line, .int .i64 o.fm, .int .i64 o.lv, .int .i64 o.tn] 31)) from (Below.refl _ _).alloc (Nat.le_refl _) _)
      have SA := hide (show (U.alloc (.cells #[.string o.line, .int .i64 o.fm, .int .i64 o.lv, .int .i64 o.tn] 31)).heap.size = U.heap.size + 1 from by simp)
      generalize (U.alloc (.cells #[.string o.line, .int .i64 o.fm, .int .i64 o.lv, .int .i64 o.tn] 31)) = U1 at XO BA SA ⊢
      have K1 := hide (KU.out.below BA.out).self
      have HM1 := hide (show HM U1 hb T f lg s0 from (BA.out.block _ (lt_of_heap HS.out.1)).trans HS.out.1)
      have S1 := hide (steps_c HM1.out)
      have NUM := hide (show U1.heap.size = U.heap.size + 1 ∧ w.heap.size ≤ U.heap.size ∧ hb < U.heap.size ∧ w8.heap.size ≤ hb ∧ w.heap.size ≤ w8.heap.size from ⟨SA.out, HBU.out.size, lt_of_heap HS.out.1, HBB.out, by have := SZ.out; omega⟩)
      have BW1 := hide (chain HBU.out BA.out (by have := NUM.out; omega))
      have SB := hide (show 0 ≤ s0 ∧ s0 ≤ 36000000000 ∧ s0 ≤ (i : Int) * 1200000000 from ⟨HS.out.2.1, by have := HS.out.2.2; omega, HS.out.2.2⟩)
      have M1 := hide (show MK w.heap.size U1.heap.size Ds U1 from ⟨MU.out.1, fun D hD => by
        obtain ⟨q1, q2, q3⟩ := MU.out.2 D hD
        exact ⟨q1, by have := NUM.out; omega, (BA.out.block _ q2).trans q3⟩⟩)
      obtain ⟨OB, hOB⟩ : ∃ OB, OB = U.heap.size := ⟨_, rfl⟩
      rw [← hOB] at XO NUM ⊢
      clear g1 g2 g3 g4 hOB KU HBU MU BA SA HS
      have o0 := cell_row XO.out (i := 0) (v := .string o.line) rfl
      have o1 := cell_row XO.out (i := 1) (v := .int .i64 o.fm) rfl
      gi_upto_region 20 with (gi_at_call 12; refine (callsIn_wide.2 S1.out).mono ?_; rintro e wq ⟨rfl, h5⟩; subst wq)
      have NX : Hid (CallsIn Fence.wide (n - 1) Tryd.prog 13 #[.pointer (some ⟨hb, 0, none⟩), .string o.line, .int .i64 o.fm] U1 (fun e V' => ∃ (p k : Int) (b : Bool) (cN : Nat), e = .returned (.tuple #[.int .i64 p, .int .i64 k, .bool b]) ∧ NxA f ws o.line o.fm p k b ∧ (if 0 ≤ o.fm ∧ o.fm ≤ (o.line.size : Int) then (cN : Int) ≤ 2 * ((o.line.size : Int) - o.fm) + 1 else cN = 0) ∧ HM V' hb T f lg (s0 + (cN : Int)) ∧ Kp w8.heap.size w8.heap.size V' f T D R K hb lg V' ∧ Fr (fun k => k = hb) U1 V')) := hide (by
        by_cases hin : 0 ≤ o.fm ∧ o.fm ≤ (o.line.size : Int)
        · obtain ⟨m, hm⟩ : ∃ m : Nat, o.fm = (m : Int) := ⟨o.fm.toNat, by omega⟩
          have h9 := next_in (n - 1) (by omega) m (HUU.out.at K1.out.hi.1) HM1.out K1.out.tab (by have := K1.out.pos; have := K1.out.lb; omega) (line := o.line) (by omega) (by omega) (K1.out.sw _ HM1.out)
          rw [← hm] at h9
          refine h9.mono ?_
          rintro e V' ⟨p, k, b, c, q1, q2, q3, q4, q5⟩
          have e9 : wrap64 (s0 + (c : Int)) = s0 + (c : Int) := by have := SB.out; unfold wrap64; omega
          rw [e9] at q4
          exact ⟨p, k, b, c, q1, q2, by rw [if_pos hin]; omega, q4, (K1.out.next q4 (by have := SB.out; unfold wrap64; omega) q5).self, q5⟩
        · refine (callsIn_wide.2 (next_bad (by omega))).mono ?_
          rintro e V' ⟨rfl, rfl⟩
          exact ⟨0, 0, false, 0, rfl, .inl ⟨by omega, rfl, rfl, rfl⟩, by rw [if_neg hin], by simpa using HM1.out, K1.out, Fr.refl _ _⟩)
      gi_upto_region 21 with (gi_at_call 13; refine NX.out.mono ?_; rintro e U2 ⟨p, k, b, cN, rfl, a1, a2, a3, a4, a5⟩)
      have X2 := hide ((a5.block _ (lt_of_heap XO.out) (fun q => by have := NUM.out; omega)).trans XO.out)
      have K2 := hide a4
      have HM2 := hide a3
      have F2 := hide a5
      have S2 := hide (steps_c a3)
      have BW2 := hide (chainF BW1.out a5 (by have := NUM.out; omega) (fun k q => by have := NUM.out; omega))
      have VV := hide (HV.out.below BW2.out (Nat.le_refl _))
      have RN := hide (rnext_in (n - 1) (by omega) f o.line o.fm WF.out.1 OK.out hsz VV.out)
      have A1 := hide a1
      have A2 := hide a2
      have o20 := cell_row X2.out (i := 0) (v := .string o.line) rfl
      have o21 := cell_row X2.out (i := 1) (v := .int .i64 o.fm) rfl
      clear a1 a2 a3 a4 a5 o0 o1 NX S1
      gi_upto_region 22 with (gi_at_call 12; refine (callsIn_wide.2 S2.out).mono ?_; rintro e wq ⟨rfl, h5⟩; subst wq)
      gi_upto_region 23 with (gi_at_call 14; refine RN.out.mono ?_; rintro e U3 ⟨p2, k2, b2, rfl, r1, r2⟩; obtain ⟨rfl, rfl, rfl⟩ := nxA_eq OK.out A1.out r1; have B3 := hide r2; clear r1 r2)
      have X3 := hide ((B3.out.block _ (lt_of_heap X2.out)).trans X2.out)
      have K3 := hide (K2.out.below B3.out).self
      have HM3 := hide (show HM U3 hb T f lg (s0 + (cN : Int)) from (B3.out.block _ (lt_of_heap HM2.out)).trans HM2.out)
      have BW3 := hide (chain BW2.out B3.out (by have := BW2.out.size; omega))
      have V3 := hide (HV.out.below BW3.out (Nat.le_refl _))
      have RA := hide (rall_in (n - 1) (by omega) f o.line OK.out hsz V3.out)
      have o30 := cell_row X3.out (i := 0) (v := .string o.line) rfl
      have o31 := cell_row X3.out (i := 1) (v := .int .i64 o.fm) rfl
      clear o20 o21 RN VV
      have STEP : Hid (0 ≤ (cN : Int) ∧ (cN : Int) ≤ 2200000 ∧ (0 ≤ o.fm ∧ o.fm ≤ (o.line.size : Int) → (cN : Int) ≤ 16 * ((o.line.size : Int) - o.fm + 1)) ∧ (¬ (0 ≤ o.fm ∧ o.fm ≤ (o.line.size : Int)) → cN = 0)) := hide (by
        have h9 := A2.out
        split at h9
        · rename_i h8
          exact ⟨by omega, by omega, fun _ => by omega, fun q => absurd h8 q⟩
        · rename_i h8
          exact ⟨by omega, by omega, fun q => absurd q h8, fun _ => h9⟩)
      have lowS : ¬ (s0 + (cN : Int) < s0) := by omega
      have wsub : IntKind.wrap .i64 (s0 + (cN : Int) - s0) = (cN : Int) := by rw [show s0 + (cN : Int) - s0 = (cN : Int) by omega]; exact wrap_small _ (by omega) (by have := STEP.out; omega)
      by_cases hin : 0 ≤ o.fm ∧ o.fm ≤ (o.line.size : Int)
      · obtain ⟨hin0, hin1⟩ := hin
        have wd : IntKind.wrap .i64 ((o.line.size : Int) - o.fm) = (o.line.size : Int) - o.fm := wrap_small _ (by omega) (by omega)
        have wd1 : IntKind.wrap .i64 ((o.line.size : Int) - o.fm + 1) = (o.line.size : Int) - o.fm + 1 := wrap_small _ (by omega) (by omega)
        have wd2 : IntKind.wrap .i64 (16 * ((o.line.size : Int) - o.fm + 1)) = 16 * ((o.line.size : Int) - o.fm + 1) := wrap_small _ (by omega) (by omega)
        have lowT : ¬ (16 * ((o.line.size : Int) - o.fm + 1) < (cN : Int)) := by have := STEP.out.2.2.1 ⟨hin0, hin1⟩; omega
        gi_upto_region 28 with fail
        have HF := hide (show (allM f ws o.line o.line.size).length ≤ 104857600 from by
          have h5 := allM_few (f := f) (ws := ws) (line := o.line) o.line.size
          have h7 : o.line.size * ws.length ≤ 1048576 * 100 := Nat.mul_le_mul hsz (mayB_of OK.out).2.2
          omega)
        gi_upto_region 29 with (gi_at_call 15; refine RA.out.mono ?_; rintro e U4 ⟨v4, rfl, own4, b4⟩)
        obtain ⟨q4, c4, rfl⟩ := ownsRow_shape own4
        have O4 := hide (own_lower own4 (show w8.heap.size ≤ U3.heap.size from by have := K3.out.bl.size; have := K3.out.lw; omega))
        have B4 := hide b4
        have X4 := hide ((B4.out.block _ (lt_of_heap X3.out)).trans X3.out)
        have K4 := hide (K3.out.below B4.out).self
        have HM4 := hide (show HM U4 hb T f lg (s0 + (cN : Int)) from (B4.out.block _ (lt_of_heap HM3.out)).trans HM3.out)
        have BW4 := hide (chain BW3.out B4.out (by have := BW3.out.size; omega))
        have M4 := hide (((M1.out.call (n0 := U1.heap.size) (F2.out.mono (fun k q => .inl q)) (Nat.le_refl _) HM1.out F2.out.size).call (n0 := U2.heap.size) (Fr.of_below B3.out) (Nat.le_refl _) HM2.out B3.out.size).call (n0 := U3.heap.size) (Fr.of_below B4.out) (Nat.le_refl _) HM3.out B4.out.size)
        have N4 := hide (show OB < U4.heap.size ∧ hb < U4.heap.size ∧ w8.heap.size ≤ U4.heap.size ∧ w.heap.size ≤ U4.heap.size from ⟨lt_of_heap X4.out, lt_of_heap HM4.out, by have := K4.out.lw; exact this, BW4.out.size⟩)
        clear own4 b4 o30 o31 RA
        gi_upto_region 30 with fail
        have XN := hide (alloc_new U4 (.cells #[.int .i64 0] 3))
        have BN := hide (show Below U4.heap.size U4 (U4.alloc (.cells #[.int .i64 0] 3)) from (Below.refl _ _).alloc (Nat.le_refl _) _)
        have SN := hide (show (U4.alloc (.cells #[.int .i64 0] 3)).heap.size = U4.heap.size + 1 from by simp)
        generalize (U4.alloc (.cells #[.int .i64 0] 3)) = U5 at XN BN SN ⊢
        have X5 := hide ((BN.out.block _ (lt_of_heap X4.out)).trans X4.out)
        have o50 := cell_row X5.out (i := 0) (v := .string o.line) rfl
        have AC := hide (fun W => all_c hb o.line W)
        gi_wp2_with (gi_at_call 16; refine (callsIn_wide.2 (AC.out _)).mono ?_; rintro e wq ⟨rfl, h5⟩; subst wq)
        obtain ⟨UD, hUD, bD, sD, r1, r2⟩ := two U5 (.cells #[.pointer (some ⟨hb, 0, none⟩)] 25) (.cells #[.string o.line] 9)
        rw [← hUD]
        clear hUD AC o50
        have BD := hide bD
        have KD := hide ((K4.out.below BN.out).below bD)
        have N6 := hide (show U5.heap.size = U4.heap.size + 1 ∧ UD.heap.size = U4.heap.size + 3 ∧ OB < U4.heap.size ∧ hb < U4.heap.size ∧ w8.heap.size ≤ U4.heap.size ∧ w.heap.size ≤ U4.heap.size from ⟨SN.out, by rw [sD, SN.out], N4.out⟩)
        have JA : Hid (JC w8.heap.size w8.heap.size U4 f T D R K hb lg U4.heap.size w.heap.size Ds U5.heap.size (s0 + (cN : Int)) 0 0 UD) := hide (by
          have hbb := chain BN.out bD (by have := N6.out; omega)
          refine ⟨KD.out, Fr.of_below hbb, (bD.block _ (lt_of_heap XN.out)).trans XN.out, ⟨M4.out.1, fun D hD => by
            obtain ⟨q1, q2, q3⟩ := M4.out.2 D hD
            exact ⟨q1, by have := N6.out; omega, (hbb.block _ q2).trans q3⟩⟩, ?_⟩
          have e : wrap64 ((s0 + (cN : Int)) + ((0 : Nat) : Int)) = (s0 + (cN : Int)) := by have := SB.out; have := STEP.out; unfold wrap64; omega
          rw [e]
          exact (hbb.block _ (lt_of_heap HM4.out)).trans HM4.out)
        have TL := all_tells (n - 1) (by omega) (n0 := U5.heap.size) (line := o.line) (HUU.out.at KD.out.hi.1) r1 r2 (by have := N6.out; omega) (Nat.le_refl _) (Nat.le_succ _) (by omega)
        clear bD sD r1 r2 BN SN XN X3 HM3 K3 B4 V3
        refine range_toldE h1 (gf := 30) (lb := #[.pointer (some ⟨U5.heap.size, 0, none⟩), .pointer (some ⟨U5.heap.size + 1, 0, none⟩)]) rfl (enters_of Tryd.func30 (by kernel_rfl) rfl) rfl TL
          (fun pre Z => JC w8.heap.size w8.heap.size U4 f T D R K hb lg U4.heap.size w.heap.size Ds U5.heap.size (s0 + (cN : Int)) (tl pre).length (bs pre) Z ∧ tl pre <+: allM f ws o.line o.line.size) (fun _ _ _ => False)
          (fun pre A0 A' row hi hg hr => ?_) (fun _ _ _ _ _ hi => hi.elim) (fun pre V hi => ⟨hi.1.kp.hi, hi.1.kp.tab⟩) (fun pre A0 B hi hf => ?_) (fun _ _ _ _ hi => hi.elim)
          (fun V hv => by obtain ⟨⟨_, st, hm⟩, _⟩ := hv; exact ⟨T, f, lg, st, hm⟩) (fun pre d A0 B hi hu => ?_) ⟨JA.out, by simp [tl]⟩
          (fun x => { tmps := #[.slice q ws.length cap, .bool f, .slice (some ⟨g, off, none⟩) cs.length cc, f' 3, f' 4, f' 5, .bool false, .bool true, f' 8, .pointer (some ⟨hb, 0, none⟩), f' 10, f' 11, f' 12, .int .i64 (i : Int), .pointer (some ⟨OB, 0, none⟩), .int .i64 s0, .int .i64 p2, .int .i64 k2, .bool b2, .int .i64 (s0 + (cN : Int)), .int .i64 p2, .int .i64 k2, .bool b2, .bool true, .slice q4 (allM f ws o.line o.line.size).length c4, .pointer (some ⟨U4.heap.size, 0, none⟩), f' 26, f' 27, f' 28, f' 29, f' 30, f' 31, f' 32, f' 33, f' 34, f' 35, f' 36, f' 37, f' 38, f' 39, f' 40, f' 41, f' 42, f' 43, f' 44, f' 45, f' 46, f' 47, f' 48, f' 49, f' 50, f' 51, f' 52, f' 53, f' 54, f' 55, f' 56, f' 57, f' 58, f' 59, f' 60, f' 61, f' 62, f' 63, f' 64, f' 65, f' 66, f' 67, f' 68, f' 69, f' 70, f' 71, f' 72, f' 73, f' 74, f' 75, f' 76, .int .i64 (i : Int), .slice (some ⟨g, off, none⟩) cs.length cc, .int .i64 (cs.length : Int), .bool true, .bool true, .int .i64 (i : Int), .bool true, .bool true, f' 85, f' 86, .slice (some ⟨g, off, none⟩) cs.length cc, .int .i64 (i : Int), .pointer (some ⟨g, off + i * 4, none⟩), .agg #[.string o.line, .int .i64 o.fm, .int .i64 o.lv, .int .i64 o.tn], .pointer (some ⟨hb, 0, none⟩), .int .i64 s0, .tuple #[.int .i64 p2, .int .i64 k2, .bool b2], .pointer (some ⟨hb, 0, none⟩), .pointer (some ⟨OB, 0, none⟩), .string o.line, .pointer (some ⟨OB, 1, none⟩), .int .i64 o.fm, .tuple #[.int .i64 p2, .int .i64 k2, .bool b2], .int .i64 p2, .int .i64 k2, .bool b2, .pointer (some ⟨hb, 0, none⟩), .int .i64 (s0 + (cN : Int)), .tuple #[.int .i64 p2, .int .i64 k2, .bool b2], .slice q ws.length cap, .bool f, .pointer (some ⟨OB, 0, none⟩), .string o.line, .pointer (some ⟨OB, 1, none⟩), .int .i64 o.fm, .tuple #[.int .i64 p2, .int .i64 k2, .bool b2], .int .i64 p2, .int .i64 k2, .bool b2, .int .i64 p2, .int .i64 p2, .bool false, .bool false, .int .i64 k2, .int .i64 k2, .bool false, .bool false, .bool false, .bool b2, .bool b2, .bool false, .bool false, .bool false, .int .i64 (s0 + (cN : Int)), .int .i64 s0, .bool false, .bool false, .pointer (some ⟨OB, 1, none⟩), .int .i64 o.fm, .bool true, .bool true, .pointer (some ⟨OB, 1, none⟩), .int .i64 o.fm, .pointer (some ⟨OB, 0, none⟩), .string o.line, .int .i64 (o.line.size : Int), .bool true, .bool true, .bool true, .bool true, .int .i64 (s0 + (cN : Int)), .int .i64 s0, .int .i64 (cN : Int), .pointer (some ⟨OB, 0, none⟩), .string o.line, .int .i64 (o.line.size : Int), .pointer (some ⟨OB, 1, none⟩), .int .i64 o.fm, .int .i64 ((o.line.size : Int) - o.fm), .int .i64 ((o.line.size : Int) - o.fm + 1), .int .i64 (16 * ((o.line.size : Int) - o.fm + 1)), .bool false, .bool false, .bool false, .bool true, .bool false, .bool false, undef, undef, undef, .bool false, .bool false, .slice q ws.length cap, .bool f, .pointer (some ⟨OB, 0, none⟩), .string o.line, .slice q4 (allM f ws o.line o.line.size).length c4, .pointer (some ⟨hb, 0, none⟩), .pointer (some ⟨OB, 0, none⟩), .string o.line, .func (.func 30) #[] #[.pointer (some ⟨U5.heap.size, 0, none⟩), .pointer (some ⟨U5.heap.size + 1, 0, none⟩)], .int .i64 (x.1 : Int), .int .i64 (x.2 : Int), f' 180, f' 181, f' 182, f' 183, f' 184, f' 185, f' 186, f' 187, f' 188, f' 189, f' 190, f' 191, f' 192, f' 193, f' 194, f' 195, f' 196, f' 197, f' 198, f' 199, f' 200, f' 201, f' 202, f' 203, f' 204, f' 205, f' 206, f' 207, f' 208, f' 209, f' 210, f' 211], defers := [] }) ?_ ?_ ?_ ?_
        · have hn := N6.out
          exact ⟨hi.1.low (S := fun k => row = some k) (hi.1.kp.grown (B := UD.heap.size) (by omega) hg hr) ⟨hg.os, hg.tape, hg.output, hg.size, fun k hk hs => hg.block k hk (fun e => hs e.symm)⟩ (fun k e => by have := (hr k e).1; omega) (by omega) (by omega) (by omega), hi.2⟩
        · have hn := N6.out
          exact ⟨hi.1.low (hi.1.kp.ft (by omega) hf) hf.fr (fun k q => by have := q.1; omega) (by omega) (by omega) (by omega), hi.2⟩
        · rw [tl_inr, bs_inr]
          exact ⟨hi.1.bump hu, hi.2⟩
        · intro l' x Z K' hK
          simp only [encP]
          gi_wp2
          exact hK
        · rintro l' pre ⟨p3, k3⟩ Z ⟨k1, k2⟩ ⟨hok, _⟩
          dsimp only
          have hle := hok.length_le
          rw [List.length_append] at hle
          have cn := cell_row k1.nb (i := 0) (v := .int .i64 ((tl pre).length : Int)) rfl
          have fn := frz_row k1.nb 0
          have wn : IntKind.wrap .i64 (((tl pre).length : Int) + 1) = ((tl pre).length : Int) + 1 := wrap_small _ (by omega) (by have := HF.out; simp at hle; omega)
          have J3 := hide (k1.inc (by omega) N4.out.2.1)
          have HP := hide hok
          have KT := hide (show KeepsFrom UD.heap.size Z (Z.setCell ⟨U4.heap.size, 0, none⟩ (.int .i64 (((tl pre).length : Int) + 1))) ∧ TKeep (keepA U5.heap.size) Z (Z.setCell ⟨U4.heap.size, 0, none⟩ (.int .i64 (((tl pre).length : Int) + 1))) from by
            have hfr : Fr (fun i => i = U4.heap.size) Z (Z.setCell ⟨U4.heap.size, 0, none⟩ (.int .i64 (((tl pre).length : Int) + 1))) := (Fr.refl (fun i => i = U4.heap.size) Z).setCell (p := ⟨U4.heap.size, 0, none⟩) rfl _
            refine ⟨(cellsOnly_set k1.nb _).keeps hfr.size _, hfr.tkeep (fun i cur t fr q hc hN => ?_)⟩
            subst q
            rw [k1.nb] at hc
            injection hc with hc
            injection hc with _ hc _
            subst hc
            rcases hN with ⟨_, q⟩ | q
            · rcases q with q | q | q | q | q | q | q <;> exact absurd q (by decide)
            · exact absurd q (by decide))
          clear k1 k2 hok hle
          gi_wp2
          refine ⟨KT.out.1, KT.out.2, ?_, by rw [tl_inl]; exact HP.out⟩
          rw [tl_inl, bs_inl, List.length_append]
          exact J3.out
        · rintro D' xs Z hD' ⟨hS1, hS2⟩ ⟨k1, _⟩ hK
          obtain ⟨s2, hs2⟩ : ∃ s2, s2 = (s0 + (cN : Int)) + (bs xs : Int) := ⟨_, rfl⟩
          have S2B := hide (show (s0 + (cN : Int)) ≤ s2 ∧ s2 ≤ (s0 + (cN : Int)) + 2 * (o.line.size : Int) + ((allM f ws o.line o.line.size).length : Int) from by rw [hS1] at hS2; omega)
          have HMZ := hide (show HM Z hb T f lg s2 from by
            have h9 := k1.st
            have e : wrap64 ((s0 + (cN : Int)) + (bs xs : Int)) = s2 := by have := SB.out; have := STEP.out; have := HF.out; rw [hS1] at hS2; unfold wrap64; omega
            rwa [e] at h9)
          have cn := cell_row k1.nb (i := 0) (v := .int .i64 ((allM f ws o.line o.line.size).length : Int)) (by rw [hS1]; rfl)
          have XZ := hide ((k1.fr.block _ (lt_of_heap X4.out) (fun q => by have := N6.out; have := NUM.out; rcases q with q | q <;> omega)).trans X4.out)
          have oz0 := cell_row XZ.out (i := 0) (v := .string o.line) rfl
          have KZ := hide k1.kp.self
          have BZ := hide (chainF BW4.out k1.fr (by have := N6.out; omega) (fun k q => by have := N6.out; have := NUM.out; rcases q with q | q <;> omega))
          have OZ := hide (own_otherT O4.out k1.fr (Nat.le_refl _) HM4.out)
          have MZ := hide (show MK w.heap.size Z.heap.size (D' :: Ds) Z from by
            have hl := lt_of_heap hK
            refine ⟨List.nodup_cons.2 ⟨fun q => by have := (k1.mr.2 D' q).2.1; have := N6.out; omega, k1.mr.1⟩, fun E hE => ?_⟩
            rcases List.mem_cons.1 hE with rfl | hE
            · exact ⟨by have := N6.out; omega, hl, hK⟩
            · obtain ⟨q1, q2, q3⟩ := k1.mr.2 E hE
              exact ⟨q1, by have := N6.out; omega, q3⟩)
          have SC := hide (fun m => steps_c (w := Z.drewN m) (show HM (Z.drewN m) hb T f lg s2 from HMZ.out))
          have lw1 : ¬ (s2 < (s0 + (cN : Int))) := by have := S2B.out; omega
          have wq1 : IntKind.wrap .i64 (s2 - (s0 + (cN : Int))) = s2 - (s0 + (cN : Int)) := wrap_small _ (by have := S2B.out; omega) (by have := S2B.out; have := HF.out; omega)
          have wq2 : IntKind.wrap .i64 ((o.line.size : Int) + 1) = (o.line.size : Int) + 1 := wrap_small _ (by omega) (by omega)
          have wq3 : IntKind.wrap .i64 ((o.line.size : Int) + 1 + ((allM f ws o.line o.line.size).length : Int)) = (o.line.size : Int) + 1 + ((allM f ws o.line o.line.size).length : Int) := wrap_small _ (by omega) (by have := HF.out; omega)
          have wq4 : IntKind.wrap .i64 (16 * ((o.line.size : Int) + 1 + ((allM f ws o.line o.line.size).length : Int))) = 16 * ((o.line.size : Int) + 1 + ((allM f ws o.line o.line.size).length : Int)) := wrap_small _ (by omega) (by have := HF.out; omega)
          have lw2 : ¬ (16 * ((o.line.size : Int) + 1 + ((allM f ws o.line o.line.size).length : Int)) < s2 - (s0 + (cN : Int))) := by have := S2B.out; omega
          have dl1 : decide (s2 < (s0 + (cN : Int))) = false := decide_eq_false lw1
          have dl2 : decide (16 * ((o.line.size : Int) + 1 + ((allM f ws o.line o.line.size).length : Int)) < s2 - (s0 + (cN : Int))) = false := decide_eq_false lw2
          clear k1 hK hS1 hS2 hs2 TL
          gi_upto_region 32 with fail
          refine (wpIn_wide (n := n)).2 ?_
          go_quiet (first | (go_at_call 12; exact Calls.quiet_of_same (SC.out _)))
          have BQ := hide (below_drewN Z nq)
          generalize Z.drewN nq = Z9 at BQ ⊢
          have K9 := hide (KZ.out.below BQ.out).self
          have HM9' := hide (show HM Z9 hb T f lg s2 from (BQ.out.block _ (lt_of_heap HMZ.out)).trans HMZ.out)
          have X9 := hide ((BQ.out.block _ (lt_of_heap XZ.out)).trans XZ.out)
          have O9 := hide (ownsRow_fr (S := fun _ => False) OZ.out (Fr.of_below BQ.out) (fun _ _ q => q))
          have o90 := cell_row X9.out (i := 0) (v := .string o.line) rfl
          have o91 := cell_row X9.out (i := 1) (v := .int .i64 o.fm) rfl
          have o92 := cell_row X9.out (i := 2) (v := .int .i64 o.lv) rfl
          have o93 := cell_row X9.out (i := 3) (v := .int .i64 o.tn) rfl
          have OV := hide (over_true (n := n - 1) (by omega) o K9.out (HUU.out.at K9.out.hi.1) HM9'.out hsz WF.out.2 O9.out (by have := S2B.out; have := SB.out; have := STEP.out; have := HF.out; omega))
          clear cn oz0 lw1 lw2 dl1 dl2 wq1 wq2 wq3 wq4 SC
          gi_upto_region 35 with (gi_at_call 17; refine OV.out.mono ?_; rintro e Z10 ⟨rfl, k4, f4, st3, hm3, hs3, hs4⟩)
          have FIN := hide (show Below w.heap.size w Z10 ∧ Kp w8.heap.size w8.heap.size Z10 f T D R K hb lg Z10 ∧ MK w.heap.size Z10.heap.size (D' :: Ds) Z10 ∧ (∃ s, HM Z10 hb T f lg s ∧ 0 ≤ s ∧ s ≤ ((i + 1 : Nat) : Int) * 1200000000) from ⟨chainF (chain BZ.out BQ.out (by have := BZ.out.size; omega)) f4 (Nat.le_refl _) (fun k q => by have := BZ.out.size; have := BQ.out.size; have := NUM.out; rcases q with q | q <;> omega), k4.self, (MZ.out.call (n0 := Z.heap.size) (Fr.of_below BQ.out) (Nat.le_refl _) HMZ.out BQ.out.size).call (n0 := Z9.heap.size) f4 (Nat.le_refl _) HM9'.out f4.size, st3, hm3, by have := S2B.out; have := SB.out; have := STEP.out; omega, by have := S2B.out; have := SB.out; have := STEP.out; have := HF.out; push_cast; omega⟩)
          clear k4 f4 hm3 hs3 hs4 o90 o91 o92 o93
          gi_wp2
          refine ⟨by rw [HLK.out]; exact ⟨i + 1, D' :: Ds, rfl, rfl, FIN.out.1, FIN.out.2.1, FIN.out.2.2.1, FIN.out.2.2.2, by omega, hlt⟩, ?_⟩
          simp [intOf]
          omega
        · rintro D' cd pre Z hD' hSp hF hK
          exact hF.elim
      · have hz := STEP.out.2.2.2 hin
        subst hz
        by_cases hn0 : 0 ≤ o.fm
        · have hn1 : ¬ o.fm ≤ (o.line.size : Int) := fun q => hin ⟨hn0, q⟩
          gi_upto_region 28 with fail
          have HM3 := hide (show HM U3 hb T f lg s0 from by have := HM3.out; simpa using this)
          have HF := hide (show (allM f ws o.line o.line.size).length ≤ 104857600 from by
            have h5 := allM_few (f := f) (ws := ws) (line := o.line) o.line.size
            have h7 : o.line.size * ws.length ≤ 1048576 * 100 := Nat.mul_le_mul hsz (mayB_of OK.out).2.2
            omega)
          gi_upto_region 29 with (gi_at_call 15; refine RA.out.mono ?_; rintro e U4 ⟨v4, rfl, own4, b4⟩)
          obtain ⟨q4, c4, rfl⟩ := ownsRow_shape own4
          have O4 := hide (own_lower own4 (show w8.heap.size ≤ U3.heap.size from by have := K3.out.bl.size; have := K3.out.lw; omega))
          have B4 := hide b4
          have X4 := hide ((B4.out.block _ (lt_of_heap X3.out)).trans X3.out)
          have K4 := hide (K3.out.below B4.out).self
          have HM4 := hide (show HM U4 hb T f lg s0 from (B4.out.block _ (lt_of_heap HM3.out)).trans HM3.out)
          have BW4 := hide (chain BW3.out B4.out (by have := BW3.out.size; omega))
          have M4 := hide (((M1.out.call (n0 := U1.heap.size) (F2.out.mono (fun k q => .inl q)) (Nat.le_refl _) HM1.out F2.out.size).call (n0 := U2.heap.size) (Fr.of_below B3.out) (Nat.le_refl _) HM2.out B3.out.size).call (n0 := U3.heap.size) (Fr.of_below B4.out) (Nat.le_refl _) HM3.out B4.out.size)
          have N4 := hide (show OB < U4.heap.size ∧ hb < U4.heap.size ∧ w8.heap.size ≤ U4.heap.size ∧ w.heap.size ≤ U4.heap.size from ⟨lt_of_heap X4.out, lt_of_heap HM4.out, by have := K4.out.lw; exact this, BW4.out.size⟩)
          clear own4 b4 o30 o31 RA
          gi_upto_region 30 with fail
          have XN := hide (alloc_new U4 (.cells #[.int .i64 0] 3))
          have BN := hide (show Below U4.heap.size U4 (U4.alloc (.cells #[.int .i64 0] 3)) from (Below.refl _ _).alloc (Nat.le_refl _) _)
          have SN := hide (show (U4.alloc (.cells #[.int .i64 0] 3)).heap.size = U4.heap.size + 1 from by simp)
          generalize (U4.alloc (.cells #[.int .i64 0] 3)) = U5 at XN BN SN ⊢
          have X5 := hide ((BN.out.block _ (lt_of_heap X4.out)).trans X4.out)
          have o50 := cell_row X5.out (i := 0) (v := .string o.line) rfl
          have AC := hide (fun W => all_c hb o.line W)
          gi_wp2_with (gi_at_call 16; refine (callsIn_wide.2 (AC.out _)).mono ?_; rintro e wq ⟨rfl, h5⟩; subst wq)
          obtain ⟨UD, hUD, bD, sD, r1, r2⟩ := two U5 (.cells #[.pointer (some ⟨hb, 0, none⟩)] 25) (.cells #[.string o.line] 9)
          rw [← hUD]
          clear hUD AC o50
          have BD := hide bD
          have KD := hide ((K4.out.below BN.out).below bD)
          have N6 := hide (show U5.heap.size = U4.heap.size + 1 ∧ UD.heap.size = U4.heap.size + 3 ∧ OB < U4.heap.size ∧ hb < U4.heap.size ∧ w8.heap.size ≤ U4.heap.size ∧ w.heap.size ≤ U4.heap.size from ⟨SN.out, by rw [sD, SN.out], N4.out⟩)
          have JA : Hid (JC w8.heap.size w8.heap.size U4 f T D R K hb lg U4.heap.size w.heap.size Ds U5.heap.size s0 0 0 UD) := hide (by
            have hbb := chain BN.out bD (by have := N6.out; omega)
            refine ⟨KD.out, Fr.of_below hbb, (bD.block _ (lt_of_heap XN.out)).trans XN.out, ⟨M4.out.1, fun D hD => by
              obtain ⟨q1, q2, q3⟩ := M4.out.2 D hD
              exact ⟨q1, by have := N6.out; omega, (hbb.block _ q2).trans q3⟩⟩, ?_⟩
            have e : wrap64 (s0 + ((0 : Nat) : Int)) = s0 := by have := SB.out; have := STEP.out; unfold wrap64; omega
            rw [e]
            exact (hbb.block _ (lt_of_heap HM4.out)).trans HM4.out)
          have TL := all_tells (n - 1) (by omega) (n0 := U5.heap.size) (line := o.line) (HUU.out.at KD.out.hi.1) r1 r2 (by have := N6.out; omega) (Nat.le_refl _) (Nat.le_succ _) (by omega)
          clear bD sD r1 r2 BN SN XN X3 HM3 K3 B4 V3
          refine range_toldE h1 (gf := 30) (lb := #[.pointer (some ⟨U5.heap.size, 0, none⟩), .pointer (some ⟨U5.heap.size + 1, 0, none⟩)]) rfl (enters_of Tryd.func30 (by kernel_rfl) rfl) rfl TL
            (fun pre Z => JC w8.heap.size w8.heap.size U4 f T D R K hb lg U4.heap.size w.heap.size Ds U5.heap.size s0 (tl pre).length (bs pre) Z ∧ tl pre <+: allM f ws o.line o.line.size) (fun _ _ _ => False)
            (fun pre A0 A' row hi hg hr => ?_) (fun _ _ _ _ _ hi => hi.elim) (fun pre V hi => ⟨hi.1.kp.hi, hi.1.kp.tab⟩) (fun pre A0 B hi hf => ?_) (fun _ _ _ _ hi => hi.elim)
            (fun V hv => by obtain ⟨⟨_, st, hm⟩, _⟩ := hv; exact ⟨T, f, lg, st, hm⟩) (fun pre d A0 B hi hu => ?_) ⟨JA.out, by simp [tl]⟩
            (fun x => { tmps := #[.slice q ws.length cap, .bool f, .slice (some ⟨g, off, none⟩) cs.length cc, f' 3, f' 4, f' 5, .bool false, .bool true, f' 8, .pointer (some ⟨hb, 0, none⟩), f' 10, f' 11, f' 12, .int .i64 (i : Int), .pointer (some ⟨OB, 0, none⟩), .int .i64 s0, .int .i64 p2, .int .i64 k2, .bool b2, .int .i64 s0, .int .i64 p2, .int .i64 k2, .bool b2, .bool false, .slice q4 (allM f ws o.line o.line.size).length c4, .pointer (some ⟨U4.heap.size, 0, none⟩), f' 26, f' 27, f' 28, f' 29, f' 30, f' 31, f' 32, f' 33, f' 34, f' 35, f' 36, f' 37, f' 38, f' 39, f' 40, f' 41, f' 42, f' 43, f' 44, f' 45, f' 46, f' 47, f' 48, f' 49, f' 50, f' 51, f' 52, f' 53, f' 54, f' 55, f' 56, f' 57, f' 58, f' 59, f' 60, f' 61, f' 62, f' 63, f' 64, f' 65, f' 66, f' 67, f' 68, f' 69, f' 70, f' 71, f' 72, f' 73, f' 74, f' 75, f' 76, .int .i64 (i : Int), .slice (some ⟨g, off, none⟩) cs.length cc, .int .i64 (cs.length : Int), .bool true, .bool true, .int .i64 (i : Int), .bool true, .bool true, f' 85, f' 86, .slice (some ⟨g, off, none⟩) cs.length cc, .int .i64 (i : Int), .pointer (some ⟨g, off + i * 4, none⟩), .agg #[.string o.line, .int .i64 o.fm, .int .i64 o.lv, .int .i64 o.tn], .pointer (some ⟨hb, 0, none⟩), .int .i64 s0, .tuple #[.int .i64 p2, .int .i64 k2, .bool b2], .pointer (some ⟨hb, 0, none⟩), .pointer (some ⟨OB, 0, none⟩), .string o.line, .pointer (some ⟨OB, 1, none⟩), .int .i64 o.fm, .tuple #[.int .i64 p2, .int .i64 k2, .bool b2], .int .i64 p2, .int .i64 k2, .bool b2, .pointer (some ⟨hb, 0, none⟩), .int .i64 s0, .tuple #[.int .i64 p2, .int .i64 k2, .bool b2], .slice q ws.length cap, .bool f, .pointer (some ⟨OB, 0, none⟩), .string o.line, .pointer (some ⟨OB, 1, none⟩), .int .i64 o.fm, .tuple #[.int .i64 p2, .int .i64 k2, .bool b2], .int .i64 p2, .int .i64 k2, .bool b2, .int .i64 p2, .int .i64 p2, .bool false, .bool false, .int .i64 k2, .int .i64 k2, .bool false, .bool false, .bool false, .bool b2, .bool b2, .bool false, .bool false, .bool false, .int .i64 s0, .int .i64 s0, .bool false, .bool false, .pointer (some ⟨OB, 1, none⟩), .int .i64 o.fm, .bool true, .bool true, .pointer (some ⟨OB, 1, none⟩), .int .i64 o.fm, .pointer (some ⟨OB, 0, none⟩), .string o.line, .int .i64 (o.line.size : Int), .bool false, .bool false, .bool false, .bool false, undef, undef, undef, undef, undef, undef, undef, undef, undef, undef, undef, undef, .bool false, .bool false, .bool false, .bool true, .bool true, .int .i64 s0, .int .i64 s0, .bool false, .bool false, .bool false, .slice q ws.length cap, .bool f, .pointer (some ⟨OB, 0, none⟩), .string o.line, .slice q4 (allM f ws o.line o.line.size).length c4, .pointer (some ⟨hb, 0, none⟩), .pointer (some ⟨OB, 0, none⟩), .string o.line, .func (.func 30) #[] #[.pointer (some ⟨U5.heap.size, 0, none⟩), .pointer (some ⟨U5.heap.size + 1, 0, none⟩)], .int .i64 (x.1 : Int), .int .i64 (x.2 : Int), f' 180, f' 181, f' 182, f' 183, f' 184, f' 185, f' 186, f' 187, f' 188, f' 189, f' 190, f' 191, f' 192, f' 193, f' 194, f' 195, f' 196, f' 197, f' 198, f' 199, f' 200, f' 201, f' 202, f' 203, f' 204, f' 205, f' 206, f' 207, f' 208, f' 209, f' 210, f' 211], defers := [] }) ?_ ?_ ?_ ?_
          · have hn := N6.out
            exact ⟨hi.1.low (S := fun k => row = some k) (hi.1.kp.grown (B := UD.heap.size) (by omega) hg hr) ⟨hg.os, hg.tape, hg.output, hg.size, fun k hk hs => hg.block k hk (fun e => hs e.symm)⟩ (fun k e => by have := (hr k e).1; omega) (by omega) (by omega) (by omega), hi.2⟩
          · have hn := N6.out
            exact ⟨hi.1.low (hi.1.kp.ft (by omega) hf) hf.fr (fun k q => by have := q.1; omega) (by omega) (by omega) (by omega), hi.2⟩
          · rw [tl_inr, bs_inr]
            exact ⟨hi.1.bump hu, hi.2⟩
          · intro l' x Z K' hK
            simp only [encP]
            gi_wp2
            exact hK
          · rintro l' pre ⟨p3, k3⟩ Z ⟨k1, k2⟩ ⟨hok, _⟩
            dsimp only
            have hle := hok.length_le
            rw [List.length_append] at hle
            have cn := cell_row k1.nb (i := 0) (v := .int .i64 ((tl pre).length : Int)) rfl
            have fn := frz_row k1.nb 0
            have wn : IntKind.wrap .i64 (((tl pre).length : Int) + 1) = ((tl pre).length : Int) + 1 := wrap_small _ (by omega) (by have := HF.out; simp at hle; omega)
            have J3 := hide (k1.inc (by omega) N4.out.2.1)
            have HP := hide hok
            have KT := hide (show KeepsFrom UD.heap.size Z (Z.setCell ⟨U4.heap.size, 0, none⟩ (.int .i64 (((tl pre).length : Int) + 1))) ∧ TKeep (keepA U5.heap.size) Z (Z.setCell ⟨U4.heap.size, 0, none⟩ (.int .i64 (((tl pre).length : Int) + 1))) from by
              have hfr : Fr (fun i => i = U4.heap.size) Z (Z.setCell ⟨U4.heap.size, 0, none⟩ (.int .i64 (((tl pre).length : Int) + 1))) := (Fr.refl (fun i => i = U4.heap.size) Z).setCell (p := ⟨U4.heap.size, 0, none⟩) rfl _
              refine ⟨(cellsOnly_set k1.nb _).keeps hfr.size _, hfr.tkeep (fun i cur t fr q hc hN => ?_)⟩
              subst q
              rw [k1.nb] at hc
              injection hc with hc
              injection hc with _ hc _
              subst hc
              rcases hN with ⟨_, q⟩ | q
              · rcases q with q | q | q | q | q | q | q <;> exact absurd q (by decide)
              · exact absurd q (by decide))
            clear k1 k2 hok hle
            gi_wp2
            refine ⟨KT.out.1, KT.out.2, ?_, by rw [tl_inl]; exact HP.out⟩
            rw [tl_inl, bs_inl, List.length_append]
            exact J3.out
          · rintro D' xs Z hD' ⟨hS1, hS2⟩ ⟨k1, _⟩ hK
            obtain ⟨s2, hs2⟩ : ∃ s2, s2 = s0 + (bs xs : Int) := ⟨_, rfl⟩
            have S2B := hide (show s0 ≤ s2 ∧ s2 ≤ s0 + 2 * (o.line.size : Int) + ((allM f ws o.line o.line.size).length : Int) from by rw [hS1] at hS2; omega)
            have HMZ := hide (show HM Z hb T f lg s2 from by
              have h9 := k1.st
              have e : wrap64 (s0 + (bs xs : Int)) = s2 := by have := SB.out; have := STEP.out; have := HF.out; rw [hS1] at hS2; unfold wrap64; omega
              rwa [e] at h9)
            have cn := cell_row k1.nb (i := 0) (v := .int .i64 ((allM f ws o.line o.line.size).length : Int)) (by rw [hS1]; rfl)
            have XZ := hide ((k1.fr.block _ (lt_of_heap X4.out) (fun q => by have := N6.out; have := NUM.out; rcases q with q | q <;> omega)).trans X4.out)
            have oz0 := cell_row XZ.out (i := 0) (v := .string o.line) rfl
            have KZ := hide k1.kp.self
            have BZ := hide (chainF BW4.out k1.fr (by have := N6.out; omega) (fun k q => by have := N6.out; have := NUM.out; rcases q with q | q <;> omega))
            have OZ := hide (own_otherT O4.out k1.fr (Nat.le_refl _) HM4.out)
            have MZ := hide (show MK w.heap.size Z.heap.size (D' :: Ds) Z from by
              have hl := lt_of_heap hK
              refine ⟨List.nodup_cons.2 ⟨fun q => by have := (k1.mr.2 D' q).2.1; have := N6.out; omega, k1.mr.1⟩, fun E hE => ?_⟩
              rcases List.mem_cons.1 hE with rfl | hE
              · exact ⟨by have := N6.out; omega, hl, hK⟩
              · obtain ⟨q1, q2, q3⟩ := k1.mr.2 E hE
                exact ⟨q1, by have := N6.out; omega, q3⟩)
            have SC := hide (fun m => steps_c (w := Z.drewN m) (show HM (Z.drewN m) hb T f lg s2 from HMZ.out))
            have lw1 : ¬ (s2 < s0) := by have := S2B.out; omega
            have wq1 : IntKind.wrap .i64 (s2 - s0) = s2 - s0 := wrap_small _ (by have := S2B.out; omega) (by have := S2B.out; have := HF.out; omega)
            have wq2 : IntKind.wrap .i64 ((o.line.size : Int) + 1) = (o.line.size : Int) + 1 := wrap_small _ (by omega) (by omega)
            have wq3 : IntKind.wrap .i64 ((o.line.size : Int) + 1 + ((allM f ws o.line o.line.size).length : Int)) = (o.line.size : Int) + 1 + ((allM f ws o.line o.line.size).length : Int) := wrap_small _ (by omega) (by have := HF.out; omega)
            have wq4 : IntKind.wrap .i64 (16 * ((o.line.size : Int) + 1 + ((allM f ws o.line o.line.size).length : Int))) = 16 * ((o.line.size : Int) + 1 + ((allM f ws o.line o.line.size).length : Int)) := wrap_small _ (by omega) (by have := HF.out; omega)
            have lw2 : ¬ (16 * ((o.line.size : Int) + 1 + ((allM f ws o.line o.line.size).length : Int)) < s2 - s0) := by have := S2B.out; omega
            have dl1 : decide (s2 < s0) = false := decide_eq_false lw1
            have dl2 : decide (16 * ((o.line.size : Int) + 1 + ((allM f ws o.line o.line.size).length : Int)) < s2 - s0) = false := decide_eq_false lw2
            clear k1 hK hS1 hS2 hs2 TL
            gi_upto_region 32 with fail
            refine (wpIn_wide (n := n)).2 ?_
            go_quiet (first | (go_at_call 12; exact Calls.quiet_of_same (SC.out _)))
            have BQ := hide (below_drewN Z nq)
            generalize Z.drewN nq = Z9 at BQ ⊢
            have K9 := hide (KZ.out.below BQ.out).self
            have HM9' := hide (show HM Z9 hb T f lg s2 from (BQ.out.block _ (lt_of_heap HMZ.out)).trans HMZ.out)
            have X9 := hide ((BQ.out.block _ (lt_of_heap XZ.out)).trans XZ.out)
            have O9 := hide (ownsRow_fr (S := fun _ => False) OZ.out (Fr.of_below BQ.out) (fun _ _ q => q))
            have o90 := cell_row X9.out (i := 0) (v := .string o.line) rfl
            have o91 := cell_row X9.out (i := 1) (v := .int .i64 o.fm) rfl
            have o92 := cell_row X9.out (i := 2) (v := .int .i64 o.lv) rfl
            have o93 := cell_row X9.out (i := 3) (v := .int .i64 o.tn) rfl
            have OV := hide (over_true (n := n - 1) (by omega) o K9.out (HUU.out.at K9.out.hi.1) HM9'.out hsz WF.out.2 O9.out (by have := S2B.out; have := SB.out; have := STEP.out; have := HF.out; omega))
            clear cn oz0 lw1 lw2 dl1 dl2 wq1 wq2 wq3 wq4 SC
            gi_upto_region 35 with (gi_at_call 17; refine OV.out.mono ?_; rintro e Z10 ⟨rfl, k4, f4, st3, hm3, hs3, hs4⟩)
            have FIN := hide (show Below w.heap.size w Z10 ∧ Kp w8.heap.size w8.heap.size Z10 f T D R K hb lg Z10 ∧ MK w.heap.size Z10.heap.size (D' :: Ds) Z10 ∧ (∃ s, HM Z10 hb T f lg s ∧ 0 ≤ s ∧ s ≤ ((i + 1 : Nat) : Int) * 1200000000) from ⟨chainF (chain BZ.out BQ.out (by have := BZ.out.size; omega)) f4 (Nat.le_refl _) (fun k q => by have := BZ.out.size; have := BQ.out.size; have := NUM.out; rcases q with q | q <;> omega), k4.self, (MZ.out.call (n0 := Z.heap.size) (Fr.of_below BQ.out) (Nat.le_refl _) HMZ.out BQ.out.size).call (n0 := Z9.heap.size) f4 (Nat.le_refl _) HM9'.out f4.size, st3, hm3, by have := S2B.out; have := SB.out; have := STEP.out; omega, by have := S2B.out; have := SB.out; have := STEP.out; have := HF.out; push_cast; omega⟩)
            clear k4 f4 hm3 hs3 hs4 o90 o91 o92 o93
            gi_wp2
            refine ⟨by rw [HLK.out]; exact ⟨i + 1, D' :: Ds, rfl, rfl, FIN.out.1, FIN.out.2.1, FIN.out.2.2.1, FIN.out.2.2.2, by omega, hlt⟩, ?_⟩
            simp [intOf]
            omega
          · rintro D' cd pre Z hD' hSp hF hK
            exact hF.elim
        · gi_upto_region 28 with fail
          have HM3 := hide (show HM U3 hb T f lg s0 from by have := HM3.out; simpa using this)
          have HF := hide (show (allM f ws o.line o.line.size).length ≤ 104857600 from by
            have h5 := allM_few (f := f) (ws := ws) (line := o.line) o.line.size
            have h7 : o.line.size * ws.length ≤ 1048576 * 100 := Nat.mul_le_mul hsz (mayB_of OK.out).2.2
            omega)
          gi_upto_region 29 with (gi_at_call 15; refine RA.out.mono ?_; rintro e U4 ⟨v4, rfl, own4, b4⟩)
          obtain ⟨q4, c4, rfl⟩ := ownsRow_shape own4
          have O4 := hide (own_lower own4 (show w8.heap.size ≤ U3.heap.size from by have := K3.out.bl.size; have := K3.out.lw; omega))
          have B4 := hide b4
          have X4 := hide ((B4.out.block _ (lt_of_heap X3.out)).trans X3.out)
          have K4 := hide (K3.out.below B4.out).self
          have HM4 := hide (show HM U4 hb T f lg s0 from (B4.out.block _ (lt_of_heap HM3.out)).trans HM3.out)
          have BW4 := hide (chain BW3.out B4.out (by have := BW3.out.size; omega))
          have M4 := hide (((M1.out.call (n0 := U1.heap.size) (F2.out.mono (fun k q => .inl q)) (Nat.le_refl _) HM1.out F2.out.size).call (n0 := U2.heap.size) (Fr.of_below B3.out) (Nat.le_refl _) HM2.out B3.out.size).call (n0 := U3.heap.size) (Fr.of_below B4.out) (Nat.le_refl _) HM3.out B4.out.size)
          have N4 := hide (show OB < U4.heap.size ∧ hb < U4.heap.size ∧ w8.heap.size ≤ U4.heap.size ∧ w.heap.size ≤ U4.heap.size from ⟨lt_of_heap X4.out, lt_of_heap HM4.out, by have := K4.out.lw; exact this, BW4.out.size⟩)
          clear own4 b4 o30 o31 RA
          gi_upto_region 30 with fail
          have XN := hide (alloc_new U4 (.cells #[.int .i64 0] 3))
          have BN := hide (show Below U4.heap.size U4 (U4.alloc (.cells #[.int .i64 0] 3)) from (Below.refl _ _).alloc (Nat.le_refl _) _)
          have SN := hide (show (U4.alloc (.cells #[.int .i64 0] 3)).heap.size = U4.heap.size + 1 from by simp)
          generalize (U4.alloc (.cells #[.int .i64 0] 3)) = U5 at XN BN SN ⊢
          have X5 := hide ((BN.out.block _ (lt_of_heap X4.out)).trans X4.out)
          have o50 := cell_row X5.out (i := 0) (v := .string o.line) rfl
          have AC := hide (fun W => all_c hb o.line W)
          gi_wp2_with (gi_at_call 16; refine (callsIn_wide.2 (AC.out _)).mono ?_; rintro e wq ⟨rfl, h5⟩; subst wq)
          obtain ⟨UD, hUD, bD, sD, r1, r2⟩ := two U5 (.cells #[.pointer (some ⟨hb, 0, none⟩)] 25) (.cells #[.string o.line] 9)
          rw [← hUD]
          clear hUD AC o50
          have BD := hide bD
          have KD := hide ((K4.out.below BN.out).below bD)
          have N6 := hide (show U5.heap.size = U4.heap.size + 1 ∧ UD.heap.size = U4.heap.size + 3 ∧ OB < U4.heap.size ∧ hb < U4.heap.size ∧ w8.heap.size ≤ U4.heap.size ∧ w.heap.size ≤ U4.heap.size from ⟨SN.out, by rw [sD, SN.out], N4.out⟩)
          have JA : Hid (JC w8.heap.size w8.heap.size U4 f T D R K hb lg U4.heap.size w.heap.size Ds U5.heap.size s0 0 0 UD) := hide (by
            have hbb := chain BN.out bD (by have := N6.out; omega)
            refine ⟨KD.out, Fr.of_below hbb, (bD.block _ (lt_of_heap XN.out)).trans XN.out, ⟨M4.out.1, fun D hD => by
              obtain ⟨q1, q2, q3⟩ := M4.out.2 D hD
              exact ⟨q1, by have := N6.out; omega, (hbb.block _ q2).trans q3⟩⟩, ?_⟩
            have e : wrap64 (s0 + ((0 : Nat) : Int)) = s0 := by have := SB.out; have := STEP.out; unfold wrap64; omega
            rw [e]
            exact (hbb.block _ (lt_of_heap HM4.out)).trans HM4.out)
          have TL := all_tells (n - 1) (by omega) (n0 := U5.heap.size) (line := o.line) (HUU.out.at KD.out.hi.1) r1 r2 (by have := N6.out; omega) (Nat.le_refl _) (Nat.le_succ _) (by omega)
          clear bD sD r1 r2 BN SN XN X3 HM3 K3 B4 V3
          refine range_toldE h1 (gf := 30) (lb := #[.pointer (some ⟨U5.heap.size, 0, none⟩), .pointer (some ⟨U5.heap.size + 1, 0, none⟩)]) rfl (enters_of Tryd.func30 (by kernel_rfl) rfl) rfl TL
            (fun pre Z => JC w8.heap.size w8.heap.size U4 f T D R K hb lg U4.heap.size w.heap.size Ds U5.heap.size s0 (tl pre).length (bs pre) Z ∧ tl pre <+: allM f ws o.line o.line.size) (fun _ _ _ => False)
            (fun pre A0 A' row hi hg hr => ?_) (fun _ _ _ _ _ hi => hi.elim) (fun pre V hi => ⟨hi.1.kp.hi, hi.1.kp.tab⟩) (fun pre A0 B hi hf => ?_) (fun _ _ _ _ hi => hi.elim)
            (fun V hv => by obtain ⟨⟨_, st, hm⟩, _⟩ := hv; exact ⟨T, f, lg, st, hm⟩) (fun pre d A0 B hi hu => ?_) ⟨JA.out, by simp [tl]⟩
            (fun x => { tmps := #[.slice q ws.length cap, .bool f, .slice (some ⟨g, off, none⟩) cs.length cc, f' 3, f' 4, f' 5, .bool false, .bool true, f' 8, .pointer (some ⟨hb, 0, none⟩), f' 10, f' 11, f' 12, .int .i64 (i : Int), .pointer (some ⟨OB, 0, none⟩), .int .i64 s0, .int .i64 p2, .int .i64 k2, .bool b2, .int .i64 s0, .int .i64 p2, .int .i64 k2, .bool b2, .bool false, .slice q4 (allM f ws o.line o.line.size).length c4, .pointer (some ⟨U4.heap.size, 0, none⟩), f' 26, f' 27, f' 28, f' 29, f' 30, f' 31, f' 32, f' 33, f' 34, f' 35, f' 36, f' 37, f' 38, f' 39, f' 40, f' 41, f' 42, f' 43, f' 44, f' 45, f' 46, f' 47, f' 48, f' 49, f' 50, f' 51, f' 52, f' 53, f' 54, f' 55, f' 56, f' 57, f' 58, f' 59, f' 60, f' 61, f' 62, f' 63, f' 64, f' 65, f' 66, f' 67, f' 68, f' 69, f' 70, f' 71, f' 72, f' 73, f' 74, f' 75, f' 76, .int .i64 (i : Int), .slice (some ⟨g, off, none⟩) cs.length cc, .int .i64 (cs.length : Int), .bool true, .bool true, .int .i64 (i : Int), .bool true, .bool true, f' 85, f' 86, .slice (some ⟨g, off, none⟩) cs.length cc, .int .i64 (i : Int), .pointer (some ⟨g, off + i * 4, none⟩), .agg #[.string o.line, .int .i64 o.fm, .int .i64 o.lv, .int .i64 o.tn], .pointer (some ⟨hb, 0, none⟩), .int .i64 s0, .tuple #[.int .i64 p2, .int .i64 k2, .bool b2], .pointer (some ⟨hb, 0, none⟩), .pointer (some ⟨OB, 0, none⟩), .string o.line, .pointer (some ⟨OB, 1, none⟩), .int .i64 o.fm, .tuple #[.int .i64 p2, .int .i64 k2, .bool b2], .int .i64 p2, .int .i64 k2, .bool b2, .pointer (some ⟨hb, 0, none⟩), .int .i64 s0, .tuple #[.int .i64 p2, .int .i64 k2, .bool b2], .slice q ws.length cap, .bool f, .pointer (some ⟨OB, 0, none⟩), .string o.line, .pointer (some ⟨OB, 1, none⟩), .int .i64 o.fm, .tuple #[.int .i64 p2, .int .i64 k2, .bool b2], .int .i64 p2, .int .i64 k2, .bool b2, .int .i64 p2, .int .i64 p2, .bool false, .bool false, .int .i64 k2, .int .i64 k2, .bool false, .bool false, .bool false, .bool b2, .bool b2, .bool false, .bool false, .bool false, .int .i64 s0, .int .i64 s0, .bool false, .bool false, .pointer (some ⟨OB, 1, none⟩), .int .i64 o.fm, .bool false, .bool false, undef, undef, undef, undef, undef, undef, .bool false, .bool false, .bool false, undef, undef, undef, undef, undef, undef, undef, undef, undef, undef, undef, undef, .bool false, .bool false, .bool false, .bool true, .bool true, .int .i64 s0, .int .i64 s0, .bool false, .bool false, .bool false, .slice q ws.length cap, .bool f, .pointer (some ⟨OB, 0, none⟩), .string o.line, .slice q4 (allM f ws o.line o.line.size).length c4, .pointer (some ⟨hb, 0, none⟩), .pointer (some ⟨OB, 0, none⟩), .string o.line, .func (.func 30) #[] #[.pointer (some ⟨U5.heap.size, 0, none⟩), .pointer (some ⟨U5.heap.size + 1, 0, none⟩)], .int .i64 (x.1 : Int), .int .i64 (x.2 : Int), f' 180, f' 181, f' 182, f' 183, f' 184, f' 185, f' 186, f' 187, f' 188, f' 189, f' 190, f' 191, f' 192, f' 193, f' 194, f' 195, f' 196, f' 197, f' 198, f' 199, f' 200, f' 201, f' 202, f' 203, f' 204, f' 205, f' 206, f' 207, f' 208, f' 209, f' 210, f' 211], defers := [] }) ?_ ?_ ?_ ?_
          · have hn := N6.out
            exact ⟨hi.1.low (S := fun k => row = some k) (hi.1.kp.grown (B := UD.heap.size) (by omega) hg hr) ⟨hg.os, hg.tape, hg.output, hg.size, fun k hk hs => hg.block k hk (fun e => hs e.symm)⟩ (fun k e => by have := (hr k e).1; omega) (by omega) (by omega) (by omega), hi.2⟩
          · have hn := N6.out
            exact ⟨hi.1.low (hi.1.kp.ft (by omega) hf) hf.fr (fun k q => by have := q.1; omega) (by omega) (by omega) (by omega), hi.2⟩
          · rw [tl_inr, bs_inr]
            exact ⟨hi.1.bump hu, hi.2⟩
          · intro l' x Z K' hK
            simp only [encP]
            gi_wp2
            exact hK
          · rintro l' pre ⟨p3, k3⟩ Z ⟨k1, k2⟩ ⟨hok, _⟩
            dsimp only
            have hle := hok.length_le
            rw [List.length_append] at hle
            have cn := cell_row k1.nb (i := 0) (v := .int .i64 ((tl pre).length : Int)) rfl
            have fn := frz_row k1.nb 0
            have wn : IntKind.wrap .i64 (((tl pre).length : Int) + 1) = ((tl pre).length : Int) + 1 := wrap_small _ (by omega) (by have := HF.out; simp at hle; omega)
            have J3 := hide (k1.inc (by omega) N4.out.2.1)
            have HP := hide hok
            have KT := hide (show KeepsFrom UD.heap.size Z (Z.setCell ⟨U4.heap.size, 0, none⟩ (.int .i64 (((tl pre).length : Int) + 1))) ∧ TKeep (keepA U5.heap.size) Z (Z.setCell ⟨U4.heap.size, 0, none⟩ (.int .i64 (((tl pre).length : Int) + 1))) from by
              have hfr : Fr (fun i => i = U4.heap.size) Z (Z.setCell ⟨U4.heap.size, 0, none⟩ (.int .i64 (((tl pre).length : Int) + 1))) := (Fr.refl (fun i => i = U4.heap.size) Z).setCell (p := ⟨U4.heap.size, 0, none⟩) rfl _
              refine ⟨(cellsOnly_set k1.nb _).keeps hfr.size _, hfr.tkeep (fun i cur t fr q hc hN => ?_)⟩
              subst q
              rw [k1.nb] at hc
              injection hc with hc
              injection hc with _ hc _
              subst hc
              rcases hN with ⟨_, q⟩ | q
              · rcases q with q | q | q | q | q | q | q <;> exact absurd q (by decide)
              · exact absurd q (by decide))
            clear k1 k2 hok hle
            gi_wp2
            refine ⟨KT.out.1, KT.out.2, ?_, by rw [tl_inl]; exact HP.out⟩
            rw [tl_inl, bs_inl, List.length_append]
            exact J3.out
          · rintro D' xs Z hD' ⟨hS1, hS2⟩ ⟨k1, _⟩ hK
            obtain ⟨s2, hs2⟩ : ∃ s2, s2 = s0 + (bs xs : Int) := ⟨_, rfl⟩
            have S2B := hide (show s0 ≤ s2 ∧ s2 ≤ s0 + 2 * (o.line.size : Int) + ((allM f ws o.line o.line.size).length : Int) from by rw [hS1] at hS2; omega)
            have HMZ := hide (show HM Z hb T f lg s2 from by
              have h9 := k1.st
              have e : wrap64 (s0 + (bs xs : Int)) = s2 := by have := SB.out; have := STEP.out; have := HF.out; rw [hS1] at hS2; unfold wrap64; omega
              rwa [e] at h9)
            have cn := cell_row k1.nb (i := 0) (v := .int .i64 ((allM f ws o.line o.line.size).length : Int)) (by rw [hS1]; rfl)
            have XZ := hide ((k1.fr.block _ (lt_of_heap X4.out) (fun q => by have := N6.out; have := NUM.out; rcases q with q | q <;> omega)).trans X4.out)
            have oz0 := cell_row XZ.out (i := 0) (v := .string o.line) rfl
            have KZ := hide k1.kp.self
            have BZ := hide (chainF BW4.out k1.fr (by have := N6.out; omega) (fun k q => by have := N6.out; have := NUM.out; rcases q with q | q <;> omega))
            have OZ := hide (own_otherT O4.out k1.fr (Nat.le_refl _) HM4.out)
            have MZ := hide (show MK w.heap.size Z.heap.size (D' :: Ds) Z from by
              have hl := lt_of_heap hK
              refine ⟨List.nodup_cons.2 ⟨fun q => by have := (k1.mr.2 D' q).2.1; have := N6.out; omega, k1.mr.1⟩, fun E hE => ?_⟩
              rcases List.mem_cons.1 hE with rfl | hE
              · exact ⟨by have := N6.out; omega, hl, hK⟩
              · obtain ⟨q1, q2, q3⟩ := k1.mr.2 E hE
                exact ⟨q1, by have := N6.out; omega, q3⟩)
            have SC := hide (fun m => steps_c (w := Z.drewN m) (show HM (Z.drewN m) hb T f lg s2 from HMZ.out))
            have lw1 : ¬ (s2 < s0) := by have := S2B.out; omega
            have wq1 : IntKind.wrap .i64 (s2 - s0) = s2 - s0 := wrap_small _ (by have := S2B.out; omega) (by have := S2B.out; have := HF.out; omega)
            have wq2 : IntKind.wrap .i64 ((o.line.size : Int) + 1) = (o.line.size : Int) + 1 := wrap_small _ (by omega) (by omega)
            have wq3 : IntKind.wrap .i64 ((o.line.size : Int) + 1 + ((allM f ws o.line o.line.size).length : Int)) = (o.line.size : Int) + 1 + ((allM f ws o.line o.line.size).length : Int) := wrap_small _ (by omega) (by have := HF.out; omega)
            have wq4 : IntKind.wrap .i64 (16 * ((o.line.size : Int) + 1 + ((allM f ws o.line o.line.size).length : Int))) = 16 * ((o.line.size : Int) + 1 + ((allM f ws o.line o.line.size).length : Int)) := wrap_small _ (by omega) (by have := HF.out; omega)
            have lw2 : ¬ (16 * ((o.line.size : Int) + 1 + ((allM f ws o.line o.line.size).length : Int)) < s2 - s0) := by have := S2B.out; omega
            have dl1 : decide (s2 < s0) = false := decide_eq_false lw1
            have dl2 : decide (16 * ((o.line.size : Int) + 1 + ((allM f ws o.line o.line.size).length : Int)) < s2 - s0) = false := decide_eq_false lw2
            clear k1 hK hS1 hS2 hs2 TL
            gi_upto_region 32 with fail
            refine (wpIn_wide (n := n)).2 ?_
            go_quiet (first | (go_at_call 12; exact Calls.quiet_of_same (SC.out _)))
            have BQ := hide (below_drewN Z nq)
            generalize Z.drewN nq = Z9 at BQ ⊢
            have K9 := hide (KZ.out.below BQ.out).self
            have HM9' := hide (show HM Z9 hb T f lg s2 from (BQ.out.block _ (lt_of_heap HMZ.out)).trans HMZ.out)
            have X9 := hide ((BQ.out.block _ (lt_of_heap XZ.out)).trans XZ.out)
            have O9 := hide (ownsRow_fr (S := fun _ => False) OZ.out (Fr.of_below BQ.out) (fun _ _ q => q))
            have o90 := cell_row X9.out (i := 0) (v := .string o.line) rfl
            have o91 := cell_row X9.out (i := 1) (v := .int .i64 o.fm) rfl
            have o92 := cell_row X9.out (i := 2) (v := .int .i64 o.lv) rfl
            have o93 := cell_row X9.out (i := 3) (v := .int .i64 o.tn) rfl
            have OV := hide (over_true (n := n - 1) (by omega) o K9.out (HUU.out.at K9.out.hi.1) HM9'.out hsz WF.out.2 O9.out (by have := S2B.out; have := SB.out; have := STEP.out; have := HF.out; omega))
            clear cn oz0 lw1 lw2 dl1 dl2 wq1 wq2 wq3 wq4 SC
            gi_upto_region 35 with (gi_at_call 17; refine OV.out.mono ?_; rintro e Z10 ⟨rfl, k4, f4, st3, hm3, hs3, hs4⟩)
            have FIN := hide (show Below w.heap.size w Z10 ∧ Kp w8.heap.size w8.heap.size Z10 f T D R K hb lg Z10 ∧ MK w.heap.size Z10.heap.size (D' :: Ds) Z10 ∧ (∃ s, HM Z10 hb T f lg s ∧ 0 ≤ s ∧ s ≤ ((i + 1 : Nat) : Int) * 1200000000) from ⟨chainF (chain BZ.out BQ.out (by have := BZ.out.size; omega)) f4 (Nat.le_refl _) (fun k q => by have := BZ.out.size; have := BQ.out.size; have := NUM.out; rcases q with q | q <;> omega), k4.self, (MZ.out.call (n0 := Z.heap.size) (Fr.of_below BQ.out) (Nat.le_refl _) HMZ.out BQ.out.size).call (n0 := Z9.heap.size) f4 (Nat.le_refl _) HM9'.out f4.size, st3, hm3, by have := S2B.out; have := SB.out; have := STEP.out; omega, by have := S2B.out; have := SB.out; have := STEP.out; have := HF.out; push_cast; omega⟩)
            clear k4 f4 hm3 hs3 hs4 o90 o91 o92 o93
            gi_wp2
            refine ⟨by rw [HLK.out]; exact ⟨i + 1, D' :: Ds, rfl, rfl, FIN.out.1, FIN.out.2.1, FIN.out.2.2.1, FIN.out.2.2.2, by omega, hlt⟩, ?_⟩
            simp [intOf]
            omega
          · rintro D' cd pre Z hD' hSp hF hK
            exact hF.elim
    · have i0 : (i : Int) < (cs.length : Int) := by omega
      have i2 : ¬ (i : Int) < 30 := by omega
      gi_wp2
      show LeavesInM _ _ _ _ _ _ (Ds.map mkD) .returning U
      refine leaves_marks (fun v => Below w.heap.size w v) Ds U MU.out.1 (fun D hD => (MU.out.2 D hD).2.2) (fun v D hD hq hh => ?_) HBU.out (fun v hq => ?_)
      · have hDV := (MU.out.2 D hD).1
        have hg := grownBy_putObj' v D (.deferred none)
        exact ⟨hg.os.trans hq.os, hg.tape.trans hq.tape, hg.output.trans hq.output, Nat.le_trans hq.size hg.size, fun k hk => (hg.block k (by have := hq.size; omega) (fun e => by injection e with e; omega)).trans (hq.block k hk)⟩
      · exact ⟨.bool true, by simp [results, Tryd.results3, go_sem], rfl, hq⟩
  · have i0 : ¬ (i : Int) < (cs.length : Int) := by omega
    gi_wp2
    show LeavesInM _ _ _ _ _ _ (Ds.map mkD) .returning U
    refine leaves_marks (fun v => Below w.heap.size w v) Ds U MU.out.1 (fun D hD => (MU.out.2 D hD).2.2) (fun v D hD hq hh => ?_) HBU.out (fun v hq => ?_)
    · have hDV := (MU.out.2 D hD).1
      have hg := grownBy_putObj' v D (.deferred none)
      exact ⟨hg.os.trans hq.os, hg.tape.trans hq.tape, hg.output.trans hq.output, Nat.le_trans hq.size hg.size, fun k hk => (hg.block k (by have := hq.size; omega) (fun e => by injection e with e; omega)).trans (hq.block k hk)⟩
    · exact ⟨.bool true, by simp [results, Tryd.results3, go_sem], rfl, hq⟩
end Go.Proofs.YtaikcnoiaaiopaaDoor
