/-
  All: a range over a tree's nodes, each in memory of its own. A right tree without groups: its Kids are right by themselves. What is right: at most 2000 nodes, 40 deep; its groups are 1, 2, .., at most 30. TreeSound: what is right has at most 2000 nodes, 40 deep; its groups are 1, 2, ..; All tells as many nodes as Count, as deep as Depth.
-/
import Derived.Test.YtlodjinejeajcaaSoundProofB0
import Derived.Test.YtlodjinejeajcaaC14
import Derived.Test.YtlodjinejeajcaaC17
namespace Go.Proofs.Ytlodjinejeajcaa
open Go Go.RowKit Go.Shelf
attribute [local go_sem] Oper.semAt_some

theorem cellsP_get : ∀ (l : List (El × Fl)) (i j : Nat) (z : El × Fl), l[i]? = some z → j < 7 → (cellsP l)[i * 7 + j]? = (plC z)[j]?
  | y :: l, 0, j, z, h, hj => by
    simp at h
    subst h
    simp only [cellsP, List.flatMap_cons]
    rw [Nat.zero_mul, Nat.zero_add, List.getElem?_append_left (by simpa [plC, Fl.cells] using hj)]
  | y :: l, i + 1, j, z, h, hj => by
    have ih := cellsP_get l i j z (by simpa using h) hj
    simp only [cellsP, List.flatMap_cons] at ih ⊢
    rw [List.getElem?_append_right (by simp [plC, Fl.cells]; omega), ← ih]
    congr 1
    simp [plC, Fl.cells]
    omega
/-- A place's seven cells. -/
theorem plc_cells {W : World} {b g n c : Nat} {l : List (El × Fl)} (h : W.ownsRow b 56 7 (.slice (some ⟨g, 0, none⟩) n c) n (cellsP l)) {i : Nat} {z : El × Fl} (hi : l[i]? = some z) :
    W.cell? ⟨g, i * 7, none⟩ = some (.int .i64 ((z.1.1.length : Int) + 1)) ∧ Six W g (i * 7 + 1) z.2 := by
  have at' : ∀ (j : Nat) (u : Value), (plC z)[j]? = some u → W.cell? ⟨g, i * 7 + j, none⟩ = some u := fun j u hj =>
    ownsRow_cell h ((cellsP_get l i j z hi (by have := (List.getElem?_eq_some_iff.1 hj).1; simpa [plC, Fl.cells] using this)).trans hj)
  exact ⟨at' 0 _ rfl, at' 1 _ rfl, at' 2 _ rfl, at' 3 _ rfl, at' 4 _ rfl, at' 5 _ rfl, at' 6 _ rfl⟩
theorem PlOk.row {W W' : World} {b B : Nat} {x : El} {m : Fl} {row : Option Nat} (h : PlOk b W x m) (hg : W.grownBy W' row) (hr : ∀ r, row = some r → B ≤ r ∧ ∃ o : Obj, W.heap[r]? = some o ∧ o.isCells = false) : PlOk b W' x m := by
  refine ⟨h.k, h.n, h.mn, h.mx, h.rs, h.kq, h.rr.1, ?_⟩
  rcases h.rr.2 with z | ⟨g, cap, cur, z1, z2, z3, z4⟩
  · exact .inl z
  · exact .inr ⟨g, cap, cur, z1, z2, cells_kept hg hr z3, z4⟩
theorem PlOk.ckN {N : Nat → Prop} {W W' : World} {b : Nat} {x : El} {m : Fl} (h : PlOk b W x m) (hc : CKeep N W W') (hN : ∀ k, (Value.slice m.rq m.rs.length m.rc).ownBlock = some k → N k) : PlOk b W' x m := by
  refine ⟨h.k, h.n, h.mn, h.mx, h.rs, h.kq, h.rr.1, ?_⟩
  rcases h.rr.2 with z | ⟨g, cap, cur, z1, z2, z3, z4⟩
  · exact .inl z
  · exact .inr ⟨g, cap, cur, z1, z2, hc.same _ _ _ _ (hN g (by rw [z1]; rfl)) z3, z4⟩
theorem ownsRow_ckN {N : Nat → Prop} {W W' : World} {b : Nat} {e : TypeId} {size n : Nat} {v : Value} {xs : List Value} (h : W.ownsRow b e size v n xs) (hc : CKeep N W W') (hN : ∀ k, v.ownBlock = some k → N k) : W'.ownsRow b e size v n xs := by
  refine ⟨h.1, ?_⟩
  rcases h.2 with z | ⟨g, cap, cur, z1, z2, z3, z4⟩
  · exact .inl z
  · exact .inr ⟨g, cap, cur, z1, z2, hc.same _ _ _ _ (hN g (by rw [z1]; rfl)) z3, z4⟩
def encP (z : El × Fl) : Array Value := #[.int .i64 ((z.1.1.length : Int) + 1), .agg #[.int .i64 z.2.k, .int .i64 z.2.n, .int .i64 z.2.mn, .int .i64 z.2.mx, .slice z.2.rq z.2.rs.length z.2.rc, .slice z.2.kq z.2.kl z.2.kc]]
/-- What a body may change of what it was handed: the Ranges of its node. -/
def KQ (b : Nat) (z : El × Fl) (V V' : World) : Prop := CKeep (fun k => b ≤ k ∧ (Value.slice z.2.rq z.2.rs.length z.2.rc).ownBlock ≠ some k) V V'
theorem KQ.below {b : Nat} {z : El × Fl} {W W' : World} (hb : Below W.heap.size W W') : KQ b z W W' := ⟨hb.size, fun k _ _ _ _ hc => (hb.block k (lt_of_heap hc)).trans hc⟩
structure ToldP (b : Nat) (t : Tr) (pre : List (El × Fl)) (z : El × Fl) (V : World) : Prop where
  ok : PlOk b V z.1 z.2
  pfx : (pre ++ [z]).map (·.1) <+: (pp [] t).take 2000

set_option maxRecDepth 100000 in
set_option maxHeartbeats 4000000 in
theorem all_tells (n : Nat) (hn : 3 ≤ n) {w0 w : World} {b : Nat} {t : Tr} (hB : BoxN w b t.f) (hta : TA w0 t) (hck : CK w0 w) :
    TellsK n Try.prog 31 #[.pointer (some ⟨b, 0, none⟩)] encP (KQ w.heap.size) (ToldP w.heap.size t) (fun xs => xs.map (·.1) = (pp [] t).take 2000) (fun pre => pre.map (·.1) <+: (pp [] t).take 2000) w := by
  intro l J Jx V hV hJ hJx hb hY h0
  have hfn : ∀ f, Fence.wide.fn f := fun _ => trivial
  have HB : Hid (BoxN V b t.f) := (hV.block _ (lt_of_heap hB)).trans hB
  have hck2 : CK w0 V := hck.step ⟨hV.size, fun k _ _ _ _ hc => (hV.block k (lt_of_heap hc)).trans hc⟩
  have PL := hide (places_in n hn (hta.ck hck2))
  have hVs := hV.size
  obtain ⟨c0, c1, c2, c3, c4, c5⟩ := HB.out.six
  simp only [Nat.zero_add] at c1 c2 c3 c4 c5
  have HJ0 := hide h0
  have HY := hide hY
  clear hb h0 hB hta hck hck2 hV
  refine callsIn_of_wp Try.func31 rfl trivial ?_ rfl
  simp only [Try.ntmps31, List.size_toArray, List.length_cons, List.length_nil, Nat.reduceAdd, Nat.reduceSub, Array.replicate_succ, Array.replicate_zero, List.push_toArray, List.append_toArray, List.nil_append, List.cons_append]
  gi_wp2
  refine ⟨(fun z => by cases z), (callsIn_wide.2 (callsIn_wide.1 PL.out)).mono ?_⟩
  rintro e W1 ⟨ms, q, c, rfl, hm1, hm2, hm3, hm4, hm5⟩
  have hms : ms.length ≤ 2000 := by
    have := congrArg List.length hm1
    rw [List.length_map, List.length_take] at this
    omega
  have M1 := hide hm1
  have M4 := hide hm4
  have J1 : Hid (J [] W1) := ownFrom_below hJ HJ0.out hm5
  have R1 : Hid (W1.ownsRow w.heap.size 56 7 (.slice q ms.length c) ms.length (cellsP ms)) := ownsRow_mono hm2 hVs
  have P1 : Hid (∀ z ∈ ms, PlOk w.heap.size W1 z.1 z.2) := fun z hz => ⟨(hm3 z hz).k, (hm3 z hz).n, (hm3 z hz).mn, (hm3 z hz).mx, (hm3 z hz).rs, (hm3 z hz).kq, RR.mono (hm3 z hz).rr hVs⟩
  clear hm1 hm2 hm3 hm4 hm5 c0 c1 c2 c3 c4 c5 PL HB HJ0
  gi_wp2
  gi_loopw [8] (fun i wr => ∃ j : Nat, j ≤ ms.length ∧ i = .int .i64 (j : Int) ∧ J (ms.take j) wr ∧ wr.ownsRow w.heap.size 56 7 (.slice q ms.length c) ms.length (cellsP ms) ∧ ∀ z ∈ ms.drop j, PlOk w.heap.size wr z.1 z.2) (fun i _ => ms.length - (intOf i).toNat)
  case atStart => exact ⟨0, Nat.zero_le _, rfl, J1.out, R1.out, P1.out⟩
  case round =>
    clear J1 R1 P1
    obtain ⟨j, hj, rfl, hj1, hj2, hj3⟩ := hrel
    have HJ := hide hj1
    have HR := hide hj2
    have HP := hide hj3
    clear hj1 hj2 hj3
    by_cases hjl : j < ms.length
    · have e0 : (j : Int) < (ms.length : Int) := by omega
      obtain ⟨z, hz⟩ : ∃ z, ms[j]? = some z := ⟨_, List.getElem?_eq_getElem hjl⟩
      have HZ := hide hz
      obtain ⟨g, cc, hq⟩ := ownsRow_some HR.out (by omega)
      injection hq with hq1 _ hq2
      subst hq1 hq2
      have hdr : ms.drop j = z :: ms.drop (j + 1) := by
        rw [List.drop_eq_getElem_cons hjl]
        congr 1
        rw [List.getElem?_eq_getElem hjl] at hz
        injection hz
      have htk : ms.take (j + 1) = ms.take j ++ [z] := by
        rw [List.take_add_one, hz]; rfl
      have htp : (ms.take j ++ [z]).map (·.1) <+: (pp [] t).take 2000 := by
        rw [← htk, ← M1.out, List.map_take]
        exact List.take_prefix _ _
      have HTK := hide htk
      obtain ⟨c0, c1, c2, c3, c4, c5, c6⟩ := plc_cells HR.out hz
      simp only [Nat.add_assoc, Nat.reduceAdd] at c2 c3 c4 c5 c6
      have B4 : Hid (Below wr.heap.size wr (wr.alloc (.cells #[.int .i64 ((z.1.1.length : Int) + 1), .int .i64 z.2.k, .int .i64 z.2.n, .int .i64 z.2.mn, .int .i64 z.2.mx, .slice z.2.rq z.2.rs.length z.2.rc, .slice z.2.kq z.2.kl z.2.kc] 56))) := (Below.refl _ _).alloc (Nat.le_refl _) _
      have N4 := alloc_new wr (.cells #[.int .i64 ((z.1.1.length : Int) + 1), .int .i64 z.2.k, .int .i64 z.2.n, .int .i64 z.2.mn, .int .i64 z.2.mx, .slice z.2.rq z.2.rs.length z.2.rc, .slice z.2.kq z.2.kl z.2.kc] 56)
      have d0 := cell_row N4 (i := 0) rfl
      have d1 := cell_row N4 (i := 1) rfl
      have d2 := cell_row N4 (i := 2) rfl
      have d3 := cell_row N4 (i := 3) rfl
      have d4 := cell_row N4 (i := 4) rfl
      have d5 := cell_row N4 (i := 5) rfl
      have d6 := cell_row N4 (i := 6) rfl
      have TZ : Hid (ToldP w.heap.size t (ms.take j) z (wr.alloc (.cells #[.int .i64 ((z.1.1.length : Int) + 1), .int .i64 z.2.k, .int .i64 z.2.n, .int .i64 z.2.mn, .int .i64 z.2.mx, .slice z.2.rq z.2.rs.length z.2.rc, .slice z.2.kq z.2.kl z.2.kc] 56))) := ⟨(HP.out z (by rw [hdr]; exact List.mem_cons_self ..)).ckN (CK.of_below B4.out) (fun k hk => (ownsRow_at (HP.out z (by rw [hdr]; exact List.mem_cons_self ..)).rr hk).2.1), htp⟩
      obtain ⟨fn, tmps, assign, body, hy, hR⟩ := HY.out (ms.take j) z _ (hJ.alloc _ HJ.out) TZ.out
      simp only [encP] at hy
      clear N4 hz htk htp
      gi_wp2
      refine ⟨(fun z => by cases z), hR.mono ?_⟩
      rintro e W3 ⟨-, (⟨rfl, hJ3, hk3⟩ | ⟨rfl, hJx3⟩)⟩
      · have HN : Hid (J (ms.take (j + 1)) W3) := (by rw [HTK.out]; exact hJ3)
        have HR3 : Hid (W3.ownsRow w.heap.size 56 7 (.slice (some ⟨g, 0, none⟩) ms.length c) ms.length (cellsP ms)) := ownsRow_ckN (ownsRow_ckN HR.out (CK.of_below B4.out) (fun k hk => (ownsRow_at HR.out hk).2.1)) hk3 (fun k hk => ⟨(ownsRow_at HR.out hk).1, ownsRow_ne HR.out (HP.out z (by rw [hdr]; exact List.mem_cons_self ..)).rr (by decide) hk⟩)
        have HP3 : Hid (∀ y ∈ ms.drop (j + 1), PlOk w.heap.size W3 y.1 y.2) := fun y hy => (by
          have hy1 := HP.out y (by rw [hdr]; exact List.mem_cons_of_mem _ hy)
          refine (hy1.ckN (CK.of_below B4.out) (fun k hk => (ownsRow_at hy1.rr hk).2.1)).ckN hk3 (fun k hk => ⟨(ownsRow_at hy1.rr hk).1, fun hk2 => ?_⟩)
          have hpw : (ms.drop j).Pairwise Ap8 := M4.out.sublist (List.drop_sublist _ _)
          rw [hdr, List.pairwise_cons] at hpw
          exact hpw.1 y hy k hk2 hk)
        clear hJ3 hk3 hy hR c0 c1 c2 c3 c4 c5 c6 d0 d1 d2 d3 d4 d5 d6 TZ hdr
        gi_wp2
        go_roundw
        case rel => exact ⟨j + 1, by omega, by go_num, HN.out, HR3.out, HP3.out⟩
        case measure => simp only [intOf]; omega
      · have HN := hide hJx3
        have HT := hide TZ.out.pfx
        clear hJx3 hy hR c0 c1 c2 c3 c4 c5 c6 d0 d1 d2 d3 d4 d5 d6 TZ hdr
        gi_wp2
        ((try simp only [Exit.inBlock, Exit.then]); refine bodyPost_ret (results_none rfl _ _ _) rfl ?_)
        exact ⟨⟨_, rfl⟩, .inr ⟨_, HT.out, HN.out⟩⟩
    · have e0 : ¬ (j : Int) < (ms.length : Int) := by omega
      have HN : Hid (J ms wr) := (by have := HJ.out; rw [List.take_of_length_le (by omega)] at this; exact this)
      gi_wp2
      go_end0
      exact ⟨⟨_, rfl⟩, .inl ⟨ms, M1.out, HN.out⟩⟩
def roundP (a : Act) (q d : Nat) (z : El × Fl) : Act := { tmps := (a.tmps.setIfInBounds q (.int .i64 ((z.1.1.length : Int) + 1))).setIfInBounds d (.agg #[.int .i64 z.2.k, .int .i64 z.2.n, .int .i64 z.2.mn, .int .i64 z.2.mx, .slice z.2.rq z.2.rs.length z.2.rc, .slice z.2.kq z.2.kl z.2.kc]), defers := [] }
/-- A range over All of a tree. -/
theorem rangeP {g : Operand} {ps : Array Tmp} {assign body : Code} {Q : Exit → Act → World → Prop} {a : Act} {w : World} {n : Nat} (hn : 4 ≤ n) (q d : Nat) (b : Nat) {w0 : World} {t : Tr}
    (hg : a.eval g = .func (.func 31) #[] #[.pointer (some ⟨b, 0, none⟩)]) (hps : ps = #[q, d]) (hB : BoxN w b t.f) (hta : TA w0 t) (hck : CK w0 w)
    (I : List (El × Fl) → World → Prop) (Ix : Code → List (El × Fl) → World → Prop) (hI : OwnFrom w.heap.size I) (hIx : ∀ c, OwnFrom w.heap.size (Ix c)) (hbd : ∀ pre W, I pre W → pre.length ≤ 1000000) (h0 : I [] w)
    (Ax : Nat → Act → (El × Fl) → Act → World → Prop) (hAx : ∀ s y x a', OwnFrom w.heap.size (fun (_ : Unit) W => Ax s y x a' W))
    (hassign : ∀ (l : Nat) (pre : List (El × Fl)) (x : El × Fl) (W : World) (K : Act → World → Prop), I pre W → ToldP w.heap.size t pre x W → (∀ a' W', Below W.heap.size W W' → Ax W.heap.size (roundP a q d x) x a' W' → K a' W') →
      assign.wpIn (Fence.wide.inRound l) (n - 1 - 1) Try.prog (Exit.then K (fun _ _ _ => False)) (roundP a q d x) W)
    (hbody : ∀ (l : Nat) (pre : List (El × Fl)) (x : El × Fl) (a' : Act) (V0 V : World), I pre V → ToldP w.heap.size t pre x V → Ax V0.heap.size (roundP a q d x) x a' V → KQ w.heap.size x V0 V → V0.heap.size ≤ V.heap.size → body.wpIn (Fence.wide.inRound l) (n - 1 - 1) Try.prog (ownPostG w.heap.size (fun _ V' => KQ w.heap.size x V0 V') I Ix (pre ++ [x]) V) a' V)
    (hdone : ∀ (D : Nat) (xs : List (El × Fl)) (V : World), w.heap.size ≤ D → xs.map (·.1) = (pp [] t).take 2000 → I xs V → V.heap[D]? = some (.deferred (some [])) → Q .normal (behindN a D) V)
    (hstop : ∀ (D : Nat) (c : Code) (pre : List (El × Fl)) (V : World), w.heap.size ≤ D → pre.map (·.1) <+: (pp [] t).take 2000 → Ix c pre V → V.heap[D]? = some (.deferred (some [])) → c.wpIn Fence.wide n Try.prog Q (behindN a D) V) :
    (Code.rangeFunc g ps assign body).wpIn Fence.wide n Try.prog Q a w := by
  subst hps
  refine range_toldK (α := El × Fl) (Kp := KQ w.heap.size) (Told := ToldP w.heap.size t) (by omega) (gf := 31) hg (enters_of Try.func31 (by kernel_rfl) rfl) (encs := encP) (fun _ => rfl)
    CKeep.trans CKeep.put KQ.below (all_tells (n - 1) (by omega) hB hta hck) I Ix hI hIx ?_ hbd h0 (fun s x => Ax s (roundP a q d x) x) (fun s x => hAx s _ x) ?_ hbody hdone hstop
  · rintro pre x _ A A' row h hg hr
    exact ⟨h.ok.row hg hr, h.pfx⟩
  · intro l pre x V K hi ht hK
    have := hassign l pre x V K hi ht hK
    simpa [encP, roundP] using this
theorem all_c (w : World) (f : Fl) : Calls Try.prog 11 #[.agg #[.int .i64 f.k, .int .i64 f.n, .int .i64 f.mn, .int .i64 f.mx, .slice f.rq f.rs.length f.rc, .slice f.kq f.kl f.kc]] w fun e w' => e = .returned (.func (.func 31) #[] #[.pointer (some ⟨w.heap.size, 0, none⟩)]) ∧ w' = w.alloc (.cells #[.int .i64 f.k, .int .i64 f.n, .int .i64 f.mn, .int .i64 f.mx, .slice f.rq f.rs.length f.rc, .slice f.kq f.kl f.kc] 25) := by
  go_enter Try.func11, Try.ntmps11
  go_wp2
  go_ret
  exact ⟨rfl, rfl⟩
end Go.Proofs.Ytlodjinejeajcaa
namespace Go.Proofs.Ytlodjinejeajcaa
open Go Go.RowKit

theorem right_all {c f : Bool} : ∀ (L : List El) (ah gr : Nat), rightM c f ah gr L = 0 → ∀ pre x post, L = pre ++ x :: post → lookM c f x.1 x.2 (ah + pre.length) (gr + grpM pre) = 0
  | [], _, _, _, pre, x, post, h => by cases pre <;> cases h
  | y :: L, ah, gr, hr, pre, x, post, h => by
    unfold rightM at hr
    by_cases hy : lookM c f y.1 y.2 ah gr = 0
    · rw [if_neg (by simpa using hy)] at hr
      cases pre with
      | nil =>
        simp at h
        obtain ⟨rfl, rfl⟩ := h
        simpa [grpM] using hy
      | cons z pre =>
        simp at h
        obtain ⟨rfl, rfl⟩ := h
        have := right_all (pre ++ x :: post) (ah + 1) (gr + (if y.2.f.k = 7 then 1 else 0)) hr pre x post rfl
        simp only [List.length_cons, grpM]
        rw [show ah + (pre.length + 1) = ah + 1 + pre.length by omega, show gr + ((if y.2.f.k = 7 then 1 else 0) + grpM pre) = gr + (if y.2.f.k = 7 then 1 else 0) + grpM pre by omega]
        exact this
    · rw [if_pos hy] at hr
      exact absurd hr hy
theorem all_right {c f : Bool} : ∀ (L : List El) (ah gr : Nat), (∀ pre x post, L = pre ++ x :: post → lookM c f x.1 x.2 (ah + pre.length) (gr + grpM pre) = 0) → rightM c f ah gr L = 0
  | [], _, _, _ => rfl
  | y :: L, ah, gr, h => by
    unfold rightM
    have hy := h [] y L rfl
    simp only [List.length_nil, Nat.add_zero, grpM] at hy
    rw [if_neg (by simpa using hy)]
    refine all_right L (ah + 1) (gr + (if y.2.f.k = 7 then 1 else 0)) fun pre x post e => ?_
    have := h (y :: pre) x post (by rw [e]; rfl)
    simp only [List.length_cons, grpM] at this
    rw [show ah + 1 + pre.length = ah + (pre.length + 1) by omega, show gr + (if y.2.f.k = 7 then 1 else 0) + grpM pre = gr + ((if y.2.f.k = 7 then 1 else 0) + grpM pre) by omega]
    exact this
theorem pps_way {ks : List Tr} (s : Way) (h : ∀ t ∈ ks, ∀ p, pp (p ++ s) t = (pp p t).map fun z => (z.1 ++ s, z.2)) (par : Tr) (p : Way) (i : Nat) : pps par (p ++ s) i ks = (pps par p i ks).map fun z => (z.1 ++ s, z.2) := by
  induction ks generalizing i with
  | nil => rw [pps_nil, pps_nil]; rfl
  | cons t ts ih => rw [pps_cons, pps_cons, List.map_append, ← ih (fun u hu => h u (List.mem_cons_of_mem _ hu)), ← h t (List.mem_cons_self ..)]; rfl
theorem pp_way (s : Way) (t : Tr) : ∀ p, pp (p ++ s) t = (pp p t).map fun z => (z.1 ++ s, z.2) := by
  refine Tr.ind (P := fun t => ∀ p, pp (p ++ s) t = (pp p t).map fun z => (z.1 ++ s, z.2)) (fun t ih p => ?_) t
  rw [pp_eq, pp_eq, List.map_cons, pps_way s ih]
/-- Where a Kid's nodes stand. -/
theorem pps_split {par : Tr} {p : Way} {ks : List Tr} {i : Nat} {u : Tr} (h : ks[i]? = some u) : ∃ a b, pps par p 0 ks = a ++ pp ((par, i) :: p) u ++ b := by
  have e : ks = ks.take i ++ u :: ks.drop (i + 1) := by
    have hi := (List.getElem?_eq_some_iff.1 h).1
    have := List.take_append_drop i ks
    rw [List.drop_eq_getElem_cons hi, (List.getElem?_eq_some_iff.1 h).2] at this
    exact this.symm
  have hl : (ks.take i).length = i := by rw [List.length_take]; have := (List.getElem?_eq_some_iff.1 h).1; omega
  refine ⟨pps par p 0 (ks.take i), pps par p (i + 1) (ks.drop (i + 1)), ?_⟩
  have := pps_append par p (ks.take i) (u :: ks.drop (i + 1)) 0
  rw [← e, hl, pps_cons, Nat.zero_add] at this
  rw [this, List.append_assoc]
theorem grpM_map (s : Way) (l : List El) : grpM (l.map fun z => (z.1 ++ s, z.2)) = grpM l := by
  induction l with
  | nil => rfl
  | cons x l ih => simp only [List.map_cons, grpM, ih]
theorem stand_kind {pk seen k : Int} {kl : Nat} (h : standB pk seen kl k = true) : kindB k = true := by
  have ht : thingB k = true → kindB k = true := by
    intro z
    simp [thingB] at z
    simp [kindB]
    omega
  unfold standB at h
  split at h
  · simp at h
    rcases h with (z | z) | z
    · exact ht z
    · obtain ⟨rfl, -⟩ := z; rfl
    · obtain ⟨rfl, -⟩ := z; rfl
  · split at h
    · exact ht h
    · split at h
      · simp at h; exact h.1
      · exact h
theorem right_len {c f : Bool} {L : List El} (hr : rightM c f 0 0 L = 0) : L.length ≤ 2000 := by
  rcases Nat.lt_or_ge 2000 L.length with h | h
  · exfalso
    have e : L = L.take 2000 ++ L[2000] :: L.drop 2001 := by
      have := List.take_append_drop 2000 L
      rw [List.drop_eq_getElem_cons h] at this
      exact this.symm
    have := right_all L 0 0 hr _ _ _ e
    rw [show 0 + (L.take 2000).length = 2000 by rw [List.length_take]; omega] at this
    unfold lookM at this
    rw [if_pos rfl] at this
    cases this
  · exact h
theorem kid_right {c f : Bool} {t u : Tr} (hu : u ∈ t.ks) (hr : rightM c f 0 0 (pp [] t) = 0) (hg : grpM (pp [] t) = 0) : rightM c f 0 0 (pp [] u) = 0 ∧ grpM (pp [] u) = 0 := by
  obtain ⟨i, hi, hui⟩ := List.getElem_of_mem hu
  have hgi : t.ks[i]? = some u := by rw [List.getElem?_eq_getElem hi, hui]
  obtain ⟨a, b, hab⟩ := pps_split (par := t) (p := []) hgi
  have hw : pp [(t, i)] u = (pp [] u).map fun z => (z.1 ++ [(t, i)], z.2) := pp_way [(t, i)] u []
  rw [hw] at hab
  have hL : pp [] t = (([], t) :: a) ++ ((pp [] u).map fun z => (z.1 ++ [(t, i)], z.2)) ++ b := by rw [pp_eq, hab]; simp
  have hgs : grpM (([], t) :: a) = 0 ∧ grpM (pp [] u) = 0 := by
    rw [hL, grpM_append, grpM_append, grpM_map] at hg
    omega
  refine ⟨all_right _ 0 0 fun pre x post e => ?_, hgs.2⟩
  have h1 := right_all _ 0 0 hr ((([], t) :: a) ++ pre.map fun z => (z.1 ++ [(t, i)], z.2)) (x.1 ++ [(t, i)], x.2) ((post.map fun z => (z.1 ++ [(t, i)], z.2)) ++ b) (by rw [hL, e]; simp)
  have hg2 : grpM pre = 0 ∧ x.2.f.k ≠ 7 := by
    have := hgs.2
    rw [e, grpM_append] at this
    simp only [grpM] at this
    refine ⟨by omega, fun z => ?_⟩
    rw [if_pos z] at this
    omega
  have e1 : grpM ((([], t) :: a) ++ pre.map fun z => (z.1 ++ [(t, i)], z.2)) = 0 := by rw [grpM_append, grpM_map, hgs.1, hg2.1]
  rw [e1, Nat.zero_add, Nat.zero_add] at h1
  rw [hg2.1, Nat.zero_add, Nat.add_zero]
  unfold lookM at h1 ⊢
  simp only [List.length_append, List.length_cons, List.length_nil, List.length_map] at h1
  have hlen := right_len hr
  have hpl : pre.length < 2000 := by
    rw [hL, e] at hlen
    simp at hlen
    omega
  rw [if_neg (by omega)]
  split at h1
  · cases h1
  · split at h1
    · cases h1
    · split at h1
      · cases h1
      · rename_i n1 n2 n3
        have n3' := Classical.not_not.1 n3
        split at h1
        · cases h1
        · split at h1
          · cases h1
          · rename_i n4 n5
            rw [if_neg (by omega), if_neg, if_neg (fun z => hg2.2 z.1), if_neg (fun z => ?_)]
            · have hf := n3'.2.1
              unfold fieldsM at hf
              rw [if_neg (by omega), if_neg (by omega), if_pos z.1] at hf
              exact n5 ⟨z.1, fun q => by have := q.2; omega⟩
            · refine fun q => q ⟨?_, n3'.2⟩
              have hst := n3'.1
              cases hx : x.1 with
              | nil =>
                rw [hx] at hst
                exact stand_kind hst
              | cons y ys =>
                rw [hx] at hst
                exact hst
end Go.Proofs.Ytlodjinejeajcaa
namespace Go.Proofs.Ytlodjinejeajcaa
open Go Go.RowKit

theorem look_deep {c f : Bool} {p : Way} {t : Tr} {ah gr : Nat} (h : lookM c f p t ah gr = 0) : p.length + 1 ≤ 40 := by
  unfold lookM at h
  split at h
  · cases h
  · split at h
    · cases h
    · omega
theorem look_grp {c f : Bool} {p : Way} {t : Tr} {ah gr : Nat} (h : lookM c f p t ah gr = 0) (hk : t.f.k = 7) : t.f.n = (gr : Int) + 1 ∧ t.f.n ≤ 30 := by
  unfold lookM at h
  split at h
  · cases h
  · split at h
    · cases h
    · split at h
      · cases h
      · rename_i n3
        have hf := (Classical.not_not.1 n3).2.1
        split at h
        · cases h
        · rename_i n4
          refine ⟨?_, Int.not_lt.1 fun z => n4 ⟨hk, z⟩⟩
          unfold fieldsM at hf
          rw [if_neg (by omega), if_pos hk] at hf
          exact hf.1
theorem right_deep {c f : Bool} {L : List El} (hr : rightM c f 0 0 L = 0) : deepM L ≤ 40 := by
  have h : ∀ x ∈ L, x.1.length + 1 ≤ 40 := fun x hx => by
    obtain ⟨pre, post, e⟩ := List.append_of_mem hx
    exact look_deep (right_all L 0 0 hr pre x post e)
  clear hr
  induction L with
  | nil => exact Nat.zero_le _
  | cons y L ih =>
    have h1 := ih fun x hx => h x (List.mem_cons_of_mem _ hx)
    have h2 := h y (List.mem_cons_self ..)
    simp only [deepM]
    omega
theorem right_grp {c f : Bool} {L pre : List El} {x : El} (hr : rightM c f 0 0 L = 0) (e : pre ++ [x] <+: L) (hk : x.2.f.k = 7) : x.2.f.n = (grpM pre : Int) + 1 ∧ x.2.f.n ≤ 30 := by
  obtain ⟨post, hp⟩ := e
  have := look_grp (right_all L 0 0 hr pre x post (by rw [← hp]; simp)) hk
  simpa using this
theorem grp_pre {c f : Bool} {L : List El} (hr : rightM c f 0 0 L = 0) : ∀ (n : Nat), n ≤ L.length → grpM (L.take n) ≤ 30 := by
  intro n
  induction n with
  | zero => intro _; simp [grpM]
  | succ n ih =>
    intro hn
    have h1 := ih (by omega)
    have e : L.take (n + 1) = L.take n ++ [L[n]] := by rw [List.take_append_getElem]
    rw [e, grpM_snoc]
    by_cases hk : (L[n]).2.f.k = 7
    · have := right_grp (pre := L.take n) (x := L[n]) hr (by rw [← e]; exact List.take_prefix _ _) hk
      rw [if_pos hk]
      omega
    · rw [if_neg hk]; omega
theorem right_grps {c f : Bool} {L : List El} (hr : rightM c f 0 0 L = 0) : grpM L ≤ 30 := by
  have := grp_pre hr L.length (Nat.le_refl _)
  rwa [List.take_length] at this
end Go.Proofs.Ytlodjinejeajcaa
namespace Go.Proofs.Ytlodjinejeajcaa
open Go Go.RowKit Go.Shelf
attribute [local go_sem] Oper.semAt_some ext_cell ext_frozen

theorem fn_nil8 (f : Fn) (a b : Array Value) (w : World) : (binOp .eql 32 (.func f a b) .nilFunc).run Try.prog w = .ok (.bool false) w := by kernel_rfl
attribute [local go_sem] fn_nil8
/-- How the law's range stands. -/
structure SI (w : World) (t : Tr) (bn be bm bd bg : Nat) (pre : List (El × Fl)) (V : World) : Prop where
  nd : BoxN V bn t.f
  res : V.heap[be]? = some (.cells #[.bool false] 4 (0, 0))
  m : BoxI V bm (pre.length : Int)
  d : BoxI V bd (deepM (pre.map (·.1)) : Int)
  g : BoxI V bg (grpM (pre.map (·.1)) : Int)
  pfx : pre.map (·.1) <+: (pp [] t).take 2000
  bel : Below w.heap.size w V
theorem SI.row {w : World} {t : Tr} {bn be bm bd bg B : Nat} {pre : List (El × Fl)} {V V' : World} {row : Option Nat} (h : SI w t bn be bm bd bg pre V) (hn : w.heap.size ≤ B) (hg : V.grownBy V' row) (hr : ∀ r, row = some r → B ≤ r ∧ ∃ o : Obj, V.heap[r]? = some o ∧ o.isCells = false) : SI w t bn be bm bd bg pre V' :=
  ⟨cells_kept hg hr h.nd, cells_kept hg hr h.res, h.m.row hg hr, h.d.row hg hr, h.g.row hg hr, h.pfx, bel_grown h.bel (Nat.le_refl _) hn hg hr⟩
theorem SI.len {w : World} {t : Tr} {bn be bm bd bg : Nat} {pre : List (El × Fl)} {V : World} (h : SI w t bn be bm bd bg pre V) : pre.length ≤ 2000 := by
  have := h.pfx.length_le
  rw [List.length_map, List.length_take] at this
  omega
/-- What a round leaves: three boxes are written. -/
theorem snd_end {w V V0 : World} {t : Tr} {bn be bm bd bg b1 : Nat} {pre : List (El × Fl)} {x : El × Fl} (h : SI w t bn be bm bd bg pre V) (hw : w.heap.size ≤ bm ∧ w.heap.size ≤ bd ∧ w.heap.size ≤ bg) (hlt : bm < b1 ∧ bd < b1 ∧ bg < b1) (hne : bm ≠ bd ∧ bm ≠ bg ∧ bd ≠ bg) (hk0 : KQ b1 x V0 V) (ht : ToldP b1 t pre x V)
    {V' : World} (hf : Fr (fun z => z = bm ∨ z = bd ∨ z = bg) V V') (hm : BoxI V' bm ((pre.length : Int) + 1)) (hd : BoxI V' bd (max (deepM (pre.map (·.1)) : Int) ((x.1.1.length : Int) + 1))) (hg : BoxI V' bg ((grpM (pre.map (·.1)) : Int) + (if x.1.2.f.k = 7 then 1 else 0))) :
    KeepsFrom b1 V V' ∧ KQ b1 x V0 V' ∧ SI w t bn be bm bd bg (pre ++ [x]) V' := by
  have ty : ∀ {k : Nat} {cs : Array Value} {ty : TypeId}, V.heap[k]? = some (.cells cs ty (0, 0)) → ty ≠ 3 → ¬ (k = bm ∨ k = bd ∨ k = bg) := fun {k cs ty} hk ht hs => by
    rcases hs with rfl | rfl | rfl
    · have := h.m; unfold BoxI at this; rw [hk] at this; cases this; exact ht rfl
    · have := h.d; unfold BoxI at this; rw [hk] at this; cases this; exact ht rfl
    · have := h.g; unfold BoxI at this; rw [hk] at this; cases this; exact ht rfl
  refine ⟨hf.keepsFrom (fun k hk => by omega), CKeep.trans hk0 ⟨hf.size, fun k cur ty fr hk hc => fr_typed hf hc (fun hs => by omega)⟩, ⟨fr_typed hf h.nd (ty h.nd (by decide)), fr_typed hf h.res (ty h.res (by decide)), ?_, ?_, ?_, ht.pfx, chainF h.bel hf (Nat.le_refl _) (fun k hk => by omega)⟩⟩
  · rw [List.length_append]; exact hm
  · rw [List.map_append, List.map_cons, List.map_nil, deepM_snoc]
    have : (((max (deepM (pre.map (·.1))) (x.1.1.length + 1) : Nat)) : Int) = max (deepM (pre.map (·.1)) : Int) ((x.1.1.length : Int) + 1) := by omega
    rw [this]; exact hd
  · rw [List.map_append, List.map_cons, List.map_nil, grpM_snoc, Int.natCast_add, show (((if x.1.2.f.k = 7 then 1 else 0 : Nat)) : Int) = (if x.1.2.f.k = 7 then 1 else 0) by split <;> rfl]
    exact hg

set_option maxRecDepth 100000 in
set_option maxHeartbeats 8000000 in
theorem sound_in (n : Nat) (hn : 4 ≤ n) {w : World} {t : Tr} (c f : Bool) (hta : TA w t) :
    CallsIn Fence.wide n Try.prog 3 #[.agg #[.int .i64 t.f.k, .int .i64 t.f.n, .int .i64 t.f.mn, .int .i64 t.f.mx, .slice t.f.rq t.f.rs.length t.f.rc, .slice t.f.kq t.f.kl t.f.kc], .agg #[.bool c, .bool f]] w fun e w' => e = .returned (.bool true) ∧ Below w.heap.size w w' := by
  have hfn : ∀ f, Fence.wide.fn f := fun _ => trivial
  refine callsIn_of_wp_marks Try.func3 rfl trivial ?_ rfl
  simp only [Try.ntmps3, List.size_toArray, List.length_cons, List.length_nil, Nat.reduceAdd, Nat.reduceSub, Array.replicate_succ, Array.replicate_zero, List.push_toArray, List.append_toArray, List.nil_append, List.cons_append]
  refine wpIn_wide.2 ?_
  have HTA := hide hta
  have RT : Hid (∀ W : World, TA W t → Calls Try.prog 10 #[.agg #[.int .i64 t.f.k, .int .i64 t.f.n, .int .i64 t.f.mn, .int .i64 t.f.mx, .slice t.f.rq t.f.rs.length t.f.rc, .slice t.f.kq t.f.kl t.f.kc], .agg #[.bool c, .bool f]] W fun e w' => e = .returned (.int .i64 (rightM c f 0 0 (pp [] t))) ∧ Below W.heap.size W w') := fun W hW => right8_c c f hW
  obtain ⟨r, hr⟩ : ∃ r, rightM c f 0 0 (pp [] t) = r := ⟨_, rfl⟩
  rw [hr] at RT
  have HR := hide hr
  clear hr hta
  go_upto_region 1 with fail
  have N0 : Hid (BoxN (((w.alloc (.cells #[.int .i64 t.f.k, .int .i64 t.f.n, .int .i64 t.f.mn, .int .i64 t.f.mx, .slice t.f.rq t.f.rs.length t.f.rc, .slice t.f.kq t.f.kl t.f.kc] 25)).alloc (.cells #[.bool c, .bool f] 27)).alloc (.cells #[.bool false] 4)) w.heap.size t.f) := (Below.heap_alloc _ _ _ (by simp; omega)).trans ((Below.heap_alloc _ _ _ (by simp)).trans (alloc_new w _))
  have M0 : Hid ((((w.alloc (.cells #[.int .i64 t.f.k, .int .i64 t.f.n, .int .i64 t.f.mn, .int .i64 t.f.mx, .slice t.f.rq t.f.rs.length t.f.rc, .slice t.f.kq t.f.kl t.f.kc] 25)).alloc (.cells #[.bool c, .bool f] 27)).alloc (.cells #[.bool false] 4)).heap[w.heap.size + 1]? = some (.cells #[.bool c, .bool f] 27 (0, 0))) := (Below.heap_alloc _ _ _ (by simp)).trans (by have := alloc_new (w.alloc (.cells #[.int .i64 t.f.k, .int .i64 t.f.n, .int .i64 t.f.mn, .int .i64 t.f.mx, .slice t.f.rq t.f.rs.length t.f.rc, .slice t.f.kq t.f.kl t.f.kc] 25)) (.cells #[.bool c, .bool f] 27); rwa [World.size_alloc] at this)
  have E0 : Hid ((((w.alloc (.cells #[.int .i64 t.f.k, .int .i64 t.f.n, .int .i64 t.f.mn, .int .i64 t.f.mx, .slice t.f.rq t.f.rs.length t.f.rc, .slice t.f.kq t.f.kl t.f.kc] 25)).alloc (.cells #[.bool c, .bool f] 27)).alloc (.cells #[.bool false] 4)).heap[w.heap.size + 1 + 1]? = some (.cells #[.bool false] 4 (0, 0))) := (by have := alloc_new ((w.alloc (.cells #[.int .i64 t.f.k, .int .i64 t.f.n, .int .i64 t.f.mn, .int .i64 t.f.mx, .slice t.f.rq t.f.rs.length t.f.rc, .slice t.f.kq t.f.kl t.f.kc] 25)).alloc (.cells #[.bool c, .bool f] 27)) (.cells #[.bool false] 4); rwa [World.size_alloc, World.size_alloc] at this)
  have B0 : Hid (Below w.heap.size w (((w.alloc (.cells #[.int .i64 t.f.k, .int .i64 t.f.n, .int .i64 t.f.mn, .int .i64 t.f.mx, .slice t.f.rq t.f.rs.length t.f.rc, .slice t.f.kq t.f.kl t.f.kc] 25)).alloc (.cells #[.bool c, .bool f] 27)).alloc (.cells #[.bool false] 4))) := (((Below.refl _ _).alloc (Nat.le_refl _) _).alloc (by simp) _).alloc (by simp; omega) _
  generalize (((w.alloc (.cells #[.int .i64 t.f.k, .int .i64 t.f.n, .int .i64 t.f.mn, .int .i64 t.f.mx, .slice t.f.rq t.f.rs.length t.f.rc, .slice t.f.kq t.f.kl t.f.kc] 25)).alloc (.cells #[.bool c, .bool f] 27)).alloc (.cells #[.bool false] 4)) = w1 at N0 M0 E0 B0 ⊢
  generalize hbm : w.heap.size + 1 = bmo at M0 E0 ⊢
  generalize hbe : bmo + 1 = be at E0 ⊢
  have hbe2 : w.heap.size ≤ be := by omega
  clear hbm hbe
  by_cases hr0 : r = 0
  · have e0 : (r != 0) = false := by simpa using hr0
    have hR : rightM c f 0 0 (pp [] t) = 0 := HR.out.trans hr0
    have HRR := hide hR
    have hlen := right_len hR
    have HLEN := hide hlen
    clear hr0 hR hlen
    go_upto_region 7 with first | (go_at_call 11; (with_reducible refine (all_c _ _).mono ?_); rintro e w7 ⟨rfl, rfl⟩) | (go_at_call 10; (with_reducible refine (RT.out _ X5.out.2.2.2.1).mono ?_); rintro e w6 ⟨rfl, a4⟩; have X6 : Hid (BoxN w6 w.heap.size t.f ∧ w6.heap[be]? = some (.cells #[.bool false] 4 (0, 0)) ∧ Below w.heap.size w w6) := ⟨(a4.block _ (lt_of_heap X5.out.1)).trans X5.out.1, (a4.block _ (lt_of_heap X5.out.2.2.1)).trans X5.out.2.2.1, chain X5.out.2.2.2.2 a4 (Nat.le_refl _)⟩; clear a4; obtain ⟨k0, k1, k2, k3, k4, k5⟩ := X6.out.1.six; simp only [Nat.zero_add] at k1 k2 k3 k4 k5) | (go_at_call 9; (with_reducible refine (examples8_c _).mono ?_); rintro e w5 ⟨rfl, a4⟩; have X5 : Hid (BoxN w5 w.heap.size t.f ∧ w5.heap[bmo]? = some (.cells #[.bool c, .bool f] 27 (0, 0)) ∧ w5.heap[be]? = some (.cells #[.bool false] 4 (0, 0)) ∧ TA w5 t ∧ Below w.heap.size w w5) := ⟨(a4.block _ (lt_of_heap N0.out)).trans N0.out, (a4.block _ (lt_of_heap M0.out)).trans M0.out, (a4.block _ (lt_of_heap E0.out)).trans E0.out, (HTA.out.kept B0.out).kept a4, chain B0.out a4 (Nat.le_refl _)⟩; clear a4; obtain ⟨p0, p1, p2, p3, p4, p5⟩ := X5.out.1.six; simp only [Nat.zero_add] at p1 p2 p3 p4 p5; have pm0 := cell_row X5.out.2.1 (i := 0) rfl; have pm1 := cell_row X5.out.2.1 (i := 1) rfl)
    have W8 : ∃ w8, ((((w6.alloc (.cells #[.int .i64 t.f.k, .int .i64 t.f.n, .int .i64 t.f.mn, .int .i64 t.f.mx, .slice t.f.rq t.f.rs.length t.f.rc, .slice t.f.kq t.f.kl t.f.kc] 25)).alloc (.cells #[.int .i64 0] 3)).alloc (.cells #[.int .i64 0] 3)).alloc (.cells #[.int .i64 0] 3)) = w8 := ⟨_, rfl⟩
    obtain ⟨w8, hw8⟩ := W8
    have K8 : Below w6.heap.size w6 w8 := by
      rw [← hw8]
      exact ((((Below.refl _ _).alloc (Nat.le_refl _) _).alloc (by simp) _).alloc (by rw [World.size_alloc, World.size_alloc]; omega) _).alloc (by rw [World.size_alloc, World.size_alloc, World.size_alloc]; omega) _
    have L8 : BoxN w8 w6.heap.size t.f := by
      rw [← hw8]
      exact (Below.heap_alloc _ _ _ (by simp only [World.size_alloc]; omega)).trans ((Below.heap_alloc _ _ _ (by simp only [World.size_alloc]; omega)).trans ((Below.heap_alloc _ _ _ (by simp only [World.size_alloc]; omega)).trans (alloc_new w6 _)))
    have M8 : BoxI w8 (w6.heap.size + 1) 0 := by
      rw [← hw8]
      refine (Below.heap_alloc _ _ _ (by simp only [World.size_alloc]; omega)).trans ((Below.heap_alloc _ _ _ (by simp only [World.size_alloc]; omega)).trans ?_)
      have := alloc_new (w6.alloc (.cells #[.int .i64 t.f.k, .int .i64 t.f.n, .int .i64 t.f.mn, .int .i64 t.f.mx, .slice t.f.rq t.f.rs.length t.f.rc, .slice t.f.kq t.f.kl t.f.kc] 25)) (.cells #[.int .i64 0] 3)
      rwa [World.size_alloc] at this
    have D8 : BoxI w8 (w6.heap.size + 1 + 1) 0 := by
      rw [← hw8]
      refine (Below.heap_alloc _ _ _ (by simp only [World.size_alloc]; omega)).trans ?_
      have := alloc_new ((w6.alloc (.cells #[.int .i64 t.f.k, .int .i64 t.f.n, .int .i64 t.f.mn, .int .i64 t.f.mx, .slice t.f.rq t.f.rs.length t.f.rc, .slice t.f.kq t.f.kl t.f.kc] 25)).alloc (.cells #[.int .i64 0] 3)) (.cells #[.int .i64 0] 3)
      rwa [World.size_alloc, World.size_alloc] at this
    have G8 : BoxI w8 (w6.heap.size + 1 + 1 + 1) 0 := by
      rw [← hw8]
      have := alloc_new (((w6.alloc (.cells #[.int .i64 t.f.k, .int .i64 t.f.n, .int .i64 t.f.mn, .int .i64 t.f.mx, .slice t.f.rq t.f.rs.length t.f.rc, .slice t.f.kq t.f.kl t.f.kc] 25)).alloc (.cells #[.int .i64 0] 3)).alloc (.cells #[.int .i64 0] 3)) (.cells #[.int .i64 0] 3)
      rwa [World.size_alloc, World.size_alloc, World.size_alloc] at this
    have N8 : BoxN w8 w.heap.size t.f := (K8.block _ (lt_of_heap X6.out.1)).trans X6.out.1
    have E8 : w8.heap[be]? = some (.cells #[.bool false] 4 (0, 0)) := (K8.block _ (lt_of_heap X6.out.2.1)).trans X6.out.2.1
    have B8 : Below w.heap.size w w8 := chain X6.out.2.2 K8 (Nat.le_refl _)
    have hs6 := X6.out.2.2.size
    have HX := hide (⟨K8, L8, M8, D8, G8, N8, E8, B8⟩ : _ ∧ _ ∧ _ ∧ _ ∧ _ ∧ _ ∧ _ ∧ _)
    have HW8 := hide hw8
    clear K8 L8 M8 D8 G8 N8 E8 B8 hw8
    go_wp2
    rw [HW8.out]
    obtain ⟨K8, L8, M8, D8, G8, N8, E8, B8⟩ := HX.out
    have l8 := lt_of_heap L8
    have lm := lt_of_heap M8
    have ld := lt_of_heap D8
    have lg := lt_of_heap G8
    have le := lt_of_heap E8
    have ln := lt_of_heap N8
    clear HX K8 HW8 k0 k1 k2 k3 k4 k5 p0 p1 p2 p3 p4 p5 pm0 pm1 X5 X6 N0 M0 E0 B0
    generalize hq1 : w6.heap.size + 1 = bm at M8 D8 G8 lm ld lg ⊢
    generalize hq2 : bm + 1 = bd at D8 G8 ld lg ⊢
    generalize hq3 : bd + 1 = bg at G8 lg ⊢
    generalize w6.heap.size = bq at L8 l8 hq1 hs6 ⊢
    have hwb : w.heap.size ≤ bm ∧ w.heap.size ≤ bd ∧ w.heap.size ≤ bg := by omega
    have hne : bm ≠ bd ∧ bm ≠ bg ∧ bd ≠ bg := by omega
    have hlt : bm < w8.heap.size ∧ bd < w8.heap.size ∧ bg < w8.heap.size := ⟨lm, ld, lg⟩
    have HWB := hide hwb
    have HNE := hide hne
    have HLT := hide hlt
    clear hq1 hq2 hq3 hwb hne hlt lm ld lg
    refine (wpIn_wide (n := n)).1 ?_
    refine rangeP hn 27 28 bq rfl rfl L8 HTA.out (CK.of_below B8) (SI w t w.heap.size be bm bd bg) (fun _ _ _ => False) (fun pre A A' row h hg hr => h.row B8.size hg hr) (fun _ _ _ _ _ h _ _ => h) (fun pre W h => by have := h.len; omega) ⟨N8, E8, M8, D8, G8, List.nil_prefix, B8⟩
      (fun s y x a' W => ∃ bx, BoxN W bx x.2 ∧ a' = { y with tmps := (y.tmps.setIfInBounds 10 (.int .i64 ((x.1.1.length : Int) + 1))).setIfInBounds 11 (.pointer (some ⟨bx, 0, none⟩)) }) ?_ ?_ ?_ ?_ (fun _ _ _ _ _ _ h _ => h.elim)
    · rintro s y x a' _ A A' row ⟨bx, h1, h2⟩ hg hr
      exact ⟨bx, cells_kept hg hr h1, h2⟩
    · intro l pre x V K _ _ hK
      simp only [roundP]
      gi_wp2
      exact hK _ _ ((Below.refl _ _).alloc (Nat.le_refl _) _) ⟨_, alloc_new V _, rfl⟩
    · rintro l pre x a' V0 V h ht ⟨bx, hbx, rfl⟩ hk0 hv0
      have hlen := h.len
      have hgp : x.2.k = 7 → x.2.n = (grpM (pre.map (·.1)) : Int) + 1 := fun z => by
        rw [ht.ok.n]
        have h1 : pre.map (·.1) ++ [x.1] <+: pp [] t := by
          have := ht.pfx
          rw [List.map_append] at this
          exact this.trans (List.take_prefix _ _)
        exact (right_grp HRR.out h1 (by rw [← ht.ok.k]; exact z)).1
      have hgl : grpM (pre.map (·.1)) ≤ 2000 := by have := grpM_le (pre.map (·.1)); rw [List.length_map] at this; omega
      have hkx := ht.ok.k
      have HE := hide (fun V' (a1 : Fr (fun z => z = bm ∨ z = bd ∨ z = bg) V V') a2 a3 a4 => snd_end h HWB.out HLT.out HNE.out hk0 ht (V' := V') a1 a2 a3 a4)
      rw [← hkx] at HE
      have hm := h.m
      have hd := h.d
      have hg := h.g
      generalize grpM (pre.map (·.1)) = G at HE hgp hgl hg
      generalize deepM (pre.map (·.1)) = Dp at HE hd
      generalize pre.length = P at HE hlen hm
      obtain ⟨ne1, ne2, ne3⟩ := HNE.out
      have hbm : bm ≠ bx := ty_ne hm hbx (by decide)
      have hbd : bd ≠ bx := ty_ne hd hbx (by decide)
      have hbg : bg ≠ bx := ty_ne hg hbx (by decide)
      have mx := max_run Try.prog #[3, 3] 3
      have F1 := BoxI.fr (W := V) (b := bm) (.int .i64 ((P : Int) + 1))
      have m1 := hm.set ((P : Int) + 1)
      have d1 : BoxI (V.setCell ⟨bm, 0, none⟩ (.int .i64 ((P : Int) + 1))) bd (Dp : Int) := fr_typed F1 hd (fun e => ne1 e.symm)
      have g1 : BoxI (V.setCell ⟨bm, 0, none⟩ (.int .i64 ((P : Int) + 1))) bg (G : Int) := fr_typed F1 hg (fun e => ne2 e.symm)
      have x1 : BoxN (V.setCell ⟨bm, 0, none⟩ (.int .i64 ((P : Int) + 1))) bx x.2 := fr_typed F1 hbx (fun e => hbm e.symm)
      have F2 := BoxI.fr (W := (V.setCell ⟨bm, 0, none⟩ (.int .i64 ((P : Int) + 1)))) (b := bd) (.int .i64 (max (Dp : Int) ((x.1.1.length : Int) + 1)))
      have m2 : BoxI ((V.setCell ⟨bm, 0, none⟩ (.int .i64 ((P : Int) + 1))).setCell ⟨bd, 0, none⟩ (.int .i64 (max (Dp : Int) ((x.1.1.length : Int) + 1)))) bm ((P : Int) + 1) := fr_typed F2 m1 ne1
      have d2 := d1.set (max (Dp : Int) ((x.1.1.length : Int) + 1))
      have g2 : BoxI ((V.setCell ⟨bm, 0, none⟩ (.int .i64 ((P : Int) + 1))).setCell ⟨bd, 0, none⟩ (.int .i64 (max (Dp : Int) ((x.1.1.length : Int) + 1)))) bg (G : Int) := fr_typed F2 g1 (fun e => ne3 e.symm)
      have x2 : BoxN ((V.setCell ⟨bm, 0, none⟩ (.int .i64 ((P : Int) + 1))).setCell ⟨bd, 0, none⟩ (.int .i64 (max (Dp : Int) ((x.1.1.length : Int) + 1)))) bx x.2 := fr_typed F2 x1 (fun e => hbd e.symm)
      have F3 := BoxI.fr (W := ((V.setCell ⟨bm, 0, none⟩ (.int .i64 ((P : Int) + 1))).setCell ⟨bd, 0, none⟩ (.int .i64 (max (Dp : Int) ((x.1.1.length : Int) + 1))))) (b := bg) (.int .i64 ((G : Int) + 1))
      have m3 : BoxI (((V.setCell ⟨bm, 0, none⟩ (.int .i64 ((P : Int) + 1))).setCell ⟨bd, 0, none⟩ (.int .i64 (max (Dp : Int) ((x.1.1.length : Int) + 1)))).setCell ⟨bg, 0, none⟩ (.int .i64 ((G : Int) + 1))) bm ((P : Int) + 1) := fr_typed F3 m2 ne2
      have d3 : BoxI (((V.setCell ⟨bm, 0, none⟩ (.int .i64 ((P : Int) + 1))).setCell ⟨bd, 0, none⟩ (.int .i64 (max (Dp : Int) ((x.1.1.length : Int) + 1)))).setCell ⟨bg, 0, none⟩ (.int .i64 ((G : Int) + 1))) bd (max (Dp : Int) ((x.1.1.length : Int) + 1)) := fr_typed F3 d2 ne3
      have g3 := g2.set ((G : Int) + 1)
      have x3 : BoxN (((V.setCell ⟨bm, 0, none⟩ (.int .i64 ((P : Int) + 1))).setCell ⟨bd, 0, none⟩ (.int .i64 (max (Dp : Int) ((x.1.1.length : Int) + 1)))).setCell ⟨bg, 0, none⟩ (.int .i64 ((G : Int) + 1))) bx x.2 := fr_typed F3 x2 (fun e => hbg e.symm)
      have FF2 : Hid (Fr (fun z => z = bm ∨ z = bd ∨ z = bg) V ((V.setCell ⟨bm, 0, none⟩ (.int .i64 ((P : Int) + 1))).setCell ⟨bd, 0, none⟩ (.int .i64 (max (Dp : Int) ((x.1.1.length : Int) + 1))))) := (F1.mono (fun k e => .inl e)).trans (F2.mono (fun k e => .inr (.inl e)))
      have FF3 : Hid (Fr (fun z => z = bm ∨ z = bd ∨ z = bg) V (((V.setCell ⟨bm, 0, none⟩ (.int .i64 ((P : Int) + 1))).setCell ⟨bd, 0, none⟩ (.int .i64 (max (Dp : Int) ((x.1.1.length : Int) + 1)))).setCell ⟨bg, 0, none⟩ (.int .i64 ((G : Int) + 1)))) := FF2.out.trans (F3.mono (fun k e => .inr (.inr e)))
      have A0 := frz_row hm 0
      have a0 := hm.cell
      have A1 := frz_row d1 0
      have a1 := d1.cell
      have A2 := frz_row g2 0
      have a2 := g2.cell
      have y2 : ((V.setCell ⟨bm, 0, none⟩ (.int .i64 ((P : Int) + 1))).setCell ⟨bd, 0, none⟩ (.int .i64 (max (Dp : Int) ((x.1.1.length : Int) + 1)))).cell? ⟨bx, 0, none⟩ = some (.int .i64 x.2.k) := x2.six.1
      have y3 : (((V.setCell ⟨bm, 0, none⟩ (.int .i64 ((P : Int) + 1))).setCell ⟨bd, 0, none⟩ (.int .i64 (max (Dp : Int) ((x.1.1.length : Int) + 1)))).setCell ⟨bg, 0, none⟩ (.int .i64 ((G : Int) + 1))).cell? ⟨bx, 1, none⟩ = some (.int .i64 x.2.n) := x3.six.2.1
      have a3 := g3.cell
      have R2 := hide (⟨m2, d2, g2⟩ : _ ∧ _ ∧ _)
      have R3 := hide (⟨m3, d3, g3⟩ : _ ∧ _ ∧ _)
      clear F1 F2 F3 m1 d1 g1 x1 m2 d2 g2 x2 m3 d3 g3 x3 hm hd hg hkx h ht hk0 hv0
      by_cases hk : x.2.k = 7
      · have hn := hgp hk
        have e1 : (x.2.k == 7) = true := by simpa using hk
        have e2 : (x.2.n != (G : Int) + 1) = false := by simpa using hn
        have HK := hide hk
        clear hgp hn hk
        simp only [roundP]
        gi_wp2
        exact HE.out _ FF3.out R3.out.1 R3.out.2.1 (by rw [if_pos HK.out]; exact R3.out.2.2)
      · have e1 : (x.2.k == 7) = false := by simpa using hk
        have HK := hide hk
        clear hgp hk
        simp only [roundP]
        gi_wp2
        exact HE.out _ FF2.out R2.out.1 R2.out.2.1 (by rw [if_neg HK.out, Int.add_zero]; exact R2.out.2.2)
    · rintro D xs V hD hxs h hK
      have hl : (pp [] t).length ≤ 2000 := HLEN.out
      have he : xs.map (·.1) = pp [] t := by rw [hxs, List.take_of_length_le hl]
      have hd := right_deep HRR.out
      have hg := right_grps HRR.out
      have bm0 := h.m
      have bd0 := h.d
      have bg0 := h.g
      rw [show xs.length = (pp [] t).length by rw [← he, List.length_map]] at bm0
      rw [he] at bd0 bg0
      have TV : TA V t := HTA.out.kept h.bel
      have CN : Hid (∀ z : Ext V, Calls Try.prog 12 #[.agg #[.int .i64 t.f.k, .int .i64 t.f.n, .int .i64 t.f.mn, .int .i64 t.f.mx, .slice t.f.rq t.f.rs.length t.f.rc, .slice t.f.kq t.f.kl t.f.kc]] z.val fun e w'' => e = .returned (.int .i64 ((pp [] t).length : Int)) ∧ ∃ y : Ext V, w'' = y.val) := fun z => ext_call ((cnt_c (TV.kept (ext_below z))).mono fun e w' ⟨h1, h2⟩ => ⟨by rw [h1]; unfold cntT; rw [Nat.min_eq_left (by omega)], h2⟩)
      have DN : Hid (∀ z : Ext V, Calls Try.prog 13 #[.agg #[.int .i64 t.f.k, .int .i64 t.f.n, .int .i64 t.f.mn, .int .i64 t.f.mx, .slice t.f.rq t.f.rs.length t.f.rc, .slice t.f.kq t.f.kl t.f.kc]] z.val fun e w'' => e = .returned (.int .i64 (deepM (pp [] t) : Int)) ∧ ∃ y : Ext V, w'' = y.val) := fun z => ext_call ((depth_c (TV.kept (ext_below z))).mono fun e w' ⟨h1, h2⟩ => ⟨by rw [h1, if_neg (by omega)], h2⟩)
      have GN : Hid (∀ z : Ext V, Calls Try.prog 14 #[.agg #[.int .i64 t.f.k, .int .i64 t.f.n, .int .i64 t.f.mn, .int .i64 t.f.mx, .slice t.f.rq t.f.rs.length t.f.rc, .slice t.f.kq t.f.kl t.f.kc]] z.val fun e w'' => e = .returned (.int .i64 (grpM (pp [] t) : Int)) ∧ ∃ y : Ext V, w'' = y.val) := fun z => ext_call ((groups_c (TV.kept (ext_below z))).mono fun e w' ⟨h1, h2⟩ => ⟨by rw [h1, if_neg (by omega)], h2⟩)
      generalize (pp [] t).length = P at CN bm0 hl
      generalize deepM (pp [] t) = Dp at DN bd0 hd
      generalize grpM (pp [] t) = G at GN bg0 hg
      have hl' : (P : Int) ≤ 2000 := by omega
      have hd' : (Dp : Int) ≤ 40 := by omega
      have hg' : (G : Int) ≤ 30 := by omega
      have a0 := bm0.cell
      have a1 := bd0.cell
      have a2 := bg0.cell
      have lm := lt_of_heap bm0
      have ld := lt_of_heap bd0
      have lg := lt_of_heap bg0
      have lnn := lt_of_heap h.nd
      obtain ⟨c0, c1, c2, c3, c4, c5⟩ := h.nd.six
      simp only [Nat.zero_add] at c1 c2 c3 c4 c5
      have HE := hide h.res
      have HB := hide h.bel
      have HK := hide hK
      have HD := hide hD
      clear h hK hD bm0 bd0 bg0 TV he hxs hl hd hg
      simp only [behindN]
      go_upto_region 19 with fail
      refine wp_region_last_lit (List.cons_ne_nil _ _) (by kernel_rfl) (by kernel_rfl) (by kernel_rfl) ?_
      dsimp only [List.dropLast, List.getLast]
      repeat (go_big_quiet_step (first | exact rfl | (go_at_call 12; with_reducible exact CN.out _) | (go_at_call 13; with_reducible exact DN.out _) | (go_at_call 14; with_reducible exact GN.out _)))
      refine wpQuiet_nil ?_
      intro w9 hw
      have B9 := hide (ext_of hw)
      have E9 : w9.heap[be]? = some (.cells #[.bool false] 4 (0, 0)) := (B9.out.block _ (lt_of_heap HE.out)).trans HE.out
      have f9 := frz_row E9 0
      have e9 := cell_row E9 (i := 0) rfl
      have E6 := hide (heap_set_in E9 0 (.bool true))
      have F6 := hide ((Fr.refl (fun z => z = be) w9).setCell (p := ⟨be, 0, none⟩) rfl (.bool true))
      clear hw E9
      go_wp2
      have hDb : be ≠ D := by have := HD.out; omega
      have cw : ((w9.setCell ⟨be, 0, none⟩ (.bool true)).putObj D (.deferred none)).cell? ⟨be, 0, none⟩ = some (.bool true) := cell_row ((World.putObj_heap_other hDb).trans E6.out) (i := 0) rfl
      refine ⟨by simp, .inl ⟨_, _, rfl, run_takeDeferred ((F6.out.block _ (Nat.lt_of_lt_of_le (lt_of_heap HK.out) B9.out.size) (by have := HD.out; omega)).trans ((B9.out.block _ (lt_of_heap HK.out)).trans HK.out)), ?_⟩⟩
      exact ⟨.bool true, by simp [results, Try.results3, go_sem, cw], rfl, bel_put _ (chainF (chain HB.out B9.out (Nat.le_refl _)) F6.out (Nat.le_refl _) (fun k e => by omega)) (Nat.le_trans B8.size HD.out)⟩
  · have e0 : (r != 0) = true := by simpa using hr0
    clear hr0
    go_wp2_with first | (go_at_call 10; (with_reducible refine (RT.out _ X5.out.2.2.2.1).mono ?_); rintro e w6 ⟨rfl, a4⟩; have X6 : Hid (BoxN w6 w.heap.size t.f ∧ w6.heap[be]? = some (.cells #[.bool false] 4 (0, 0)) ∧ Below w.heap.size w w6) := ⟨(a4.block _ (lt_of_heap X5.out.1)).trans X5.out.1, (a4.block _ (lt_of_heap X5.out.2.2.1)).trans X5.out.2.2.1, chain X5.out.2.2.2.2 a4 (Nat.le_refl _)⟩; clear a4; have r6 := cell_row X6.out.2.1 (i := 0) rfl; have z6 := frz_row X6.out.2.1 0) | (go_at_call 9; (with_reducible refine (examples8_c _).mono ?_); rintro e w5 ⟨rfl, a4⟩; have X5 : Hid (BoxN w5 w.heap.size t.f ∧ w5.heap[bmo]? = some (.cells #[.bool c, .bool f] 27 (0, 0)) ∧ w5.heap[be]? = some (.cells #[.bool false] 4 (0, 0)) ∧ TA w5 t ∧ Below w.heap.size w w5) := ⟨(a4.block _ (lt_of_heap N0.out)).trans N0.out, (a4.block _ (lt_of_heap M0.out)).trans M0.out, (a4.block _ (lt_of_heap E0.out)).trans E0.out, (HTA.out.kept B0.out).kept a4, chain B0.out a4 (Nat.le_refl _)⟩; clear a4; obtain ⟨p0, p1, p2, p3, p4, p5⟩ := X5.out.1.six; simp only [Nat.zero_add] at p1 p2 p3 p4 p5; have pm0 := cell_row X5.out.2.1 (i := 0) rfl; have pm1 := cell_row X5.out.2.1 (i := 1) rfl)
    have cw : (w6.setCell ⟨be, 0, none⟩ (.bool true)).cell? ⟨be, 0, none⟩ = some (.bool true) := cell_row (heap_set_in X6.out.2.1 0 (.bool true)) (i := 0) rfl
    exact ⟨.bool true, by simp [results, Try.results3, go_sem, cw], rfl, chainF X6.out.2.2 ((Fr.refl (fun z => z = be) w6).setCell (p := ⟨be, 0, none⟩) rfl (.bool true)) (Nat.le_refl _) (fun k e => by omega)⟩
theorem law_sound {w : World} {t : Tr} (c f : Bool) (hta : TA w t) :
    Calls Try.prog 3 #[.agg #[.int .i64 t.f.k, .int .i64 t.f.n, .int .i64 t.f.mn, .int .i64 t.f.mx, .slice t.f.rq t.f.rs.length t.f.rc, .slice t.f.kq t.f.kl t.f.kc], .agg #[.bool c, .bool f]] w fun e w' => e = .returned (.bool true) ∧ Below w.heap.size w w' := callsIn_wide.1 (sound_in 4 (by decide) c f hta)
end Go.Proofs.Ytlodjinejeajcaa
