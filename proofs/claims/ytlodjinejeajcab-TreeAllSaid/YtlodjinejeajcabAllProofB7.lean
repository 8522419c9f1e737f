/-
  All: a range over a tree's nodes, each in memory of its own. goes: All of a tree tells some nodes, the first most of them. TreeAll: All of any tree: left early, and again; what was handed in stays. A tree, as it comes in.
-/
import Derived.Test.YtlodjinejeajcabAllProofB6
import Derived.Test.YtlodjinejeajcabAllProofB5
import Derived.Test.YtlodjinejeajcabC17
import Derived.Test.YtlodjinejeajcabC1
import Derived.Test.YtlodjinejeajcabC0
import Derived.Deep.Slices
import Derived.Deep.SlicePairs
import Derived.ChangeSame
import Derived.SizedLaws
namespace Go.Proofs.Ytlodjinejeajcab
open Go Go.RowKit Go.Shelf
attribute [local go_sem] Oper.semAt_some

theorem cellsP_get : ∀ (l : List (El × Fl)) (i j : Nat) (z : El × Fl), l[i]? = some z → j < 7 → (cellsP l)[i * 7 + j]? = (plC z)[j]?
  | y :: l, 0, j, z, h, hj => by
    simp at h
    subst h
    simp only [cellsP, List.flatMap_cons]
    rw [Nat.zero_mul, Nat.zero_add, List.getElem?_append_left (by simpa [plC, Fl.cells] using hj)]
  | y :: l, i + 1, j, z, h, hj => by
    have ih := cellsP_get l i j z (by simpa using h) hj
    simp only [cellsP, List.flatMap_cons] at ih ⊢
    rw [List.getElem?_append_right (by simp [plC, Fl.cells]; omega), ← ih]
    congr 1
    simp [plC, Fl.cells]
    omega
/-- A place's seven cells. -/
theorem plc_cells {W : World} {b g n c : Nat} {l : List (El × Fl)} (h : W.ownsRow b 77 7 (.slice (some ⟨g, 0, none⟩) n c) n (cellsP l)) {i : Nat} {z : El × Fl} (hi : l[i]? = some z) :
    W.cell? ⟨g, i * 7, none⟩ = some (.int .i64 ((z.1.1.length : Int) + 1)) ∧ Six W g (i * 7 + 1) z.2 := by
  have at' : ∀ (j : Nat) (u : Value), (plC z)[j]? = some u → W.cell? ⟨g, i * 7 + j, none⟩ = some u := fun j u hj =>
    ownsRow_cell h ((cellsP_get l i j z hi (by have := (List.getElem?_eq_some_iff.1 hj).1; simpa [plC, Fl.cells] using this)).trans hj)
  exact ⟨at' 0 _ rfl, at' 1 _ rfl, at' 2 _ rfl, at' 3 _ rfl, at' 4 _ rfl, at' 5 _ rfl, at' 6 _ rfl⟩
theorem PlOk.row {W W' : World} {b B : Nat} {x : El} {m : Fl} {row : Option Nat} (h : PlOk b W x m) (hg : W.grownBy W' row) (hr : ∀ r, row = some r → B ≤ r ∧ ∃ o : Obj, W.heap[r]? = some o ∧ o.isCells = false) : PlOk b W' x m := by
  refine ⟨h.k, h.n, h.mn, h.mx, h.rs, h.kq, h.rr.1, ?_⟩
  rcases h.rr.2 with z | ⟨g, cap, cur, z1, z2, z3, z4⟩
  · exact .inl z
  · exact .inr ⟨g, cap, cur, z1, z2, cells_kept hg hr z3, z4⟩
theorem PlOk.ckN {N : Nat → Prop} {W W' : World} {b : Nat} {x : El} {m : Fl} (h : PlOk b W x m) (hc : CKeep N W W') (hN : ∀ k, (Value.slice m.rq m.rs.length m.rc).ownBlock = some k → N k) : PlOk b W' x m := by
  refine ⟨h.k, h.n, h.mn, h.mx, h.rs, h.kq, h.rr.1, ?_⟩
  rcases h.rr.2 with z | ⟨g, cap, cur, z1, z2, z3, z4⟩
  · exact .inl z
  · exact .inr ⟨g, cap, cur, z1, z2, hc.same _ _ _ _ (hN g (by rw [z1]; rfl)) z3, z4⟩
theorem ownsRow_ckN {N : Nat → Prop} {W W' : World} {b : Nat} {e : TypeId} {size n : Nat} {v : Value} {xs : List Value} (h : W.ownsRow b e size v n xs) (hc : CKeep N W W') (hN : ∀ k, v.ownBlock = some k → N k) : W'.ownsRow b e size v n xs := by
  refine ⟨h.1, ?_⟩
  rcases h.2 with z | ⟨g, cap, cur, z1, z2, z3, z4⟩
  · exact .inl z
  · exact .inr ⟨g, cap, cur, z1, z2, hc.same _ _ _ _ (hN g (by rw [z1]; rfl)) z3, z4⟩
def encP (z : El × Fl) : Array Value := #[.int .i64 ((z.1.1.length : Int) + 1), .agg #[.int .i64 z.2.k, .int .i64 z.2.n, .int .i64 z.2.mn, .int .i64 z.2.mx, .slice z.2.rq z.2.rs.length z.2.rc, .slice z.2.kq z.2.kl z.2.kc]]
/-- What a body may change of what it was handed: the Ranges of its node. -/
def KQ (b : Nat) (z : El × Fl) (V V' : World) : Prop := CKeep (fun k => b ≤ k ∧ (Value.slice z.2.rq z.2.rs.length z.2.rc).ownBlock ≠ some k) V V'
theorem KQ.below {b : Nat} {z : El × Fl} {W W' : World} (hb : Below W.heap.size W W') : KQ b z W W' := ⟨hb.size, fun k _ _ _ _ hc => (hb.block k (lt_of_heap hc)).trans hc⟩
structure ToldP (b : Nat) (t : Tr) (pre : List (El × Fl)) (z : El × Fl) (V : World) : Prop where
  ok : PlOk b V z.1 z.2
  pfx : (pre ++ [z]).map (·.1) <+: (pp [] t).take 2000

set_option maxRecDepth 100000 in
set_option maxHeartbeats 4000000 in
theorem all_tells (n : Nat) (hn : 3 ≤ n) {w0 w : World} {b : Nat} {t : Tr} (hB : BoxN w b t.f) (hta : TA w0 t) (hck : CK w0 w) :
    TellsK n Try.prog 42 #[.pointer (some ⟨b, 0, none⟩)] encP (KQ w.heap.size) (ToldP w.heap.size t) (fun xs => xs.map (·.1) = (pp [] t).take 2000) (fun pre => pre.map (·.1) <+: (pp [] t).take 2000) w := by
  intro l J Jx V hV hJ hJx hb hY h0
  have hfn : ∀ f, Fence.wide.fn f := fun _ => trivial
  have HB : Hid (BoxN V b t.f) := (hV.block _ (lt_of_heap hB)).trans hB
  have hck2 : CK w0 V := hck.step ⟨hV.size, fun k _ _ _ _ hc => (hV.block k (lt_of_heap hc)).trans hc⟩
  have PL := hide (places_in n hn (hta.ck hck2))
  have hVs := hV.size
  obtain ⟨c0, c1, c2, c3, c4, c5⟩ := HB.out.six
  simp only [Nat.zero_add] at c1 c2 c3 c4 c5
  have HJ0 := hide h0
  have HY := hide hY
  clear hb h0 hB hta hck hck2 hV
  refine callsIn_of_wp Try.func42 rfl trivial ?_ rfl
  simp only [Try.ntmps42, List.size_toArray, List.length_cons, List.length_nil, Nat.reduceAdd, Nat.reduceSub, Array.replicate_succ, Array.replicate_zero, List.push_toArray, List.append_toArray, List.nil_append, List.cons_append]
  gi_wp2
  refine ⟨(fun z => by cases z), (callsIn_wide.2 (callsIn_wide.1 PL.out)).mono ?_⟩
  rintro e W1 ⟨ms, q, c, rfl, hm1, hm2, hm3, hm4, hm5⟩
  have hms : ms.length ≤ 2000 := by
    have := congrArg List.length hm1
    rw [List.length_map, List.length_take] at this
    omega
  have M1 := hide hm1
  have M4 := hide hm4
  have J1 : Hid (J [] W1) := ownFrom_below hJ HJ0.out hm5
  have R1 : Hid (W1.ownsRow w.heap.size 77 7 (.slice q ms.length c) ms.length (cellsP ms)) := ownsRow_mono hm2 hVs
  have P1 : Hid (∀ z ∈ ms, PlOk w.heap.size W1 z.1 z.2) := fun z hz => ⟨(hm3 z hz).k, (hm3 z hz).n, (hm3 z hz).mn, (hm3 z hz).mx, (hm3 z hz).rs, (hm3 z hz).kq, RR.mono (hm3 z hz).rr hVs⟩
  clear hm1 hm2 hm3 hm4 hm5 c0 c1 c2 c3 c4 c5 PL HB HJ0
  gi_wp2
  gi_loopw [8] (fun i wr => ∃ j : Nat, j ≤ ms.length ∧ i = .int .i64 (j : Int) ∧ J (ms.take j) wr ∧ wr.ownsRow w.heap.size 77 7 (.slice q ms.length c) ms.length (cellsP ms) ∧ ∀ z ∈ ms.drop j, PlOk w.heap.size wr z.1 z.2) (fun i _ => ms.length - (intOf i).toNat)
  case atStart => exact ⟨0, Nat.zero_le _, rfl, J1.out, R1.out, P1.out⟩
  case round =>
    clear J1 R1 P1
    obtain ⟨j, hj, rfl, hj1, hj2, hj3⟩ := hrel
    have HJ := hide hj1
    have HR := hide hj2
    have HP := hide hj3
    clear hj1 hj2 hj3
    by_cases hjl : j < ms.length
    · have e0 : (j : Int) < (ms.length : Int) := by omega
      obtain ⟨z, hz⟩ : ∃ z, ms[j]? = some z := ⟨_, List.getElem?_eq_getElem hjl⟩
      have HZ := hide hz
      obtain ⟨g, cc, hq⟩ := ownsRow_some HR.out (by omega)
      injection hq with hq1 _ hq2
      subst hq1 hq2
      have hdr : ms.drop j = z :: ms.drop (j + 1) := by
        rw [List.drop_eq_getElem_cons hjl]
        congr 1
        rw [List.getElem?_eq_getElem hjl] at hz
        injection hz
      have htk : ms.take (j + 1) = ms.take j ++ [z] := by
        rw [List.take_add_one, hz]; rfl
      have htp : (ms.take j ++ [z]).map (·.1) <+: (pp [] t).take 2000 := by
        rw [← htk, ← M1.out, List.map_take]
        exact List.take_prefix _ _
      have HTK := hide htk
      obtain ⟨c0, c1, c2, c3, c4, c5, c6⟩ := plc_cells HR.out hz
      simp only [Nat.add_assoc, Nat.reduceAdd] at c2 c3 c4 c5 c6
      have B4 : Hid (Below wr.heap.size wr (wr.alloc (.cells #[.int .i64 ((z.1.1.length : Int) + 1), .int .i64 z.2.k, .int .i64 z.2.n, .int .i64 z.2.mn, .int .i64 z.2.mx, .slice z.2.rq z.2.rs.length z.2.rc, .slice z.2.kq z.2.kl z.2.kc] 77))) := (Below.refl _ _).alloc (Nat.le_refl _) _
      have N4 := alloc_new wr (.cells #[.int .i64 ((z.1.1.length : Int) + 1), .int .i64 z.2.k, .int .i64 z.2.n, .int .i64 z.2.mn, .int .i64 z.2.mx, .slice z.2.rq z.2.rs.length z.2.rc, .slice z.2.kq z.2.kl z.2.kc] 77)
      have d0 := cell_row N4 (i := 0) rfl
      have d1 := cell_row N4 (i := 1) rfl
      have d2 := cell_row N4 (i := 2) rfl
      have d3 := cell_row N4 (i := 3) rfl
      have d4 := cell_row N4 (i := 4) rfl
      have d5 := cell_row N4 (i := 5) rfl
      have d6 := cell_row N4 (i := 6) rfl
      have TZ : Hid (ToldP w.heap.size t (ms.take j) z (wr.alloc (.cells #[.int .i64 ((z.1.1.length : Int) + 1), .int .i64 z.2.k, .int .i64 z.2.n, .int .i64 z.2.mn, .int .i64 z.2.mx, .slice z.2.rq z.2.rs.length z.2.rc, .slice z.2.kq z.2.kl z.2.kc] 77))) := ⟨(HP.out z (by rw [hdr]; exact List.mem_cons_self ..)).ckN (CK.of_below B4.out) (fun k hk => (ownsRow_at (HP.out z (by rw [hdr]; exact List.mem_cons_self ..)).rr hk).2.1), htp⟩
      obtain ⟨fn, tmps, assign, body, hy, hR⟩ := HY.out (ms.take j) z _ (hJ.alloc _ HJ.out) TZ.out
      simp only [encP] at hy
      clear N4 hz htk htp
      gi_wp2
      refine ⟨(fun z => by cases z), hR.mono ?_⟩
      rintro e W3 ⟨-, (⟨rfl, hJ3, hk3⟩ | ⟨rfl, hJx3⟩)⟩
      · have HN : Hid (J (ms.take (j + 1)) W3) := (by rw [HTK.out]; exact hJ3)
        have HR3 : Hid (W3.ownsRow w.heap.size 77 7 (.slice (some ⟨g, 0, none⟩) ms.length c) ms.length (cellsP ms)) := ownsRow_ckN (ownsRow_ckN HR.out (CK.of_below B4.out) (fun k hk => (ownsRow_at HR.out hk).2.1)) hk3 (fun k hk => ⟨(ownsRow_at HR.out hk).1, ownsRow_ne HR.out (HP.out z (by rw [hdr]; exact List.mem_cons_self ..)).rr (by decide) hk⟩)
        have HP3 : Hid (∀ y ∈ ms.drop (j + 1), PlOk w.heap.size W3 y.1 y.2) := fun y hy => (by
          have hy1 := HP.out y (by rw [hdr]; exact List.mem_cons_of_mem _ hy)
          refine (hy1.ckN (CK.of_below B4.out) (fun k hk => (ownsRow_at hy1.rr hk).2.1)).ckN hk3 (fun k hk => ⟨(ownsRow_at hy1.rr hk).1, fun hk2 => ?_⟩)
          have hpw : (ms.drop j).Pairwise Ap8 := M4.out.sublist (List.drop_sublist _ _)
          rw [hdr, List.pairwise_cons] at hpw
          exact hpw.1 y hy k hk2 hk)
        clear hJ3 hk3 hy hR c0 c1 c2 c3 c4 c5 c6 d0 d1 d2 d3 d4 d5 d6 TZ hdr
        gi_wp2
        go_roundw
        case rel => exact ⟨j + 1, by omega, by go_num, HN.out, HR3.out, HP3.out⟩
        case measure => simp only [intOf]; omega
      · have HN := hide hJx3
        have HT := hide TZ.out.pfx
        clear hJx3 hy hR c0 c1 c2 c3 c4 c5 c6 d0 d1 d2 d3 d4 d5 d6 TZ hdr
        gi_wp2
        ((try simp only [Exit.inBlock, Exit.then]); refine bodyPost_ret (results_none rfl _ _ _) rfl ?_)
        exact ⟨⟨_, rfl⟩, .inr ⟨_, HT.out, HN.out⟩⟩
    · have e0 : ¬ (j : Int) < (ms.length : Int) := by omega
      have HN : Hid (J ms wr) := (by have := HJ.out; rw [List.take_of_length_le (by omega)] at this; exact this)
      gi_wp2
      go_end0
      exact ⟨⟨_, rfl⟩, .inl ⟨ms, M1.out, HN.out⟩⟩
def roundP (a : Act) (q d : Nat) (z : El × Fl) : Act := { tmps := (a.tmps.setIfInBounds q (.int .i64 ((z.1.1.length : Int) + 1))).setIfInBounds d (.agg #[.int .i64 z.2.k, .int .i64 z.2.n, .int .i64 z.2.mn, .int .i64 z.2.mx, .slice z.2.rq z.2.rs.length z.2.rc, .slice z.2.kq z.2.kl z.2.kc]), defers := [] }
/-- A range over All of a tree. -/
theorem rangeP {g : Operand} {ps : Array Tmp} {assign body : Code} {Q : Exit → Act → World → Prop} {a : Act} {w : World} {n : Nat} (hn : 4 ≤ n) (q d : Nat) (b : Nat) {w0 : World} {t : Tr}
    (hg : a.eval g = .func (.func 42) #[] #[.pointer (some ⟨b, 0, none⟩)]) (hps : ps = #[q, d]) (hB : BoxN w b t.f) (hta : TA w0 t) (hck : CK w0 w)
    (I : List (El × Fl) → World → Prop) (Ix : Code → List (El × Fl) → World → Prop) (hI : OwnFrom w.heap.size I) (hIx : ∀ c, OwnFrom w.heap.size (Ix c)) (hbd : ∀ pre W, I pre W → pre.length ≤ 1000000) (h0 : I [] w)
    (Ax : Nat → Act → (El × Fl) → Act → World → Prop) (hAx : ∀ s y x a', OwnFrom w.heap.size (fun (_ : Unit) W => Ax s y x a' W))
    (hassign : ∀ (l : Nat) (pre : List (El × Fl)) (x : El × Fl) (W : World) (K : Act → World → Prop), I pre W → ToldP w.heap.size t pre x W → (∀ a' W', Below W.heap.size W W' → Ax W.heap.size (roundP a q d x) x a' W' → K a' W') →
      assign.wpIn (Fence.wide.inRound l) (n - 1 - 1) Try.prog (Exit.then K (fun _ _ _ => False)) (roundP a q d x) W)
    (hbody : ∀ (l : Nat) (pre : List (El × Fl)) (x : El × Fl) (a' : Act) (V0 V : World), I pre V → ToldP w.heap.size t pre x V → Ax V0.heap.size (roundP a q d x) x a' V → KQ w.heap.size x V0 V → V0.heap.size ≤ V.heap.size → body.wpIn (Fence.wide.inRound l) (n - 1 - 1) Try.prog (ownPostG w.heap.size (fun _ V' => KQ w.heap.size x V0 V') I Ix (pre ++ [x]) V) a' V)
    (hdone : ∀ (D : Nat) (xs : List (El × Fl)) (V : World), w.heap.size ≤ D → xs.map (·.1) = (pp [] t).take 2000 → I xs V → V.heap[D]? = some (.deferred (some [])) → Q .normal (behindN a D) V)
    (hstop : ∀ (D : Nat) (c : Code) (pre : List (El × Fl)) (V : World), w.heap.size ≤ D → pre.map (·.1) <+: (pp [] t).take 2000 → Ix c pre V → V.heap[D]? = some (.deferred (some [])) → c.wpIn Fence.wide n Try.prog Q (behindN a D) V) :
    (Code.rangeFunc g ps assign body).wpIn Fence.wide n Try.prog Q a w := by
  subst hps
  refine range_toldK (α := El × Fl) (Kp := KQ w.heap.size) (Told := ToldP w.heap.size t) (by omega) (gf := 42) hg (enters_of Try.func42 (by kernel_rfl) rfl) (encs := encP) (fun _ => rfl)
    CKeep.trans CKeep.put KQ.below (all_tells (n - 1) (by omega) hB hta hck) I Ix hI hIx ?_ hbd h0 (fun s x => Ax s (roundP a q d x) x) (fun s x => hAx s _ x) ?_ hbody hdone hstop
  · rintro pre x _ A A' row h hg hr
    exact ⟨h.ok.row hg hr, h.pfx⟩
  · intro l pre x V K hi ht hK
    have := hassign l pre x V K hi ht hK
    simpa [encP, roundP] using this
theorem all_c (w : World) (f : Fl) : Calls Try.prog 25 #[.agg #[.int .i64 f.k, .int .i64 f.n, .int .i64 f.mn, .int .i64 f.mx, .slice f.rq f.rs.length f.rc, .slice f.kq f.kl f.kc]] w fun e w' => e = .returned (.func (.func 42) #[] #[.pointer (some ⟨w.heap.size, 0, none⟩)]) ∧ w' = w.alloc (.cells #[.int .i64 f.k, .int .i64 f.n, .int .i64 f.mn, .int .i64 f.mx, .slice f.rq f.rs.length f.rc, .slice f.kq f.kl f.kc] 25) := by
  go_enter Try.func25, Try.ntmps25
  go_wp2
  go_ret
  exact ⟨rfl, rfl⟩
end Go.Proofs.Ytlodjinejeajcab
namespace Go.Proofs.Ytlodjinejeajcab
open Go Go.RowKit Go.Shelf
attribute [local go_sem] Oper.semAt_some ext_cell ext_frozen

theorem fn_nil9 (f : Fn) (a b : Array Value) (w : World) : (binOp .eql 51 (.func f a b) .nilFunc).run Try.prog w = .ok (.bool false) w := by kernel_rfl
attribute [local go_sem] fn_nil9
/-- How goes' range stands. -/
structure GI (w : World) (x : Tr) (Z : List Zl) (q : Option Addr) (cz : Nat) (most : Int) (bl bt be bi : Nat) (pre : List (El × Fl)) (V : World) : Prop where
  lb : V.heap[bl]? = some (.cells #[.slice q Z.length cz] 28 (0, 0))
  mb : BoxI V bt most
  res : V.heap[be]? = some (.cells #[.bool false] 4 (0, 0))
  ib : BoxI V bi (pre.length : Int)
  pfx : pre.map (·.1) <+: (pp [] x).take 2000
  bel : Below w.heap.size w V
section
variable {w : World} {x : Tr} {Z : List Zl} {q : Option Addr} {cz : Nat} {most : Int} {bl bt be bi : Nat}
theorem GI.row {B : Nat} {pre : List (El × Fl)} {V V' : World} {row : Option Nat} (h : GI w x Z q cz most bl bt be bi pre V) (hn : w.heap.size ≤ B) (hg : V.grownBy V' row) (hr : ∀ r, row = some r → B ≤ r ∧ ∃ o : Obj, V.heap[r]? = some o ∧ o.isCells = false) : GI w x Z q cz most bl bt be bi pre V' :=
  ⟨cells_kept hg hr h.lb, h.mb.row hg hr, cells_kept hg hr h.res, h.ib.row hg hr, h.pfx, bel_grown h.bel (Nat.le_refl _) hn hg hr⟩
theorem GI.len {pre : List (El × Fl)} {V : World} (h : GI w x Z q cz most bl bt be bi pre V) : pre.length ≤ 2000 := by
  have := h.pfx.length_le
  rw [List.length_map, List.length_take] at this
  omega
/-- What a round leaves. -/
theorem goes_end {V V0 V' : World} {t : Tr} {b1 : Nat} {pre : List (El × Fl)} {z : El × Fl} (h : GI w x Z q cz most bl bt be bi pre V) (hw : w.heap.size ≤ bi ∧ w.heap.size ≤ b1) (hlt : bi < b1 ∧ bl < b1 ∧ bt < b1 ∧ be < b1) (hne : bl ≠ bi ∧ bt ≠ bi ∧ be ≠ bi) (hk0 : KQ b1 z V0 V) (ht : ToldP b1 t pre z V) (htx : t = x)
    (hf : Fr (fun k => k = bi ∨ (Value.slice z.2.rq z.2.rs.length z.2.rc).ownBlock = some k) V V') (hi : BoxI V' bi ((pre.length : Int) + 1)) :
    KeepsFrom b1 V V' ∧ KQ b1 z V0 V' ∧ GI w x Z q cz most bl bt be bi (pre ++ [z]) V' := by
  subst htx
  have hr := ht.ok.rr
  have hlo : ∀ k, (Value.slice z.2.rq z.2.rs.length z.2.rc).ownBlock = some k → b1 ≤ k := fun k hk => (ownsRow_at hr hk).1
  refine ⟨⟨hf.size, fun k o hk ho hc => (hf.block k (lt_of_heap ho) fun hs => ?_).trans ho⟩, CKeep.trans hk0 ⟨hf.size, fun k cur ty fr hk hc => fr_typed hf hc (fun hs => ?_)⟩, ⟨fr_typed hf h.lb (fun hs => ?_), fr_typed hf h.mb (fun hs => ?_), fr_typed hf h.res (fun hs => ?_), ?_, ht.pfx, chainF h.bel hf (Nat.le_refl _) (fun k hs => ?_)⟩⟩
  · rcases hs with e | e
    · omega
    · obtain ⟨-, -, cur, q1⟩ := ownsRow_at hr e
      rw [q1] at ho; cases ho; cases hc
  · rcases hs with e | e
    · omega
    · exact hk.2 e
  · rcases hs with e | e
    · exact hne.1 e
    · have := hlo _ e; omega
  · rcases hs with e | e
    · exact hne.2.1 e
    · have := hlo _ e; omega
  · rcases hs with e | e
    · exact hne.2.2 e
    · have := hlo _ e; omega
  · rw [List.length_append]; exact hi
  · rcases hs with e | e
    · omega
    · have := hlo _ e; omega
end
theorem told_pair {x n : Tr} {pre : List (El × Fl)} {z : El × Fl} (he : er x = er n) (hp : (pre ++ [z]).map (·.1) <+: (pp [] x).take 2000) : ∃ y, (laidL 2000 n)[pre.length]? = some y ∧ (pp [] n)[pre.length]? = some y.1 ∧ z.1.1.length = y.1.1.length ∧ sig z.1.2 = sig y.1.2 ∧ pre.length < (laidL 2000 n).length := by
  have hl := hp.length_le
  rw [List.length_map, List.length_append, List.length_take, List.length_singleton] at hl
  have hd := dsg_of x n [] [] rfl he
  have hlen := er_len he
  have hll := laidL_len 2000 n
  have hlt : pre.length < (laidL 2000 n).length := by omega
  obtain ⟨y, hy⟩ : ∃ y, (laidL 2000 n)[pre.length]? = some y := ⟨_, List.getElem?_eq_getElem hlt⟩
  have hyn : (pp [] n)[pre.length]? = some y.1 := by
    have := congrArg (fun l => l[pre.length]?) (laidL_map 2000 n)
    simp only [List.getElem?_map, hy, Option.map_some] at this
    rw [List.getElem?_take_of_lt (by omega)] at this
    exact this.symm
  have hzx : (pp [] x)[pre.length]? = some z.1 := by
    obtain ⟨r, hr⟩ := hp
    have h1 : ((pp [] x).take 2000)[pre.length]? = some z.1 := by
      rw [← hr, List.map_append, List.append_assoc, List.getElem?_append_right (by rw [List.length_map]; exact Nat.le_refl _), List.length_map, Nat.sub_self]
      rfl
    rwa [List.getElem?_take_of_lt (by omega)] at h1
  have h2 := congrArg (fun l => l[pre.length]?) hd
  simp only [List.getElem?_map, hzx, hyn, Option.map_some] at h2
  injection h2 with h2
  exact ⟨y, hy, hyn, congrArg (fun u : Nat × Sg => u.1) h2, congrArg (fun u : Nat × Sg => u.2) h2, hlt⟩

set_option maxRecDepth 100000 in
set_option maxHeartbeats 8000000 in
theorem goes_in (N : Nat) (hN : 4 ≤ N) {w : World} {x n : Tr} {q : Option Addr} {cz base : Nat} (most : Int) (hx : TA w x) (hn : TA w n) (he : er x = er n) (hz : ZR base w (.slice q (laidL 2000 n).length cz) (laidL 2000 n)) (hm : 1 ≤ most) :
    CallsIn Fence.wide N Try.prog 8 #[.agg #[.int .i64 x.f.k, .int .i64 x.f.n, .int .i64 x.f.mn, .int .i64 x.f.mx, .slice x.f.rq x.f.rs.length x.f.rc, .slice x.f.kq x.f.kl x.f.kc], .slice q (laidL 2000 n).length cz, .int .i64 most] w fun e w' => e = .returned (.bool true) ∧ Below w.heap.size w w' := by
  have hfn : ∀ f, Fence.wide.fn f := fun _ => trivial
  have HX := hide hx
  have HN := hide hn
  have HE := hide he
  have HZ := hide hz
  have TP := hide (fun (pre : List (El × Fl)) (z : El × Fl) (h : (pre ++ [z]).map (·.1) <+: (pp [] x).take 2000) => told_pair he h)
  have hzl : (laidL 2000 n).length = min 2000 (pp [] x).length := by rw [laidL_len, er_len he]
  have HZL := hide hzl
  have hz2 : (laidL 2000 n).length ≤ 2000 := by omega
  clear hx hn he hz hzl
  generalize laidL 2000 n = Z at HZ TP HZL hz2
  refine callsIn_of_wp_marks Try.func8 rfl trivial ?_ rfl
  simp only [Try.ntmps8, List.size_toArray, List.length_cons, List.length_nil, Nat.reduceAdd, Nat.reduceSub, Array.replicate_succ, Array.replicate_zero, List.push_toArray, List.append_toArray, List.nil_append, List.cons_append]
  refine wpIn_wide.2 ?_
  go_upto_region 1 with fail
  obtain ⟨W0, hW0⟩ : ∃ W, ((((w.alloc (.cells #[.int .i64 x.f.k, .int .i64 x.f.n, .int .i64 x.f.mn, .int .i64 x.f.mx, .slice x.f.rq x.f.rs.length x.f.rc, .slice x.f.kq x.f.kl x.f.kc] 25)).alloc (.cells #[.slice q Z.length cz] 28)).alloc (.cells #[.int .i64 most] 3)).alloc (.cells #[.bool false] 4)) = W := ⟨_, rfl⟩
  have B0 : Hid (Below w.heap.size w W0) := (by
    rw [← hW0]
    exact ((((Below.refl _ _).alloc (Nat.le_refl _) _).alloc (by simp only [World.size_alloc]; omega) _).alloc (by simp only [World.size_alloc]; omega) _).alloc (by simp only [World.size_alloc]; omega) _)
  have N0 : Hid (BoxN W0 w.heap.size x.f) := (by
    rw [← hW0]
    exact (Below.heap_alloc _ _ _ (by simp only [World.size_alloc]; omega)).trans ((Below.heap_alloc _ _ _ (by simp only [World.size_alloc]; omega)).trans ((Below.heap_alloc _ _ _ (by simp only [World.size_alloc]; omega)).trans (alloc_new w _))))
  have L0 : Hid (W0.heap[w.heap.size + 1]? = some (.cells #[.slice q Z.length cz] 28 (0, 0))) := (by
    rw [← hW0]
    refine (Below.heap_alloc _ _ _ (by simp only [World.size_alloc]; omega)).trans ((Below.heap_alloc _ _ _ (by simp only [World.size_alloc]; omega)).trans ?_)
    have := alloc_new (w.alloc (.cells #[.int .i64 x.f.k, .int .i64 x.f.n, .int .i64 x.f.mn, .int .i64 x.f.mx, .slice x.f.rq x.f.rs.length x.f.rc, .slice x.f.kq x.f.kl x.f.kc] 25)) (.cells #[.slice q Z.length cz] 28)
    rwa [World.size_alloc] at this)
  have M0 : Hid (BoxI W0 (w.heap.size + 1 + 1) most) := (by
    rw [← hW0]
    refine (Below.heap_alloc _ _ _ (by simp only [World.size_alloc]; omega)).trans ?_
    have := alloc_new ((w.alloc (.cells #[.int .i64 x.f.k, .int .i64 x.f.n, .int .i64 x.f.mn, .int .i64 x.f.mx, .slice x.f.rq x.f.rs.length x.f.rc, .slice x.f.kq x.f.kl x.f.kc] 25)).alloc (.cells #[.slice q Z.length cz] 28)) (.cells #[.int .i64 most] 3)
    rwa [World.size_alloc, World.size_alloc] at this)
  have E0 : Hid (W0.heap[w.heap.size + 1 + 1 + 1]? = some (.cells #[.bool false] 4 (0, 0))) := (by
    rw [← hW0]
    have := alloc_new (((w.alloc (.cells #[.int .i64 x.f.k, .int .i64 x.f.n, .int .i64 x.f.mn, .int .i64 x.f.mx, .slice x.f.rq x.f.rs.length x.f.rc, .slice x.f.kq x.f.kl x.f.kc] 25)).alloc (.cells #[.slice q Z.length cz] 28)).alloc (.cells #[.int .i64 most] 3)) (.cells #[.bool false] 4)
    rwa [World.size_alloc, World.size_alloc, World.size_alloc] at this)
  rw [hW0]
  have HZ0 := hide (show ZR base W0 (.slice q Z.length cz) Z from ownsRow_fr HZ.out (Fr.of_below (S := fun _ => False) B0.out) (fun _ _ z => z))
  clear hW0
  generalize hq1 : w.heap.size + 1 = bl at L0 M0 E0 ⊢
  generalize hq2 : bl + 1 = bt at M0 E0 ⊢
  generalize hq3 : bt + 1 = be at E0 ⊢
  have HQ := hide (show w.heap.size < bl ∧ bl < bt ∧ bt < be by omega)
  clear hq1 hq2 hq3
  obtain ⟨c0, c1, c2, c3, c4, c5⟩ := N0.out.six
  simp only [Nat.zero_add] at c1 c2 c3 c4 c5
  go_upto_region 4 with (go_at_call 25; (with_reducible refine (all_c _ _).mono ?_); rintro e w7 ⟨rfl, rfl⟩)
  obtain ⟨W2, hW2⟩ : ∃ W, ((W0.alloc (.cells #[.int .i64 x.f.k, .int .i64 x.f.n, .int .i64 x.f.mn, .int .i64 x.f.mx, .slice x.f.rq x.f.rs.length x.f.rc, .slice x.f.kq x.f.kl x.f.kc] 25)).alloc (.cells #[.int .i64 0] 3)) = W := ⟨_, rfl⟩
  have K2 : Below W0.heap.size W0 W2 := (by
    rw [← hW2]
    exact ((Below.refl _ _).alloc (Nat.le_refl _) _).alloc (by simp only [World.size_alloc]; omega) _)
  have N2 : BoxN W2 W0.heap.size x.f := (by
    rw [← hW2]
    exact (Below.heap_alloc _ _ _ (by simp only [World.size_alloc]; omega)).trans (alloc_new W0 _))
  have I2 : BoxI W2 (W0.heap.size + 1) 0 := (by
    rw [← hW2]
    have := alloc_new (W0.alloc (.cells #[.int .i64 x.f.k, .int .i64 x.f.n, .int .i64 x.f.mn, .int .i64 x.f.mx, .slice x.f.rq x.f.rs.length x.f.rc, .slice x.f.kq x.f.kl x.f.kc] 25)) (.cells #[.int .i64 0] 3)
    rwa [World.size_alloc] at this)
  have HW2 := hide hW2
  have L2 := (K2.block _ (lt_of_heap L0.out)).trans L0.out
  have M2 : BoxI W2 bt most := (K2.block _ (lt_of_heap M0.out)).trans M0.out
  have E2 := (K2.block _ (lt_of_heap E0.out)).trans E0.out
  have B2 := chain B0.out K2 (Nat.le_refl _)
  have le0 := lt_of_heap E0.out
  have HPK := hide (⟨N2, I2, L2, M2, E2, B2⟩ : _ ∧ _ ∧ _ ∧ _ ∧ _ ∧ _)
  clear hW2 K2 N2 I2 L2 M2 E2 B2 c0 c1 c2 c3 c4 c5
  go_wp2
  rw [HW2.out]
  obtain ⟨N2, I2, L2, M2, E2, B2⟩ := HPK.out
  generalize hq4 : W0.heap.size + 1 = bi at I2 ⊢
  generalize W0.heap.size = bq at N2 hq4 le0 ⊢
  have lI := lt_of_heap I2
  have lL := lt_of_heap L2
  have lM := lt_of_heap M2
  have lE := lt_of_heap E2
  have HB := hide (show w.heap.size ≤ bi ∧ bl ≠ bi ∧ bt ≠ bi ∧ be ≠ bi by have := HQ.out; omega)
  clear hq4 HPK HW2 N0 L0 M0 E0 B0 HZ0
  refine (wpIn_wide (n := N)).1 ?_
  refine rangeP hN 18 19 bq rfl rfl N2 HX.out (CK.of_below B2) (fun pre V => GI w x Z q cz most bl bt be bi pre V ∧ (pre.length : Int) < most) (fun c pre V => c = .exit 0 ∧ GI w x Z q cz most bl bt be bi pre V ∧ (pre.length : Int) = most) (fun pre A A' row h hg hr => ⟨h.1.row B2.size hg hr, h.2⟩) (fun c pre A A' row h hg hr => ⟨h.1, h.2.1.row B2.size hg hr, h.2.2⟩) (fun pre W h => by have := h.1.len; omega) ⟨⟨L2, M2, E2, I2, List.nil_prefix, B2⟩, by simp; omega⟩
    (fun s y z a' W => ∃ bx, BoxN W bx z.2 ∧ a' = { y with tmps := (y.tmps.setIfInBounds 9 (.int .i64 ((z.1.1.length : Int) + 1))).setIfInBounds 10 (.pointer (some ⟨bx, 0, none⟩)) }) ?_ ?_ ?_ ?_ ?_
  · rintro s y z a' _ A A' row ⟨bx, h1, h2⟩ hg hr
    exact ⟨bx, cells_kept hg hr h1, h2⟩
  · intro l pre z V K hI _ hK
    simp only [roundP]
    gi_wp2
    exact hK _ _ ((Below.refl _ _).alloc (Nat.le_refl _) _) ⟨_, alloc_new V _, rfl⟩
  · rintro l pre z a' V0 V ⟨h, hlt⟩ ht ⟨bx, hbx, rfl⟩ hk0 hv0
    obtain ⟨y, hy, hyn, hdl, hsg, hil⟩ := TP.out pre z ht.pfx
    have HEND := hide (fun (V' : World) (a1 : Fr (fun k => k = bi ∨ (Value.slice z.2.rq z.2.rs.length z.2.rc).ownBlock = some k) V V') a2 => goes_end h ⟨HB.out.1, B2.size⟩ ⟨lI, lL, lM, lE⟩ HB.out.2 hk0 ht rfl a1 a2)
    have hk1 := ht.ok.k
    have hk2 := ht.ok.n
    have hk3 := ht.ok.mn
    have hk4 := ht.ok.mx
    have hk5 := ht.ok.rs
    have hk6 := ht.ok.kq
    have hrr := ht.ok.rr
    have s1 : z.1.2.f.k = y.1.2.f.k := congrArg (fun u : Sg => u.1) hsg
    have s2 : z.1.2.f.n = y.1.2.f.n := congrArg (fun u : Sg => u.2.1) hsg
    have s3 : z.1.2.f.mn = y.1.2.f.mn := congrArg (fun u : Sg => u.2.2.1) hsg
    have s4 : z.1.2.f.mx = y.1.2.f.mx := congrArg (fun u : Sg => u.2.2.2.1) hsg
    have s5 : z.1.2.f.rs = y.1.2.f.rs := congrArg (fun u : Sg => u.2.2.2.2.1) hsg
    have ZV : ZR base V (.slice q Z.length cz) Z := ownsRow_fr HZ.out (Fr.of_below (S := fun _ => False) h.bel) (fun _ _ u => u)
    obtain ⟨g, cc, hq⟩ := ownsRow_some ZV (by omega)
    injection hq with hq1 _ hq2
    subst hq1 hq2
    have lg : g < V.heap.size := (ownsRow_at ZV (g := g) rfl).2.1
    have NY := ((HN.out.at (List.mem_of_getElem? hyn)).node.ck (CK.of_below h.bel)).r
    have y6 := ZV.cells hy (j := 6) (v := .int .i64 ((y.1.1.length : Int) + 1)) rfl
    have y0 := ZV.cells hy (j := 0) (v := .int .i64 y.1.2.f.k) rfl
    have y1 := ZV.cells hy (j := 1) (v := .int .i64 y.1.2.f.n) rfl
    have y2 := ZV.cells hy (j := 2) (v := .int .i64 y.1.2.f.mn) rfl
    have y3 := ZV.cells hy (j := 3) (v := .int .i64 y.1.2.f.mx) rfl
    have y4 := ZV.cells hy (j := 4) (v := .slice y.1.2.f.rq y.1.2.f.rs.length y.1.2.f.rc) rfl
    rw [Nat.add_zero] at y0
    have lb0 := cell_row h.lb (i := 0) rfl
    have mb0 := h.mb.cell
    have ib0 := h.ib.cell
    have HIB := hide h.ib
    have HMB := hide h.mb
    have lbx := lt_of_heap hbx
    have lbl := lt_of_heap h.lb
    have lbt := lt_of_heap h.mb
    have lbi := lt_of_heap h.ib
    have hlen := h.len
    obtain ⟨⟨zw, zt⟩, ⟨fk, fn, fmn, fmx, L, rq, rc, kq, kl, kc⟩⟩ := z
    obtain ⟨⟨yw, yt⟩, yo⟩ := y
    dsimp only at *
    obtain ⟨rfl, rfl, rfl⟩ := hk6
    have e1 : fk = yt.f.k := hk1.trans s1
    have e2 : fn = yt.f.n := hk2.trans s2
    have e3 : fmn = yt.f.mn := hk3.trans s3
    have e4 : fmx = yt.f.mx := hk4.trans s4
    have e5 : L = yt.f.rs := hk5.trans s5
    obtain ⟨bx0, bx1, bx2, bx3, bx4, bx5⟩ := hbx.six
    simp only [Nat.zero_add] at bx1 bx2 bx3 bx4 bx5
    have HBX := hide hbx
    have HRR := hide hrr
    have ek : (fk != yt.f.k) = false := by simpa using e1
    have en : (fn != yt.f.n) = false := by simpa using e2
    have em : (fmn != yt.f.mn) = false := by simpa using e3
    have ex : (fmx != yt.f.mx) = false := by simpa using e4
    have ed : (((zw.length : Int) + 1) != ((yw.length : Int) + 1)) = false := by simp; omega
    have AK : Hid (∀ zz : Ext V, Calls Try.prog 26 #[.slice rq L.length rc, .slice yt.f.rq yt.f.rs.length yt.f.rc] zz.val fun e w'' => e = .returned (.bool true) ∧ ∃ y : Ext V, w'' = y.val) := fun zz => ext_call ((alike_c (hrr.arg.kept (ext_below zz)) (NY.kept (ext_below zz))).mono fun e w' ⟨h1, h2⟩ => ⟨by rw [h1, decide_eq_true e5], h2⟩)
    have HIL := hide hil
    have HLT := hide hlt
    obtain ⟨P, hP⟩ : ∃ P, pre.length = P := ⟨_, rfl⟩
    rw [hP] at y0 y1 y2 y3 y4 y6 ib0 HIB hlen hil hlt HEND
    have HP := hide hP
    have i0 : ¬ (Z.length : Int) ≤ (P : Int) := by omega
    have i0' : (P : Int) < (Z.length : Int) := by omega
    have i1 : ¬ most ≤ (P : Int) := by omega
    have HBEL := hide h.bel
    clear h ht hk0 hv0 hbx hrr hy hyn hdl hsg hk1 hk2 hk3 hk4 hk5 s1 s2 s3 s4 s5 ZV NY hP e1 e2 e3 e4 e5 HIL HLT
    simp only [roundP]
    gi_upto_region 10 with fail
    refine wpIn_region_ext (by kernel_rfl) (by kernel_rfl) (by kernel_rfl) (fun ⟨_, _, h⟩ => h) ?_
    repeat (go_big_quiet_step (first | exact rfl | (go_at_call 26; with_reducible exact AK.out _)))
    refine wpQuiet_nil ?_
    intro V5 hw
    have B5 := ext_of hw
    have kc := fun (b o : Nat) (hb : b < V.heap.size) => B5.cell (p := ⟨b, o, none⟩) hb
    have d0 := (kc bx 0 lbx).trans bx0
    have d1 := (kc bx 1 lbx).trans bx1
    have d2 := (kc bx 2 lbx).trans bx2
    have d3 := (kc bx 3 lbx).trans bx3
    have d4 := (kc bx 4 lbx).trans bx4
    have d5 := (kc bx 5 lbx).trans bx5
    have f0 := (kc g (P * 12) lg).trans y0
    have f1 := (kc g (P * 12 + 1) lg).trans y1
    have f2 := (kc g (P * 12 + 2) lg).trans y2
    have f3 := (kc g (P * 12 + 3) lg).trans y3
    have f6 := (kc g (P * 12 + 6) lg).trans y6
    have k0 := (kc bl 0 lbl).trans lb0
    have k1 := (kc bi 0 lbi).trans ib0
    have k2 := (kc bt 0 lbt).trans mb0
    have m1 := Nat.lt_of_lt_of_le lbx B5.size
    have m2 := Nat.lt_of_lt_of_le lg B5.size
    have m3 := Nat.lt_of_lt_of_le lbl B5.size
    have m4 := Nat.lt_of_lt_of_le lbi B5.size
    have m5 := Nat.lt_of_lt_of_le lbt B5.size
    have HB5 := hide B5
    clear hw B5 kc bx0 bx1 bx2 bx3 bx4 bx5 y0 y1 y2 y3 y4 y6 lb0 ib0 mb0 lg lbx lbl lbi lbt AK
    gi_upto_region 11 with fail
    refine wpIn_region_ext (by kernel_rfl) (by kernel_rfl) (by kernel_rfl) (fun ⟨_, _, h⟩ => h) ?_
    repeat (go_big_quiet_step (first | exact rfl))
    refine wpQuiet_nil ?_
    intro V6 hw
    have B6 := hide (chain HB5.out (ext_of hw) (by have := HB5.out.size; omega))
    clear hw HB5 d0 d1 d2 d3 d4 d5 f0 f1 f2 f3 f6 k0 k1 k2 m1 m2 m3 m4 m5 ek en em ex ed
    have BX6 := hide ((B6.out.block _ (lt_of_heap HBX.out)).trans HBX.out)
    have IB6 := hide (show BoxI V6 bi (P : Int) from (B6.out.block _ (lt_of_heap HIB.out)).trans HIB.out)
    have MB6 := hide (show BoxI V6 bt most from (B6.out.block _ (lt_of_heap HMB.out)).trans HMB.out)
    have RR6 := hide (HRR.out.kept B6.out)
    have F6 := hide (Fr.of_below (S := fun k => k = bi ∨ (Value.slice rq L.length rc).ownBlock = some k) B6.out)
    clear B6 HBX HIB HMB HRR
    gi_upto_region 14 with fail
    gi_loopw [12] (fun i wr => ∃ j : Nat, j ≤ L.length ∧ i = .int .i64 (j : Int) ∧ Fr (fun k => (Value.slice rq L.length rc).ownBlock = some k) V6 wr ∧ ∃ xs, wr.ownsRow W2.heap.size 55 2 (.slice rq L.length rc) L.length xs) (fun i _ => L.length - (intOf i).toNat)
    case atStart => exact ⟨0, Nat.zero_le _, rfl, Fr.refl _ _, _, RR6.out⟩
    case round =>
      obtain ⟨j, hj, rfl, hfr, xs, hxs⟩ := hrel
      have HFR := hide hfr
      have HXS := hide hxs
      have BX7 := hide ((hfr.block _ (lt_of_heap BX6.out) (fun e => ownsRow_not RR6.out BX6.out (by decide) e)).trans BX6.out)
      have x4 : wr.cell? ⟨bx, 4, none⟩ = some (.slice rq L.length rc) := (show BoxN wr bx ⟨fk, fn, fmn, fmx, L, rq, rc, none, 0, 0⟩ from BX7.out).six.2.2.2.2.1
      have hml : L.length ≤ maxLen := ownsRow_len hxs
      have hml' : L.length ≤ 9223372036854775807 := hml
      clear hfr hxs hml
      by_cases hjl : j < L.length
      · have j0 : (j : Int) < (L.length : Int) := by omega
        obtain ⟨gr, cr, hqr⟩ := ownsRow_some HXS.out (by omega)
        injection hqr with hqr1 _ hqr2
        subst hqr1 hqr2
        obtain ⟨-, lgr, cur, hcur⟩ := ownsRow_at HXS.out (g := gr) rfl
        have hx1 : ∃ u, wr.cell? ⟨gr, j * 2, none⟩ = some u := ⟨_, ownsRow_cell HXS.out (j := j * 2) (List.getElem?_eq_getElem (by rw [HXS.out.1]; omega))⟩
        have hx2 : ∃ u, wr.cell? ⟨gr, j * 2 + 1, none⟩ = some u := ⟨_, ownsRow_cell HXS.out (j := j * 2 + 1) (List.getElem?_eq_getElem (by rw [HXS.out.1]; omega))⟩
        obtain ⟨u1, hu1⟩ := hx1
        obtain ⟨u2, hu2⟩ := hx2
        have fz := fun o => frz_row hcur o
        have R7 := hide (row_set12 (row_set12 HXS.out (j * 2) (.int .i64 9)) (j * 2 + 1) (.int .i64 (-9)))
        have F7 := hide ((HFR.out.setCell (p := ⟨gr, j * 2, none⟩) rfl (.int .i64 9)).setCell (p := ⟨gr, j * 2 + 1, none⟩) rfl (.int .i64 (-9)))
        clear hcur
        gi_wp2
        go_roundw
        case rel => exact ⟨j + 1, by omega, by go_num, F7.out, _, R7.out⟩
        case measure => simp only [intOf]; omega
      · have j0 : ¬ (j : Int) < (L.length : Int) := by omega
        have IB7 : BoxI wr bi (P : Int) := (HFR.out.block _ (lt_of_heap IB6.out) (fun e => ownsRow_not RR6.out IB6.out (by decide) e)).trans IB6.out
        have MB7 : BoxI wr bt most := (HFR.out.block _ (lt_of_heap MB6.out) (fun e => ownsRow_not RR6.out MB6.out (by decide) e)).trans MB6.out
        have ib7 := IB7.cell
        have if7 := frz_row IB7 0
        have IB8 := IB7.set ((P : Int) + 1)
        have ib8 := IB8.cell
        have G8 := BoxI.fr (W := wr) (b := bi) (.int .i64 ((P : Int) + 1))
        have MB8 : BoxI (wr.setCell ⟨bi, 0, none⟩ (.int .i64 ((P : Int) + 1))) bt most := fr_typed G8 MB7 (fun e => HB.out.2.2.1 e)
        have mb8 := MB8.cell
        have HF8 := hide (show Fr (fun k => k = bi ∨ (Value.slice rq L.length rc).ownBlock = some k) V (wr.setCell ⟨bi, 0, none⟩ (.int .i64 ((P : Int) + 1))) from (F6.out.trans (HFR.out.mono (fun k hk => .inr hk))).trans (G8.mono (fun k hk => .inl hk)))
        have RES := hide (HEND.out _ HF8.out IB8)
        have HPL := hide (show ((pre ++ [((zw, zt), (⟨fk, fn, fmn, fmx, L, rq, rc, none, 0, 0⟩ : Fl))]).length : Int) = (P : Int) + 1 by rw [List.length_append, HP.out]; rfl)
        clear IB7 MB7 IB8 G8 MB8 HF8 HFR HXS BX7 F6 RR6 IB6 MB6 BX6 HEND
        by_cases hbr : (P : Int) + 1 = most
        · have eb : ((P : Int) + 1 == most) = true := by simpa using hbr
          have HBR := hide hbr
          clear hbr
          gi_wp2
          exact ⟨RES.out.1, rfl, RES.out.2.2, by rw [HPL.out]; exact HBR.out⟩
        · have eb : ((P : Int) + 1 == most) = false := by simpa using hbr
          have HBR := hide hbr
          clear hbr
          gi_wp2
          refine ⟨RES.out.1, RES.out.2.1, RES.out.2.2, ?_⟩
          rw [HPL.out]
          have := HBR.out
          omega
  · rintro D xs V hD hxs ⟨h, hlt⟩ hK
    have hxl : xs.length = Z.length := by
      have h1 := congrArg List.length hxs
      rw [List.length_map, List.length_take] at h1
      have := HZL.out
      omega
    have hib := h.ib
    rw [hxl] at hib hlt
    have HE2 := hide h.res
    have lb0 := cell_row h.lb (i := 0) rfl
    have mb0 := h.mb.cell
    have ib0 := hib.cell
    have fz := frz_row h.res 0
    have cz0 := cell_row h.res (i := 0) rfl
    have mn := min_run Try.prog #[3, 3] 3
    have em : min (Z.length : Int) most = (Z.length : Int) := by omega
    have E6 := hide (heap_set_in h.res 0 (.bool true))
    have F6 := hide ((Fr.refl (fun z => z = be) V).setCell (p := ⟨be, 0, none⟩) rfl (.bool true))
    have HBL := hide h.bel
    have HK := hide hK
    have HD := hide hD
    have hwe : w.heap.size ≤ be := by have := HQ.out; omega
    clear h hib hK hD hxs hxl
    simp only [behindN]
    go_wp2
    have hDb : be ≠ D := by have := HD.out; omega
    have cw : ((V.setCell ⟨be, 0, none⟩ (.bool true)).putObj D (.deferred none)).cell? ⟨be, 0, none⟩ = some (.bool true) := cell_row ((World.putObj_heap_other hDb).trans E6.out) (i := 0) rfl
    refine ⟨by simp, .inl ⟨_, _, rfl, run_takeDeferred ((F6.out.block _ (lt_of_heap HK.out) (by have := HD.out; omega)).trans HK.out), ?_⟩⟩
    exact ⟨.bool true, by simp [results, Try.results8, go_sem, cw], rfl, bel_put _ (chainF HBL.out F6.out (Nat.le_refl _) (fun k e => by omega)) (Nat.le_trans B2.size HD.out)⟩
  · rintro D c pre V hD hpre ⟨rfl, h, hmo⟩ hK
    refine (wpIn_wide (n := N)).2 ?_
    have hlt : most ≤ (Z.length : Int) := by
      have h1 := h.pfx.length_le
      rw [List.length_map, List.length_take] at h1
      have := HZL.out
      omega
    have hib := h.ib
    rw [hmo] at hib
    have HE2 := hide h.res
    have lb0 := cell_row h.lb (i := 0) rfl
    have mb0 := h.mb.cell
    have ib0 := hib.cell
    have fz := frz_row h.res 0
    have cz0 := cell_row h.res (i := 0) rfl
    have mn := min_run Try.prog #[3, 3] 3
    have em : min (Z.length : Int) most = most := by omega
    have E6 := hide (heap_set_in h.res 0 (.bool true))
    have F6 := hide ((Fr.refl (fun z => z = be) V).setCell (p := ⟨be, 0, none⟩) rfl (.bool true))
    have HBL := hide h.bel
    have HK := hide hK
    have HD := hide hD
    have hwe : w.heap.size ≤ be := by have := HQ.out; omega
    clear h hib hK hD hpre hmo
    simp only [behindN]
    go_wp2
    have hDb : be ≠ D := by have := HD.out; omega
    have cw : ((V.setCell ⟨be, 0, none⟩ (.bool true)).putObj D (.deferred none)).cell? ⟨be, 0, none⟩ = some (.bool true) := cell_row ((World.putObj_heap_other hDb).trans E6.out) (i := 0) rfl
    refine ⟨by simp, .inl ⟨_, _, rfl, run_takeDeferred ((F6.out.block _ (lt_of_heap HK.out) (by have := HD.out; omega)).trans HK.out), ?_⟩⟩
    exact ⟨.bool true, by simp [results, Try.results8, go_sem, cw], rfl, bel_put _ (chainF HBL.out F6.out (Nat.le_refl _) (fun k e => by omega)) (Nat.le_trans B2.size HD.out)⟩
end Go.Proofs.Ytlodjinejeajcab
namespace Go.Proofs.Ytlodjinejeajcab
open Go Go.RowKit

theorem goes_c {w : World} {x n : Tr} {q : Option Addr} {cz base : Nat} (most : Int) (hx : TA w x) (hn : TA w n) (he : er x = er n) (hz : ZR base w (.slice q (laidL 2000 n).length cz) (laidL 2000 n)) (hm : 1 ≤ most) :
    Calls Try.prog 8 #[.agg #[.int .i64 x.f.k, .int .i64 x.f.n, .int .i64 x.f.mn, .int .i64 x.f.mx, .slice x.f.rq x.f.rs.length x.f.rc, .slice x.f.kq x.f.kl x.f.kc], .slice q (laidL 2000 n).length cz, .int .i64 most] w fun e w' => e = .returned (.bool true) ∧ Below w.heap.size w w' := callsIn_wide.1 (goes_in 4 (by decide) most hx hn he hz hm)
/-- The law's own boxes. -/
structure AW (w : World) (bn bx : Nat) (n x : Tr) (W : World) : Prop where
  nb : BoxN W bn n.f
  xb : BoxN W bx x.f
  tn : TA W n
  lx : ∃ N, LentIs N W x n
  bel : Below w.heap.size w W
theorem AW.kept {w W W' : World} {bn bx : Nat} {n x : Tr} (h : AW w bn bx n x W) (hb : Below W.heap.size W W') : AW w bn bx n x W' :=
  ⟨(hb.block _ (lt_of_heap h.nb)).trans h.nb, (hb.block _ (lt_of_heap h.xb)).trans h.xb, h.tn.kept hb, (by obtain ⟨N, q⟩ := h.lx; exact ⟨N, q.kept hb⟩), chain h.bel hb (Nat.le_refl _)⟩
theorem AW.ex {w W : World} {bn bx : Nat} {n x : Tr} (h : AW w bn bx n x W) : TA W x ∧ er x = er n := by obtain ⟨N, q⟩ := h.lx; exact ⟨q.ta, q.er⟩
theorem ZR.kept8 {base : Nat} {W W' : World} {v : Value} {E : List Zl} (h : ZR base W v E) (hb : Below W.heap.size W W') : ZR base W' v E := ownsRow_fr h (Fr.of_below (S := fun _ => False) hb) (fun _ _ z => z)
set_option maxRecDepth 100000 in
set_option maxHeartbeats 8000000 in
theorem law_all {w : World} {n : Tr} (most : Int) (hn : TA w n) :
    Calls Try.prog 3 #[.agg #[.int .i64 n.f.k, .int .i64 n.f.n, .int .i64 n.f.mn, .int .i64 n.f.mx, .slice n.f.rq n.f.rs.length n.f.rc, .slice n.f.kq n.f.kl n.f.kc], .int .i64 most] w fun e w' => e = .returned (.bool true) ∧ Below w.heap.size w w' := by
  have B0 : Hid (Below w.heap.size w (w.alloc (.cells #[.int .i64 n.f.k, .int .i64 n.f.n, .int .i64 n.f.mn, .int .i64 n.f.mx, .slice n.f.rq n.f.rs.length n.f.rc, .slice n.f.kq n.f.kl n.f.kc] 25))) := (Below.refl _ _).alloc (Nat.le_refl _) _
  have N0 : Hid (BoxN (w.alloc (.cells #[.int .i64 n.f.k, .int .i64 n.f.n, .int .i64 n.f.mn, .int .i64 n.f.mx, .slice n.f.rq n.f.rs.length n.f.rc, .slice n.f.kq n.f.kl n.f.kc] 25)) w.heap.size n.f) := alloc_new w _
  have HN := hide hn
  clear hn
  go_enter Try.func3, Try.ntmps3
  go_upto_region 1 with fail
  generalize (w.alloc (.cells #[.int .i64 n.f.k, .int .i64 n.f.n, .int .i64 n.f.mn, .int .i64 n.f.mx, .slice n.f.rq n.f.rs.length n.f.rc, .slice n.f.kq n.f.kl n.f.kc] 25)) = W0 at B0 N0 ⊢
  obtain ⟨bn, hbn⟩ : ∃ bn, bn = w.heap.size := ⟨_, rfl⟩
  rw [← hbn] at N0 ⊢
  clear hbn
  go_upto_region 2 with (go_at_call 5; (with_reducible refine (examples8_c _).mono ?_); rintro e W1 ⟨rfl, a4⟩; have N1 := hide ((a4.block _ (lt_of_heap N0.out)).trans N0.out); have B1 := hide (chain B0.out a4 (Nat.le_refl _)); clear a4 N0 B0)
  obtain ⟨c0, c1, c2, c3, c4, c5⟩ := (show BoxN W1 bn n.f from N1.out).six
  simp only [Nat.zero_add] at c1 c2 c3 c4 c5
  have LN := hide (lent8 (HN.out.kept B1.out))
  go_upto_region 3 with (go_at_call 6; (with_reducible refine (LN.out).mono ?_); rintro e w5 ⟨x, rfl, h51, h52⟩; have X5 := hide h51; have B5 := hide h52; clear h51 h52)
  have KA : Below w5.heap.size w5 (w5.alloc (.cells #[.int .i64 x.f.k, .int .i64 x.f.n, .int .i64 x.f.mn, .int .i64 x.f.mx, .slice x.f.rq x.f.rs.length x.f.rc, .slice x.f.kq x.f.kl x.f.kc] 25)) := (Below.refl _ _).alloc (Nat.le_refl _) _
  have KK := chain B5.out KA (Nat.le_refl _)
  have C2 : Hid (AW w bn w5.heap.size n x (w5.alloc (.cells #[.int .i64 x.f.k, .int .i64 x.f.n, .int .i64 x.f.mn, .int .i64 x.f.mx, .slice x.f.rq x.f.rs.length x.f.rc, .slice x.f.kq x.f.kl x.f.kc] 25))) := ⟨(KK.block _ (lt_of_heap N1.out)).trans N1.out, alloc_new w5 _, HN.out.kept (chain B1.out KK (Nat.le_refl _)), ⟨_, X5.out.kept KA⟩, chain B1.out KK (Nat.le_refl _)⟩
  clear KA KK c0 c1 c2 c3 c4 c5 LN N1 B1 X5 B5 HN
  generalize (w5.alloc (.cells #[.int .i64 x.f.k, .int .i64 x.f.n, .int .i64 x.f.mn, .int .i64 x.f.mx, .slice x.f.rq x.f.rs.length x.f.rc, .slice x.f.kq x.f.kl x.f.kc] 25)) = W2 at C2 ⊢
  generalize w5.heap.size = bx at C2 ⊢
  obtain ⟨c0, c1, c2, c3, c4, c5⟩ := C2.out.nb.six
  simp only [Nat.zero_add] at c1 c2 c3 c4 c5
  have LD := hide (laid_c (w := W2) 2000 (by omega) C2.out.tn)
  go_upto_region 4 with (go_at_call 7; refine (LD.out).mono ?_; rintro e W3 ⟨q3, k3, rfl, h31, h32⟩; have Z3 := hide h31; have C3 := hide (C2.out.kept h32); clear h31 h32)
  clear c0 c1 c2 c3 c4 c5 LD C2
  obtain ⟨x0, x1, x2, x3, x4, x5⟩ := C3.out.xb.six
  simp only [Nat.zero_add] at x1 x2 x3 x4 x5
  have GG : Hid (∀ (V : World) (b : Nat) (m : Int), TA V x → TA V n → er x = er n → ZR b V (.slice q3 (laidL 2000 n).length k3) (laidL 2000 n) → 1 ≤ m → Calls Try.prog 8 #[.agg #[.int .i64 x.f.k, .int .i64 x.f.n, .int .i64 x.f.mn, .int .i64 x.f.mx, .slice x.f.rq x.f.rs.length x.f.rc, .slice x.f.kq x.f.kl x.f.kc], .slice q3 (laidL 2000 n).length k3, .int .i64 m] V fun e w' => e = .returned (.bool true) ∧ Below V.heap.size V w') := fun V b m h1 h2 h3 h4 h5 => goes_c m h1 h2 h3 h4 h5
  generalize laidL 2000 n = Z at Z3 GG ⊢
  go_cut [8] (fun u wx => u = .bool true ∧ Below W3.heap.size W3 wx)
  case first =>
    by_cases hm : most < 1
    · have e0 : most < 1 := hm
      go_wp2
      go_meet
      exact ⟨rfl, Below.refl _ _⟩
    · have e0 : ¬ most < 1 := hm
      have GC := hide (GG.out W3 _ most C3.out.ex.1 C3.out.tn C3.out.ex.2 Z3.out (by omega))
      clear hm
      go_wp2_with (go_at_call 8; (with_reducible refine (GC.out).mono ?_); rintro e W4 ⟨rfl, h4⟩; have B4 := hide h4; clear h4)
      go_meet
      exact ⟨rfl, B4.out⟩
  case rest =>
    obtain ⟨rfl, hbl⟩ := hcut
    obtain ⟨W4, hW⟩ : ∃ V, V = wc := ⟨_, rfl⟩
    subst hW
    have C4 := hide (C3.out.kept hbl)
    have Z4 := hide (ZR.kept8 Z3.out hbl)
    clear hbl C3 Z3 x0 x1 x2 x3 x4 x5
    obtain ⟨x0, x1, x2, x3, x4, x5⟩ := C4.out.xb.six
    simp only [Nat.zero_add] at x1 x2 x3 x4 x5
    have GC := hide (GG.out W4 _ 2001 C4.out.ex.1 C4.out.tn C4.out.ex.2 Z4.out (by omega))
    go_upto_region 6 with (go_at_call 8; (with_reducible refine (GC.out).mono ?_); rintro e W5 ⟨rfl, h4⟩; have C5 := hide (C4.out.kept h4); clear h4)
    clear x0 x1 x2 x3 x4 x5 GC
    obtain ⟨x0, x1, x2, x3, x4, x5⟩ := C5.out.xb.six
    obtain ⟨c0, c1, c2, c3, c4, c5⟩ := C5.out.nb.six
    simp only [Nat.zero_add] at x1 x2 x3 x4 x5 c1 c2 c3 c4 c5
    have KX := hide (kept8 C5.out.lx.choose_spec C5.out.tn)
    go_wp2_with (go_at_call 9; (with_reducible refine (KX.out).mono ?_); rintro e W6 ⟨rfl, h6⟩; have C6 := hide (C5.out.kept h6); clear h6)
    go_ret
    exact ⟨rfl, C6.out.bel⟩
end Go.Proofs.Ytlodjinejeajcab
namespace Go.Proofs.Ytlodjinejeajcab
open Go Go.ChangeShapes Go.WideShapes Go.ChangeAt Go.RowKit

theorem cells_node : Try.prog.cellsOf 25 = 6 := by kernel_rfl
theorem cells_rng : Try.prog.cellsOf 55 = 2 := by kernel_rfl
theorem cells_rngs : Try.prog.cellsOf 22 = 1 := by kernel_rfl
theorem cells_nods : Try.prog.cellsOf 23 = 1 := by kernel_rfl
theorem bytes_rng : Try.prog.bytesOf 55 = 16 := by kernel_rfl
theorem weights_all {H : Type} {P : Program} {e : TypeId} {d : DataW H} {n : Nat} : ∀ {l : List (DataW H)}, d ∈ l → n ∈ d.weights P e → n ∈ DataW.weightsAll P e l
  | [], h, _ => by cases h
  | x :: r, h, hn => by
    simp only [DataW.weightsAll, List.mem_append]
    rcases List.mem_cons.1 h with rfl | h
    · exact .inl hn
    · exact .inr (weights_all h hn)
theorem cell_blk {w : World} {g o : Nat} {v : Value} (h : w.cell? ⟨g, o, none⟩ = some v) : g < w.heap.size := by
  rcases Nat.lt_or_ge g w.heap.size with h' | h'
  · exact h'
  · have : w.heap[g]? = none := Array.getElem?_eq_none h'
    simp [World.cell?, this] at h
theorem add_none {a : Addr} {W : World} {v : Value} (h : W.cell? (a.add 0) = some v) : ∃ b off, a = ⟨b, off, none⟩ := by
  obtain ⟨b, off, spot⟩ := a
  cases spot with
  | none => exact ⟨b, off, rfl⟩
  | some k =>
    exfalso
    unfold Addr.add World.cell? at h
    simp at h
    split at h <;> simp_all

set_option maxRecDepth 100000 in
theorem open_rngs {H : Type} {enc : TypeId × Value → H} {W : World} {fuel : Nat} {v : Value} {x : DataW H × List MemPlace} (hf : DataW.trod enc Try.prog W 0 (fun _ => true) true fuel 22 [v] = some x) (hw : ∀ n ∈ x.1.weights Try.prog 22, n ≤ reachBytes) :
    ∃ (rs : List (Int × Int)) (q : Option Addr) (c : Nat), v = .slice q rs.length c ∧ ArgR W v rs ∧ Fit rs ∧ rs.length + 3 ≤ 8796093022208 := by
  rcases Deep.open_slice_pairs Try.underlying22 Try.underlying55 cells_rng rfl rfl cells_int cells_int hf with ⟨h1, h2⟩ | ⟨a, len, cap, m, n, V0, V1, D0, D1, P0, P1, h1, _, hlc, hcap, hm, h2, hx⟩
  · cases h1
    exact ⟨[], none, 0, rfl, .inl ⟨none, 0, rfl, rfl, fun _ => rfl⟩, fit_nil, by simp⟩
  · cases h1
    rw [if_pos rfl] at hm
    subst hm
    by_cases hc : m = 0
    · have hl : len = 0 := by omega
      subst hc hl
      exact ⟨[], some a, 0, rfl, .inl ⟨some a, 0, rfl, rfl, fun q => (by cases q)⟩, fit_nil, by simp⟩
    · have hp : ∀ i, i < m → ∃ q : Int × Int, V0 i = .int .i64 q.1 ∧ V1 i = .int .i64 q.2 ∧ (Lit.int .i64 q.1).wf = true ∧ (Lit.int .i64 q.2).wf = true := fun i hi => by
        obtain ⟨_, _, g0, g1⟩ := hx i hi
        obtain ⟨x0, e0, _, w0⟩ := DataW.trod_int Try.underlying3 g0
        obtain ⟨x1, e1, _, w1⟩ := DataW.trod_int Try.underlying3 g1
        exact ⟨(x0, x1), by simpa using e0, by simpa using e1, w0, w1⟩
      obtain ⟨q, hq⟩ := Deep.choose_lt hp
      have c0 := (hx 0 (by omega)).1
      obtain ⟨b, off, rfl⟩ := add_none (by simpa using c0)
      have hadd : ∀ j, (⟨b, off, none⟩ : Addr).add j = ⟨b, off + j, none⟩ := fun j => by unfold Addr.add; split <;> simp_all
      have hb : b < W.heap.size := by rw [hadd] at c0; exact cell_blk c0
      refine ⟨(List.range len).map q, some ⟨b, off, none⟩, m, by simp, .inr ⟨b, off, m, by simp, hb, by simpa using hlc, hcap, fun i r hi' => ?_⟩, fun r hr => ?_, ?_⟩
      · have hil : i < len := by have := (List.getElem?_eq_some_iff.1 hi').1; simpa using this
        have hqi : q i = r := by simpa [hil] using hi'
        obtain ⟨k0, k1, _, _⟩ := hx i (by omega)
        rw [hadd, Nat.mul_comm] at k0
        rw [hadd, Nat.mul_comm, ← Nat.add_assoc] at k1
        obtain ⟨r0, r1, _, _⟩ := hq i (by omega)
        rw [hqi] at r0 r1
        exact ⟨by rw [k0, r0], by rw [k1, r1]⟩
      · obtain ⟨i, hi, rfl⟩ := List.mem_map.1 hr
        have hil : i < len := List.mem_range.1 hi
        obtain ⟨_, _, w0, w1⟩ := hq i (by omega)
        exact ⟨wf_range w0, wf_range w1⟩
      · obtain ⟨es, sp, e1, e2⟩ : ∃ es sp, x.1 = .slice es sp ∧ es.length = len := ⟨_, _, congrArg Prod.fst h2, by simp⟩
        have h3 := hw ((es.length + sp.length) * Try.prog.bytesOf 55) (by rw [e1]; simp [DataW.weights, Try.underlying22])
        rw [bytes_rng] at h3
        have r : reachBytes = 140737488351232 := by decide
        simp
        omega

set_option maxRecDepth 100000 in
set_option maxHeartbeats 2000000 in
theorem open_nodeF {H : Type} {enc : TypeId × Value → H} {W : World} : ∀ (fuel : Nat) (cs : List Value) (x : DataW H × List MemPlace), DataW.trod enc Try.prog W 0 (fun _ => true) true fuel 25 cs = some x → (∀ n ∈ x.1.weights Try.prog 25, n ≤ reachBytes) →
    ∃ t : Tr, TA W t ∧ cs = [.int .i64 t.f.k, .int .i64 t.f.n, .int .i64 t.f.mn, .int .i64 t.f.mx, .slice t.f.rq t.f.rs.length t.f.rc, .slice t.f.kq t.f.kl t.f.kc] := by
  intro fuel
  induction fuel using Nat.strongRecOn with
  | ind fuel ih =>
    intro cs x hf hw
    obtain ⟨xs, k, hk, hxy, hcl, hxl, hfs⟩ := DataW.trod_struct Try.underlying25 hf
    have hD : x.1 = .agg (xs.map (·.1)) := (congrArg Prod.fst hxy)
    rw [hD] at hw
    simp only [DataW.weights, Try.underlying25] at hw
    rw [cells_node] at hcl
    clear hD hxy hf
    match xs, hxl, cs, hcl, hfs, hw with
    | [y0, y1, y2, y3, y4, y5], _, [v0, v1, v2, v3, v4, v5], _, hf, hwi =>
      have F0 := hf 0 _ rfl
      have F1 := hf 1 _ rfl
      have F2 := hf 2 _ rfl
      have F3 := hf 3 _ rfl
      have F4 := hf 4 _ rfl
      have F5 := hf 5 _ rfl
      simp [cells_int, cells_rngs, cells_nods] at F0 F1 F2 F3 F4 F5
      obtain ⟨x0, e0, _, w0⟩ := DataW.trod_int Try.underlying3 F0
      obtain ⟨x1, e1, _, w1⟩ := DataW.trod_int Try.underlying3 F1
      obtain ⟨x2, e2, _, w2⟩ := DataW.trod_int Try.underlying3 F2
      obtain ⟨x3, e3, _, w3⟩ := DataW.trod_int Try.underlying3 F3
      obtain ⟨rs, q, c, rfl, hr, hfit, hlen⟩ := open_rngs F4 (fun n hn => hwi n (DataW.weights_mem_each (j := 4) (t := 22) rfl rfl n hn))
      cases e0; cases e1; cases e2; cases e3
      have hwk := fun n hn => hwi n (DataW.weights_mem_each (j := 5) (t := 23) (d := y5.1) rfl rfl n hn)
      rcases DataW.trod_slice Try.underlying23 F5 with ⟨h1, h2⟩ | ⟨a, len, cap, elems, rest, n, hn, h1, h2, _, hlc, hcap, hel, hx, -, -⟩
      · cases h1
        exact ⟨.mk ⟨x0, x1, x2, x3, rs, q, c, none, 0, 0⟩ [], (every_eq _).2 ⟨⟨hr, .inl ⟨none, 0, rfl, rfl, fun _ => rfl⟩, hfit, hlen⟩, (everyL_iff _).2 fun u hu => by cases hu⟩, rfl⟩
      · cases h1
        by_cases hl : len = 0
        · subst hl
          exact ⟨.mk ⟨x0, x1, x2, x3, rs, q, c, some a, 0, cap⟩ [], (every_eq _).2 ⟨⟨hr, .inl ⟨some a, cap, rfl, rfl, fun z => by cases z⟩, hfit, hlen⟩, (everyL_iff _).2 fun u hu => by cases hu⟩, rfl⟩
        · have each : ∀ i, i < len → ∃ t : Tr, TA W t ∧ ∀ j v, [Value.int .i64 t.f.k, .int .i64 t.f.n, .int .i64 t.f.mn, .int .i64 t.f.mx, .slice t.f.rq t.f.rs.length t.f.rc, .slice t.f.kq t.f.kl t.f.kc][j]? = some v → W.cell? (a.add (i * 6 + j)) = some v := by
            intro i hi
            have hxi := hx i hi
            rw [List.getElem?_eq_getElem (by omega)] at hxi
            obtain ⟨cs', g1, g2⟩ := Option.bind_eq_some_iff.1 hxi
            rw [cells_node] at g1
            obtain ⟨_, hlc', hcell⟩ := World.cells?_some g1
            obtain ⟨t, ht, hcs⟩ := ih n (by omega) cs' _ g2 (fun m hm => hwk m (by
              rw [show y5.1 = .slice (elems.map (·.1)) (rest.map (·.1)) from congrArg Prod.fst h2]
              simp only [DataW.weights, Try.underlying23, List.mem_cons, List.mem_append]
              exact .inr (.inl (weights_all (List.mem_map.2 ⟨_, List.getElem_mem _, rfl⟩) hm))))
            refine ⟨t, ht, fun j v hj => ?_⟩
            have hj6 : j < 6 := by have := (List.getElem?_eq_some_iff.1 hj).1; simpa using this
            have := hcell j (by omega)
            rw [Deep.add_add] at this
            rw [this, hcs]
            exact hj
          have : Inhabited Tr := ⟨.mk ⟨0, 0, 0, 0, [], none, 0, none, 0, 0⟩ []⟩
          obtain ⟨tt, htt⟩ := Deep.choose_lt each
          have c0 := (htt 0 (by omega)).2 0 _ rfl
          obtain ⟨b, off, rfl⟩ := add_none (by simpa using c0)
          have hadd : ∀ j, (⟨b, off, none⟩ : Addr).add j = ⟨b, off + j, none⟩ := fun j => by unfold Addr.add; split <;> simp_all
          have hb : b < W.heap.size := by rw [hadd] at c0; exact cell_blk c0
          refine ⟨.mk ⟨x0, x1, x2, x3, rs, q, c, some ⟨b, off, none⟩, len, cap⟩ ((List.range len).map tt), (every_eq _).2 ⟨⟨hr, .inr ⟨b, off, cap, by simp [Tr.f, Tr.ks], hb, by simpa [Tr.ks] using hlc, hcap, fun i t hi => ?_⟩, hfit, hlen⟩, (everyL_iff _).2 fun u hu => ?_⟩, rfl⟩
          · have hi' : ((List.range len).map tt)[i]? = some t := hi
            have hil : i < len := by have := (List.getElem?_eq_some_iff.1 hi').1; simpa using this
            have hqi : tt i = t := by simpa [hil] using hi'
            have hh := (htt i hil).2
            rw [hqi] at hh
            simp only [hadd, ← Nat.add_assoc] at hh
            exact ⟨hh 0 _ rfl, hh 1 _ rfl, hh 2 _ rfl, hh 3 _ rfl, hh 4 _ rfl, hh 5 _ rfl⟩
          · have hu' : u ∈ (List.range len).map tt := hu
            obtain ⟨i, hi, rfl⟩ := List.mem_map.1 hu'
            exact (htt i (List.mem_range.1 hi)).1
theorem cells_mode8 : Try.prog.cellsOf 34 = 2 := by kernel_rfl
theorem cells_bool8 : Try.prog.cellsOf 4 = 1 := by kernel_rfl
set_option maxRecDepth 100000 in
theorem open_node {H : Type} {enc : TypeId × Value → H} {W : World} {base : Nat} {v : Value} {d : DataW H} {p : List MemPlace} (hok : Value.okWide Try.prog W .any base 25 v)
    (h : DataW.Trod enc Try.prog W 0 (fun _ => true) true 25 v d p) (hw : ∀ n ∈ d.weights Try.prog 25, n ≤ reachBytes) : ∃ t : Tr, TA W t ∧ v = .agg #[.int .i64 t.f.k, .int .i64 t.f.n, .int .i64 t.f.mn, .int .i64 t.f.mx, .slice t.f.rq t.f.rs.length t.f.rc, .slice t.f.kq t.f.kl t.f.kc] := by
  obtain ⟨cs, rfl, hsz⟩ := okWide_struct Try.underlying25 hok
  obtain ⟨fuel, hf⟩ := h
  obtain ⟨t, ht, hcs⟩ := open_nodeF fuel _ _ hf hw
  refine ⟨t, ht, ?_⟩
  obtain ⟨l⟩ := cs
  simp [Value.cells] at hcs
  rw [hcs]
set_option maxRecDepth 100000 in
theorem open_mode8 {H : Type} {enc : TypeId × Value → H} {W : World} {base : Nat} {v : Value} {d : DataW H} {p : List MemPlace} (hok : Value.okWide Try.prog W .any base 34 v)
    (h : DataW.Trod enc Try.prog W 0 (fun _ => true) true 34 v d p) : ∃ c f : Bool, v = .agg #[.bool c, .bool f] := by
  obtain ⟨cs, rfl, hsz⟩ := okWide_struct Try.underlying34 hok
  obtain ⟨fuel, hf⟩ := h
  obtain ⟨xs, k, hk, hxy, hcl, hxl, hfs⟩ := DataW.trod_struct Try.underlying34 hf
  rw [cells_mode8] at hcl
  obtain ⟨l⟩ := cs
  simp [Value.cells] at hcl hfs
  match xs, hxl, l, hcl, hfs with
  | [y0, y1], _, [c0, c1], _, hf =>
    have F0 := hf 0 _ rfl
    have F1 := hf 1 _ rfl
    simp [cells_bool8] at F0 F1
    obtain ⟨b0, e0, -⟩ := DataW.trod_bool Try.underlying4 F0
    obtain ⟨b1, e1, -⟩ := DataW.trod_bool Try.underlying4 F1
    cases e0; cases e1
    exact ⟨b0, b1, rfl⟩
end Go.Proofs.Ytlodjinejeajcab
