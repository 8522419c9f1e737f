/-
  Parts of the proof.
-/
import Derived.Test.YtaikcnoiaaiopaaDoorPlaysProofB16
set_option linter.unusedSimpArgs false
namespace Go.Proofs.YtaikcnoiaaiopaaDoor
open Go Go.RowKit Go.Shelf
attribute [local go_sem] Oper.semAt_some
def rdP (f : Bool) (line : ByteArray) (from' i : Nat) : List Nat := (((cL f line).drop from').take i).reverse
theorem rdP_next {f : Bool} {line : ByteArray} {m i : Nat} (h : m + i < line.size) : rdP f line m (i + 1) = cB f (line[m + i]'h).toNat :: rdP f line m i := by
  unfold rdP
  exact rev_take_next (by rw [List.getElem?_drop]; exact cL_get f line h)
abbrev St3 := Nat × List Nat × Nat
def encS (T : Pt) (x : St3) : Array Value := #[.int .i64 (x.1 : Int), nodeP T x.2.1]
def lastL (pre : List St3) : Nat := match pre.getLast? with
  | none => 0
  | some x => x.2.1.length
structure Bump (hb : Nat) (d : Int) (A B : World) : Prop where
  fr : Fr (fun k => k = hb) A B
  st : ∀ T f lg st, HM A hb T f lg st → HM B hb T f lg (wrap64 (st + d))
def GoodS (f : Bool) (line : ByteArray) (m : Nat) (D : List Nat → Prop) (pre : List St3) : Prop := ∀ j x, pre[j]? = some x → x.1 = m + j + 1 ∧ m + j < line.size ∧ IsLg D (rdP f line m (j + 1)) x.2.1
structure ToldS (f : Bool) (line : ByteArray) (m : Nat) (D : List Nat → Prop) (hb : Nat) (pre : List St3) (x : St3) (V0 V : World) : Prop where
  bump : Bump hb (1 + (x.2.2 : Int)) V0 V
  hm : ∃ T f lg st, HM V0 hb T f lg st
  good : GoodS f line m D (pre ++ [x])
  len : x.2.1.length + x.2.2 ≤ lastL pre + 1
theorem GoodS.snoc {f : Bool} {line : ByteArray} {m : Nat} {D : List Nat → Prop} {pre : List St3} {x : St3} (h : GoodS f line m D pre) (h1 : x.1 = m + pre.length + 1) (h2 : m + pre.length < line.size) (h3 : IsLg D (rdP f line m (pre.length + 1)) x.2.1) : GoodS f line m D (pre ++ [x]) := fun j y hy => by
  rcases Nat.lt_or_ge j pre.length with hj | hj
  · rw [List.getElem?_append_left hj] at hy; exact h j y hy
  · have he : j = pre.length := by
      have := (List.getElem?_eq_some_iff.1 hy).1
      simp at this
      omega
    subst he
    simp at hy
    subst hy
    exact ⟨h1, h2, h3⟩
theorem Bump.only {hb : Nat} {d : Int} {A B : World} (h : Bump hb d A B) {T : Pt} {f : Bool} {lg st : Int} (hh : HM A hb T f lg st) : CellsOnly A B := fun k o hk hc => (h.fr.block k (Array.getElem?_eq_some_iff.1 hk).1 (fun e => by subst e; rw [hh] at hk; cases hk; cases hc)).trans hk
def HInv (base : Nat) (f : Bool) (T : Pt) (D : List Nat → Prop) (R : List Nat → Nat → Prop) (K : List Nat → Kn) (hb : Nat) (lg : Int) (V : World) : Prop := TrM base V T D R K ∧ ∃ st, HM V hb T f lg st
theorem HInv.bump {base : Nat} {f : Bool} {T : Pt} {D : List Nat → Prop} {R : List Nat → Nat → Prop} {K : List Nat → Kn} {hb : Nat} {lg d : Int} {A B : World} (h : HInv base f T D R K hb lg A) (k : Bump hb d A B) : HInv base f T D R K hb lg B := by
  obtain ⟨h1, st, h2⟩ := h
  refine ⟨h1.keep (TrK.fr k.fr (fun i cur t hi hc ht => ?_)), _, k.st _ _ _ _ h2⟩
  subst hi
  rw [h2] at hc
  injection hc with hc
  injection hc with _ hc _
  rcases ht with ht | ht <;> exact absurd (hc.trans ht) (by decide)
theorem bump_set {hb : Nat} {A : World} {T : Pt} {f : Bool} {lg st d : Int} (h : HM A hb T f lg st) : Bump hb d A (A.setCell ⟨hb, 3, none⟩ (.int .i64 (wrap64 (st + d)))) := by
  refine ⟨(Fr.refl (fun k => k = hb) A).setCell (p := ⟨hb, 3, none⟩) rfl _, fun T' f' lg' st' h' => ?_⟩
  have e := h.symm.trans h'
  injection e with e
  injection e with e _ _
  have e0 : nodeP T [] = nodeP T' [] ∧ f = f' ∧ lg = lg' ∧ st = st' := by
    have := congrArg Array.toList e
    simpa using this
  obtain ⟨_, _, _, rfl⟩ := e0
  exact (heap_set_in h' 3 _).trans (by simp)
theorem Bump.drewN {hb : Nat} {d : Int} {A B : World} (q : Nat) (h : Bump hb d (A.drewN q) B) : Bump hb d A B := ⟨⟨h.fr.os, h.fr.tape, h.fr.output, h.fr.size, fun k hk hs => h.fr.block k hk hs⟩, fun T f lg st hh => h.st T f lg st hh⟩
set_option maxHeartbeats 1000000 in
theorem read_c (hb m : Nat) (line : ByteArray) (w : World) :
    Calls Tryd.prog 26 #[.pointer (some ⟨hb, 0, none⟩), .string line, .int .i64 (m : Int)] w fun e w' => e = .returned (.func (.func 41) #[] #[.pointer (some ⟨w.heap.size, 0, none⟩), .pointer (some ⟨w.heap.size + 2, 0, none⟩), .pointer (some ⟨w.heap.size + 1, 0, none⟩)]) ∧ w' = ((w.alloc (.cells #[.pointer (some ⟨hb, 0, none⟩)] 25)).alloc (.cells #[.string line] 9)).alloc (.cells #[.int .i64 (m : Int)] 3) := by
  go_enter Tryd.func26, Tryd.ntmps26
  go_wp2
  go_ret
  exact ⟨rfl, rfl⟩
set_option maxRecDepth 100000 in
set_option maxHeartbeats 4000000 in
theorem read_tells (n : Nat) (hn : 1 ≤ n) {base : Nat} {w : World} {f : Bool} {ws : List ByteArray} {T : Pt} {D : List Nat → Prop} {R : List Nat → Nat → Prop} {K : List Nat → Kn} {lg : Int} {B1 B2 B3 hb m : Nat} {line : ByteArray} (hH : Hu base w f ws T D R K lg)
    (h1 : w.heap[B1]? = some (.cells #[.pointer (some ⟨hb, 0, none⟩)] 25 (0, 0))) (h2 : w.heap[B2]? = some (.cells #[.int .i64 (m : Int)] 3 (0, 0))) (h3 : w.heap[B3]? = some (.cells #[.string line] 9 (0, 0))) (hm : m ≤ line.size) (hsz : line.size ≤ 140737488355328) :
    Tells6 n Tryd.prog 41 #[.pointer (some ⟨B1, 0, none⟩), .pointer (some ⟨B2, 0, none⟩), .pointer (some ⟨B3, 0, none⟩)] (encS T) (HInv base f T D R K hb lg) (fun _ => False) (fun k _ => k = B1 ∨ k = B3) (ToldS f line m D hb) (fun xs => GoodS f line m D xs ∧ xs.length = line.size - m) (fun pre => GoodS f line m D pre) w := by
  intro l J Jx J' W hW hJ hJx hJ' hInv hFT hT hY h0
  have hfn : ∀ f, Fence.wide.fn f := fun _ => trivial
  have c1 := cell_row ((hW.block B1 (lt_of_heap h1)).trans h1) (i := 0) rfl
  have c2 := cell_row ((hW.block B2 (lt_of_heap h2)).trans h2) (i := 0) rfl
  have c3 := cell_row ((hW.block B3 (lt_of_heap h3)).trans h3) (i := 0) rfl
  have X1 := hide ((hW.block B1 (lt_of_heap h1)).trans h1)
  have X3 := hide ((hW.block B3 (lt_of_heap h3)).trans h3)
  have LK := hide (show ∀ n, Lk D K n from fun n x hx _ => hH.bk x hx)
  have HCL := hide hH.tr.clo
  have HFW := hide hH.tr.few
  obtain ⟨hT0, st0, hH0⟩ := hInv _ _ h0
  have c4 := cell_row hH0 (i := 0) rfl
  have HJ := hide hJ
  have J0 := hide h0
  have HT := hide hT
  have HI := hide hInv
  clear hH h1 h2 h3 hW hJ h0 hT hInv hFT hJx hJ' hT0 hH0
  refine callsIn_of_wp Tryd.func41 rfl trivial ?_ rfl
  simp only [Tryd.ntmps41, List.size_toArray, List.length_cons, List.length_nil, Nat.reduceAdd, Nat.reduceSub, Array.replicate_succ, Array.replicate_zero, List.push_toArray, List.append_toArray, List.nil_append, List.cons_append]
  gi_wp2
  gi_loopw [5, 6] (fun nv av wr => ∃ (r : List Nat) (i : Nat) (pre : List St3), nv = nodeP T r ∧ av = .int .i64 ((m + i : Nat) : Int) ∧ m + i ≤ line.size ∧ IsLg D (rdP f line m i) r ∧ pre.length = i ∧ lastL pre = r.length ∧ GoodS f line m D pre ∧ J pre wr ∧ TKeep (fun k _ => k = B1 ∨ k = B3) W wr) (fun nv av _ => line.size + 1 - (intOf av).toNat)
  case atStart => exact ⟨[], 0, [], rfl, rfl, hm, by show IsLg D [] []; exact IsLg.nil HCL.out.root, rfl, rfl, fun j x hx => by simp at hx, J0.out, TKeep.refl _ _⟩
  case round =>
    obtain ⟨r, i, pre, rfl, rfl, hi, hr, hpl, hla, hg, hj, hk⟩ := hrel
    have HR := hide hr
    have HPL := hide hpl
    have HLA := hide hla
    have HG := hide hg
    have J1 := hide hj
    have K1 := hide hk
    clear hr hpl hla hg hj hk J0 c1 c2 c3 c4
    obtain ⟨a, ha⟩ : ∃ a, a = m + i := ⟨_, rfl⟩
    have HAe := hide ha
    rw [← ha] at hi ⊢
    have c1 := cell_row (K1.out.same _ _ _ _ (.inl rfl) X1.out) (i := 0) rfl
    have c3 := cell_row (K1.out.same _ _ _ _ (.inr rfl) X3.out) (i := 0) rfl
    clear ha
    by_cases hlt : a < line.size
    · have i0 : (a : Int) < (line.size : Int) := by omega
      have i00 : (0 : Int) ≤ (a : Int) := by omega
      obtain ⟨hT1, st, hH1⟩ := HI.out _ _ J1.out
      have hbb : (line[a]'hlt).toNat < 256 := (line[a]'hlt).toNat_lt
      have CC := hide (fun W (h : Below wr.heap.size wr W) => counted_c (w := W) ((h.block _ (lt_of_heap hH1)).trans hH1) hbb)
      have OV := hide (fun W (h : Below wr.heap.size wr W) => on_v (hT1.below h) HR.out.2.1 (LK.out _) (cB_lt f hbb))
      have OS := hide (onF_spec HCL.out (K := K) (b := cB f (line[a]'hlt).toNat) 1001 HR.out (LK.out _) (by have := HFW.out r HR.out.2.1; omega))
      have RN := hide (show rdP f line m (i + 1) = cB f (line[a]'hlt).toNat :: rdP f line m i by have e := HAe.out; subst e; exact rdP_next hlt)
      have H1 := hide hH1
      obtain ⟨P, hP⟩ : ∃ P, onF D K (cB f (line[a]'hlt).toNat) 1001 r = P := ⟨_, rfl⟩
      rw [hP] at OV OS
      clear hP hT1 hH1
      gi_upto_region 4 with fail
      refine (wpIn_wide (n := n)).2 ?_
      go_quiet (first | (go_at_call 36; exact Calls.quiet_of_same (CC.out _ (below_drewN _ _))) | (go_at_call 40; exact Calls.quiet_of_same (OV.out _ (below_drewN _ _))))
      have BD := hide (below_drewN wr nq)
      have HD := hide (show HM (wr.drewN nq) hb T f lg st from H1.out)
      have J2 := hide (ownFrom_below HJ.out J1.out BD.out)
      have K2 := hide (K1.out.trans (TKeep.below BD.out))
      generalize wr.drewN nq = wd at BD HD J2 K2 ⊢
      clear c1 c3
      have d1 := cell_row (K2.out.same _ _ _ _ (.inl rfl) X1.out) (i := 0) rfl
      have e3 := cell_row HD.out (i := 3) rfl
      have f3 := frz_row HD.out 3
      have lt3 := lt_of_heap HD.out
      have PL := hide (show P.2 ≤ 1002 by have := OS.out.len; have := HFW.out r HR.out.2.1; omega)
      have hw1 : IntKind.wrap .i64 (1 + (P.2 : Int)) = 1 + (P.2 : Int) := wrap_small _ (by omega) (by have := PL.out; omega)
      have hw2 : IntKind.wrap .i64 ((a : Int) + 1) = (a : Int) + 1 := wrap_small _ (by omega) (by omega)
      have BU := hide (bump_set (d := 1 + (P.2 : Int)) HD.out)
      gi_upto_region 6 with fail
      generalize (wd.setCell ⟨hb, 3, none⟩ (.int .i64 (wrap64 (st + (1 + (P.2 : Int)))))) = wb at BU ⊢
      have TD := hide (HT.out pre (a + 1, P.1, P.2) wd wb J2.out ⟨BU.out, ⟨T, f, lg, st, HD.out⟩, HG.out.snoc (by have := HAe.out; have := HPL.out; show a + 1 = _; omega) (by have := HAe.out; have := HPL.out; omega) (by rw [HPL.out, RN.out]; exact OS.out.lg), by rw [HLA.out]; exact OS.out.len⟩)
      obtain ⟨fn, tmps, assign, body, hy, hR2⟩ := hY _ _ _ TD.out
      simp only [encS] at hy
      rw [show ((a + 1 : Nat) : Int) = (a : Int) + 1 from rfl] at hy
      have HR2 := hide hR2
      clear hR2 hY d1 e3 f3
      gi_wp2
      refine HR2.out.mono ?_
      rintro e W3 ⟨hkf, (⟨rfl, hJ3, hc3⟩ | ⟨rfl, hJx3⟩)⟩
      · have J3 := hide hJ3
        have KB : TKeep (fun k _ => k = B1 ∨ k = B3) wd wb := BU.out.fr.tkeep (fun k cur t fr hk hc hN => by
          subst hk
          rw [HD.out] at hc
          injection hc with hc
          injection hc with _ hc _
          rcases hN with rfl | rfl
          · have h5 := K2.out.same _ _ _ _ (.inl rfl) X1.out
            rw [HD.out] at h5; injection h5 with h5; injection h5 with _ h5 _; exact absurd h5 (by decide)
          · have h5 := K2.out.same _ _ _ _ (.inr rfl) X3.out
            rw [HD.out] at h5; injection h5 with h5; injection h5 with _ h5 _; exact absurd h5 (by decide))
        have K3 := hide ((K2.out.trans KB).trans hc3)
        clear hJ3 hc3 hkf hy HR2 KB
        gi_wp2
        go_roundw
        case rel => exact ⟨P.1, i + 1, pre ++ [(a + 1, P.1, P.2)], rfl, by have h5 := HAe.out; rw [show m + (i + 1) = a + 1 by omega]; rfl, by have h5 := HAe.out; omega, by rw [RN.out]; exact OS.out.lg, by rw [List.length_append, HPL.out]; rfl, by simp [lastL], HG.out.snoc (by have := HAe.out; have := HPL.out; show a + 1 = _; omega) (by have := HAe.out; have := HPL.out; omega) (by rw [HPL.out, RN.out]; exact OS.out.lg), J3.out, K3.out⟩
        case measure => simp [intOf]; omega
      · have J3 := hide hJx3
        clear hJx3 hkf hy HR2
        gi_wp2
        refine bodyPost_ret (results_none rfl _ _ _) rfl ?_
        exact ⟨⟨_, rfl⟩, .inr ⟨_, HG.out.snoc (by have := HAe.out; have := HPL.out; show a + 1 = _; omega) (by have := HAe.out; have := HPL.out; omega) (by rw [HPL.out, RN.out]; exact OS.out.lg), J3.out⟩⟩
    · have i0 : ¬ (a : Int) < (line.size : Int) := by omega
      gi_wp2
      go_end0
      exact ⟨⟨_, rfl⟩, .inl ⟨pre, ⟨HG.out, by have := HAe.out; have := HPL.out; omega⟩, J1.out⟩⟩
end Go.Proofs.YtaikcnoiaaiopaaDoor
namespace Go.Proofs.YtaikcnoiaaiopaaDoor
open Go Go.RowKit Go.Shelf
abbrev Ev := (Nat × Nat) ⊕ Nat
def encP (x : Nat × Nat) : Array Value := #[.int .i64 (x.1 : Int), .int .i64 (x.2 : Int)]
def tl (pre : List Ev) : List (Nat × Nat) := pre.filterMap fun | .inl x => some x | .inr _ => none
def bs (pre : List Ev) : Nat := pre.foldr (fun x n => (match x with | .inl _ => 0 | .inr d => d) + n) 0
theorem tl_inl (pre : List Ev) (x : Nat × Nat) : tl (pre ++ [.inl x]) = tl pre ++ [x] := by simp [tl]
theorem tl_inr (pre : List Ev) (d : Nat) : tl (pre ++ [.inr d]) = tl pre := by simp [tl]
theorem bs_app (a b : List Ev) : bs (a ++ b) = bs a + bs b := by
  induction a with
  | nil => simp [bs]
  | cons x a ih => simp only [bs, List.cons_append, List.foldr_cons] at ih ⊢; rw [ih]; omega
theorem bs_inl (pre : List Ev) (x : Nat × Nat) : bs (pre ++ [.inl x]) = bs pre := by rw [bs_app]; simp [bs]
theorem bs_inr (pre : List Ev) (d : Nat) : bs (pre ++ [.inr d]) = bs pre + d := by rw [bs_app]; simp [bs]
def TellsE (n : Nat) (P : Program) (gf : Nat) (lb : Array Value) (Inv : World → Prop) (τ : TypeId → Prop) (N : Nat → TypeId → Prop) (hb : Nat) (Ok : List Ev → Nat × Nat → Prop) (S Sp : List Ev → Prop) (w : World) : Prop :=
  ∀ (l : Nat) (J Jx : List Ev → World → Prop) (W : World), Below w.heap.size w W → OwnFrom W.heap.size J → OwnFrom W.heap.size Jx → (∀ pre V, J pre V → Inv V) → (∀ pre A B, J pre A → FT W.heap.size τ A B → J pre B) → (∀ pre A B, Jx pre A → FT W.heap.size τ A B → Jx pre B) → (∀ pre (d : Nat) A B, J pre A → Bump hb (d : Int) A B → J (pre ++ [.inr d]) B) →
    (∀ pre x V, J pre V → Ok pre x → YieldAt Fence.wide (n - 1) P l (encP x) V fun e V' => KeepsFrom W.heap.size V V' ∧ ((e = .returned (.bool true) ∧ J (pre ++ [.inl x]) V' ∧ TKeep N V V') ∨ (e = .returned (.bool false) ∧ Jx (pre ++ [.inl x]) V' ∧ TKeep N V V'))) →
    J [] W → CallsIn Fence.wide n P gf (#[.func (.yield l) #[] #[]] ++ lb) W fun e V => (∃ v, e = .returned v) ∧ ((∃ xs, S xs ∧ J xs V) ∨ (∃ pre, Sp pre ∧ Jx pre V))
section
variable {P : Program}
theorem round_endsE {D : Nat} {N : Nat → TypeId → Prop} {r : Loop} {I : List Ev → World → Prop} {Ix : Code → List Ev → World → Prop} {xs : List Ev} {V W W3 : World} {e : Exit} {a3 : Act}
    (hI : OwnFrom D I) (hIx : ∀ c, OwnFrom D (Ix c)) (hc : TKeep N V W) (hr : Rc D { r with state := .busy } W)
    (hv : KeepsFrom (D + 2) V W) (hp : ownPostG D (TKeep N) I (fun c xs W' => Ix c xs W' ∧ TKeep N W W') xs W e a3 W3) : roundPost P (D + 1) (fun e V' => KeepsFrom (D + 2) V V' ∧ ((e = .returned (.bool true) ∧ (I xs V' ∧ Rc D { r with state := .ready, pending := none } V') ∧ TKeep N V V') ∨ (e = .returned (.bool false) ∧ (∃ c, Ix c xs V' ∧ Rc D { r with state := .done, pending := some c } V') ∧ TKeep N V V'))) e a3 W3 := by
  have out : ∀ c : Code, KeepsFrom D W W3 → Ix c xs W3 ∧ TKeep N W W3 → ∃ v V', (Instr.endRound (D + 1) (some c)).run P W3 = .ok v V' ∧ (KeepsFrom (D + 2) V V' ∧ ((Ending.returned v = .returned (.bool true) ∧ (I xs V' ∧ Rc D { r with state := .ready, pending := none } V') ∧ TKeep N V V') ∨ (Ending.returned v = .returned (.bool false) ∧ (∃ c, Ix c xs V' ∧ Rc D { r with state := .done, pending := some c } V') ∧ TKeep N V V'))) := fun c hk hi => by
    have h3 := hr.from hk
    exact ⟨_, _, run_endRound (some c) h3.1, (hv.trans (keeps_le hk (by omega))).trans (keeps_put _ _ (by omega)), .inr ⟨rfl, ⟨c, (hIx c).putObj _ hi.1 (by omega) h3.1 rfl, h3.put _⟩, (hc.trans hi.2).trans (TKeep.put _ h3.1 rfl)⟩⟩
  cases e with
  | normal =>
    obtain ⟨hk, hkp, hi⟩ := hp
    have h3 := hr.from hk
    exact ⟨_, _, run_endRound none h3.1, (hv.trans (keeps_le hk (by omega))).trans (keeps_put _ _ (by omega)), .inl ⟨rfl, ⟨hI.putObj _ hi (by omega) h3.1 rfl, h3.put _⟩, (hc.trans hkp).trans (TKeep.put _ h3.1 rfl)⟩⟩
  | ret => exact out .ret hp.1 hp.2
  | exit id => exact out (.exit id) hp.1 hp.2
  | goto t => exact out (.goto t) hp.1 hp.2
  | panic ch => exact hp.elim
  | outgrown => exact hp.elim
theorem range_toldE {g : Operand} {ps : Array Tmp} {assign body : Code} {Q : Exit → Act → World → Prop} {a : Act} {w : World} {n : Nat} (h1 : 1 ≤ n) {gf : Nat} {lb : Array Value}
    (hg : a.eval g = .func (.func gf) #[] lb) (eg : ∀ args w, (callFunc gf args).run P w = .ok (.enter gf args) w) (hps : ps.size = 2)
    {Inv : World → Prop} {τ : TypeId → Prop} {N : Nat → TypeId → Prop} {hb : Nat} {Ok : List Ev → Nat × Nat → Prop} {S Sp : List Ev → Prop} (hseq : TellsE (n - 1) P gf lb Inv τ N hb Ok S Sp w)
    (I : List Ev → World → Prop) (Ix : Code → List Ev → World → Prop) (hI : OwnFrom w.heap.size I) (hIx : ∀ c, OwnFrom w.heap.size (Ix c)) (hInv : ∀ pre V, I pre V → Inv V) (hFT : ∀ pre A B, I pre A → FT w.heap.size τ A B → I pre B) (hFTx : ∀ c pre A B, Ix c pre A → FT w.heap.size τ A B → Ix c pre B)
    (hco : ∀ V, Inv V → ∃ T f lg st, HM V hb T f lg st) (hBu : ∀ pre (d : Nat) A B, I pre A → Bump hb (d : Int) A B → I (pre ++ [.inr d]) B) (h0 : I [] w) (a₁ : Nat × Nat → Act)
    (hassign : ∀ (l : Nat) (x : Nat × Nat) (W : World) (K : Act → World → Prop), K (a₁ x) W →
      assign.wpIn (Fence.wide.inRound l) (n - 1 - 1) P (Exit.then K (fun _ _ _ => False)) { tmps := (ps.zip (encP x)).foldl (fun t (p, v) => t.setIfInBounds p v) a.tmps, defers := [] } W)
    (hbody : ∀ (l : Nat) (pre : List Ev) (x : Nat × Nat) (W : World), I pre W → Ok pre x → body.wpIn (Fence.wide.inRound l) (n - 1 - 1) P (ownPostG w.heap.size (TKeep N) I (fun c xs W' => Ix c xs W' ∧ TKeep N W W') (pre ++ [.inl x]) W) (a₁ x) W)
    (hdone : ∀ (D : Nat) (xs : List Ev) (W : World), w.heap.size ≤ D → S xs → I xs W → W.heap[D]? = some (.deferred (some [])) → Q .normal { a with defers := { target := .collected D, args := #[] } :: a.defers } W)
    (hstop : ∀ (D : Nat) (c : Code) (pre : List Ev) (W : World), w.heap.size ≤ D → Sp pre → Ix c pre W → W.heap[D]? = some (.deferred (some [])) → c.wpIn Fence.wide n P Q { a with defers := { target := .collected D, args := #[] } :: a.defers } W) :
    (Code.rangeFunc g ps assign body).wpIn Fence.wide n P Q a w := by
  refine wpIn_rangeFunc fun fn hfn => ?_
  let r : Loop := { state := .ready, pending := none, fn := fn, tmps := a.tmps, params := ps, assign := assign, body := body, defers := w.heap.size }
  have hB : Below w.heap.size w ((w.alloc (.deferred (some []))).alloc (.loop r)) := ((Below.refl _ _).alloc (Nat.le_refl _) _).alloc (by simp) _
  have hR : Rc w.heap.size r ((w.alloc (.deferred (some []))).alloc (.loop r)) := by
    refine ⟨?_, (Below.heap_alloc _ _ _ (by simp)).trans (World.alloc_heap_new w _)⟩
    have := World.alloc_heap_new (w.alloc (.deferred (some []))) (.loop r)
    rwa [World.size_alloc] at this
  refine ⟨w.heap.size + 1, [{ target := .collected w.heap.size, args := #[] }], ((w.alloc (.deferred (some []))).alloc (.loop r)), { target := .fn (.func gf) lb, args := #[.func (.yield (w.heap.size + 1)) #[] #[]] }, ((w.alloc (.deferred (some []))).alloc (.loop r)), gf, #[.func (.yield (w.heap.size + 1)) #[] #[]] ++ lb, ((w.alloc (.deferred (some []))).alloc (.loop r)),
    run_enterLoop_outer _ _ _ _ _, ?_, fun _ _ => trivial, ?_, fun _ => h1, ?_⟩
  · simp only [resolve, hg]
    simp [go_sem]
  · simp [invoke, go_sem, eg]
  · have hz : ((w.alloc (.deferred (some []))).alloc (.loop r)).heap.size = w.heap.size + 2 := by simp
    refine (hseq (w.heap.size + 1) (fun pre W => I pre W ∧ Rc w.heap.size r W) (fun pre W => ∃ c, Ix c pre W ∧ Rc w.heap.size { r with state := .done, pending := some c } W) _ hB
      ?_ ?_ (fun pre V h => hInv pre V h.1) (fun pre A B h hf => ⟨hFT pre A B h.1 (hf.lower (by rw [hz]; omega)), h.2.only (fun k o hk hc => hf.keep hk (fun cur t e => by subst e; cases hc))⟩) (fun pre A B ⟨c, h1, h2⟩ hf => ⟨c, hFTx c pre A B h1 (hf.lower (by rw [hz]; omega)), h2.only (fun k o hk hc => hf.keep hk (fun cur t e => by subst e; cases hc))⟩) (fun pre d A B h hu => ⟨hBu pre d A B h.1 hu, by obtain ⟨T, f, lg, st, hh⟩ := hco A (hInv pre A h.1); exact h.2.only (hu.only hh)⟩) ?_ ⟨hI.alloc _ (hI.alloc _ h0), hR⟩).mono ?_
    · rw [hz]
      exact (ownFrom_le hI (by omega)).and (rc_own _)
    · rw [hz]
      rintro pre A B row ⟨c, hi, hr⟩ hg hrow
      exact ⟨c, ownFrom_le (hIx c) (by omega) pre A B row hi hg hrow, rc_own (β := Unit) _ () A B row hr hg hrow⟩
    · rw [hz]
      rintro pre x V ⟨hi, hr⟩ hok
      refine ⟨fn, _, assign, body, run_yield hr.1 (by rw [hps]; rfl), roundIn_of_wpIn hfn (hassign _ x V _ ?_)⟩
      refine ⟨_, run_beginRound hr.1 rfl, ?_⟩
      have hr2 : Rc w.heap.size { r with state := .busy } (V.putObj (w.heap.size + 1) (.loop { r with state := .busy })) := hr.put _
      exact wpIn_mono (hbody _ pre x _ (hI.putObj _ hi (by omega) hr.1 rfl) hok) fun e a3 W3 hp =>
        round_endsE (r := r) hI hIx (TKeep.put _ hr.1 rfl) hr2 (keeps_put _ _ (by omega)) hp
    · rintro e V ⟨⟨v, rfl⟩, (⟨xs, hS, hi, hr⟩ | ⟨pre, hSp, c, hi, hr⟩)⟩
      · exact ⟨none, _, run_endLoop hr.1 (by simp [r]), hdone _ xs _ (Nat.le_refl _) hS (hI.putObj _ hi (by omega) hr.1 rfl) ((World.putObj_heap_other (by omega)).trans hr.2)⟩
      · exact ⟨some c, _, run_endLoop hr.1 (by simp), hstop _ c pre _ (Nat.le_refl _) hSp ((hIx c).putObj _ hi (by omega) hr.1 rfl) ((World.putObj_heap_other (by omega)).trans hr.2)⟩
end
end Go.Proofs.YtaikcnoiaaiopaaDoor
