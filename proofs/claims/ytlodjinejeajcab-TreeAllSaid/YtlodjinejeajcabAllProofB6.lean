/-
  A range over a function whose body keeps a word of its own. places: a tree's nodes in memory of their own.
-/
import Derived.Test.YtlodjinejeajcabC1
import Derived.Test.YtlodjinejeajcabC2
import Derived.Maps.OwnIn
import Derived.Sort.CutIn
namespace Go.Proofs.Ytlodjinejeajcab
open Go Go.RowKit Go.Shelf

/-- What an iterator does with a loop: each element is handed over with what is known of it (Told); at the end all were (S), or the loop was left behind some (Sp). What the loop says must bear that records laid since the iterator was called change. -/
def TellsK {α : Type} (n : Nat) (P : Program) (gf : Nat) (lb : Array Value) (encs : α → Array Value) (Kp : α → World → World → Prop) (Told : List α → α → World → Prop) (S Sp : List α → Prop) (w : World) : Prop :=
  ∀ (l : Nat) (J Jx : List α → World → Prop) (W : World), Below w.heap.size w W → OwnFrom W.heap.size J → OwnFrom W.heap.size Jx → (∀ pre V, J pre V → pre.length ≤ 1000000) →
    (∀ pre x V, J pre V → Told pre x V → YieldAt Fence.wide (n - 1) P l (encs x) V fun e V' => KeepsFrom W.heap.size V V' ∧ ((e = .returned (.bool true) ∧ J (pre ++ [x]) V' ∧ Kp x V V') ∨ (e = .returned (.bool false) ∧ Jx (pre ++ [x]) V'))) →
    J [] W → CallsIn Fence.wide n P gf (#[.func (.yield l) #[] #[]] ++ lb) W fun e V => (∃ v, e = .returned v) ∧ ((∃ xs, S xs ∧ J xs V) ∨ (∃ pre, Sp pre ∧ Jx pre V))
section
variable {α : Type} {P : Program}
/-- How a round ends, seen from the loop. -/
theorem round_endsK {D : Nat} {Kp : World → World → Prop} {r : Loop} {I : List α → World → Prop} {Ix : Code → List α → World → Prop} {xs : List α} {V W W3 : World} {e : Exit} {a3 : Act}
    (hKt : ∀ {A B C : World}, Kp A B → Kp B C → Kp A C) (hKp : ∀ {W : World} {l : Nat} {o : Obj} (o' : Obj), W.heap[l]? = some o → o.isCells = false → Kp W (W.putObj l o')) (hI : OwnFrom D I) (hIx : ∀ c, OwnFrom D (Ix c)) (hr : Rc D { r with state := .busy } W)
    (hv : KeepsFrom (D + 2) V W) (hp : ownPostG D (fun _ W' => Kp V W') I Ix xs W e a3 W3) : roundPost P (D + 1) (fun e V' => KeepsFrom (D + 2) V V' ∧ ((e = .returned (.bool true) ∧ (I xs V' ∧ Rc D { r with state := .ready, pending := none } V') ∧ Kp V V') ∨ (e = .returned (.bool false) ∧ ∃ c, Ix c xs V' ∧ Rc D { r with state := .done, pending := some c } V'))) e a3 W3 := by
  have out : ∀ c : Code, KeepsFrom D W W3 → Ix c xs W3 → ∃ v V', (Instr.endRound (D + 1) (some c)).run P W3 = .ok v V' ∧ (KeepsFrom (D + 2) V V' ∧ ((Ending.returned v = .returned (.bool true) ∧ (I xs V' ∧ Rc D { r with state := .ready, pending := none } V') ∧ Kp V V') ∨ (Ending.returned v = .returned (.bool false) ∧ ∃ c, Ix c xs V' ∧ Rc D { r with state := .done, pending := some c } V'))) := fun c hk hi => by
    have h3 := hr.from hk
    exact ⟨_, _, run_endRound (some c) h3.1, (hv.trans (keeps_le hk (by omega))).trans (keeps_put _ _ (by omega)), .inr ⟨rfl, c, (hIx c).putObj _ hi (by omega) h3.1 rfl, h3.put _⟩⟩
  cases e with
  | normal =>
    obtain ⟨hk, hkp, hi⟩ := hp
    have h3 := hr.from hk
    exact ⟨_, _, run_endRound none h3.1, (hv.trans (keeps_le hk (by omega))).trans (keeps_put _ _ (by omega)), .inl ⟨rfl, ⟨hI.putObj _ hi (by omega) h3.1 rfl, h3.put _⟩, hKt hkp (hKp _ h3.1 rfl)⟩⟩
  | ret => exact out .ret hp.1 hp.2
  | exit id => exact out (.exit id) hp.1 hp.2
  | goto t => exact out (.goto t) hp.1 hp.2
  | panic ch => exact hp.elim
  | outgrown => exact hp.elim

theorem range_toldK {g : Operand} {ps : Array Tmp} {assign body : Code} {Q : Exit → Act → World → Prop} {a : Act} {w : World} {n : Nat} (h1 : 1 ≤ n) {gf : Nat} {lb : Array Value}
    (hg : a.eval g = .func (.func gf) #[] lb) (eg : ∀ args w, (callFunc gf args).run P w = .ok (.enter gf args) w) {encs : α → Array Value} (hps : ∀ x, (encs x).size = ps.size)
    {Kp : α → World → World → Prop} {Told : List α → α → World → Prop} {S Sp : List α → Prop} (hKt : ∀ {x : α} {A B C : World}, Kp x A B → Kp x B C → Kp x A C) (hKp : ∀ {x : α} {W : World} {l : Nat} {o : Obj} (o' : Obj), W.heap[l]? = some o → o.isCells = false → Kp x W (W.putObj l o')) (hKb : ∀ {x : α} {W W' : World}, Below W.heap.size W W' → Kp x W W') (hseq : TellsK (n - 1) P gf lb encs Kp Told S Sp w)
    (I : List α → World → Prop) (Ix : Code → List α → World → Prop) (hI : OwnFrom w.heap.size I) (hIx : ∀ c, OwnFrom w.heap.size (Ix c)) (hT : ∀ pre x, OwnFrom w.heap.size (fun (_ : Unit) W => Told pre x W)) (hbd : ∀ pre W, I pre W → pre.length ≤ 1000000) (h0 : I [] w) (Ax : Nat → α → Act → World → Prop) (hAx : ∀ s x a', OwnFrom w.heap.size (fun (_ : Unit) W => Ax s x a' W))
    (hassign : ∀ (l : Nat) (pre : List α) (x : α) (W : World) (K : Act → World → Prop), I pre W → Told pre x W → (∀ a' W', Below W.heap.size W W' → Ax W.heap.size x a' W' → K a' W') →
      assign.wpIn (Fence.wide.inRound l) (n - 1 - 1) P (Exit.then K (fun _ _ _ => False)) { tmps := (ps.zip (encs x)).foldl (fun t (p, v) => t.setIfInBounds p v) a.tmps, defers := [] } W)
    (hbody : ∀ (l : Nat) (pre : List α) (x : α) (a' : Act) (V0 W : World), I pre W → Told pre x W → Ax V0.heap.size x a' W → Kp x V0 W → V0.heap.size ≤ W.heap.size → body.wpIn (Fence.wide.inRound l) (n - 1 - 1) P (ownPostG w.heap.size (fun _ W' => Kp x V0 W') I Ix (pre ++ [x]) W) a' W)
    (hdone : ∀ (D : Nat) (xs : List α) (W : World), w.heap.size ≤ D → S xs → I xs W → W.heap[D]? = some (.deferred (some [])) → Q .normal { a with defers := { target := .collected D, args := #[] } :: a.defers } W)
    (hstop : ∀ (D : Nat) (c : Code) (pre : List α) (W : World), w.heap.size ≤ D → Sp pre → Ix c pre W → W.heap[D]? = some (.deferred (some [])) → c.wpIn Fence.wide n P Q { a with defers := { target := .collected D, args := #[] } :: a.defers } W) :
    (Code.rangeFunc g ps assign body).wpIn Fence.wide n P Q a w := by
  refine wpIn_rangeFunc fun fn hfn => ?_
  let r : Loop := { state := .ready, pending := none, fn := fn, tmps := a.tmps, params := ps, assign := assign, body := body, defers := w.heap.size }
  have hB : Below w.heap.size w ((w.alloc (.deferred (some []))).alloc (.loop r)) := ((Below.refl _ _).alloc (Nat.le_refl _) _).alloc (by simp) _
  have hz : ((w.alloc (.deferred (some []))).alloc (.loop r)).heap.size = w.heap.size + 2 := by simp
  have hR : Rc w.heap.size r ((w.alloc (.deferred (some []))).alloc (.loop r)) := by
    refine ⟨?_, (Below.heap_alloc _ _ _ (by simp)).trans (World.alloc_heap_new w _)⟩
    have := World.alloc_heap_new (w.alloc (.deferred (some []))) (.loop r)
    rwa [World.size_alloc] at this
  refine ⟨w.heap.size + 1, [{ target := .collected w.heap.size, args := #[] }], ((w.alloc (.deferred (some []))).alloc (.loop r)), { target := .fn (.func gf) lb, args := #[.func (.yield (w.heap.size + 1)) #[] #[]] }, ((w.alloc (.deferred (some []))).alloc (.loop r)), gf, #[.func (.yield (w.heap.size + 1)) #[] #[]] ++ lb, ((w.alloc (.deferred (some []))).alloc (.loop r)),
    run_enterLoop_outer _ _ _ _ _, ?_, fun _ _ => trivial, ?_, fun _ => h1, ?_⟩
  · simp only [resolve, hg]
    simp [go_sem]
  · simp [invoke, go_sem, eg]
  · refine (hseq (w.heap.size + 1) (fun pre W => I pre W ∧ Rc w.heap.size r W) (fun pre W => ∃ c, Ix c pre W ∧ Rc w.heap.size { r with state := .done, pending := some c } W) _ hB
      ?_ ?_ (fun pre V h => hbd pre V h.1) ?_ ⟨hI.alloc _ (hI.alloc _ h0), hR⟩).mono ?_
    · rw [hz]
      exact (ownFrom_le hI (by omega)).and (rc_own _)
    · rw [hz]
      rintro pre A B row ⟨c, hi, hr⟩ hg hrow
      exact ⟨c, ownFrom_le (hIx c) (by omega) pre A B row hi hg hrow, rc_own (β := Unit) _ () A B row hr hg hrow⟩
    · rw [hz]
      rintro pre x V ⟨hi, hr⟩ ht
      refine ⟨fn, _, assign, body, run_yield hr.1 (hps x), roundIn_of_wpIn hfn (hassign _ pre x V _ hi ht ?_)⟩
      intro a' W' hb hax
      have hr' := hr.below hb
      refine ⟨_, run_beginRound hr'.1 rfl, ?_⟩
      have hr2 : Rc w.heap.size { r with state := .busy } (W'.putObj (w.heap.size + 1) (.loop { r with state := .busy })) := hr'.put _
      exact wpIn_mono (hbody _ pre x a' V _ (hI.putObj _ (ownFrom_below hI hi hb) (by omega) hr'.1 rfl) ((hT pre x).putObj (s := ()) _ (ownFrom_below (hT pre x) (s := ()) ht hb) (by omega) hr'.1 rfl) ((hAx _ x a').putObj (s := ()) _ hax (by omega) hr'.1 rfl) (hKt (hKb hb) (hKp _ hr'.1 rfl)) (Nat.le_trans hb.size (grownBy_putObj' _ _ _).size)) fun e a3 W3 hp =>
        round_endsK (r := r) (Kp := Kp x) hKt hKp hI hIx hr2 ((keeps_below hb).trans (keeps_put _ _ (by omega))) hp
    · rintro e V ⟨⟨v, rfl⟩, (⟨xs, hS, hi, hr⟩ | ⟨pre, hSp, c, hi, hr⟩)⟩
      · exact ⟨none, _, run_endLoop hr.1 (by simp [r]), hdone _ xs _ (Nat.le_refl _) hS (hI.putObj _ hi (by omega) hr.1 rfl) ((World.putObj_heap_other (by omega)).trans hr.2)⟩
      · exact ⟨some c, _, run_endLoop hr.1 (by simp), hstop _ c pre _ (Nat.le_refl _) hSp ((hIx c).putObj _ hi (by omega) hr.1 rfl) ((World.putObj_heap_other (by omega)).trans hr.2)⟩
end
set_option maxRecDepth 100000 in
set_option maxHeartbeats 4000000 in
theorem desc_cK {w0 : World} {L : List El} {l b1 : Nat} {J Jx : List El → World → Prop} {B : Nat} {Kp : World → World → Prop} (hK1 : ∀ {V V' : World}, Kp V V' → CKeep (fun k => k < w0.heap.size) V V') (hK2 : ∀ {V V' : World} {k : Nat} {f : Fl}, Kp V V' → b1 ≤ k → BoxN V k f → BoxN V' k f) (hJ : OwnFrom B J) (n : Nat) (hL : ∀ pre V, J pre V → pre.length ≤ 1000000)
    (hY : ∀ pre x V, J pre V → pre ++ [x] <+: L → YieldAt Fence.wide (n - 1) Try.prog l (encN x) V fun e V' => KeepsFrom B V V' ∧ ((e = .returned (.bool true) ∧ J (pre ++ [x]) V' ∧ Kp V V') ∨ (e = .returned (.bool false) ∧ Jx (pre ++ [x]) V'))) :
    ∀ (m : Nat) (t : Tr) (p : Way) (pre : List El) (V : World), t.sz ≤ m → pre ++ pp p t <+: L → TA w0 t → CK w0 V → J pre V → p.length ≤ pre.length → b1 ≤ V.heap.size →
      CallsIn Fence.wide n Try.prog 52 #[.agg #[.int .i64 t.f.k, .int .i64 t.f.n, .int .i64 t.f.mn, .int .i64 t.f.mx, .slice t.f.rq t.f.rs.length t.f.rc, .slice t.f.kq t.f.kl t.f.kc], .int .i64 ((p.length : Int) + 1), .func (.yield l) #[] #[]] V (DescPost w0 b1 L J Jx (pre ++ pp p t)) := by
  intro m
  induction m with
  | zero => intro t p pre V hm; exact absurd (sz_pos t) (by omega)
  | succ m ih =>
    intro t p pre V hm hpre hta hck hj hpl hb1
    have hfn : ∀ f, Fence.wide.fn f := fun _ => trivial
    have IH := hide ih
    have HL := hide hL
    have HPRE := hide hpre
    have HTA := hide hta
    have HM := hide hm
    have hlen := hL pre V hj
    obtain ⟨q, cap, hkv, hk1, hk2, hk3⟩ := hta.node.k.slice
    injection hkv with hkq hkl hkc
    subst hkq
    have HKL := hide hkl
    have HK3 := hide hk3
    have hkm : t.ks.length ≤ 9223372036854775807 := hk1
    clear hkl hkc hk3 hk1
    have B1 : Hid (Below V.heap.size V (V.alloc (.cells #[.int .i64 t.f.k, .int .i64 t.f.n, .int .i64 t.f.mn, .int .i64 t.f.mx, .slice t.f.rq t.f.rs.length t.f.rc, .slice t.f.kq t.f.kl t.f.kc] 25))) := (Below.refl _ _).alloc (Nat.le_refl _) _
    have N1 : Hid (BoxN (V.alloc (.cells #[.int .i64 t.f.k, .int .i64 t.f.n, .int .i64 t.f.mn, .int .i64 t.f.mx, .slice t.f.rq t.f.rs.length t.f.rc, .slice t.f.kq t.f.kl t.f.kc] 25)) V.heap.size t.f) := alloc_new V _
    have J1 : Hid (J pre (V.alloc (.cells #[.int .i64 t.f.k, .int .i64 t.f.n, .int .i64 t.f.mn, .int .i64 t.f.mx, .slice t.f.rq t.f.rs.length t.f.rc, .slice t.f.kq t.f.kl t.f.kc] 25))) := hJ.alloc _ hj
    have C1 : Hid (CK w0 (V.alloc (.cells #[.int .i64 t.f.k, .int .i64 t.f.n, .int .i64 t.f.mn, .int .i64 t.f.mx, .slice t.f.rq t.f.rs.length t.f.rc, .slice t.f.kq t.f.kl t.f.kc] 25))) := hck.trans (CK.of_below B1.out)
    have Hb1 := hide hb1
    clear ih hL hpre hta hm hj hck hb1
    refine callsIn_of_wp Try.func52 rfl trivial ?_ rfl
    simp only [Try.ntmps52, List.size_toArray, List.length_cons, List.length_nil, Nat.reduceAdd, Nat.reduceSub, Array.replicate_succ, Array.replicate_zero, List.push_toArray, List.append_toArray, List.nil_append, List.cons_append]
    have cs := N1.out.six
    obtain ⟨fn, tmps, assign, body, hy, hR⟩ := hY pre (p, t) _ J1.out (pre_cons HPRE.out List.nil_prefix)
    simp only [encN] at hy
    obtain ⟨c0, c1, c2, c3, c4, c5⟩ := cs
    simp only [Nat.zero_add] at c1 c2 c3 c4 c5
    gi_wp2
    refine ⟨(fun z => by cases z), hR.mono ?_⟩
    rintro e W3 ⟨-, (⟨rfl, hJ3, hk3⟩ | ⟨rfl, hJx3⟩)⟩
    · have cc5 : W3.cell? ⟨V.heap.size, 5, none⟩ = some (.slice t.f.kq t.f.kl t.f.kc) := (hK2 hk3 Hb1.out N1.out).six.2.2.2.2.2
      have J3 := hide hJ3
      have C3 : Hid (CK w0 W3) := C1.out.step (hK1 hk3)
      have S3 : Hid (b1 ≤ W3.heap.size) := Nat.le_trans Hb1.out (Nat.le_trans B1.out.size (hK1 hk3).size)
      rw [HKL.out] at cc5
      clear hJ3 hk3 hy hR c0 c1 c2 c3 c4 c5 J1 C1 N1 B1
      gi_wp2
      gi_loopw [17] (fun i wr => ∃ j : Nat, j ≤ t.ks.length ∧ i = .int .i64 (j : Int) ∧ J (pre ++ (p, t) :: pps t p 0 (t.ks.take j)) wr ∧ CK w0 wr ∧ b1 ≤ wr.heap.size) (fun i _ => t.ks.length - (intOf i).toNat)
      case atStart => exact ⟨0, Nat.zero_le _, rfl, by rw [List.take_zero, pps_nil]; exact J3.out, C3.out, S3.out⟩
      case round =>
        clear J3 C3 S3 cc5
        obtain ⟨j, hj, rfl, hj1, hj2, hj3⟩ := hrel
        have HJ := hide hj1
        have HC := hide hj2
        have HS := hide hj3
        clear hj1 hj2 hj3
        by_cases hjl : j < t.ks.length
        · have e0 : (j : Int) < (t.ks.length : Int) := by omega
          obtain ⟨u, hu⟩ : ∃ u, t.ks[j]? = some u := ⟨_, List.getElem?_eq_getElem hjl⟩
          obtain ⟨g, off, hq, hg, hsix⟩ := HK3.out j u hu
          rw [hq]
          have HU := hide hu
          have hin : u ∈ t.ks := List.mem_of_getElem? hu
          obtain ⟨c0, c1, c2, c3, c4, c5⟩ := hsix.ck HC.out hg
          have B4 : Hid (Below wr.heap.size wr (wr.alloc (.cells #[.int .i64 u.f.k, .int .i64 u.f.n, .int .i64 u.f.mn, .int .i64 u.f.mx, .slice u.f.rq u.f.rs.length u.f.rc, .slice u.f.kq u.f.kl u.f.kc] 25))) := (Below.refl _ _).alloc (Nat.le_refl _) _
          have N4 : Hid (BoxN (wr.alloc (.cells #[.int .i64 u.f.k, .int .i64 u.f.n, .int .i64 u.f.mn, .int .i64 u.f.mx, .slice u.f.rq u.f.rs.length u.f.rc, .slice u.f.kq u.f.kl u.f.kc] 25)) wr.heap.size u.f) := alloc_new wr _
          obtain ⟨d0, d1, d2, d3, d4, d5⟩ := N4.out.six
          simp only [Nat.zero_add] at d1 d2 d3 d4 d5
          have hj1 := HL.out _ _ HJ.out
          have IHU := hide (IH.out u ((t, j) :: p) (pre ++ (p, t) :: pps t p 0 (t.ks.take j)) (wr.alloc (.cells #[.int .i64 u.f.k, .int .i64 u.f.n, .int .i64 u.f.mn, .int .i64 u.f.mx, .slice u.f.rq u.f.rs.length u.f.rc, .slice u.f.kq u.f.kl u.f.kc] 25)) (by have := sz_kid hin; have := HM.out; omega)
            (by rw [List.append_assoc, List.cons_append, ← pps_take hu]; exact pre_cons HPRE.out (pps_pre _)) (HTA.out.kid hin) (HC.out.trans (CK.of_below B4.out)) (hJ.alloc _ HJ.out) (by simp; omega) (Nat.le_trans HS.out B4.out.size))
          have e1 : ((((t, j) :: p).length : Nat) : Int) + 1 = ((p.length : Int) + 1) + 1 := by simp
          rw [e1] at IHU
          clear hsix hu
          gi_wp2
          refine ⟨(fun z => by cases z), (callsIn_wide.2 (callsIn_wide.1 IHU.out)).mono ?_⟩
          rintro e W5 ⟨r5, rfl, h5⟩
          have H5 := hide h5
          clear h5 c0 c1 c2 c3 c4 c5 d0 d1 d2 d3 d4 d5 IHU N4 B4
          cases r5 with
          | true =>
            rcases H5.out with ⟨-, h51, h52, h53⟩ | ⟨z, -⟩
            · have HN : Hid (J (pre ++ (p, t) :: pps t p 0 (t.ks.take (j + 1))) W5) := (by rw [pps_take HU.out, ← List.cons_append, ← List.append_assoc]; exact h51)
              have H52 := hide h52
              have H53 := hide h53
              clear h51 h52 h53 H5
              gi_wp2
              go_roundw
              case rel => exact ⟨j + 1, by omega, by go_num, HN.out, H52.out, H53.out⟩
              case measure => simp only [intOf]; omega
            · cases z
          | false =>
            rcases H5.out with ⟨z, -⟩ | ⟨-, pre', h51, h52⟩
            · cases z
            · have HN := hide (⟨pre', h51, h52⟩ : ∃ pre', pre' <+: L ∧ Jx pre' W5)
              clear H5 h51 h52
              gi_wp2
              go_ret
              exact ⟨false, rfl, .inr ⟨rfl, HN.out⟩⟩
        · have e0 : ¬ (j : Int) < (t.ks.length : Int) := by omega
          have HN : Hid (J (pre ++ pp p t) wr) := (by rw [pp_eq, show t.ks = t.ks.take j by rw [List.take_of_length_le (by omega)]]; exact HJ.out)
          gi_wp2
          go_ret
          exact ⟨true, rfl, .inl ⟨rfl, HN.out, HC.out, HS.out⟩⟩
    · have HN := hide hJx3
      clear hJx3
      gi_wp2
      go_ret
      exact ⟨false, rfl, .inr ⟨rfl, _, pre_cons HPRE.out List.nil_prefix, HN.out⟩⟩

set_option maxRecDepth 100000 in
set_option maxHeartbeats 2000000 in
theorem nodes_tellsK (n : Nat) {w0 w : World} {b : Nat} {t : Tr} (hB : BoxN w b t.f) (hta : TA w0 t) (hck : CK w0 w) {Kp : World → World → Prop} (hK1 : ∀ {V V' : World}, Kp V V' → CKeep (fun k => k < w0.heap.size) V V') (hK2 : ∀ {V V' : World} {k : Nat} {f : Fl}, Kp V V' → w.heap.size ≤ k → BoxN V k f → BoxN V' k f) :
    TellsK n Try.prog 51 #[.pointer (some ⟨b, 0, none⟩)] encN (fun _ => Kp) (ToldN t) (fun xs => xs = pp [] t) (fun pre => pre <+: pp [] t) w := by
  intro l J Jx V hV hJ hJx hb hY h0
  have hfn : ∀ f, Fence.wide.fn f := fun _ => trivial
  have D := hide (desc_cK (w0 := w0) (L := pp [] t) (b1 := w.heap.size) (Jx := Jx) (Kp := Kp) hK1 hK2 hJ n hb (fun pre x V => hY pre x V) t.sz t [] [] V (Nat.le_refl _) (by rw [List.nil_append]; exact List.prefix_refl _) hta (hck.step ⟨hV.size, fun k _ _ _ _ hc => (hV.block k (lt_of_heap hc)).trans hc⟩) h0 (Nat.le_refl _) hV.size)
  have HB : Hid (BoxN V b t.f) := (hV.block _ (lt_of_heap hB)).trans hB
  obtain ⟨c0, c1, c2, c3, c4, c5⟩ := HB.out.six
  simp only [Nat.zero_add] at c1 c2 c3 c4 c5
  clear hJ hJx hb hY h0 hB hta hck hV
  refine callsIn_of_wp Try.func51 rfl trivial ?_ rfl
  simp only [Try.ntmps51, List.size_toArray, List.length_cons, List.length_nil, Nat.reduceAdd, Nat.reduceSub, Array.replicate_succ, Array.replicate_zero, List.push_toArray, List.append_toArray, List.nil_append, List.cons_append]
  gi_wp2
  refine ⟨(fun z => by cases z), (callsIn_wide.2 (callsIn_wide.1 D.out)).mono ?_⟩
  rintro e W5 ⟨r5, rfl, h5⟩
  have H5 := hide h5
  clear h5 D
  gi_wp2
  go_end0
  refine ⟨⟨_, rfl⟩, ?_⟩
  rcases H5.out with ⟨-, h51, -, -⟩ | ⟨-, pre', h51, h52⟩
  · exact .inl ⟨_, rfl, by rw [List.nil_append] at h51; exact h51⟩
  · exact .inr ⟨pre', h51, h52⟩

/-- A range over a tree's nodes. -/
theorem rangeNK {g : Operand} {ps : Array Tmp} {assign body : Code} {Q : Exit → Act → World → Prop} {a : Act} {w : World} {n : Nat} (hn : 1 ≤ n) (q d : Nat) (b : Nat) {w0 : World} {t : Tr}
    (hg : a.eval g = .func (.func 51) #[] #[.pointer (some ⟨b, 0, none⟩)]) (hps : ps = #[q, d]) (hB : BoxN w b t.f) (hta : TA w0 t) (hck : CK w0 w) {Kp : World → World → Prop} (hKt : ∀ {A B C : World}, Kp A B → Kp B C → Kp A C) (hKp : ∀ {W : World} {l : Nat} {o : Obj} (o' : Obj), W.heap[l]? = some o → o.isCells = false → Kp W (W.putObj l o')) (hKb : ∀ {W W' : World}, Below W.heap.size W W' → Kp W W') (hK1 : ∀ {V V' : World}, Kp V V' → CKeep (fun k => k < w0.heap.size) V V') (hK2 : ∀ {V V' : World} {k : Nat} {f : Fl}, Kp V V' → w.heap.size ≤ k → BoxN V k f → BoxN V' k f)
    (I : List El → World → Prop) (Ix : Code → List El → World → Prop) (hI : OwnFrom w.heap.size I) (hIx : ∀ c, OwnFrom w.heap.size (Ix c)) (hbd : ∀ pre W, I pre W → pre.length ≤ 1000000) (h0 : I [] w)
    (Ax : Nat → Act → El → Act → World → Prop) (hAx : ∀ s y x a', OwnFrom w.heap.size (fun (_ : Unit) W => Ax s y x a' W))
    (hassign : ∀ (l : Nat) (pre : List El) (x : El) (W : World) (K : Act → World → Prop), I pre W → CK w0 W → w.heap.size ≤ W.heap.size → ToldN t pre x W → (∀ a' W', Below W.heap.size W W' → Ax W.heap.size (roundN a q d x) x a' W' → K a' W') →
      assign.wpIn (Fence.wide.inRound l) (n - 1 - 1) Try.prog (Exit.then K (fun _ _ _ => False)) (roundN a q d x) W)
    (hbody : ∀ (l : Nat) (pre : List El) (x : El) (a' : Act) (V0 V : World), I pre V → CK w0 V → w.heap.size ≤ V.heap.size → ToldN t pre x V → Ax V0.heap.size (roundN a q d x) x a' V → Kp V0 V → V0.heap.size ≤ V.heap.size → body.wpIn (Fence.wide.inRound l) (n - 1 - 1) Try.prog (ownPostG w.heap.size (fun _ V' => Kp V0 V' ∧ CK w0 V') I Ix (pre ++ [x]) V) a' V)
    (hdone : ∀ (D : Nat) (V : World), w.heap.size ≤ D → I (pp [] t) V → CK w0 V → V.heap[D]? = some (.deferred (some [])) → Q .normal (behindN a D) V)
    (hstop : ∀ (D : Nat) (c : Code) (pre : List El) (V : World), w.heap.size ≤ D → pre <+: pp [] t → Ix c pre V → V.heap[D]? = some (.deferred (some [])) → c.wpIn Fence.wide n Try.prog Q (behindN a D) V) :
    (Code.rangeFunc g ps assign body).wpIn Fence.wide n Try.prog Q a w := by
  subst hps
  refine range_toldK (α := El) (Kp := fun _ => Kp) (Told := ToldN t) hn (gf := 51) hg (enters_of Try.func51 (by kernel_rfl) rfl) (encs := encN) (fun _ => rfl)
    hKt hKp hKb (nodes_tellsK (n - 1) hB hta hck (Kp := Kp) hK1 hK2) (fun pre V => I pre V ∧ CK w0 V ∧ w.heap.size ≤ V.heap.size) Ix ?_ hIx (fun pre x _ _ _ _ h _ _ => h) (fun pre W h => hbd pre W h.1) ⟨h0, hck, Nat.le_refl _⟩ (fun s x => Ax s (roundN a q d x) x) (fun s x => hAx s _ x) ?_ ?_ ?_ hstop
  · intro pre A A' row hi hg hr
    exact ⟨hI pre A A' row hi.1 hg hr, ck_row hi.2.1 hg hr, Nat.le_trans hi.2.2 hg.size⟩
  · intro l pre x V K hi ht hK
    have := hassign l pre x V K hi.1 hi.2.1 hi.2.2 ht hK
    simpa [encN, roundN] using this
  · intro l pre x a' V0 V hi ht hax hk0 hs0
    refine wpIn_mono (hbody l pre x a' V0 V hi.1 hi.2.1 hi.2.2 ht hax hk0 hs0) fun e a3 W3 hp => ?_
    cases e with
    | normal => exact ⟨hp.1, hp.2.1.1, hp.2.2, hp.2.1.2, Nat.le_trans hi.2.2 hp.1.size⟩
    | ret => exact hp
    | exit id => exact hp
    | goto t => exact hp
    | panic ch => exact hp
    | outgrown => exact hp
  · rintro D xs V hD rfl hi hK
    exact hdone D V hD hi.1 hi.2.1 hK
end Go.Proofs.Ytlodjinejeajcab
namespace Go.Proofs.Ytlodjinejeajcab
open Go Go.RowKit Go.Shelf
attribute [local go_sem] Oper.semAt_some

theorem und_places : Try.prog.underlying 74 = some (.slice 77) := by kernel_rfl
theorem size_place : (Try.prog.info? 77).map (fun i => (i.zero, i.size, i.bytes)) = some (some (.agg #[.int .i64 0, .int .i64 0, .int .i64 0, .int .i64 0, .int .i64 0, .slice none 0 0, .slice none 0 0]), 7, 88) := by kernel_rfl
/-- What a body of places' range leaves: the tree, and boxes of nodes that were made since the range began. -/
def KP (b0 b1 : Nat) (V V' : World) : Prop := V.heap.size ≤ V'.heap.size ∧ ∀ (k : Nat) (cur : Array Value) (ty : TypeId) (fr : Nat × Nat), (k < b0 ∨ (b1 ≤ k ∧ ty = 25)) → V.heap[k]? = some (.cells cur ty fr) → V'.heap[k]? = some (.cells cur ty fr)
theorem KP.trans {b0 b1 : Nat} {A B C : World} (h : KP b0 b1 A B) (k : KP b0 b1 B C) : KP b0 b1 A C := ⟨Nat.le_trans h.1 k.1, fun i cur ty fr hi hc => k.2 i cur ty fr hi (h.2 i cur ty fr hi hc)⟩
theorem KP.put {b0 b1 : Nat} {W : World} {l : Nat} {o : Obj} (o' : Obj) (h : W.heap[l]? = some o) (hc : o.isCells = false) : KP b0 b1 W (W.putObj l o') :=
  ⟨(grownBy_putObj' W l o').size, fun k cur ty fr _ hk => by
    have hne : k ≠ l := fun e => by subst e; rw [hk] at h; cases h; cases hc
    exact (World.putObj_heap_other hne).trans hk⟩
theorem KP.below {b0 b1 : Nat} {W W' : World} (hb : Below W.heap.size W W') : KP b0 b1 W W' := ⟨hb.size, fun k _ _ _ _ hc => (hb.block k (lt_of_heap hc)).trans hc⟩
/-- A place's node: what it says of a node of the tree. -/
structure PlOk (b : Nat) (V : World) (x : El) (m : Fl) : Prop where
  k : m.k = x.2.f.k
  n : m.n = x.2.f.n
  mn : m.mn = x.2.f.mn
  mx : m.mx = x.2.f.mx
  rs : m.rs = x.2.f.rs
  kq : m.kq = none ∧ m.kl = 0 ∧ m.kc = 0
  rr : RR b V (.slice m.rq m.rs.length m.rc) m.rs
/-- Two places' Ranges lie apart. -/
def Ap8 (a b : El × Fl) : Prop := ∀ k, (Value.slice a.2.rq a.2.rs.length a.2.rc).ownBlock = some k → (Value.slice b.2.rq b.2.rs.length b.2.rc).ownBlock ≠ some k
def plC (z : El × Fl) : List Value := .int .i64 ((z.1.1.length : Int) + 1) :: z.2.cells
def cellsP (l : List (El × Fl)) : List Value := l.flatMap plC
theorem cellsP_length (l : List (El × Fl)) : (cellsP l).length = l.length * 7 := by
  induction l with
  | nil => rfl
  | cons t l ih => simp only [cellsP, List.flatMap_cons, List.length_append, List.length_cons] at ih ⊢; rw [ih]; simp [plC, Fl.cells]; omega
theorem cellsP_one (l : List (El × Fl)) : ∀ u ∈ cellsP l, u.oneCell' = true := by
  intro u hu
  obtain ⟨z, -, hz⟩ := List.mem_flatMap.1 hu
  simp [plC, Fl.cells] at hz
  rcases hz with rfl | rfl | rfl | rfl | rfl | rfl | rfl <;> rfl
theorem cellsP_snoc (l : List (El × Fl)) (z : El × Fl) : cellsP (l ++ [z]) = cellsP l ++ plC z := by simp [cellsP]
/-- How places' range stands. -/
structure PlI (w : World) (t : Tr) (b1 bl : Nat) (pre : List El) (V : World) : Prop where
  ms : ∃ (ms : List (El × Fl)) (q : Option Addr) (c : Nat), ms.map (·.1) = pre ∧ V.heap[bl]? = some (.cells #[.slice q ms.length c] 74 (0, 0)) ∧ V.ownsRow b1 77 7 (.slice q ms.length c) ms.length (cellsP ms) ∧ (∀ z ∈ ms, PlOk b1 V z.1 z.2) ∧ ms.Pairwise Ap8
  pfx : pre <+: pp [] t
  len : pre.length ≤ 2000
  bel : Below w.heap.size w V
theorem PlI.row {w : World} {t : Tr} {b1 bl B : Nat} {pre : List El} {V V' : World} {row : Option Nat} (h : PlI w t b1 bl pre V) (hn : w.heap.size ≤ B) (hg : V.grownBy V' row) (hr : ∀ r, row = some r → B ≤ r ∧ ∃ o : Obj, V.heap[r]? = some o ∧ o.isCells = false) : PlI w t b1 bl pre V' := by
  obtain ⟨ms, q, c, h1, h2, h3, h4, h5⟩ := h.ms
  have own : ∀ {e : TypeId} {size n : Nat} {v : Value} {xs : List Value}, V.ownsRow b1 e size v n xs → V'.ownsRow b1 e size v n xs := fun {e size n v xs} hh => by
    refine ⟨hh.1, ?_⟩
    rcases hh.2 with z | ⟨g, cap, cur, z1, z2, z3, z4⟩
    · exact .inl z
    · exact .inr ⟨g, cap, cur, z1, z2, cells_kept hg hr z3, z4⟩
  exact ⟨⟨ms, q, c, h1, cells_kept hg hr h2, own h3, fun z hz => ⟨(h4 z hz).k, (h4 z hz).n, (h4 z hz).mn, (h4 z hz).mx, (h4 z hz).rs, (h4 z hz).kq, own (h4 z hz).rr⟩, h5⟩, h.pfx, h.len, bel_grown h.bel (Nat.le_refl _) hn hg hr⟩

theorem own_put {V : World} {D b : Nat} {o : Obj} (o' : Obj) (hD : V.heap[D]? = some o) (hc : o.isCells = false) {e : TypeId} {size n : Nat} {v : Value} {xs : List Value} (h : V.ownsRow b e size v n xs) : (V.putObj D o').ownsRow b e size v n xs := by
  refine ⟨h.1, ?_⟩
  rcases h.2 with z | ⟨g, cap, cur, z1, z2, z3, z4⟩
  · exact .inl z
  · refine .inr ⟨g, cap, cur, z1, z2, ?_, z4⟩
    have hne : g ≠ D := fun e => by subst e; rw [z3] at hD; cases hD; cases hc
    exact (World.putObj_heap_other hne).trans z3
theorem PlOk.put {V : World} {D b b' : Nat} {o : Obj} {x : El} {m : Fl} (o' : Obj) (hD : V.heap[D]? = some o) (hc : o.isCells = false) (hb : b' ≤ b) (h : PlOk b V x m) : PlOk b' (V.putObj D o') x m :=
  ⟨h.k, h.n, h.mn, h.mx, h.rs, h.kq, (RR.mono (own_put o' hD hc h.rr) hb)⟩
/-- What stands of a type that none of the blocks has. -/
theorem fr_typed {S : Nat → Prop} {V W : World} (hf : Fr S V W) {k : Nat} {cur : Array Value} {ty : TypeId} {fr : Nat × Nat} (hk : V.heap[k]? = some (.cells cur ty fr)) (hs : ¬ S k) : W.heap[k]? = some (.cells cur ty fr) := (hf.block _ (lt_of_heap hk) hs).trans hk
theorem ty_ne {V : World} {j k : Nat} {c1 c2 : Array Value} {t1 t2 : TypeId} {f1 f2 : Nat × Nat} (h1 : V.heap[j]? = some (.cells c1 t1 f1)) (h2 : V.heap[k]? = some (.cells c2 t2 f2)) (ht : t1 ≠ t2) : j ≠ k := fun e => by subst e; rw [h1] at h2; cases h2; exact ht rfl
theorem ownsRow_ne {V : World} {b b' : Nat} {e1 e2 : TypeId} {s1 s2 n1 n2 : Nat} {v1 v2 : Value} {x1 x2 : List Value} (h1 : V.ownsRow b e1 s1 v1 n1 x1) (h2 : V.ownsRow b' e2 s2 v2 n2 x2) (ht : e1 ≠ e2) {k : Nat} (hk : v1.ownBlock = some k) : v2.ownBlock ≠ some k := fun hk2 => by
  obtain ⟨_, _, c1, q1⟩ := ownsRow_at h1 hk
  obtain ⟨_, _, c2, q2⟩ := ownsRow_at h2 hk2
  rw [q1] at q2; cases q2; exact ht rfl
theorem plc_end {w V V0 V5 W7 w6 : World} {t : Tr} {b1 bl bx : Nat} {pre : List El} {x : El} {ms : List (El × Fl)} {q q5 q6 : Option Addr} {c k5 c6 : Nat} {ob : Obj} (hn : w.heap.size ≤ bl) (hb1 : w.heap.size ≤ b1) (hbv : b1 ≤ V.heap.size)
    (e1 : ms.map (·.1) = pre) (h2 : V.heap[bl]? = some (.cells #[.slice q ms.length c] 74 (0, 0))) (h3 : V.ownsRow b1 77 7 (.slice q ms.length c) ms.length (cellsP ms)) (h4 : ∀ z ∈ ms, PlOk b1 V z.1 z.2) (hap : ms.Pairwise Ap8) (hpfx : pre ++ [x] <+: pp [] t) (hlen : pre.length < 2000) (hbel : Below w.heap.size w V) (hck : CK w V)
    (hbx : BoxN V bx x.2.f) (hbx1 : b1 ≤ bx) (hs0 : V0.heap.size ≤ bx) (hk0 : KP w.heap.size b1 V0 V) (x5 : RR V.heap.size V5 (.slice q5 x.2.f.rs.length k5) x.2.f.rs) (b5 : Below V.heap.size V V5) (f7 : Fr (fun z => z = bx) V5 W7)
    (o6 : w6.ownsRow b1 77 7 (.slice q6 (ms.length + 1) c6) (ms.length + 1) (cellsP ms ++ plC (x, ⟨x.2.f.k, x.2.f.n, x.2.f.mn, x.2.f.mx, x.2.f.rs, q5, k5, none, 0, 0⟩)))
    (hg : (W7.alloc ob).grownBy w6 (Value.slice q ms.length c).ownBlock) :
    KeepsFrom b1 V (w6.setCell ⟨bl, 0, none⟩ (.slice q6 (ms.length + 1) c6)) ∧ (KP w.heap.size b1 V0 (w6.setCell ⟨bl, 0, none⟩ (.slice q6 (ms.length + 1) c6)) ∧ CK w (w6.setCell ⟨bl, 0, none⟩ (.slice q6 (ms.length + 1) c6))) ∧ PlI w t b1 bl (pre ++ [x]) (w6.setCell ⟨bl, 0, none⟩ (.slice q6 (ms.length + 1) c6)) := by
  have F6 : Fr (fun z => z = bx ∨ (Value.slice q ms.length c).ownBlock = some z) V5 w6 := ((f7.mono fun k hk => .inl hk).alloc ob).grown hg fun k hk => .inr hk
  have F8 : Fr (fun z => z = bl ∨ z = bx ∨ (Value.slice q ms.length c).ownBlock = some z) V5 (w6.setCell ⟨bl, 0, none⟩ (.slice q6 (ms.length + 1) c6)) := (F6.mono fun k hk => .inr hk).setCell (p := ⟨bl, 0, none⟩) (.inl rfl) _
  have FV : Fr (fun z => z = bl ∨ z = bx ∨ (Value.slice q ms.length c).ownBlock = some z) V (w6.setCell ⟨bl, 0, none⟩ (.slice q6 (ms.length + 1) c6)) := (Fr.of_below b5).trans F8
  have lo : ∀ k, (k = bl ∨ k = bx ∨ (Value.slice q ms.length c).ownBlock = some k) → w.heap.size ≤ k := fun k hk => by
    rcases hk with rfl | rfl | hk
    · exact hn
    · omega
    · exact Nat.le_trans hb1 (ownsRow_at h3 hk).1
  have bl6 : w6.heap[bl]? = some (.cells #[.slice q ms.length c] 74 (0, 0)) := fr_typed ((Fr.of_below b5).trans F6) h2 (fun hk => by
    rcases hk with e | hk
    · exact ty_ne h2 hbx (by decide) e
    · exact ownsRow_not h3 h2 (by decide) hk)
  have bl8 := heap_set_in bl6 0 (.slice q6 (ms.length + 1) c6)
  have own9 : ∀ {v : Value} {L : List (Int × Int)}, RR b1 V v L → RR b1 (w6.setCell ⟨bl, 0, none⟩ (.slice q6 (ms.length + 1) c6)) v L := fun {v L} h => RR.fr h FV fun k hk hs => by
    rcases hs with rfl | rfl | hs
    · exact ownsRow_not h h2 (by decide) hk
    · exact ownsRow_not h hbx (by decide) hk
    · exact ownsRow_ne h h3 (by decide) hk hs
  refine ⟨⟨FV.size, fun k o hk ho hc => (FV.block k (lt_of_heap ho) fun hs => ?_).trans ho⟩, ⟨⟨Nat.le_trans hk0.1 FV.size, fun k cur ty fr hk hc => ?_⟩, ⟨Nat.le_trans hck.size FV.size, fun k cur ty fr hk hc => fr_typed FV (hck.same k cur ty fr hk hc) fun hs => by have := lo k hs; omega⟩⟩, ⟨ms ++ [(x, ⟨x.2.f.k, x.2.f.n, x.2.f.mn, x.2.f.mx, x.2.f.rs, q5, k5, none, 0, 0⟩)], q6, c6, by simp [e1], ?_, ?_, ?_, ?_⟩, hpfx, by simp; omega, hbel.trans (FV.below (by have := hbel.size; omega) lo)⟩
  · rcases hs with rfl | rfl | hs
    · rw [h2] at ho; cases ho; cases hc
    · rw [hbx] at ho; cases ho; cases hc
    · obtain ⟨_, _, cur, q1⟩ := ownsRow_at h3 hs
      rw [q1] at ho; cases ho; cases hc
  · have hv := hk0.2 k cur ty fr hk hc
    refine fr_typed FV hv fun hs => ?_
    rcases hk with hk | ⟨hk, rfl⟩
    · have := lo k hs; omega
    · rcases hs with rfl | rfl | hs
      · exact ty_ne h2 hv (by decide) rfl
      · have := lt_of_heap hc; omega
      · obtain ⟨_, _, c9, q9⟩ := ownsRow_at h3 hs
        exact ty_ne q9 hv (by decide) rfl
  · rw [List.length_append]; exact bl8
  · rw [List.length_append, cellsP_snoc]
    exact ownsRow_fr o6 ((Fr.refl (fun z => z = bl) w6).setCell (p := ⟨bl, 0, none⟩) rfl _) fun k hk e => by subst e; exact ownsRow_not o6 bl6 (by decide) hk
  · intro z hz
    rcases List.mem_append.1 hz with hz | hz
    · exact ⟨(h4 z hz).k, (h4 z hz).n, (h4 z hz).mn, (h4 z hz).mx, (h4 z hz).rs, (h4 z hz).kq, own9 (h4 z hz).rr⟩
    · rw [List.mem_singleton] at hz
      subst hz
      refine ⟨rfl, rfl, rfl, rfl, rfl, ⟨rfl, rfl, rfl⟩, ?_⟩
      have x5' := x5
      exact RR.mono (RR.fr x5' F8 fun k hk hs => by
        have := (ownsRow_at x5 hk).1
        rcases hs with rfl | rfl | hs
        · have := lt_of_heap h2; omega
        · have := lt_of_heap hbx; omega
        · have := (ownsRow_at h3 hs).2.1; omega) hbv
  · rw [List.pairwise_append]
    refine ⟨hap, List.pairwise_singleton _ _, fun a ha b hb k hk hk2 => ?_⟩
    rw [List.mem_singleton] at hb
    subst hb
    have y1 := (ownsRow_at (h4 a ha).rr hk).2.1
    have y2 := (ownsRow_at x5 hk2).1
    omega
set_option maxRecDepth 100000 in
set_option maxHeartbeats 4000000 in
theorem places_in (n : Nat) (hn : 3 ≤ n) {w : World} {t : Tr} (hta : TA w t) :
    CallsIn Fence.wide n Try.prog 43 #[.agg #[.int .i64 t.f.k, .int .i64 t.f.n, .int .i64 t.f.mn, .int .i64 t.f.mx, .slice t.f.rq t.f.rs.length t.f.rc, .slice t.f.kq t.f.kl t.f.kc]] w fun e w' => ∃ (ms : List (El × Fl)) (q : Option Addr) (c : Nat), e = .returned (.slice q ms.length c) ∧ ms.map (·.1) = (pp [] t).take 2000 ∧ w'.ownsRow w.heap.size 77 7 (.slice q ms.length c) ms.length (cellsP ms) ∧ (∀ z ∈ ms, PlOk w.heap.size w' z.1 z.2) ∧ ms.Pairwise Ap8 ∧ Below w.heap.size w w' := by
  have hfn : ∀ f, Fence.wide.fn f := fun _ => trivial
  refine callsIn_of_wp_marks Try.func43 rfl trivial ?_ rfl
  simp only [Try.ntmps43, List.size_toArray, List.length_cons, List.length_nil, Nat.reduceAdd, Nat.reduceSub, Array.replicate_succ, Array.replicate_zero, List.push_toArray, List.append_toArray, List.nil_append, List.cons_append]
  refine wpIn_wide.2 ?_
  have HTA := hide hta
  have B1 : Hid (Below w.heap.size w ((w.alloc (.cells #[.int .i64 t.f.k, .int .i64 t.f.n, .int .i64 t.f.mn, .int .i64 t.f.mx, .slice t.f.rq t.f.rs.length t.f.rc, .slice t.f.kq t.f.kl t.f.kc] 25)).alloc (.cells #[.slice none 0 0] 74))) := ((Below.refl _ _).alloc (Nat.le_refl _) _).alloc (by simp) _
  have N1 : Hid (BoxN ((w.alloc (.cells #[.int .i64 t.f.k, .int .i64 t.f.n, .int .i64 t.f.mn, .int .i64 t.f.mx, .slice t.f.rq t.f.rs.length t.f.rc, .slice t.f.kq t.f.kl t.f.kc] 25)).alloc (.cells #[.slice none 0 0] 74)) w.heap.size t.f) := (Below.heap_alloc _ _ _ (by simp)).trans (alloc_new w _)
  have N2 : Hid (((w.alloc (.cells #[.int .i64 t.f.k, .int .i64 t.f.n, .int .i64 t.f.mn, .int .i64 t.f.mx, .slice t.f.rq t.f.rs.length t.f.rc, .slice t.f.kq t.f.kl t.f.kc] 25)).alloc (.cells #[.slice none 0 0] 74)).heap[w.heap.size + 1]? = some (.cells #[.slice none 0 0] 74 (0, 0))) := (by
    have := alloc_new (w.alloc (.cells #[.int .i64 t.f.k, .int .i64 t.f.n, .int .i64 t.f.mn, .int .i64 t.f.mx, .slice t.f.rq t.f.rs.length t.f.rc, .slice t.f.kq t.f.kl t.f.kc] 25)) (.cells #[.slice none 0 0] 74)
    rwa [World.size_alloc] at this)
  obtain ⟨c0, c1, c2, c3, c4, c5⟩ := N1.out.six
  simp only [Nat.zero_add] at c1 c2 c3 c4 c5
  go_wp2_with (go_at_call 37; (with_reducible refine (nodes_c _ _).mono ?_); rintro e w3 ⟨rfl, rfl⟩)
  have N3 : BoxN (((w.alloc (.cells #[.int .i64 t.f.k, .int .i64 t.f.n, .int .i64 t.f.mn, .int .i64 t.f.mx, .slice t.f.rq t.f.rs.length t.f.rc, .slice t.f.kq t.f.kl t.f.kc] 25)).alloc (.cells #[.slice none 0 0] 74)).alloc (.cells #[.int .i64 t.f.k, .int .i64 t.f.n, .int .i64 t.f.mn, .int .i64 t.f.mx, .slice t.f.rq t.f.rs.length t.f.rc, .slice t.f.kq t.f.kl t.f.kc] 25)) (w.heap.size + 1 + 1) t.f := (by
    have := alloc_new ((w.alloc (.cells #[.int .i64 t.f.k, .int .i64 t.f.n, .int .i64 t.f.mn, .int .i64 t.f.mx, .slice t.f.rq t.f.rs.length t.f.rc, .slice t.f.kq t.f.kl t.f.kc] 25)).alloc (.cells #[.slice none 0 0] 74)) (.cells #[.int .i64 t.f.k, .int .i64 t.f.n, .int .i64 t.f.mn, .int .i64 t.f.mx, .slice t.f.rq t.f.rs.length t.f.rc, .slice t.f.kq t.f.kl t.f.kc] 25)
    rwa [World.size_alloc, World.size_alloc] at this)
  have I3 : (((w.alloc (.cells #[.int .i64 t.f.k, .int .i64 t.f.n, .int .i64 t.f.mn, .int .i64 t.f.mx, .slice t.f.rq t.f.rs.length t.f.rc, .slice t.f.kq t.f.kl t.f.kc] 25)).alloc (.cells #[.slice none 0 0] 74)).alloc (.cells #[.int .i64 t.f.k, .int .i64 t.f.n, .int .i64 t.f.mn, .int .i64 t.f.mx, .slice t.f.rq t.f.rs.length t.f.rc, .slice t.f.kq t.f.kl t.f.kc] 25)).heap[w.heap.size + 1]? = some (.cells #[.slice none 0 0] 74 (0, 0)) := (Below.heap_alloc _ _ _ (by simp)).trans N2.out
  have B3 : Below w.heap.size w (((w.alloc (.cells #[.int .i64 t.f.k, .int .i64 t.f.n, .int .i64 t.f.mn, .int .i64 t.f.mx, .slice t.f.rq t.f.rs.length t.f.rc, .slice t.f.kq t.f.kl t.f.kc] 25)).alloc (.cells #[.slice none 0 0] 74)).alloc (.cells #[.int .i64 t.f.k, .int .i64 t.f.n, .int .i64 t.f.mn, .int .i64 t.f.mx, .slice t.f.rq t.f.rs.length t.f.rc, .slice t.f.kq t.f.kl t.f.kc] 25)) := B1.out.alloc (by simp; omega) _
  generalize (((w.alloc (.cells #[.int .i64 t.f.k, .int .i64 t.f.n, .int .i64 t.f.mn, .int .i64 t.f.mx, .slice t.f.rq t.f.rs.length t.f.rc, .slice t.f.kq t.f.kl t.f.kc] 25)).alloc (.cells #[.slice none 0 0] 74)).alloc (.cells #[.int .i64 t.f.k, .int .i64 t.f.n, .int .i64 t.f.mn, .int .i64 t.f.mx, .slice t.f.rq t.f.rs.length t.f.rc, .slice t.f.kq t.f.kl t.f.kc] 25)) = w4 at N3 I3 B3 ⊢
  have L3 := lt_of_heap N3
  have L4 := lt_of_heap I3
  obtain ⟨bl, hbl⟩ : ∃ bl, w.heap.size + 1 = bl := ⟨_, rfl⟩
  rw [hbl] at I3 N3 L3 L4 ⊢
  obtain ⟨bn, hbn⟩ : ∃ bn, bl + 1 = bn := ⟨_, rfl⟩
  rw [hbn] at N3 L3 ⊢
  have hwi : w.heap.size ≤ bl := by omega
  clear N1 N2 B1 c0 c1 c2 c3 c4 c5 hbl hbn
  refine (wpIn_wide (n := n)).1 ?_
  refine rangeNK (by omega) 8 9 bn rfl rfl N3 HTA.out (CK.of_below B3) (Kp := KP w.heap.size w4.heap.size) KP.trans KP.put KP.below (fun h => ⟨h.1, fun k cur ty fr hk hc => h.2 k cur ty fr (.inl hk) hc⟩) (fun h hk hb => h.2 _ _ _ _ (.inr ⟨hk, rfl⟩) hb) (PlI w t w4.heap.size bl) (fun c pre V => c = .exit 0 ∧ ∃ p x, pre = p ++ [x] ∧ p.length = 2000 ∧ PlI w t w4.heap.size bl p V)
    ?_ ?_ (fun pre W h => by have := h.len; omega) ⟨⟨[], none, 0, rfl, I3, World.ownsRow_nil _ _ _ _, (fun z hz => by cases hz), List.Pairwise.nil⟩, List.nil_prefix, by simp, B3⟩ (fun s y x a' W => ∃ bx, BoxN W bx x.2.f ∧ w4.heap.size ≤ bx ∧ s ≤ bx ∧ a' = { y with tmps := (y.tmps.setIfInBounds 4 (.int .i64 ((x.1.length : Int) + 1))).setIfInBounds 5 (.pointer (some ⟨bx, 0, none⟩)) }) ?_ ?_ ?_ ?_ ?_
  · rintro pre A A' row h hg hr
    exact h.row B3.size hg hr
  · rintro c pre A A' row ⟨h0, p, x, e, hl, h⟩ hg hr
    exact ⟨h0, p, x, e, hl, h.row B3.size hg hr⟩
  · rintro s y x a' _ A A' row ⟨bx, h1, h2⟩ hg hr
    exact ⟨bx, cells_kept hg hr h1, h2⟩
  · intro l pre x V K _ _ hs _ hK
    have HS := hide hs
    simp only [roundN]
    gi_wp2
    exact hK _ _ ((Below.refl _ _).alloc (Nat.le_refl _) _) ⟨_, alloc_new V _, HS.out, Nat.le_refl _, rfl⟩
  · rintro l pre x a' V0 V h hck hsz ht ⟨bx, hbx, hbl2, hs0, rfl⟩ hk0 hv0
    obtain ⟨ms, q, c, e1, h2, h3, h4, hap⟩ := h.ms
    have HAP := hide hap
    have hml : ms.length = pre.length := by rw [← e1, List.length_map]
    have k0 := cell_row h2 (i := 0) rfl
    obtain ⟨n0, n1, n2, n3, n4, n5⟩ := hbx.six
    simp only [Nat.zero_add] at n1 n2 n3 n4 n5
    have HH := hide h
    have H2 := hide h2
    have H3 := hide h3
    have H4 := hide h4
    have HBX := hide hbx
    have HT := hide ht
    have HCK := hide hck
    have HK0 := hide hk0
    have hlen := h.len
    have hin : x ∈ pp [] t := by obtain ⟨r, hr⟩ := ht; rw [← hr]; simp
    have NX := hide ((HTA.out.at hin).node.ck hck)
    have E1 := hide e1
    clear hap h h2 h3 h4 hbx ht hck hk0 e1 hin
    simp only [roundN]
    by_cases h2k : ms.length = 2000
    · have e0 : ((ms.length : Int) == 2000) = true := by simp; omega
      have HML := hide hml
      have HP : Hid (KeepsFrom w4.heap.size V V) := keeps_below (Below.refl _ _)
      have H2K := hide h2k
      clear h2k hml
      gi_wp2
      exact ⟨HP.out, rfl, pre, x, rfl, by have := HML.out; have := H2K.out; omega, HH.out⟩
    · have e0 : ((ms.length : Int) == 2000) = false := by simp; omega
      have CR := hide (cloneR_c NX.out.r NX.out.len)
      gi_wp2
      refine ⟨(fun z => by cases z), (CallsIn.inRound l (callsIn_wide.2 CR.out)).mono ?_⟩
      rintro e V5 ⟨q5, k5, rfl, a1, a2⟩
      have X5 := hide a1
      have B5 := hide a2
      have N5 : V5.heap[bx]? = some (.cells #[.int .i64 x.2.f.k, .int .i64 x.2.f.n, .int .i64 x.2.f.mn, .int .i64 x.2.f.mx, .slice x.2.f.rq x.2.f.rs.length x.2.f.rc, .slice x.2.f.kq x.2.f.kl x.2.f.kc] 25 (0, 0)) := (a2.block _ (lt_of_heap HBX.out)).trans HBX.out
      have N6 : (V5.setCell ⟨bx, 4, none⟩ (.slice q5 x.2.f.rs.length k5)).heap[bx]? = some (.cells #[.int .i64 x.2.f.k, .int .i64 x.2.f.n, .int .i64 x.2.f.mn, .int .i64 x.2.f.mx, .slice q5 x.2.f.rs.length k5, .slice x.2.f.kq x.2.f.kl x.2.f.kc] 25 (0, 0)) := heap_set_in N5 4 _
      have N7 : ((V5.setCell ⟨bx, 4, none⟩ (.slice q5 x.2.f.rs.length k5)).setCell ⟨bx, 5, none⟩ (.slice none 0 0)).heap[bx]? = some (.cells #[.int .i64 x.2.f.k, .int .i64 x.2.f.n, .int .i64 x.2.f.mn, .int .i64 x.2.f.mx, .slice q5 x.2.f.rs.length k5, .slice none 0 0] 25 (0, 0)) := heap_set_in N6 5 _
      have F7 : Hid (Fr (fun z => z = bx) V5 ((V5.setCell ⟨bx, 4, none⟩ (.slice q5 x.2.f.rs.length k5)).setCell ⟨bx, 5, none⟩ (.slice none 0 0))) := ((Fr.refl (fun z => z = bx) V5).setCell (p := ⟨bx, 4, none⟩) rfl _).setCell (p := ⟨bx, 5, none⟩) rfl _
      have z5 := cell_row N5 (i := 4) rfl
      have z6 := cell_row N6 (i := 5) rfl
      have f5 := frz_row N5 4
      have f6 := frz_row N6 5
      have hbb : bl ≠ bx := fun e => by have := H2.out; rw [e, HBX.out] at this; cases this
      have K7 : ((V5.setCell ⟨bx, 4, none⟩ (.slice q5 x.2.f.rs.length k5)).setCell ⟨bx, 5, none⟩ (.slice none 0 0)).heap[bl]? = some (.cells #[.slice q ms.length c] 74 (0, 0)) := (F7.out.block _ (Nat.lt_of_lt_of_le (lt_of_heap H2.out) B5.out.size) hbb).trans ((B5.out.block _ (lt_of_heap H2.out)).trans H2.out)
      have k7 := cell_row K7 (i := 0) rfl
      have z70 := cell_row N7 (i := 0) rfl
      have z71 := cell_row N7 (i := 1) rfl
      have z72 := cell_row N7 (i := 2) rfl
      have z73 := cell_row N7 (i := 3) rfl
      have z74 := cell_row N7 (i := 4) rfl
      have z75 := cell_row N7 (i := 5) rfl
      have O7 : Hid (((V5.setCell ⟨bx, 4, none⟩ (.slice q5 x.2.f.rs.length k5)).setCell ⟨bx, 5, none⟩ (.slice none 0 0)).ownsRow w4.heap.size 77 7 (.slice q ms.length c) ms.length (cellsP ms)) := ownsRow_fr (ownsRow_fr H3.out (Fr.of_below (S := fun _ => False) B5.out) (fun _ _ z => z)) F7.out (fun k hk e => ownsRow_not H3.out HBX.out (by decide) (e ▸ hk))
      have HML := hide hml
      have HFX := hide F7.out
      clear a1 a2 n0 n1 n2 n3 n4 n5 CR hml
      obtain ⟨t0, hi, hz0, hz1, hz2⟩ := info_parts size_place
      have Y7 : Hid ((((V5.setCell ⟨bx, 4, none⟩ (.slice q5 x.2.f.rs.length k5)).setCell ⟨bx, 5, none⟩ (.slice none 0 0)).alloc (.cells #[.int .i64 ((x.1.length : Int) + 1), .int .i64 x.2.f.k, .int .i64 x.2.f.n, .int .i64 x.2.f.mn, .int .i64 x.2.f.mx, .slice q5 x.2.f.rs.length k5, .slice none 0 0] 77)).ownsRow w4.heap.size 77 7 (.slice q ms.length c) ms.length (cellsP ms)) := ownsRow_fr O7.out (Fr.of_below (S := fun _ => False) ((Below.refl _ _).alloc (Nat.le_refl _) _)) (fun _ _ z => z)
      have hms : ms.length ≤ 2000 := by have := HML.out; omega
      gi_upto_region 8 with fail
      have HSZ : Hid (w4.heap.size ≤ ((V5.setCell ⟨bx, 4, none⟩ (.slice q5 x.2.f.rs.length k5)).setCell ⟨bx, 5, none⟩ (.slice none 0 0)).heap.size) := Nat.le_trans hsz (Nat.le_trans B5.out.size F7.out.size)
      generalize ((V5.setCell ⟨bx, 4, none⟩ (.slice q5 x.2.f.rs.length k5)).setCell ⟨bx, 5, none⟩ (.slice none 0 0)) = W7 at *
      have HNEW : Hid (∀ j u, (plC (x, ⟨x.2.f.k, x.2.f.n, x.2.f.mn, x.2.f.mx, x.2.f.rs, q5, k5, none, 0, 0⟩))[j]? = some u → (W7.alloc (.cells #[.int .i64 ((x.1.length : Int) + 1), .int .i64 x.2.f.k, .int .i64 x.2.f.n, .int .i64 x.2.f.mn, .int .i64 x.2.f.mx, .slice q5 x.2.f.rs.length k5, .slice none 0 0] 77)).cell? ((⟨W7.heap.size, 0, none⟩ : Addr).add j) = some u) := fun j u hj => (by
        rw [add_lit, Nat.zero_add]
        exact cell_row (alloc_new _ _) (i := j) (by simpa [plC, Fl.cells] using hj))
      have HB8 : Hid (w4.heap.size ≤ (W7.alloc (.cells #[.int .i64 ((x.1.length : Int) + 1), .int .i64 x.2.f.k, .int .i64 x.2.f.n, .int .i64 x.2.f.mn, .int .i64 x.2.f.mx, .slice q5 x.2.f.rs.length k5, .slice none 0 0] 77)).heap.size) := Nat.le_trans HSZ.out (by simp)
      have K8 : (W7.alloc (.cells #[.int .i64 ((x.1.length : Int) + 1), .int .i64 x.2.f.k, .int .i64 x.2.f.n, .int .i64 x.2.f.mn, .int .i64 x.2.f.mx, .slice q5 x.2.f.rs.length k5, .slice none 0 0] 77)).heap[bl]? = some (.cells #[.slice q ms.length c] 74 (0, 0)) := (Below.heap_alloc _ _ _ (lt_of_heap K7)).trans K7
      have HK8 := hide K8
      clear K8 N5 N6 N7 z5 z6 f5 f6 hbb hms
      have hms : ms.length ≤ 2000 := by have := HML.out; omega
      gi_wp2_with (gi_at_builtin; refine wpListIn_append_own_at _ rfl _ _ 74 rfl w4.heap.size 77 t0 (.agg #[.int .i64 0, .int .i64 0, .int .i64 0, .int .i64 0, .int .i64 0, .slice none 0 0, .slice none 0 0]) 7 88 und_places hi hz0 hz1 hz2 rfl (by decide) (.slice q ms.length c) ms.length (cellsP ms) rfl Y7.out ⟨W7.heap.size, 0, none⟩ 1 1 (plC (x, ⟨x.2.f.k, x.2.f.n, x.2.f.mn, x.2.f.mx, x.2.f.rs, q5, k5, none, 0, 0⟩)) rfl rfl HNEW.out (fun v hv => by simp [plC, Fl.cells] at hv; rcases hv with rfl | rfl | rfl | rfl | rfl | rfl | rfl <;> rfl) (by unfold maxLen; omega) (by omega) HB8.out ?_; intro v' w6 hown' hgrow _ _; obtain ⟨q6, c6, rfl⟩ := ownsRow_shape hown'; have O6 := hide hown'; have G6 := hide hgrow; have K9 : w6.heap[bl]? = some (.cells #[.slice q ms.length c] 74 (0, 0)) := (hgrow.block _ (lt_of_heap HK8.out) (fun e => ownsRow_not Y7.out HK8.out (by decide) e.symm)).trans HK8.out; have k9 := cell_row K9 (i := 0) rfl; have f9 := frz_row K9 0; clear hown' hgrow)
      exact plc_end hwi B3.size hsz E1.out H2.out H3.out H4.out HAP.out HT.out (by have := HML.out; omega) HH.out.bel HCK.out HBX.out hbl2 hs0 HK0.out X5.out B5.out HFX.out O6.out G6.out
  · rintro D V hD h hck hK
    obtain ⟨ms, q, c, e1, h2, h3, h4, hap⟩ := h.ms
    have HAP := hide hap
    have e2 : (pp [] t).take 2000 = pp [] t := List.take_of_length_le h.len
    have k0 := cell_row h2 (i := 0) rfl
    have H := hide (show ms.map (·.1) = (pp [] t).take 2000 by rw [e2]; exact e1)
    have X3 := hide h3
    have X4 := hide h4
    have XB := hide h.bel
    have HK := hide hK
    have HD := hide hD
    clear hap h h2 h3 h4 e1 e2 hck hK hD
    simp only [behindN]
    go_wp2
    refine ⟨by simp, .inl ⟨_, _, rfl, run_takeDeferred HK.out, ?_⟩⟩
    exact ⟨.slice q ms.length c, by simp [results, Try.results43, go_sem], ms, q, c, rfl, H.out, ownsRow_mono (own_put _ HK.out rfl X3.out) B3.size, fun z hz => (X4.out z hz).put _ HK.out rfl B3.size, HAP.out, bel_put _ XB.out (Nat.le_trans B3.size HD.out)⟩
  · rintro D c pre V hD hpre ⟨rfl, p, x, rfl, hl, h⟩ hK
    obtain ⟨ms, q, c, e1, h2, h3, h4, hap⟩ := h.ms
    have HAP := hide hap
    have e2 : (pp [] t).take 2000 = p := by
      obtain ⟨r, hr⟩ := h.pfx
      rw [← hr, List.take_append_of_le_length (by omega), List.take_of_length_le (by omega)]
    have k0 := cell_row h2 (i := 0) rfl
    have H := hide (show ms.map (·.1) = (pp [] t).take 2000 by rw [e2]; exact e1)
    have X3 := hide h3
    have X4 := hide h4
    have XB := hide h.bel
    have HK := hide hK
    have HD := hide hD
    clear hap h h2 h3 h4 e1 e2 hK hD hl hpre
    refine (wpIn_wide (n := n)).2 ?_
    simp only [behindN]
    go_wp2
    refine ⟨by simp, .inl ⟨_, _, rfl, run_takeDeferred HK.out, ?_⟩⟩
    exact ⟨.slice q ms.length c, by simp [results, Try.results43, go_sem], ms, q, c, rfl, H.out, ownsRow_mono (own_put _ HK.out rfl X3.out) B3.size, fun z hz => (X4.out z hz).put _ HK.out rfl B3.size, HAP.out, bel_put _ XB.out (Nat.le_trans B3.size HD.out)⟩
end Go.Proofs.Ytlodjinejeajcab
