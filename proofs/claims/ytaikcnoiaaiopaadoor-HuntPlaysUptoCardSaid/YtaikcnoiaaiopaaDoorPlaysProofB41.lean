/-
  Parts of the proof.
-/
import Derived.Test.YtaikcnoiaaiopaaDoorPlaysProofB37
import Derived.Test.YtaikcnoiaaiopaaDoorPlaysProofB39
import Derived.Test.YtaikcnoiaaiopaaDoorPlaysProofB40
set_option linter.unusedSimpArgs false
namespace Go.Proofs.YtaikcnoiaaiopaaDoor
open Go Go.RowKit Go.Shelf
attribute [local go_sem] Oper.semAt_some ext_cell
set_option maxHeartbeats 1000000 in
theorem pick_v (c : Int) (n : Nat) (hn : 0 < n) (hs : n ≤ 1000000000000000000) (hc : (Lit.int .i64 c).wf = true) (w : World) :
    Calls Tryd.prog 18 #[.int .i64 c, .int .i64 n] w fun e w' => e = .returned (.int .i64 (pk c n)) ∧ w' = w := by
  have hr := wf_range hc
  have hq := pk_range (c := c) hn
  have hz : ¬ ((n : Int) = 0) := by omega
  by_cases h0 : c < 0
  · have e1 : IntKind.i64.wrap (c + 1) = c + 1 := by rw [IntKind.wrap_i64]; omega
    have e2 : IntKind.i64.wrap (-(c + 1)) = -(c + 1) := by rw [IntKind.wrap_i64]; omega
    have e4 : pk c n = (-(c + 1)).tmod n := by unfold pk; rw [if_pos h0]
    have e3 : IntKind.i64.wrap ((-(c + 1)).tmod n) = (-(c + 1)).tmod n := by rw [← e4, IntKind.wrap_i64]; omega
    have HE : Hid _ := e4
    clear e4 hq
    go_enter Tryd.func18, Tryd.ntmps18
    go_wp2
    go_ret
    exact ⟨by rw [HE.out, Int.neg_tmod]; rfl, rfl⟩
  · have e4 : pk c n = c.tmod n := by unfold pk; rw [if_neg h0]
    have e3 : IntKind.i64.wrap (c.tmod n) = c.tmod n := by rw [← e4, IntKind.wrap_i64]; omega
    have HE : Hid _ := e4
    clear e4 hq
    go_enter Tryd.func18, Tryd.ntmps18
    go_wp2
    go_ret
    exact ⟨by rw [HE.out, Int.tmod_eq_emod_of_nonneg h0]; rfl, rfl⟩
structure Cl where
  line : ByteArray
  fm : Int
  lv : Int
  tn : Int
structure Bo (B hb : Nat) (wv : Value) (o : Cl) (wi : Bool) (Z : World) : Prop where
  b0 : Z.heap[B]? = some (.cells #[.pointer (some ⟨hb, 0, none⟩)] 25 (0, 0))
  b1 : Z.heap[B + 1]? = some (.cells #[wv] 36 (0, 0))
  b2 : Z.heap[B + 1 + 1]? = some (.cells #[.string o.line, .int .i64 o.fm, .int .i64 o.lv, .int .i64 o.tn] 31 (0, 0))
  b3 : Z.heap[B + 1 + 1 + 1]? = some (.cells #[.bool wi] 4 (0, 0))
  b4 : ∃ b, Z.heap[B + 1 + 1 + 1 + 1]? = some (.cells #[.bool b] 4 (0, 0))
  b5 : Z.heap[B + 5]? = some (.cells #[.pointer (some ⟨hb, 0, none⟩)] 25 (0, 0))
  b6 : Z.heap[B + 6]? = some (.cells #[.string o.line] 9 (0, 0))
theorem Bo.fr {B hb : Nat} {wv : Value} {o : Cl} {wi : Bool} {Z Z' : World} {S : Nat → Prop} (h : Bo B hb wv o wi Z) (hf : Fr S Z Z') (hs : ∀ k, B ≤ k → k < B + 7 → ¬ S k) : Bo B hb wv o wi Z' := by
  obtain ⟨b, hb4⟩ := h.b4
  exact ⟨(hf.block _ (lt_of_heap h.b0) (hs _ (by omega) (by omega))).trans h.b0, (hf.block _ (lt_of_heap h.b1) (hs _ (by omega) (by omega))).trans h.b1, (hf.block _ (lt_of_heap h.b2) (hs _ (by omega) (by omega))).trans h.b2, (hf.block _ (lt_of_heap h.b3) (hs _ (by omega) (by omega))).trans h.b3, ⟨b, (hf.block _ (lt_of_heap hb4) (hs _ (by omega) (by omega))).trans hb4⟩, (hf.block _ (lt_of_heap h.b5) (hs _ (by omega) (by omega))).trans h.b5, (hf.block _ (lt_of_heap h.b6) (hs _ (by omega) (by omega))).trans h.b6⟩
def OverP (base b0 : Nat) (f : Bool) (T : Pt) (D : List Nat → Prop) (R : List Nat → Nat → Prop) (K : List Nat → Kn) (hb : Nat) (lg : Int) (C : Nat) (st : Int) (V : World) (e : Ending) (V' : World) : Prop :=
  e = .returned (.bool true) ∧ Kp base b0 V f T D R K hb lg V' ∧ Fr (fun k => k = hb ∨ V.heap.size ≤ k) V V' ∧ ∃ st', HM V' hb T f lg st' ∧ st ≤ st' ∧ st' ≤ st + (C : Int)
theorem fn_nil (f : Fn) (a b : Array Value) (w : World) : (binOp .eql 39 (.func f a b) .nilFunc).run Tryd.prog w = .ok (.bool false) w := by kernel_rfl
theorem five (w : World) (a b c d e : Obj) : ∃ W1, W1 = ((((w.alloc a).alloc b).alloc c).alloc d).alloc e ∧ Below w.heap.size w W1 ∧ W1.heap.size = w.heap.size + 5 ∧ W1.heap[w.heap.size]? = some a ∧ W1.heap[w.heap.size + 1]? = some b ∧ W1.heap[w.heap.size + 1 + 1]? = some c ∧ W1.heap[w.heap.size + 1 + 1 + 1]? = some d ∧ W1.heap[w.heap.size + 1 + 1 + 1 + 1]? = some e := by
  refine ⟨_, rfl, ?_, by simp, ?_, ?_, ?_, ?_, ?_⟩
  · exact (((((Below.refl _ _).alloc (Nat.le_refl _) _).alloc (by simp only [World.size_alloc]; omega) _).alloc (by simp only [World.size_alloc]; omega) _).alloc (by simp only [World.size_alloc]; omega) _).alloc (by simp only [World.size_alloc]; omega) _
  · exact (Below.heap_alloc _ _ _ (by simp only [World.size_alloc]; omega)).trans ((Below.heap_alloc _ _ _ (by simp only [World.size_alloc]; omega)).trans ((Below.heap_alloc _ _ _ (by simp only [World.size_alloc]; omega)).trans ((Below.heap_alloc _ _ _ (by simp only [World.size_alloc]; omega)).trans (World.alloc_heap_new w _))))
  · refine (Below.heap_alloc _ _ _ (by simp only [World.size_alloc]; omega)).trans ((Below.heap_alloc _ _ _ (by simp only [World.size_alloc]; omega)).trans ((Below.heap_alloc _ _ _ (by simp only [World.size_alloc]; omega)).trans ?_))
    have := World.alloc_heap_new (w.alloc a) b
    simpa only [World.size_alloc] using this
  · refine (Below.heap_alloc _ _ _ (by simp only [World.size_alloc]; omega)).trans ((Below.heap_alloc _ _ _ (by simp only [World.size_alloc]; omega)).trans ?_)
    have := World.alloc_heap_new ((w.alloc a).alloc b) c
    simpa only [World.size_alloc] using this
  · refine (Below.heap_alloc _ _ _ (by simp only [World.size_alloc]; omega)).trans ?_
    have := World.alloc_heap_new (((w.alloc a).alloc b).alloc c) d
    simpa only [World.size_alloc] using this
  · have := World.alloc_heap_new ((((w.alloc a).alloc b).alloc c).alloc d) e
    simpa only [World.size_alloc] using this
theorem prT_at {w : World} {base : Nat} {q : Option Addr} {c : Nat} {L : List (Nat × Nat)} (h : w.ownsRow base 80 2 (.slice q L.length c) L.length (prC L)) {j : Nat} {x : Nat × Nat} (hx : L[j]? = some x) :
    ∃ g, q = some ⟨g, 0, none⟩ ∧ g < w.heap.size ∧ w.cell? ⟨g, j * 2, none⟩ = some (.int .i64 (x.1 : Int)) ∧ w.cell? ⟨g, j * 2 + 1, none⟩ = some (.int .i64 (x.2 : Int)) := by
  have hj : j < L.length := (List.getElem?_eq_some_iff.1 hx).1
  obtain ⟨g, rfl⟩ : ∃ g, q = some ⟨g, 0, none⟩ := by
    rcases h.2 with ⟨_, e2⟩ | ⟨g, cap, cur, e, _⟩
    · omega
    · injection e with e _ _; exact ⟨g, e⟩
  exact ⟨g, rfl, (h.lt g rfl).2, (h.cellAt (j * 2) (by omega)).trans (prC_two hx).1, (h.cellAt (j * 2 + 1) (by omega)).trans (prC_two hx).2⟩
theorem own_otherT {base hb n0 m : Nat} {V V' : World} {v : Value} {xs : List Value} {cur : Array Value} (h : V.ownsRow base 80 2 v m xs) (hf : Fr (fun k => k = hb ∨ n0 ≤ k) V V') (hn : V.heap.size ≤ n0) (hm : V.heap[hb]? = some (.cells cur 67 (0, 0))) : V'.ownsRow base 80 2 v m xs :=
  ownsRow_fr h hf (fun g hg e => by
    rcases e with e | e
    · subst e
      obtain ⟨_, cur, q⟩ := own_typ h hg
      rw [hm] at q
      injection q with q
      injection q with _ q _
      exact absurd q (by decide)
    · have := (h.lt g hg).2
      omega)
theorem wpIn_region_read {P : Program} {id l n : Nat} {Q : Exit → Act → World → Prop} {a : Act} {w : World} {ops : List Oper} (hm : P.follows .mixedOrders = true) (hB : Region.lexB .any ops.toArray = true) (hd : noDefer ops = true) (hL : ¬ LetsOut Q)
    (h : wpQuiet P ops.toArray (fun w' => ∃ n, w' = w.drewN n) (fun a' => ∀ w', (∃ n, w' = w.drewN n) → Q .normal a' w') ops a) : (Code.region id ops.toArray true).wpIn (Fence.wide.inRound l) n P Q a w := by
  have hC : (fun w' => ∃ n, w' = w.drewN n) { w with drawn := w.drawn + 1 } := ⟨1, rfl⟩
  simp only [Region.lexB, Bool.and_eq_true] at hB
  refine wpIn_region_any hm (any_round (noDefer_spec hd) hL _ _ _ _ (wpAny_of_quiet (C := fun w' => ∃ n, w' = w.drewN n) (Q := fun a' => ∀ w', (∃ n, w' = w.drewN n) → Q .normal a' w') (fun _ w' hw' h => h w' hw') _ _ _ _ hC ?_))
  have := wpAnyQ_lex (C := fun w' => ∃ n, w' = w.drewN n) (md := .any) hB.1 ops 0 (Array.replicate ops.length false) a (by simp) (by simpa using hB.2) h
  simpa using this
structure JO (base b0 : Nat) (V : World) (f : Bool) (T : Pt) (D : List Nat → Prop) (R : List Nat → Nat → Prop) (K : List Nat → Kn) (hb : Nat) (lg : Int) (wv : Value) (o : Cl) (wi : Bool) (NB : Nat) (Ds : List Nat) (hi : Nat) (s0 : Int) (m b : Nat) (Z : World) : Prop where
  kp : Kp base b0 V f T D R K hb lg Z
  bo : Bo V.heap.size hb wv o wi Z
  fr : Fr (fun k => k = hb ∨ V.heap.size ≤ k) V Z
  nb : Z.heap[NB]? = some (.cells #[.int .i64 (m : Int)] 3 (0, 0))
  mr : MK V.heap.size hi Ds Z
  st : ∃ c : Nat, c ≤ (if wi = true ∧ pk o.tn 4 < (m : Int) then 303000000 else 0) ∧ HM Z hb T f lg (wrap64 (s0 + (b : Int) + (c : Int)))
section
variable {base b0 : Nat} {V Z Z' : World} {f : Bool} {T : Pt} {D : List Nat → Prop} {R : List Nat → Nat → Prop} {K : List Nat → Kn} {hb : Nat} {lg : Int} {wv : Value} {o : Cl} {wi : Bool} {NB : Nat} {Ds : List Nat} {hi : Nat} {s0 : Int} {m b : Nat}
theorem JO.low {S : Nat → Prop} (h : JO base b0 V f T D R K hb lg wv o wi NB Ds hi s0 m b Z) (hk : Kp base b0 V f T D R K hb lg Z') (hf : Fr S Z Z') (hs : ∀ k, S k → hi ≤ k) (hN : NB < hi) (hV : V.heap.size + 7 ≤ hi) (hB : hb < V.heap.size) : JO base b0 V f T D R K hb lg wv o wi NB Ds hi s0 m b Z' := by
  obtain ⟨c, h1, h2⟩ := h.st
  exact ⟨hk, h.bo.fr hf (fun k q1 q2 q3 => by have := hs k q3; omega), h.fr.trans (hf.mono (fun k q => .inr (by have := hs k q; omega))), (hf.block _ (lt_of_heap h.nb) (fun q => by have := hs _ q; omega)).trans h.nb, ⟨h.mr.1, fun D hD => by
    obtain ⟨q1, q2, q3⟩ := h.mr.2 D hD
    exact ⟨q1, q2, (hf.block _ (lt_of_heap q3) (fun q => by have := hs _ q; omega)).trans q3⟩⟩, c, h1, (hf.block _ (lt_of_heap h2) (fun q => by have := hs _ q; omega)).trans h2⟩
theorem JO.bump (h : JO base b0 V f T D R K hb lg wv o wi NB Ds hi s0 m b Z) {d : Nat} (hu : Bump hb (d : Int) Z Z') (hB : hb < V.heap.size) : JO base b0 V f T D R K hb lg wv o wi NB Ds hi s0 m (b + d) Z' := by
  obtain ⟨c, h1, h2⟩ := h.st
  refine ⟨h.kp.bump hu, h.bo.fr hu.fr (fun k q1 q2 q3 => by omega), h.fr.trans (hu.fr.mono (fun k q => .inl q)), (hu.fr.block _ (lt_of_heap h.nb) (ne_type h.nb h2 (by decide))).trans h.nb, ⟨h.mr.1, fun D hD => by
    obtain ⟨q1, q2, q3⟩ := h.mr.2 D hD
    exact ⟨q1, q2, (hu.fr.block _ (lt_of_heap q3) (fun q => by omega)).trans q3⟩⟩, c, h1, ?_⟩
  have h9 := hu.st _ _ _ _ h2
  have e : wrap64 (wrap64 (s0 + (b : Int) + (c : Int)) + (d : Int)) = wrap64 (s0 + ((b + d : Nat) : Int) + (c : Int)) := by
    unfold wrap64
    push_cast
    omega
  rwa [e] at h9
structure JP (base b0 : Nat) (V : World) (f : Bool) (T : Pt) (D : List Nat → Prop) (R : List Nat → Nat → Prop) (K : List Nat → Kn) (hb : Nat) (lg : Int) (wv : Value) (o : Cl) (wi : Bool) (NB : Nat) (Ds : List Nat) (hi : Nat) (m : Nat) (Z : World) : Prop where
  kp : Kp base b0 V f T D R K hb lg Z
  bo : Bo V.heap.size hb wv o wi Z
  fr : Fr (fun k => k = hb ∨ V.heap.size ≤ k) V Z
  nb : Z.heap[NB]? = some (.cells #[.int .i64 (m : Int)] 3 (0, 0))
  mr : MK V.heap.size hi Ds Z
theorem JO.p (h : JO base b0 V f T D R K hb lg wv o wi NB Ds hi s0 m b Z) : JP base b0 V f T D R K hb lg wv o wi NB Ds hi m Z := ⟨h.kp, h.bo, h.fr, h.nb, h.mr⟩
theorem JP.call (h : JP base b0 V f T D R K hb lg wv o wi NB Ds hi m Z) (k4 : Kp base b0 Z f T D R K hb lg Z') (hf : Fr (fun k => k = hb ∨ Z.heap.size ≤ k) Z Z') (hN : V.heap.size ≤ NB) (hB : hb < V.heap.size) : JP base b0 V f T D R K hb lg wv o wi NB Ds hi m Z' := by
  have hz := h.fr.size
  have hl3 := lt_of_heap h.bo.b3
  have hl4 := lt_of_heap h.bo.b6
  have hln := lt_of_heap h.nb
  refine ⟨⟨k4.hi, k4.tab, h.kp.bl.trans k4.bl, k4.pos, k4.lb, h.kp.lw, k4.sw⟩, h.bo.fr hf (fun k q1 q2 q3 => by rcases q3 with q3 | q3 <;> omega), h.fr.trans (hf.mono (fun k q => q.imp id (fun q => by omega))), (hf.block _ hln (fun q => by rcases q with q | q <;> omega)).trans h.nb, ⟨h.mr.1, fun D hD => by
    obtain ⟨q1, q2, q3⟩ := h.mr.2 D hD
    have := lt_of_heap q3
    exact ⟨q1, q2, (hf.block _ this (fun q => by rcases q with q | q <;> omega)).trans q3⟩⟩⟩
theorem JP.below (h : JP base b0 V f T D R K hb lg wv o wi NB Ds hi m Z) (hb' : Below Z.heap.size Z Z') (hN : V.heap.size ≤ NB) (hB : hb < V.heap.size) : JP base b0 V f T D R K hb lg wv o wi NB Ds hi m Z' :=
  h.call (h.kp.self.below hb') (Fr.of_below hb') hN hB
theorem keeps_hunt {n0 Dz : Nat} {cur : Array Value} (hf : Fr (fun k => k = hb ∨ Z.heap.size ≤ k) Z Z') (hh : Z.heap[hb]? = some (.cells cur 67 (0, 0))) : KeepsFrom Dz Z Z' ∧ TKeep (keepA n0) Z Z' := by
  refine ⟨⟨hf.size, fun i o _ hc ho => (hf.block i (lt_of_heap hc) (fun q => ?_)).trans hc⟩, hf.tkeep (fun i cur' t fr q hc hN => ?_)⟩
  · rcases q with q | q
    · subst q
      rw [hh] at hc; injection hc with hc; subst hc; cases ho
    · have := lt_of_heap hc; omega
  · rcases q with q | q
    · subst q
      rw [hh] at hc; injection hc with hc; injection hc with _ hc _; subst hc
      rcases hN with ⟨_, q⟩ | q
      · rcases q with q | q | q | q | q | q | q <;> exact absurd q (by decide)
      · exact absurd q (by decide)
    · have := lt_of_heap hc; omega
theorem JP.inc (h : JP base b0 V f T D R K hb lg wv o wi NB Ds hi m Z) (hN : V.heap.size + 7 ≤ NB) (hB : hb < V.heap.size) {c : Nat} (hc : c ≤ (if wi = true ∧ pk o.tn 4 < ((m + 1 : Nat) : Int) then 303000000 else 0)) (hh : HM Z hb T f lg (wrap64 (s0 + (b : Int) + (c : Int)))) : JO base b0 V f T D R K hb lg wv o wi NB Ds hi s0 (m + 1) b (Z.setCell ⟨NB, 0, none⟩ (.int .i64 ((m : Int) + 1))) := by
  have hf : Fr (fun i => i = NB) Z (Z.setCell ⟨NB, 0, none⟩ (.int .i64 ((m : Int) + 1))) := (Fr.refl (fun i => i = NB) Z).setCell (p := ⟨NB, 0, none⟩) rfl _
  have hl : b0 ≤ NB := by
    have := h.kp.lb
    omega
  refine ⟨h.kp.set h.nb hl (by decide) _, h.bo.fr hf (fun k q1 q2 q3 => by omega), h.fr.trans (hf.mono (fun k q => .inr (by omega))), (heap_set_in h.nb 0 _).trans (by simp), ⟨h.mr.1, fun D hD => by
    obtain ⟨q1, q2, q3⟩ := h.mr.2 D hD
    exact ⟨q1, q2, (hf.block _ (lt_of_heap q3) (fun q => by rw [q, h.nb] at q3; cases q3)).trans q3⟩⟩, c, hc, (hf.block _ (lt_of_heap hh) (fun q => by omega)).trans hh⟩
theorem over_next {st : Int} {BS : Int} {t CR : Nat} {Ds : List Nat} {D' hi : Nat} {U : World} (h : JO base b0 V f T D R K hb lg wv o wi NB Ds hi s0 m b Z) (hb1 : b ≤ 110000000) (hs : HM U hb T f lg s0 ∧ st ≤ s0 ∧ s0 ≤ st + ((t * CR : Nat) : Int)) (hst : 0 ≤ st ∧ st ≤ BS) (hBS : BS ≤ 4000000000000000) (hCR : CR = (if wi = true then 500000000 else 150000000)) (ht : t ≤ 2) (hD : hi ≤ D') (hK : Z.heap[D']? = some (.deferred (some []))) (hV : V.heap.size + 7 ≤ hi) (_ : True) :
    Kp base b0 V f T D R K hb lg Z ∧ Fr (fun k => k = hb ∨ V.heap.size ≤ k) V Z ∧ Bo V.heap.size hb wv o wi Z ∧ MK V.heap.size Z.heap.size (D' :: Ds) Z ∧ V.heap.size + 7 ≤ Z.heap.size ∧ ∃ st', HM Z hb T f lg st' ∧ st ≤ st' ∧ st' ≤ st + (((t + 1) * CR : Nat) : Int) := by
  have hl := lt_of_heap hK
  obtain ⟨c, h1, h2⟩ := h.st
  have hc : c + 110000000 ≤ CR := by
    rw [hCR]
    cases wi with
    | false => simp at h1 ⊢; omega
    | true =>
      simp only [if_true] at h1 ⊢
      split at h1 <;> omega
  have hcr : CR ≤ 500000000 := by rw [hCR]; split <;> omega
  have htc : t * CR ≤ 2 * 500000000 := Nat.mul_le_mul ht hcr
  have e : wrap64 (s0 + (b : Int) + (c : Int)) = s0 + (b : Int) + (c : Int) := by unfold wrap64; omega
  rw [e] at h2
  refine ⟨h.kp, h.fr, h.bo, ⟨List.nodup_cons.2 ⟨fun q => by have := (h.mr.2 D' q).2.1; omega, h.mr.1⟩, fun E hE => ?_⟩, by omega, _, h2, by omega, by rw [Nat.succ_mul]; push_cast; omega⟩
  rcases List.mem_cons.1 hE with rfl | hE
  · exact ⟨by omega, hl, hK⟩
  · obtain ⟨q1, q2, q3⟩ := h.mr.2 E hE
    exact ⟨q1, by omega, q3⟩
end
set_option maxRecDepth 100000 in
set_option maxHeartbeats 4000000 in
theorem over_in (n : Nat) (hn : 12 ≤ n) {base b0 : Nat} {w0 V : World} {f : Bool} {ws : List ByteArray} {T : Pt} {D : List Nat → Prop} {R : List Nat → Nat → Prop} {K : List Nat → Kn} {hb : Nat} {lg st : Int} {q : Option Addr} {c : Nat} (o : Cl) (wi : Bool) (hk : Kp base b0 w0 f T D R K hb lg V) (hH : Hu base V f ws T D R K lg) (hh : HM V hb T f lg st) (hsz : o.line.size ≤ 1048576) (hwf : (Lit.int .i64 o.tn).wf = true)
    (hw : V.ownsRow b0 80 2 (.slice q (allM f ws o.line o.line.size).length c) (allM f ws o.line o.line.size).length (prC (allM f ws o.line o.line.size))) {BS : Int} (hBS : BS ≤ 4000000000000000) (hst : 0 ≤ st ∧ st ≤ BS)
    (IH : wi = true → ∀ (U : World) (st2 : Int), Kp base b0 V f T D R K hb lg U → HM U hb T f lg st2 → 0 ≤ st2 ∧ st2 ≤ BS + 2000000000 → U.ownsRow b0 80 2 (.slice q (allM f ws o.line o.line.size).length c) (allM f ws o.line o.line.size).length (prC (allM f ws o.line o.line.size)) → Calls Tryd.prog 17 #[.pointer (some ⟨hb, 0, none⟩), .slice q (allM f ws o.line o.line.size).length c, .agg #[.string o.line, .int .i64 o.fm, .int .i64 o.lv, .int .i64 o.tn], .bool false] U (OverP base b0 f T D R K hb lg 300000000 st2 U)) :
    CallsIn Fence.wide n Tryd.prog 17 #[.pointer (some ⟨hb, 0, none⟩), .slice q (allM f ws o.line o.line.size).length c, .agg #[.string o.line, .int .i64 o.fm, .int .i64 o.lv, .int .i64 o.tn], .bool wi] V (OverP base b0 f T D R K hb lg (if wi = true then 1000000000 else 300000000) st V) := by
  have h1 : 1 ≤ n := by omega
  have h2 : 1 ≤ n - 1 - 1 := by omega
  have hfn : ∀ f, Fence.wide.fn f := fun _ => trivial
  have hmx : Tryd.prog.follows .mixedOrders = true := by kernel_rfl
  have OK := hide hH.ok
  have HF := hide (show (allM f ws o.line o.line.size).length ≤ 104857600 from by
    have h5 := allM_few (f := f) (ws := ws) (line := o.line) o.line.size
    have h7 : o.line.size * ws.length ≤ 1048576 * 100 := Nat.mul_le_mul hsz (mayB_of OK.out).2.2
    omega)
  obtain ⟨A, hA⟩ : ∃ A, A = allM f ws o.line o.line.size := ⟨_, rfl⟩
  rw [← hA] at hw IH HF ⊢
  have HA := hide hA
  have HIH := hide IH
  have KV := hide hk.self
  have HH := hide hH
  have HM0 := hide hh
  have HW := hide hw
  have HBL := hide (show hb < V.heap.size from lt_of_heap hh)
  have HWL := hide hk.lw
  have SB := hide hk.bl.size
  clear hk hH hw IH hh hA
  obtain ⟨CC, hCC⟩ : ∃ CC, CC = (if wi = true then 1000000000 else 300000000) := ⟨_, rfl⟩
  rw [← hCC]
  have HCC := hide hCC
  clear hCC
  refine callsIn_of_wp_marks Tryd.func17 rfl trivial ?_ rfl
  simp only [Tryd.ntmps17, List.size_toArray, List.length_cons, List.length_nil, Nat.reduceAdd, Nat.reduceSub, Array.replicate_succ, Array.replicate_zero, List.push_toArray, List.append_toArray, List.nil_append, List.cons_append]
  gi_upto_region 1 with fail
  obtain ⟨W1, hW1, bW, sW, x0, x1, x2, x3, x4⟩ := five V (.cells #[.pointer (some ⟨hb, 0, none⟩)] 25) (.cells #[.slice q A.length c] 36) (.cells #[.string o.line, .int .i64 o.fm, .int .i64 o.lv, .int .i64 o.tn] 31) (.cells #[.bool wi] 4) (.cells #[.bool false] 4)
  rw [← hW1]
  clear hW1
  have c4 := cell_row x0 (i := 0) rfl
  have c6 := cell_row x2 (i := 0) rfl
  have AC := hide (fun W => all_c hb o.line W)
  have BW := hide bW
  have SW := hide sW
  have X0 := hide x0
  have X1 := hide x1
  have X2 := hide x2
  have X3 := hide x3
  have X4 := hide x4
  clear bW sW x0 x1 x2 x3 x4
  gi_upto_region 2 with (gi_at_call 16; refine (callsIn_wide.2 (AC.out _)).mono ?_; rintro e wq ⟨rfl, h5⟩; subst wq)
  obtain ⟨UD, hUD, bD, sD, r1, r2⟩ := two W1 (.cells #[.pointer (some ⟨hb, 0, none⟩)] 25) (.cells #[.string o.line] 9)
  rw [← hUD]
  clear hUD AC c4 c6
  have BO : Hid (Bo V.heap.size hb (.slice q A.length c) o wi UD) := hide ⟨(bD.block _ (lt_of_heap X0.out)).trans X0.out, (bD.block _ (lt_of_heap X1.out)).trans X1.out, (bD.block _ (lt_of_heap X2.out)).trans X2.out, (bD.block _ (lt_of_heap X3.out)).trans X3.out, ⟨_, (bD.block _ (lt_of_heap X4.out)).trans X4.out⟩, by rw [← SW.out]; exact r1, by have := r2; rw [SW.out] at this; exact this⟩
  have BVD := hide (chain BW.out bD (Nat.le_refl _))
  have NUM := hide (show W1.heap.size = V.heap.size + 5 ∧ UD.heap.size = V.heap.size + 7 from ⟨SW.out, by rw [sD, SW.out]⟩)
  have R1 := hide r1
  have R2 := hide r2
  clear bD sD r1 r2 X0 X1 X2 X3 X4 BW SW
  have FN := fn_nil
  gi_upto_region 5 with fail
  have S0 : Hid (Kp base b0 V f T D R K hb lg UD ∧ Fr (fun k => k = hb ∨ V.heap.size ≤ k) V UD ∧ HM UD hb T f lg st) := hide ⟨KV.out.below BVD.out, Fr.of_below BVD.out, (BVD.out.block _ HBL.out).trans HM0.out⟩
  obtain ⟨CR, hCR⟩ : ∃ CR : Nat, CR = (if wi = true then 500000000 else 150000000) := ⟨_, rfl⟩
  have HCR := hide (show CC = 2 * CR from by rw [HCC.out, hCR]; split <;> rfl)
  have HCR2 := hide hCR
  clear hCR
  obtain ⟨LI, hLI⟩ : ∃ LI : Act → World → Prop, LI = (fun a U => ∃ (t : Nat) (Ds : List Nat), a.tmps = #[.pointer (some ⟨hb, 0, none⟩), .slice q A.length c, .agg #[.string o.line, .int .i64 o.fm, .int .i64 o.lv, .int .i64 o.tn], .bool wi, .pointer (some ⟨V.heap.size, 0, none⟩), .pointer (some ⟨V.heap.size + 1, 0, none⟩), .pointer (some ⟨V.heap.size + 1 + 1, 0, none⟩), .pointer (some ⟨V.heap.size + 1 + 1 + 1, 0, none⟩), .pointer (some ⟨V.heap.size + 1 + 1 + 1 + 1, 0, none⟩), .func (.func 30) #[] #[.pointer (some ⟨W1.heap.size, 0, none⟩), .pointer (some ⟨W1.heap.size + 1, 0, none⟩)], .int .i64 (t : Int), tw a 11, tw a 12, tw a 13, tw a 14, tw a 15, tw a 16, tw a 17, tw a 18, tw a 19, tw a 20, tw a 21, tw a 22, tw a 23, tw a 24, tw a 25, tw a 26, tw a 27, tw a 28, tw a 29, tw a 30, tw a 31, tw a 32, tw a 33, tw a 34, tw a 35, tw a 36, tw a 37, tw a 38, tw a 39, tw a 40, tw a 41, tw a 42, tw a 43, tw a 44, tw a 45, tw a 46, tw a 47, tw a 48, tw a 49, tw a 50, tw a 51, tw a 52, tw a 53, tw a 54, tw a 55, tw a 56, tw a 57, tw a 58, tw a 59, tw a 60, tw a 61, tw a 62, tw a 63, tw a 64, tw a 65, tw a 66, tw a 67, tw a 68, tw a 69, tw a 70, tw a 71, tw a 72, tw a 73, tw a 74, tw a 75, tw a 76, tw a 77, tw a 78, tw a 79, tw a 80, tw a 81, tw a 82, tw a 83, tw a 84, tw a 85, tw a 86, tw a 87, tw a 88, tw a 89, tw a 90, tw a 91, tw a 92, tw a 93, tw a 94] ∧ a.defers = Ds.map mkD ∧ t ≤ 2 ∧ Kp base b0 V f T D R K hb lg U ∧ Fr (fun k => k = hb ∨ V.heap.size ≤ k) V U ∧ Bo V.heap.size hb (.slice q A.length c) o wi U ∧ MK V.heap.size U.heap.size Ds U ∧ V.heap.size + 7 ≤ U.heap.size ∧ ∃ st', HM U hb T f lg st' ∧ st ≤ st' ∧ st' ≤ st + ((t * CR : Nat) : Int)) := ⟨_, rfl⟩
  refine wpIn_loop LI (fun a _ => ((2 : Int) - intOf (a.tmps.getD 10 undef)).toNat) ?_ ?_
  · rw [hLI]
    exact ⟨0, [], rfl, rfl, by omega, S0.out.1, S0.out.2.1, BO.out, ⟨List.nodup_nil, fun D h => by cases h⟩, by have := NUM.out.2; omega, st, S0.out.2.2, Int.le_refl _, by omega⟩
  · clear S0 BO R1 R2
    rintro ⟨tm, ds⟩ U hI
    rw [hLI] at hI
    obtain ⟨t, Ds, ha, hd, ht, hK, hF, hB, hM, hsU, s0, hs0, hs1, hs2⟩ := hI
    dsimp only at ha hd
    generalize tw { tmps := tm, defers := ds } = f' at ha
    subst ha hd
    have HLI := hide hLI
    have KU := hide hK
    have FU := hide hF
    have BU := hide hB
    have MU := hide hM
    have SU := hide hsU
    have Q1 := hide (show U.heap[W1.heap.size]? = some (.cells #[.pointer (some ⟨hb, 0, none⟩)] 25 (0, 0)) from by rw [NUM.out.1]; exact hB.b5)
    have Q2 := hide (show U.heap[W1.heap.size + 1]? = some (.cells #[.string o.line] 9 (0, 0)) from by rw [NUM.out.1]; exact hB.b6)
    have HS := hide (show HM U hb T f lg s0 ∧ st ≤ s0 ∧ s0 ≤ st + ((t * CR : Nat) : Int) from ⟨hs0, hs1, hs2⟩)
    clear hLI hK hF hB hM hsU hs0 hs1 hs2
    by_cases hlt : t < 2
    · have i0 : (t : Int) < 2 := by omega
      have wt : IntKind.wrap .i64 ((t : Int) + 1) = (t : Int) + 1 := wrap_small _ (by omega) (by omega)
      gi_upto_region 8 with fail
      have XN := hide (alloc_new U (.cells #[.int .i64 0] 3))
      have BA := hide (show Below U.heap.size U (U.alloc (.cells #[.int .i64 0] 3)) from (Below.refl _ _).alloc (Nat.le_refl _) _)
      have SA := hide (show (U.alloc (.cells #[.int .i64 0] 3)).heap.size = U.heap.size + 1 from by simp)
      generalize (U.alloc (.cells #[.int .i64 0] 3)) = UA at XN BA SA ⊢
      gi_wp2
      have HN0 := hide (show UA.heap.size = U.heap.size + 1 ∧ V.heap.size + 7 ≤ U.heap.size ∧ W1.heap.size = V.heap.size + 5 ∧ hb < V.heap.size from ⟨SA.out, SU.out, NUM.out.1, HBL.out⟩)
      have KA := hide (KU.out.below BA.out)
      have JA : Hid (JO base b0 V f T D R K hb lg (.slice q A.length c) o wi U.heap.size Ds UA.heap.size s0 0 0 UA) := hide ⟨KA.out, BU.out.fr (S := fun _ => False) (Fr.of_below BA.out) (fun _ _ _ q => q), FU.out.trans (Fr.of_below BA.out), XN.out, ⟨MU.out.1, fun D hD => by
        obtain ⟨q1, q2, q3⟩ := MU.out.2 D hD
        exact ⟨q1, by have := HN0.out; omega, (BA.out.block _ q2).trans q3⟩⟩, 0, Nat.zero_le _, by
        have := (BA.out.block _ (lt_of_heap HS.out.1)).trans HS.out.1
        have e : wrap64 (s0 + ((0 : Nat) : Int) + ((0 : Nat) : Int)) = s0 := by have := KU.out.sw _ HS.out.1; push_cast; simpa using this
        rw [e]
        exact this⟩
      have TL := all_tells (n - 1) (by omega) (n0 := W1.heap.size) (line := o.line) (HH.out.at KA.out.hi.1) ((BA.out.block _ (lt_of_heap Q1.out)).trans Q1.out) ((BA.out.block _ (lt_of_heap Q2.out)).trans Q2.out) (by have := HN0.out; omega) (Nat.le_refl _) (Nat.le_succ _) (by omega)
      refine range_toldE h1 (gf := 30) (lb := #[.pointer (some ⟨W1.heap.size, 0, none⟩), .pointer (some ⟨W1.heap.size + 1, 0, none⟩)]) rfl (enters_of Tryd.func30 (by kernel_rfl) rfl) rfl TL
        (fun pre Z => JO base b0 V f T D R K hb lg (.slice q A.length c) o wi U.heap.size Ds UA.heap.size s0 (tl pre).length (bs pre) Z ∧ tl pre <+: A)
        (fun cd pre Z => cd = .exit 2 ∧ JO base b0 V f T D R K hb lg (.slice q A.length c) o wi U.heap.size Ds UA.heap.size s0 (tl pre).length (bs pre) Z ∧ ((tl pre).length : Int) = o.lv ∧ tl pre <+: A ∧ bs pre ≤ 4 * o.line.size + (tl pre).length + 5)
        (fun pre A0 A' row hi hg hr => ?_) (fun cd pre A0 A' row hi hg hr => ?_) (fun pre V hi => ⟨hi.1.kp.hi, hi.1.kp.tab⟩) (fun pre A0 B hi hf => ?_) (fun cd pre A0 B hi hf => ?_)
        (fun V hv => by obtain ⟨⟨_, st, hm⟩, _⟩ := hv; exact ⟨T, f, lg, st, hm⟩) (fun pre d A0 B hi hu => ?_) ⟨JA.out, by simp [tl]⟩
        (fun x => { tmps := #[.pointer (some ⟨hb, 0, none⟩), .slice q A.length c, .agg #[.string o.line, .int .i64 o.fm, .int .i64 o.lv, .int .i64 o.tn], .bool wi, .pointer (some ⟨V.heap.size, 0, none⟩), .pointer (some ⟨V.heap.size + 1, 0, none⟩), .pointer (some ⟨V.heap.size + 1 + 1, 0, none⟩), .pointer (some ⟨V.heap.size + 1 + 1 + 1, 0, none⟩), .pointer (some ⟨V.heap.size + 1 + 1 + 1 + 1, 0, none⟩), .func (.func 30) #[] #[.pointer (some ⟨W1.heap.size, 0, none⟩), .pointer (some ⟨W1.heap.size + 1, 0, none⟩)], .int .i64 (t : Int), .pointer (some ⟨U.heap.size, 0, none⟩), .int .i64 (x.1 : Int), .int .i64 (x.2 : Int), f' 14, f' 15, f' 16, f' 17, f' 18, f' 19, f' 20, f' 21, f' 22, f' 23, .int .i64 (t : Int), .bool true, f' 26, f' 27, .func (.func 30) #[] #[.pointer (some ⟨W1.heap.size, 0, none⟩), .pointer (some ⟨W1.heap.size + 1, 0, none⟩)], .int .i64 (x.1 : Int), .int .i64 (x.2 : Int), f' 31, f' 32, f' 33, f' 34, f' 35, f' 36, f' 37, f' 38, f' 39, f' 40, f' 41, f' 42, f' 43, f' 44, f' 45, f' 46, f' 47, f' 48, f' 49, f' 50, f' 51, f' 52, f' 53, f' 54, f' 55, f' 56, f' 57, f' 58, f' 59, f' 60, f' 61, f' 62, f' 63, f' 64, f' 65, f' 66, f' 67, f' 68, f' 69, f' 70, f' 71, f' 72, f' 73, f' 74, f' 75, f' 76, f' 77, f' 78, f' 79, f' 80, f' 81, f' 82, f' 83, f' 84, f' 85, f' 86, f' 87, f' 88, f' 89, f' 90, f' 91, f' 92, f' 93, f' 94], defers := [] }) ?_ ?_ ?_ ?_
      · have hn := HN0.out
        exact ⟨hi.1.low (S := fun k => row = some k) (hi.1.kp.grown (B := UA.heap.size) (by have := hi.1.kp.lb; omega) hg hr) ⟨hg.os, hg.tape, hg.output, hg.size, fun k hk hs => hg.block k hk (fun e => hs e.symm)⟩ (fun k e => (hr k e).1) (by omega) (by omega) (by omega), hi.2⟩
      · have hn := HN0.out
        obtain ⟨e, hi, hr2⟩ := hi
        exact ⟨e, hi.low (S := fun k => row = some k) (hi.kp.grown (B := UA.heap.size) (by have := hi.kp.lb; omega) hg hr) ⟨hg.os, hg.tape, hg.output, hg.size, fun k hk hs => hg.block k hk (fun e => hs e.symm)⟩ (fun k e => (hr k e).1) (by omega) (by omega) (by omega), hr2⟩
      · have hn := HN0.out
        exact ⟨hi.1.low (hi.1.kp.ft (by have := hi.1.kp.lb; omega) hf) hf.fr (fun k q => q.1) (by omega) (by omega) (by omega), hi.2⟩
      · have hn := HN0.out
        obtain ⟨e, hi, hr2⟩ := hi
        exact ⟨e, hi.low (hi.kp.ft (by have := hi.kp.lb; omega) hf) hf.fr (fun k q => q.1) (by omega) (by omega) (by omega), hr2⟩
      · rw [tl_inr, bs_inr]
        exact ⟨hi.1.bump hu HBL.out, hi.2⟩
      · intro l' x Z K' hK
        simp only [encP]
        gi_wp2
        exact hK
      · rintro l' pre ⟨p, k⟩ Z ⟨k1, k2⟩ ⟨hok, hbp⟩
        dsimp only
        rw [← HA.out] at hok
        have HP := hide hok
        have HBP := hide (show bs (pre ++ [.inl (p, k)]) ≤ 4 * o.line.size + (tl (pre ++ [.inl (p, k)])).length + 5 from by rw [bs_inl, tl_inl, List.length_append]; omega)
        have HBQ := hide hbp
        have HN := hide (show (tl pre).length + 1 ≤ A.length from by have := hok.length_le; rw [List.length_append] at this; exact this)
        have hx : A[(tl pre).length]? = some (p, k) := by
          obtain ⟨r, hr⟩ := hok
          rw [← hr]
          simp
        have JJ := hide k1
        have n0 : ((tl pre).length : Int) < (A.length : Int) := by have := HN.out; omega
        have n1 : (0 : Int) ≤ ((tl pre).length : Int) := by omega
        have n2 : ¬ (A.length : Int) ≤ ((tl pre).length : Int) := by omega
        have cn := cell_row k1.nb (i := 0) (v := .int .i64 ((tl pre).length : Int)) rfl
        have c5 := cell_row k1.bo.b1 (i := 0) rfl
        have c7 := cell_row k1.bo.b3 (i := 0) rfl
        have OW := hide (own_otherT HW.out k1.fr (Nat.le_refl _) HM0.out)
        obtain ⟨gw, rfl, lgw, cw1, cw2⟩ := prT_at OW.out hx
        obtain ⟨c0, hc0, hm0⟩ := k1.st
        have HC0 := hide (show c0 ≤ (if wi = true ∧ pk o.tn 4 < (((tl pre).length : Nat) : Int) then 303000000 else 0) ∧ HM Z hb T f lg (wrap64 (s0 + (bs pre : Int) + (c0 : Int))) from ⟨hc0, hm0⟩)
        clear k1 k2 hok hbp hx hc0 hm0
        cases wi with
        | false =>
          gi_upto_region 13 with fail
          refine wpIn_region_read (by kernel_rfl) (by kernel_rfl) (by kernel_rfl) (fun ⟨_, _, h⟩ => h) ?_
          repeat (go_big_quiet_step (fail))
          refine wpQuiet_nil ?_
          intro Z2 hw'
          have BQ := hide (show Below Z.heap.size Z Z2 from by obtain ⟨nq, rfl⟩ := hw'; exact below_drewN _ _)
          clear hw' cn c5 c7 n0 n1 n2 cw1 cw2
          have JY := hide (JJ.out.p.below BQ.out (by have := HN0.out; omega) HBL.out)
          have KTY := hide (show KeepsFrom UA.heap.size Z Z2 ∧ TKeep (keepA W1.heap.size) Z Z2 from ⟨keeps_below BQ.out, ⟨BQ.out.size, fun i _ _ _ _ hc => (BQ.out.block i (lt_of_heap hc)).trans hc⟩⟩)
          have HM2 := hide ((BQ.out.block _ (lt_of_heap HC0.out.2)).trans HC0.out.2)
          have JZ := hide JY.out
          have KTZ := hide KTY.out
          have HC9 := hide (show c0 ≤ (if false = true ∧ pk o.tn 4 < (((tl pre).length + 1 : Nat) : Int) then 303000000 else 0) ∧ HM Z2 hb T f lg (wrap64 (s0 + (bs pre : Int) + (c0 : Int))) from ⟨by have := HC0.out.1; simpa using this, HM2.out⟩)
          have cn := cell_row JZ.out.nb (i := 0) (v := .int .i64 ((tl pre).length : Int)) rfl
          have fn := frz_row JZ.out.nb 0
          have wn : IntKind.wrap .i64 (((tl pre).length : Int) + 1) = ((tl pre).length : Int) + 1 := wrap_small _ (by omega) (by have := HN.out; have := HF.out; omega)
          have J3 := hide (JZ.out.inc (by have := NUM.out; have := SU.out; omega) HBL.out HC9.out.1 HC9.out.2)
          have KT := hide (show KeepsFrom UA.heap.size Z (Z2.setCell ⟨U.heap.size, 0, none⟩ (.int .i64 (((tl pre).length : Int) + 1))) ∧ TKeep (keepA W1.heap.size) Z (Z2.setCell ⟨U.heap.size, 0, none⟩ (.int .i64 (((tl pre).length : Int) + 1))) from by
            have hfr : Fr (fun i => i = U.heap.size) Z2 (Z2.setCell ⟨U.heap.size, 0, none⟩ (.int .i64 (((tl pre).length : Int) + 1))) := (Fr.refl (fun i => i = U.heap.size) Z2).setCell (p := ⟨U.heap.size, 0, none⟩) rfl _
            refine ⟨KTZ.out.1.trans ((cellsOnly_set JZ.out.nb _).keeps hfr.size _), KTZ.out.2.trans (hfr.tkeep (fun i cur t fr q hc hN => ?_))⟩
            subst q
            rw [JZ.out.nb] at hc
            injection hc with hc
            injection hc with _ hc _
            subst hc
            rcases hN with ⟨_, q⟩ | q
            · rcases q with q | q | q | q | q | q | q <;> exact absurd q (by decide)
            · exact absurd q (by decide))
          have c6 := cell_row JZ.out.bo.b2 (i := 2) (v := .int .i64 o.lv) rfl
          have HPL := hide (show (tl (pre ++ [.inl (p, k)])).length = (tl pre).length + 1 ∧ bs (pre ++ [.inl (p, k)]) = bs pre ∧ tl (pre ++ [.inl (p, k)]) <+: A from ⟨by rw [tl_inl, List.length_append]; rfl, bs_inl _ _, by rw [tl_inl]; exact HP.out⟩)
          by_cases hlv : (((tl pre).length : Int) + 1) = o.lv
          · have HLV := hide hlv
            have elv : ((((tl pre).length : Int) + 1) == o.lv) = true := by rw [beq_iff_eq]; exact hlv
            clear hlv
            gi_wp2
            refine ⟨KT.out.1, ⟨rfl, ?_, by rw [HPL.out.1]; have := HLV.out; push_cast; omega, HPL.out.2.2, HBP.out⟩, KT.out.2⟩
            rw [HPL.out.1, HPL.out.2.1]
            exact J3.out
          · have elv : ((((tl pre).length : Int) + 1) == o.lv) = false := by rw [beq_eq_false_iff_ne]; exact hlv
            clear hlv
            gi_wp2
            refine ⟨KT.out.1, KT.out.2, ?_, HPL.out.2.2⟩
            rw [HPL.out.1, HPL.out.2.1]
            exact J3.out
        | true =>
          have PV := hide (fun W => pick_v o.tn 4 (by omega) (by omega) hwf W)
          have c8 := cell_row JJ.out.bo.b2 (i := 3) rfl
          simp only [show ((4 : Nat) : Int) = 4 from rfl] at PV
          obtain ⟨pv, hpv⟩ : ∃ pv, pv = pk o.tn 4 := ⟨_, rfl⟩
          rw [← hpv] at PV HC0
          have HPV := hide hpv
          clear hpv
          by_cases hnp : ((tl pre).length : Int) = pv
          · have e0 : (((tl pre).length : Int) == pv) = true := by rw [beq_iff_eq]; exact hnp
            have HNP := hide hnp
            clear hnp
            gi_upto_region 13 with fail
            refine wpIn_region_read (by kernel_rfl) (by kernel_rfl) (by kernel_rfl) (fun ⟨_, _, h⟩ => h) ?_
            repeat (go_big_quiet_step (first | (go_at_call 18; exact Calls.quiet_of_same (PV.out _))))
            refine wpQuiet_nil ?_
            intro Z2 hw'
            have BQ := hide (show Below Z.heap.size Z Z2 from by obtain ⟨nq, rfl⟩ := hw'; exact below_drewN _ _)
            clear hw' cn c5 c7 n0 n1 n2 cw1 cw2
            have JY := hide (JJ.out.p.below BQ.out (by have := HN0.out; omega) HBL.out)
            have KTY := hide (show KeepsFrom UA.heap.size Z Z2 ∧ TKeep (keepA W1.heap.size) Z Z2 from ⟨keeps_below BQ.out, ⟨BQ.out.size, fun i _ _ _ _ hc => (BQ.out.block i (lt_of_heap hc)).trans hc⟩⟩)
            have HM2 := hide ((BQ.out.block _ (lt_of_heap HC0.out.2)).trans HC0.out.2)
            clear e0 c8
            have h4 := cell_row JY.out.bo.b0 (i := 0) rfl
            have h5 := cell_row JY.out.bo.b1 (i := 0) rfl
            have h60 := cell_row JY.out.bo.b2 (i := 0) (v := .string o.line) rfl
            have h61 := cell_row JY.out.bo.b2 (i := 1) (v := .int .i64 o.fm) rfl
            have h62 := cell_row JY.out.bo.b2 (i := 2) (v := .int .i64 o.lv) rfl
            have h63 := cell_row JY.out.bo.b2 (i := 3) (v := .int .i64 o.tn) rfl
            have HZ0 := hide (show HM Z2 hb T f lg (s0 + (bs pre : Int)) ∧ 0 ≤ s0 + (bs pre : Int) ∧ s0 + (bs pre : Int) ≤ BS + 2000000000 from by
              have h9 := HC0.out.1
              have hnp := HNP.out
              rw [if_neg (by rintro ⟨_, q⟩; omega)] at h9
              have e9 : c0 = 0 := by omega
              have h8 := HM2.out
              have hs := HS.out
              have hbq := HBQ.out
              have hn := HN.out
              have hf := HF.out
              have hcr : t * CR ≤ 1000000000 := by
                have e8 : CR = 500000000 := by rw [HCR2.out]; rfl
                rw [e8]; omega
              have e7 : wrap64 (s0 + (bs pre : Int) + (c0 : Int)) = s0 + (bs pre : Int) := by unfold wrap64; omega
              refine ⟨by rw [← e7]; exact h8, by omega, by omega⟩)
            have NC := hide (HIH.out rfl Z2 (s0 + (bs pre : Int)) JY.out.kp HZ0.out.1 HZ0.out.2 (own_otherT HW.out JY.out.fr (Nat.le_refl _) HM0.out))
            gi_upto_region 15 with (gi_at_call 17; refine (CallsIn.inRound l' (callsIn_wide.2 NC.out)).mono ?_; rintro e Z4 ⟨rfl, k4, f4, st3, hm3, hs3, hs4⟩)
            have JP4 := hide (JY.out.call k4 f4 (by have := HN0.out; omega) HBL.out)
            have K4 := hide k4
            have F4 := hide f4
            have M3 := hide (show HM Z4 hb T f lg st3 ∧ s0 + (bs pre : Int) ≤ st3 ∧ st3 ≤ s0 + (bs pre : Int) + 300000000 from ⟨hm3, hs3, hs4⟩)
            have i4 := cell_row JP4.out.bo.b0 (i := 0) rfl
            have i6 := cell_row JP4.out.bo.b2 (i := 0) (v := .string o.line) rfl
            have NX := (callsIn_wide (n := 4)).1 (next_in 4 (Nat.le_refl _) 0 (HH.out.at K4.out.hi.1) M3.out.1 K4.out.tab (by have := K4.out.pos; have := K4.out.lb; omega) (line := o.line) (Nat.zero_le _) (by omega) (K4.out.sw _ M3.out.1))
            simp only [show ((0 : Nat) : Int) = 0 from rfl] at NX
            have HNX := hide NX
            clear k4 f4 hm3 hs3 hs4 NX h4 h5 h60 h61 h62 h63
            gi_upto_region 16 with (gi_at_call 13; refine (CallsIn.inRound l' (callsIn_wide.2 HNX.out)).mono ?_; rintro e Z5 ⟨p5, k5, b5, cc, rfl, a1, a2, a4, a5⟩)
            have hb5 : b5 = true := by
              have A8 := nxA_first OK.out (m := 0) (Nat.zero_le _) a1
              rw [← HA.out] at A8
              rcases h9 : A.find? (fun x => decide (0 ≤ x.1)) with _ | y
              · exfalso
                have h8 := List.find?_eq_none.1 h9
                have hn := HN.out
                have h7 := List.getElem_mem (l := A) (n := 0) (by omega)
                exact h8 _ h7 (by simp)
              · rw [h9] at A8
                exact A8.1
            subst hb5
            have JZ := hide (JP4.out.call (JP4.out.kp.self.next a4 (by unfold wrap64; omega) a5) (a5.mono (fun k q => .inl q)) (by have := HN0.out; omega) HBL.out)
            have KTZ := hide (show KeepsFrom UA.heap.size Z Z5 ∧ TKeep (keepA W1.heap.size) Z Z5 from by
              have q1 := keeps_hunt (Dz := UA.heap.size) (n0 := W1.heap.size) F4.out HZ0.out.1
              have q2 := keeps_hunt (Dz := UA.heap.size) (n0 := W1.heap.size) (a5.mono (fun k q => .inl q) : Fr (fun k => k = hb ∨ Z4.heap.size ≤ k) Z4 Z5) M3.out.1
              exact ⟨(KTY.out.1.trans q1.1).trans q2.1, (KTY.out.2.trans q1.2).trans q2.2⟩)
            have HC9 := hide (show (st3 - (s0 + (bs pre : Int))).toNat + cc ≤ (if true = true ∧ pk o.tn 4 < (((tl pre).length + 1 : Nat) : Int) then 303000000 else 0) ∧ HM Z5 hb T f lg (wrap64 (s0 + (bs pre : Int) + (((st3 - (s0 + (bs pre : Int))).toNat + cc : Nat) : Int))) from by
              have h9 := M3.out
              have hnp := HNP.out
              refine ⟨?_, ?_⟩
              · rw [← HPV.out, if_pos ⟨rfl, by push_cast; omega⟩]
                omega
              · have e : s0 + (bs pre : Int) + (((st3 - (s0 + (bs pre : Int))).toNat + cc : Nat) : Int) = st3 + (cc : Int) := by push_cast; omega
                rw [e]
                exact a4)
            clear a1 a2 a4 a5 i4 i6
            have cn := cell_row JZ.out.nb (i := 0) (v := .int .i64 ((tl pre).length : Int)) rfl
            have fn := frz_row JZ.out.nb 0
            have wn : IntKind.wrap .i64 (((tl pre).length : Int) + 1) = ((tl pre).length : Int) + 1 := wrap_small _ (by omega) (by have := HN.out; have := HF.out; omega)
            have J3 := hide (JZ.out.inc (by have := NUM.out; have := SU.out; omega) HBL.out HC9.out.1 HC9.out.2)
            have KT := hide (show KeepsFrom UA.heap.size Z (Z5.setCell ⟨U.heap.size, 0, none⟩ (.int .i64 (((tl pre).length : Int) + 1))) ∧ TKeep (keepA W1.heap.size) Z (Z5.setCell ⟨U.heap.size, 0, none⟩ (.int .i64 (((tl pre).length : Int) + 1))) from by
              have hfr : Fr (fun i => i = U.heap.size) Z5 (Z5.setCell ⟨U.heap.size, 0, none⟩ (.int .i64 (((tl pre).length : Int) + 1))) := (Fr.refl (fun i => i = U.heap.size) Z5).setCell (p := ⟨U.heap.size, 0, none⟩) rfl _
              refine ⟨KTZ.out.1.trans ((cellsOnly_set JZ.out.nb _).keeps hfr.size _), KTZ.out.2.trans (hfr.tkeep (fun i cur t fr q hc hN => ?_))⟩
              subst q
              rw [JZ.out.nb] at hc
              injection hc with hc
              injection hc with _ hc _
              subst hc
              rcases hN with ⟨_, q⟩ | q
              · rcases q with q | q | q | q | q | q | q <;> exact absurd q (by decide)
              · exact absurd q (by decide))
            have c6 := cell_row JZ.out.bo.b2 (i := 2) (v := .int .i64 o.lv) rfl
            have HPL := hide (show (tl (pre ++ [.inl (p, k)])).length = (tl pre).length + 1 ∧ bs (pre ++ [.inl (p, k)]) = bs pre ∧ tl (pre ++ [.inl (p, k)]) <+: A from ⟨by rw [tl_inl, List.length_append]; rfl, bs_inl _ _, by rw [tl_inl]; exact HP.out⟩)
            by_cases hlv : (((tl pre).length : Int) + 1) = o.lv
            · have HLV := hide hlv
              have elv : ((((tl pre).length : Int) + 1) == o.lv) = true := by rw [beq_iff_eq]; exact hlv
              clear hlv
              gi_wp2
              refine ⟨KT.out.1, ⟨rfl, ?_, by rw [HPL.out.1]; have := HLV.out; push_cast; omega, HPL.out.2.2, HBP.out⟩, KT.out.2⟩
              rw [HPL.out.1, HPL.out.2.1]
              exact J3.out
            · have elv : ((((tl pre).length : Int) + 1) == o.lv) = false := by rw [beq_eq_false_iff_ne]; exact hlv
              clear hlv
              gi_wp2
              refine ⟨KT.out.1, KT.out.2, ?_, HPL.out.2.2⟩
              rw [HPL.out.1, HPL.out.2.1]
              exact J3.out
          · have e0 : (((tl pre).length : Int) == pv) = false := by rw [beq_eq_false_iff_ne]; exact hnp
            have HNP := hide hnp
            clear hnp
            gi_upto_region 13 with fail
            refine wpIn_region_read (by kernel_rfl) (by kernel_rfl) (by kernel_rfl) (fun ⟨_, _, h⟩ => h) ?_
            repeat (go_big_quiet_step (first | (go_at_call 18; exact Calls.quiet_of_same (PV.out _))))
            refine wpQuiet_nil ?_
            intro Z2 hw'
            have BQ := hide (show Below Z.heap.size Z Z2 from by obtain ⟨nq, rfl⟩ := hw'; exact below_drewN _ _)
            clear hw' cn c5 c7 n0 n1 n2 cw1 cw2
            have JY := hide (JJ.out.p.below BQ.out (by have := HN0.out; omega) HBL.out)
            have KTY := hide (show KeepsFrom UA.heap.size Z Z2 ∧ TKeep (keepA W1.heap.size) Z Z2 from ⟨keeps_below BQ.out, ⟨BQ.out.size, fun i _ _ _ _ hc => (BQ.out.block i (lt_of_heap hc)).trans hc⟩⟩)
            have HM2 := hide ((BQ.out.block _ (lt_of_heap HC0.out.2)).trans HC0.out.2)
            clear e0 c8
            have JZ := hide JY.out
            have KTZ := hide KTY.out
            have HC9 := hide (show c0 ≤ (if true = true ∧ pk o.tn 4 < (((tl pre).length + 1 : Nat) : Int) then 303000000 else 0) ∧ HM Z2 hb T f lg (wrap64 (s0 + (bs pre : Int) + (c0 : Int))) from ⟨by
              have h9 := HC0.out.1
              have hnp := HNP.out
              rw [← HPV.out]
              split at h9
              · rename_i h8
                rw [if_pos ⟨rfl, by have := h8.2; push_cast; omega⟩]
                exact h9
              · omega, HM2.out⟩)
            have cn := cell_row JZ.out.nb (i := 0) (v := .int .i64 ((tl pre).length : Int)) rfl
            have fn := frz_row JZ.out.nb 0
            have wn : IntKind.wrap .i64 (((tl pre).length : Int) + 1) = ((tl pre).length : Int) + 1 := wrap_small _ (by omega) (by have := HN.out; have := HF.out; omega)
            have J3 := hide (JZ.out.inc (by have := NUM.out; have := SU.out; omega) HBL.out HC9.out.1 HC9.out.2)
            have KT := hide (show KeepsFrom UA.heap.size Z (Z2.setCell ⟨U.heap.size, 0, none⟩ (.int .i64 (((tl pre).length : Int) + 1))) ∧ TKeep (keepA W1.heap.size) Z (Z2.setCell ⟨U.heap.size, 0, none⟩ (.int .i64 (((tl pre).length : Int) + 1))) from by
              have hfr : Fr (fun i => i = U.heap.size) Z2 (Z2.setCell ⟨U.heap.size, 0, none⟩ (.int .i64 (((tl pre).length : Int) + 1))) := (Fr.refl (fun i => i = U.heap.size) Z2).setCell (p := ⟨U.heap.size, 0, none⟩) rfl _
              refine ⟨KTZ.out.1.trans ((cellsOnly_set JZ.out.nb _).keeps hfr.size _), KTZ.out.2.trans (hfr.tkeep (fun i cur t fr q hc hN => ?_))⟩
              subst q
              rw [JZ.out.nb] at hc
              injection hc with hc
              injection hc with _ hc _
              subst hc
              rcases hN with ⟨_, q⟩ | q
              · rcases q with q | q | q | q | q | q | q <;> exact absurd q (by decide)
              · exact absurd q (by decide))
            have c6 := cell_row JZ.out.bo.b2 (i := 2) (v := .int .i64 o.lv) rfl
            have HPL := hide (show (tl (pre ++ [.inl (p, k)])).length = (tl pre).length + 1 ∧ bs (pre ++ [.inl (p, k)]) = bs pre ∧ tl (pre ++ [.inl (p, k)]) <+: A from ⟨by rw [tl_inl, List.length_append]; rfl, bs_inl _ _, by rw [tl_inl]; exact HP.out⟩)
            by_cases hlv : (((tl pre).length : Int) + 1) = o.lv
            · have HLV := hide hlv
              have elv : ((((tl pre).length : Int) + 1) == o.lv) = true := by rw [beq_iff_eq]; exact hlv
              clear hlv
              gi_wp2
              refine ⟨KT.out.1, ⟨rfl, ?_, by rw [HPL.out.1]; have := HLV.out; push_cast; omega, HPL.out.2.2, HBP.out⟩, KT.out.2⟩
              rw [HPL.out.1, HPL.out.2.1]
              exact J3.out
            · have elv : ((((tl pre).length : Int) + 1) == o.lv) = false := by rw [beq_eq_false_iff_ne]; exact hlv
              clear hlv
              gi_wp2
              refine ⟨KT.out.1, KT.out.2, ?_, HPL.out.2.2⟩
              rw [HPL.out.1, HPL.out.2.1]
              exact J3.out
      · rintro D' xs Z hD' ⟨hS1, hS2⟩ ⟨k1, k2⟩ hK
        rw [← HA.out] at hS1
        have cn := cell_row k1.nb (i := 0) (v := .int .i64 (A.length : Int)) (by rw [hS1]; rfl)
        have c5 := cell_row k1.bo.b1 (i := 0) rfl
        have NXT := hide (show Kp base b0 V f T D R K hb lg Z ∧ Fr (fun k => k = hb ∨ V.heap.size ≤ k) V Z ∧ Bo V.heap.size hb (.slice q A.length c) o wi Z ∧ MK V.heap.size Z.heap.size (D' :: Ds) Z ∧ V.heap.size + 7 ≤ Z.heap.size ∧ ∃ st', HM Z hb T f lg st' ∧ st ≤ st' ∧ st' ≤ st + (((t + 1) * CR : Nat) : Int) from over_next k1 (by rw [hS1] at hS2; have := HF.out; omega) HS.out (by have := hst; omega) hBS HCR2.out (by omega) hD' hK (by have := HN0.out; omega) trivial)
        clear k1 k2 hK hD' TL hS1 hS2
        gi_wp2
        refine ⟨by rw [HLI.out]; exact ⟨t + 1, D' :: Ds, rfl, rfl, by omega, NXT.out⟩, ?_⟩
        simp [intOf]
        omega
      · rintro D' cd pre Z hD' hSp ⟨rfl, k1, hlv, hpre, hbp⟩ hK
        have hle := hpre.length_le
        have cn := cell_row k1.nb (i := 0) (v := .int .i64 ((tl pre).length : Int)) rfl
        have c5 := cell_row k1.bo.b1 (i := 0) rfl
        have c6 := cell_row k1.bo.b2 (i := 2) (v := .int .i64 o.lv) rfl
        have NXT := hide (show Kp base b0 V f T D R K hb lg Z ∧ Fr (fun k => k = hb ∨ V.heap.size ≤ k) V Z ∧ Bo V.heap.size hb (.slice q A.length c) o wi Z ∧ MK V.heap.size Z.heap.size (D' :: Ds) Z ∧ V.heap.size + 7 ≤ Z.heap.size ∧ ∃ st', HM Z hb T f lg st' ∧ st ≤ st' ∧ st' ≤ st + (((t + 1) * CR : Nat) : Int) from over_next k1 (by have := HF.out; omega) HS.out (by have := hst; omega) hBS HCR2.out (by omega) hD' hK (by have := HN0.out; omega) trivial)
        have HLV := hide hlv
        clear k1 hpre hbp hK hD' TL hlv hSp
        by_cases hfull : (tl pre).length = A.length
        · rw [hfull] at cn
          clear hfull
          gi_wp2
          refine ⟨by rw [HLI.out]; exact ⟨t + 1, D' :: Ds, rfl, rfl, by omega, NXT.out⟩, ?_⟩
          simp [intOf]
          omega
        · have e1 : ¬ o.lv = (A.length : Int) := by have := HLV.out; omega
          rw [HLV.out] at cn
          clear hfull
          gi_wp2
          refine ⟨by rw [HLI.out]; exact ⟨t + 1, D' :: Ds, rfl, rfl, by omega, NXT.out⟩, ?_⟩
          simp [intOf]
          omega
    · have i0 : ¬ (t : Int) < 2 := by omega
      obtain rfl : t = 2 := by omega
      obtain ⟨bb, hb4⟩ := BU.out.b4
      have c8 := cell_row hb4 (i := 0) rfl
      have f8 := frz_row hb4 0
      have hf8 : Fr (fun i => i = V.heap.size + 1 + 1 + 1 + 1) U (U.setCell ⟨V.heap.size + 1 + 1 + 1 + 1, 0, none⟩ (.bool true)) := (Fr.refl (fun i => i = V.heap.size + 1 + 1 + 1 + 1) U).setCell (p := ⟨V.heap.size + 1 + 1 + 1 + 1, 0, none⟩) rfl _
      have END := hide (show Kp base b0 V f T D R K hb lg (U.setCell ⟨V.heap.size + 1 + 1 + 1 + 1, 0, none⟩ (.bool true)) ∧ Fr (fun k => k = hb ∨ V.heap.size ≤ k) V (U.setCell ⟨V.heap.size + 1 + 1 + 1 + 1, 0, none⟩ (.bool true)) ∧ (∃ st', HM (U.setCell ⟨V.heap.size + 1 + 1 + 1 + 1, 0, none⟩ (.bool true)) hb T f lg st' ∧ st ≤ st' ∧ st' ≤ st + (CC : Int)) ∧ (U.setCell ⟨V.heap.size + 1 + 1 + 1 + 1, 0, none⟩ (.bool true)).heap[V.heap.size + 1 + 1 + 1 + 1]? = some (.cells #[.bool true] 4 (0, 0)) ∧ ∀ D ∈ Ds, V.heap.size ≤ D ∧ (U.setCell ⟨V.heap.size + 1 + 1 + 1 + 1, 0, none⟩ (.bool true)).heap[D]? = some (.deferred (some [])) from by
        refine ⟨KU.out.set hb4 (by have := KU.out.lb; have := HBL.out; omega) (by decide) _, FU.out.trans (hf8.mono (fun k q => .inr (by omega))), ⟨s0, (hf8.block _ (lt_of_heap HS.out.1) (fun q => by have := HBL.out; omega)).trans HS.out.1, HS.out.2.1, by have := HS.out.2.2; have := HCR.out; push_cast at *; omega⟩, (heap_set_in hb4 0 _).trans (by simp), fun D hD => ?_⟩
        obtain ⟨q1, q2, q3⟩ := MU.out.2 D hD
        exact ⟨q1, (hf8.block _ (lt_of_heap q3) (fun q => by rw [q, hb4] at q3; cases q3)).trans q3⟩)
      have ND := hide MU.out.1
      clear hb4 hf8
      gi_wp2
      generalize (U.setCell ⟨V.heap.size + 1 + 1 + 1 + 1, 0, none⟩ (.bool true)) = U9 at END ⊢
      show LeavesInM _ _ _ _ _ _ (Ds.map mkD) .returning U9
      refine leaves_marks (fun v => Kp base b0 V f T D R K hb lg v ∧ Fr (fun k => k = hb ∨ V.heap.size ≤ k) V v ∧ (∃ st', HM v hb T f lg st' ∧ st ≤ st' ∧ st' ≤ st + (CC : Int)) ∧ v.heap[V.heap.size + 1 + 1 + 1 + 1]? = some (.cells #[.bool true] 4 (0, 0))) Ds U9 ND.out (fun D hD => (END.out.2.2.2.2 D hD).2) (fun v D hD hq hh => ?_) ⟨END.out.1, END.out.2.1, END.out.2.2.1, END.out.2.2.2.1⟩ (fun v hq => ?_)
      · obtain ⟨q1, q2, ⟨st', q3, q4, q5⟩, q6⟩ := hq
        have hDV := (END.out.2.2.2.2 D hD).1
        have hg := grownBy_putObj' v D (.deferred none)
        refine ⟨q1.grown (B := D) (by have := KU.out.lb; have := HBL.out; omega) hg (fun r e => by cases e; exact ⟨Nat.le_refl _, _, hh, rfl⟩), q2.trans ⟨hg.os, hg.tape, hg.output, hg.size, fun k hk hs => hg.block k hk (fun e => hs (.inr (by injection e with e; omega)))⟩, ⟨st', (World.putObj_heap_other (fun e => by have := HBL.out; omega)).trans q3, q4, q5⟩, (World.putObj_heap_other (fun e => by rw [e, hh] at q6; cases q6)).trans q6⟩
      · obtain ⟨q1, q2, q3, q6⟩ := hq
        have c9 := cell_row q6 (i := 0) rfl
        exact ⟨.bool true, by simp [results, Tryd.results17, go_sem, c9], rfl, q1, q2, q3⟩
end Go.Proofs.YtaikcnoiaaiopaaDoor
