/-
  All gone over, with a call in its midst.
-/
import Derived.Test.YtmfljfedpdipiaaOverB
import Derived.Test.YtmfljfedpdipiaaLawFull
import Derived.Deep.RegionHeld
namespace Go.Proofs.Ytmfljfedpdipiaa
open Go Go.RowKit Go.Shelf
attribute [local go_sem] Oper.semAt_some ext_cell

theorem equalIn_func_nil {P : Program} (d : Nat) (t : TypeId) {x y : Array TypeId} {z : Bool} (f : Fn) (b l : Array Value) (W : World) (h : P.underlying t = some (.func x y z)) : (Op.equalIn (d + 1) t (.func f b l) .nilFunc).run P W = .ok false W := by
  simp [Op.equalIn, run_underlying h]
theorem eql_func_nil (f : Fn) (b l : Array Value) (W : World) : (binOp .eql 30 (.func f b l) .nilFunc).run Try.prog W = .ok (.bool false) W := by
  have e : (Op.equal 30 (.func f b l) .nilFunc).run Try.prog W = .ok false W := equalIn_func_nil 9999 _ f b l W Try.underlying30
  simp only [binOp]
  simp [e]
theorem step_append_at {P : Program} {ops : Array Oper} {o : Oper} {a : Act} {w : World} {K : Act → World → Prop} {Q : Exit → Act → World → Prop} {E : Prop} (hgd : o.guard = none) (s x : Operand) (t : TypeId)
    (ho : o.op = .call { callee := .builtin .append, args := #[s, x], argTypes := #[t, t] })
    (base : Nat) (e : TypeId) (i : TypeInfo) (z : Value) (size bytes : Nat) (ht : P.underlying t = some (.slice e)) (hi : P.info? e = some i) (hz : i.zero = some z)
    (hsize : i.size = size) (hby : i.bytes = bytes) (hzs : z.cells.size = size) (hsz : 0 < size)
    (v : Value) (n : Nat) (xs : List Value) (hs : a.eval s = v) (hown : w.ownsRow base e size v n xs)
    (ad : Addr) (m c : Nat) (news : List Value) (hx : a.eval x = .slice (some ad) m c) (hl : news.length = m * size) (hnews : ∀ j u, news[j]? = some u → w.cell? (ad.add j) = some u) (h1 : ∀ u ∈ news, u.oneCell' = true)
    (h63 : n + m ≤ maxLen) (hbytes : (n + m) * bytes ≤ 140737488355328) (hbase : base ≤ w.heap.size)
    (h : ∀ v' w', w'.ownsRow base e size v' (n + m) (xs ++ news) → w.grownBy w' v.ownBlock → (v'.ownBlock = v.ownBlock ∨ v'.ownBlock = some w.heap.size) → K (a.put o.dst v') w') :
    if Region.wanted o (yielded ops a.tmps) = true then Oper.wp P o a w K Q else E := by
  have hw : Region.wanted o (yielded ops a.tmps) = true := by simp [Region.wanted, hgd]
  rw [if_pos hw]
  obtain ⟨v', w', hrun, h2, h3, _, h5⟩ := run_append_own_at (P := P) w base t o.type e i z size bytes ht hi hz hsize hby hzs hsz v n xs hown ad m c news hl hnews h1 h63 hbytes hbase
  unfold Oper.wp
  simp [execOp, ho, resolve, invoke, builtin, hs, hx, hrun, Result.andThen]
  exact h v' w' h2 h3 h5
theorem row_heap {W : World} {n0 g : Nat} {k : List Int} (h : W.heap[g]? = some (.cells (ints k).toArray 3 (0, 0))) (hg : n0 ≤ g) (hk : k.length ≤ 1000000) : W.ownsRow n0 3 1 (.slice (some ⟨g, 0, none⟩) k.length k.length) k.length (ints k) :=
  ⟨by simp [ints_length], .inr ⟨g, k.length, (ints k).toArray, rfl, hg, h, Nat.le_refl _, by unfold maxLen; omega, by simp [ints_length], by rw [Nat.mul_one]; exact List.take_of_length_le (by simp [ints_length])⟩⟩
theorem ArgK.blt {w : World} {v : Value} {k : List Int} (h : ArgK w v k) : ∀ p l c, v = .slice (some p) l c → l ≠ 0 → p.block < w.heap.size := fun p l c e hl => by
  rcases h.1 with ⟨q, cap, e1, _⟩ | ⟨g, off, cap, e1, h2, _⟩
  · rw [e1] at e; cases e; exact absurd rfl hl
  · rw [e1] at e; cases e; exact h2
theorem wpIn_region_held {P : Program} {id l n : Nat} {S : World → Prop} {Q : Exit → Act → World → Prop} {a : Act} {w : World} {ops : List Oper} (hm : P.follows .mixedOrders = true) (hd : noDefer ops = true) (hL : ¬ LetsOut Q) (hS : S w.drew)
    (h : S w.drew → wpAnyH P .any ops.toArray Q S ops.toArray.size (Array.replicate ops.toArray.size false) a w.drew) : (Code.region id ops.toArray true).wpIn (Fence.wide.inRound l) n P Q a w :=
  wpIn_region_any hm (any_round (noDefer_spec hd) hL _ _ _ _ (wpAny_of_held _ _ _ _ (h hS)))
theorem alloc_new (w : World) (o : Obj) : (w.alloc o).heap[w.heap.size]? = some o := by unfold World.alloc; simp

/-- What All leaves. -/
structure OverP (W0 : World) (wb i : Nat) (s : Nat → Sd) (ov : Value) (vs : List Value) (ii : Int) (W : World) (s' : Nat → Sd) (ov' : Value) (vs' : List Value) (W' : World) : Prop where
  ws : WS W0 wb s' ov' vs' W'
  eq : ii = 0 → s' = s
  len : vs'.length ≤ vs.length + 1000000 + (if ii = 0 then 0 else 1000000)
  fr : Fr (Sov wb i s ov ii) W W'
  mv : ∀ z, ov'.ownBlock = some z → ov.ownBlock = some z ∨ W.heap.size ≤ z
  nx : ∀ z, WS.blk wb s' ov' vs' z → WS.blk wb s ov vs z ∨ W.heap.size ≤ z
theorem RW.over {W0 W : World} {wb i : Nat} {s : Nat → Sd} {ov : Value} {vs : List Value} {B b4 b5 b7 b8 b9 b10 : Nat} {sv : Array Value} {wasv : Value} {ii : Int} {T kl kf : Nat} {n : Int} {r : Bool} {s' : Nat → Sd} {ov' : Value} {vs' : List Value} {V : World} (c : RC W0 W wb i s ov vs B b4 b5 b7 b8 b9 b10 wasv) (h : RW W0 W wb i s ov vs B b4 b5 b7 b8 b9 b10 sv wasv ii T kl kf n r s' ov' vs' V) (hk : kl ≤ 1000000) : OverP W0 wb i s ov vs ii W s' ov' vs' V := by
  refine ⟨h.ws, fun q => h.eq (.inl q), ?_, h.fr, h.mv, fun z hz => (h.nx z hz).imp id (fun q => Nat.le_trans c.le q)⟩
  have := h.len
  by_cases q : ii = 0
  · rw [if_pos (.inl q)] at this; rw [if_pos q]; omega
  · rw [if_neg q]; split at this <;> omega
theorem OverP.nest {W0 W W' : World} {wb i : Nat} {s s' : Nat → Sd} {ov ov' : Value} {vs vs' : List Value} (h : OverP W0 wb i s ov vs 0 W s' ov' vs' W') : NestP W0 wb s ov vs W ov' vs' W' := by
  obtain rfl := h.eq rfl
  exact ⟨h.ws, by have := h.len; simpa using this, h.fr.weak (fun z hz => hz.elim .inl (fun q => q.elim .inr (fun q => absurd rfl q.1))), h.mv, h.nx⟩
/-- A range within a range, with no call in its midst. -/
def OverOK (W0 : World) (wb i : Nat) (s : Nat → Sd) (le : Int) (Bd : Nat) : Prop := ∀ (V : World) (ov : Value) (vs : List Value) (ax : Nat), WS W0 wb s ov vs V → vs.length ≤ Bd → Boxed V ax 25 (.pointer (some ⟨(s i).b, 0, none⟩)) →
  Calls Try.prog 18 #[.pointer (some ⟨wb, 0, none⟩), .int .i64 (i : Int), fnV ax, .agg #[.int .i64 0, .int .i64 0, .int .i64 0, .int .i64 le, .slice none 0 0, .int .i64 0, .int .i64 0, .slice none 0 0]] V fun e V' => e = .returned (.bool true) ∧ ∃ ov' vs', NestP W0 wb s ov vs V ov' vs' V'
/-- Ahead of the range. -/
structure Pre9 (W0 W : World) (wb i : Nat) (s : Nat → Sd) (ov : Value) (vs : List Value) (b4 b5 b7 b8 b9 : Nat) (sv : Array Value) (wasv : Value) (V : World) : Prop where
  ws : WS W0 wb s ov vs V
  bel : Below W.heap.size W V
  h4 : V.heap[b4]? = some (.cells #[.pointer (some ⟨wb, 0, none⟩)] 24 (0, 0))
  h5 : V.heap[b5]? = some (.cells #[.int .i64 (i : Int)] 3 (0, 0))
  h7 : V.heap[b7]? = some (.cells sv 46 (0, 0))
  h8 : V.heap[b8]? = some (.cells #[.bool false] 4 (0, 0))
  h9 : V.heap[b9]? = some (.cells #[wasv] 39 (0, 0))
theorem Pre9.kept {W0 W : World} {wb i : Nat} {s : Nat → Sd} {ov : Value} {vs : List Value} {b4 b5 b7 b8 b9 : Nat} {sv : Array Value} {wasv : Value} {V V' : World} (h : Pre9 W0 W wb i s ov vs b4 b5 b7 b8 b9 sv wasv V) (hb : Below V.heap.size V V') : Pre9 W0 W wb i s ov vs b4 b5 b7 b8 b9 sv wasv V' :=
  ⟨h.ws.kept hb, chain h.bel hb (Nat.le_refl _), (hb.block _ (lt_of_heap h.h4)).trans h.h4, (hb.block _ (lt_of_heap h.h5)).trans h.h5, (hb.block _ (lt_of_heap h.h7)).trans h.h7, (hb.block _ (lt_of_heap h.h8)).trans h.h8, (hb.block _ (lt_of_heap h.h9)).trans h.h9⟩
/-- The list as it was, laid into its box. -/
theorem Pre9.set {W0 W : World} {wb i : Nat} {s : Nat → Sd} {ov : Value} {vs : List Value} {b4 b5 b7 b8 b9 : Nat} {sv : Array Value} {wasv : Value} {V V' : World} (hw : WS W0 wb s ov vs W) (h : Pre9 W0 W wb i s ov vs b4 b5 b7 b8 b9 sv wasv V) (hb : Below V.heap.size V V') (h9 : W.heap.size ≤ b9) {v' : Value} (hr : V'.ownsRow W.heap.size 71 2 v' (s i).E.length (cellsR (s i).E)) : Pre9 W0 W wb i s ov vs b4 b5 b7 b8 b9 sv v' (V'.setCell ⟨b9, 0, none⟩ v') ∧ (V'.setCell ⟨b9, 0, none⟩ v').ownsRow W.heap.size 71 2 v' (s i).E.length (cellsR (s i).E) := by
  have hk := (hb.block _ (lt_of_heap h.h9)).trans h.h9
  have hf : Fr (fun z => z = b9) V' (V'.setCell ⟨b9, 0, none⟩ v') := (Fr.refl (fun z => z = b9) V').setCell (p := ⟨b9, 0, none⟩) rfl _
  have k4 := (hb.block _ (lt_of_heap h.h4)).trans h.h4
  have k5 := (hb.block _ (lt_of_heap h.h5)).trans h.h5
  have k7 := (hb.block _ (lt_of_heap h.h7)).trans h.h7
  have k8 := (hb.block _ (lt_of_heap h.h8)).trans h.h8
  have hsz := hw.size
  refine ⟨⟨(h.ws.kept hb).fr hf (fun z hz e => by have := hw.lt hz; omega) (fun z e => by omega), (chain h.bel hb (Nat.le_refl _)).trans (hf.below (Nat.le_trans h.bel.size hb.size) (fun z e => by omega)), (hf.block _ (lt_of_heap k4) (ne_type k4 hk (by decide))).trans k4, (hf.block _ (lt_of_heap k5) (ne_type k5 hk (by decide))).trans k5, (hf.block _ (lt_of_heap k7) (ne_type k7 hk (by decide))).trans k7, (hf.block _ (lt_of_heap k8) (ne_type k8 hk (by decide))).trans k8, heap_set_in hk 0 _⟩, row_frb hr hf (fun z hz e => ?_)⟩
  obtain ⟨_, c, hc⟩ := own_block hr hz
  exact ne_type hc hk (by decide) e
/-- The frame behind the call in the midst. -/
def ovTmps (f : Nat → Value) (b4 b5 b7 b8 b9 b10 : Nat) : Array Value := #[f 0, f 1, f 2, f 3, .pointer (some ⟨b4, 0, none⟩), .pointer (some ⟨b5, 0, none⟩), f 6, .pointer (some ⟨b7, 0, none⟩), .pointer (some ⟨b8, 0, none⟩), .pointer (some ⟨b9, 0, none⟩), .pointer (some ⟨b10, 0, none⟩), f 11, f 12, f 13, f 14, f 15, f 16, f 17, f 18, f 19, f 20, f 21, f 22, f 23, f 24, f 25, f 26, f 27, f 28, f 29, f 30, f 31, f 32, f 33, f 34, f 35, f 36, f 37, f 38, f 39, f 40, f 41, f 42, f 43, f 44, f 45, f 46, f 47, f 48, f 49, f 50, f 51, f 52, f 53, f 54, f 55, f 56, f 57, f 58, f 59, f 60, f 61, f 62, f 63, f 64, f 65, f 66, f 67, f 68, f 69, f 70, f 71, f 72, f 73, f 74, f 75, f 76, f 77, f 78, f 79, f 80, f 81, f 82, f 83, f 84, f 85, f 86, f 87, f 88, f 89, f 90, f 91, f 92, f 93, f 94, f 95, f 96, f 97, f 98, f 99, f 100, f 101, f 102, f 103]

set_option maxRecDepth 100000 in
set_option maxHeartbeats 16000000 in
theorem over_in {W0 W : World} {wb i : Nat} {s : Nat → Sd} {ov : Value} {vs : List Value} (h : WS W0 wb s ov vs W) (hi : i < 2) {Bd : Nat} (hvs : vs.length ≤ Bd) (hBd : Bd ≤ 50000000000) (ax : Nat) (hax : Boxed W ax 25 (.pointer (some ⟨(s i).b, 0, none⟩)))
    (kd on vv le : Int) (k1 : Value) (tn ii : Int) (k2 : Value) (key2 : List Int) (wfl : (Lit.int .i64 le).wf = true) (wft : (Lit.int .i64 tn).wf = true) (hk2 : ArgK W0 k2 key2) (hov : ii = 5 → OverOK W0 wb i s le (Bd + 1000001)) :
    Calls Try.prog 18 #[.pointer (some ⟨wb, 0, none⟩), .int .i64 (i : Int), fnV ax, .agg #[.int .i64 kd, .int .i64 on, .int .i64 vv, .int .i64 le, k1, .int .i64 tn, .int .i64 ii, k2]] W fun e W' => e = .returned (.bool true) ∧ ∃ s' ov' vs', OverP W0 wb i s ov vs ii W s' ov' vs' W' := by
  have hfn : ∀ f, Fence.wide.fn f := fun _ => trivial
  have H : Hid (WS W0 wb s ov vs W) := h
  have HA : Hid (Boxed W ax 25 (.pointer (some ⟨(s i).b, 0, none⟩))) := hax
  have HK2 : Hid (ArgK W0 k2 key2) := hk2
  clear h hax hk2
  refine (callsIn_wide (n := 5)).1 (callsIn_of_wp_marks Try.func18 rfl trivial ?_ rfl)
  simp only [Try.ntmps18, List.size_toArray, List.length_cons, List.length_nil, Nat.reduceAdd, Nat.reduceSub, Array.replicate_succ, Array.replicate_zero, List.push_toArray, List.append_toArray, List.nil_append, List.cons_append]
  refine wpIn_wide.2 (Code.wp_mono noPanicF_imp ?_)
  have hqf := fun W' => eql_func_nil (.func 15) #[] #[.pointer (some ⟨ax, 0, none⟩)] W'
  unfold fnV
  go_upto_region 4 with fail
  obtain ⟨sv, hsv⟩ : ∃ sv : Array Value, #[.int .i64 kd, .int .i64 on, .int .i64 vv, .int .i64 le, k1, .int .i64 tn, .int .i64 ii, k2] = sv := ⟨_, rfl⟩
  have HSV : Hid (#[.int .i64 kd, .int .i64 on, .int .i64 vv, .int .i64 le, k1, .int .i64 tn, .int .i64 ii, k2] = sv) := hsv
  rw [hsv]
  have P0 : Hid (Pre9 W0 W wb i s ov vs W.heap.size (W.heap.size + 1) (W.heap.size + 1 + 1) (W.heap.size + 1 + 1 + 1) (W.heap.size + 1 + 1 + 1 + 1) sv (.slice none 0 0) (((((W.alloc (.cells #[.pointer (some ⟨wb, 0, none⟩)] 24)).alloc (.cells #[.int .i64 (i : Int)] 3)).alloc (.cells sv 46)).alloc (.cells #[.bool false] 4)).alloc (.cells #[.slice none 0 0] 39))) := by
    have z1 : (W.alloc (.cells #[.pointer (some ⟨wb, 0, none⟩)] 24)).heap.size = W.heap.size + 1 := by simp
    have z2 : ((W.alloc (.cells #[.pointer (some ⟨wb, 0, none⟩)] 24)).alloc (.cells #[.int .i64 (i : Int)] 3)).heap.size = W.heap.size + 1 + 1 := by simp
    have z3 : (((W.alloc (.cells #[.pointer (some ⟨wb, 0, none⟩)] 24)).alloc (.cells #[.int .i64 (i : Int)] 3)).alloc (.cells sv 46)).heap.size = W.heap.size + 1 + 1 + 1 := by simp
    have z4 : ((((W.alloc (.cells #[.pointer (some ⟨wb, 0, none⟩)] 24)).alloc (.cells #[.int .i64 (i : Int)] 3)).alloc (.cells sv 46)).alloc (.cells #[.bool false] 4)).heap.size = W.heap.size + 1 + 1 + 1 + 1 := by simp
    have hb : Below W.heap.size W (((((W.alloc (.cells #[.pointer (some ⟨wb, 0, none⟩)] 24)).alloc (.cells #[.int .i64 (i : Int)] 3)).alloc (.cells sv 46)).alloc (.cells #[.bool false] 4)).alloc (.cells #[.slice none 0 0] 39)) := (((((Below.refl _ _).alloc (Nat.le_refl _) _).alloc (by omega) _).alloc (by omega) _).alloc (by omega) _).alloc (by omega) _
    have n1 := alloc_new (W.alloc (.cells #[.pointer (some ⟨wb, 0, none⟩)] 24)) (.cells #[.int .i64 (i : Int)] 3)
    have n2 := alloc_new ((W.alloc (.cells #[.pointer (some ⟨wb, 0, none⟩)] 24)).alloc (.cells #[.int .i64 (i : Int)] 3)) (.cells sv 46)
    have n3 := alloc_new (((W.alloc (.cells #[.pointer (some ⟨wb, 0, none⟩)] 24)).alloc (.cells #[.int .i64 (i : Int)] 3)).alloc (.cells sv 46)) (.cells #[.bool false] 4)
    have n4 := alloc_new ((((W.alloc (.cells #[.pointer (some ⟨wb, 0, none⟩)] 24)).alloc (.cells #[.int .i64 (i : Int)] 3)).alloc (.cells sv 46)).alloc (.cells #[.bool false] 4)) (.cells #[.slice none 0 0] 39)
    rw [z1] at n1
    rw [z2] at n2
    rw [z3] at n3
    rw [z4] at n4
    exact ⟨H.out.kept hb, hb, (Below.heap_alloc _ _ _ (by omega)).trans ((Below.heap_alloc _ _ _ (by omega)).trans ((Below.heap_alloc _ _ _ (by omega)).trans ((Below.heap_alloc _ _ _ (by omega)).trans (alloc_new W _)))), (Below.heap_alloc _ _ _ (by omega)).trans ((Below.heap_alloc _ _ _ (by omega)).trans ((Below.heap_alloc _ _ _ (by omega)).trans n1)), (Below.heap_alloc _ _ _ (by omega)).trans ((Below.heap_alloc _ _ _ (by omega)).trans n2), (Below.heap_alloc _ _ _ (by omega)).trans n3, n4⟩
  have LB : Hid (W.heap.size ≤ W.heap.size ∧ W.heap.size ≤ W.heap.size + 1 ∧ W.heap.size ≤ W.heap.size + 1 + 1 ∧ W.heap.size ≤ W.heap.size + 1 + 1 + 1 ∧ W.heap.size ≤ W.heap.size + 1 + 1 + 1 + 1) := ⟨by omega, by omega, by omega, by omega, by omega⟩
  generalize (((((W.alloc (.cells #[.pointer (some ⟨wb, 0, none⟩)] 24)).alloc (.cells #[.int .i64 (i : Int)] 3)).alloc (.cells sv 46)).alloc (.cells #[.bool false] 4)).alloc (.cells #[.slice none 0 0] 39)) = V0 at P0 ⊢
  generalize W.heap.size + 1 + 1 + 1 + 1 = b9 at P0 LB ⊢
  generalize W.heap.size + 1 + 1 + 1 = b8 at P0 LB ⊢
  generalize W.heap.size + 1 + 1 = b7 at P0 LB ⊢
  generalize W.heap.size + 1 = b5 at P0 LB ⊢
  obtain ⟨b4, hb4⟩ : ∃ b4, W.heap.size = b4 := ⟨_, rfl⟩
  have P1 : Hid (Pre9 W0 W wb i s ov vs b4 b5 b7 b8 b9 sv (.slice none 0 0) V0) := (by rw [← hb4]; exact P0.out)
  have LB1 : Hid (W.heap.size ≤ b4 ∧ W.heap.size ≤ b5 ∧ W.heap.size ≤ b7 ∧ W.heap.size ≤ b8 ∧ W.heap.size ≤ b9) := (by have := LB.out; rw [← hb4]; exact this)
  rw [hb4]
  clear hsv P0 LB hb4
  have i0 : (0 : Int) ≤ (i : Int) := by omega
  have i1 : (i : Int) < 2 := by omega
  go_cut [27] from 17 to 27 (fun _ V => ∃ wasv, Pre9 W0 W wb i s ov vs b4 b5 b7 b8 b9 sv wasv V ∧ V.ownsRow W.heap.size 71 2 wasv (s i).E.length (cellsR (s i).E))
  case first =>
    as_aux_lemma =>
      obtain ⟨j0, hj0, hj1, hj2, hj3⟩ := info_parts size_entry
      have RTX : Hid (RT 0 V0 (s i).rb (s i).W (s i).M (s i).q (s i).cap (s i).E (s i).top) := (P1.out.ws.p i hi).r
      have hEl : (s i).E.length ≤ 1000000 := RTX.out.few
      have c4 : V0.cell? ⟨b4, 0, none⟩ = some (.pointer (some ⟨wb, 0, none⟩)) := cell_row P1.out.h4 (i := 0) rfl
      have c5 : V0.cell? ⟨b5, 0, none⟩ = some (.int .i64 (i : Int)) := cell_row P1.out.h5 (i := 0) rfl
      have c9 : V0.cell? ⟨b9, 0, none⟩ = some (.slice none 0 0) := cell_row P1.out.h9 (i := 0) rfl
      have f9 := frz_row P1.out.h9 0
      have cr := P1.out.ws.cr hi
      have n94 : b4 ≠ b9 := ne_type P1.out.h4 P1.out.h9 (by decide)
      have n95 : b5 ≠ b9 := ne_type P1.out.h5 P1.out.h9 (by decide)
      have n9w : wb ≠ b9 := ne_type P1.out.ws.hb P1.out.h9 (by decide)
      have n9r : (s i).rb ≠ b9 := ne_type RTX.out.hb P1.out.h9 (by decide)
      have l4 := lt_of_heap P1.out.h4
      have l5 := lt_of_heap P1.out.h5
      have lw := lt_of_heap P1.out.ws.hb
      have lr := lt_of_heap RTX.out.hb
      have WZ : Hid (WS W0 wb s ov vs W) := H.out
      rcases RTX.out.own.2 with ⟨eq0, hE0⟩ | ⟨g, cg, cur, eq0, hq2, hq3, hq4, hq5, hq6⟩
      · have cq : V0.cell? ⟨(s i).rb, 2, none⟩ = some (.slice none 0 0) := (by rw [← eq0]; exact cell_row RTX.out.hb (i := 2) rfl)
        have HE0 : Hid ((s i).E.length = 0 ∧ cellsR (s i).E = []) := ⟨hE0, by rw [List.length_eq_zero_iff.1 hE0]; rfl⟩
        clear eq0 hE0
        have SK : Hid (∀ w' v', Below V0.heap.size V0 w' → (fun w' => w'.cell? ⟨b4, 0, none⟩ = some (.pointer (some ⟨wb, 0, none⟩)) ∧ w'.cell? ⟨b5, 0, none⟩ = some (.int .i64 (i : Int)) ∧ w'.cell? ⟨wb, 2 + i, none⟩ = some (.pointer (some ⟨(s i).rb, 0, none⟩)) ∧ w'.cell? ⟨(s i).rb, 2, none⟩ = some (.slice none 0 0))  (w'.setCell ⟨b9, 0, none⟩ v')) := fun w' v' hb => by
          have hc : ∀ p : Addr, p.block < V0.heap.size → p.block ≠ b9 → (w'.setCell ⟨b9, 0, none⟩ v').cell? p = V0.cell? p := fun p hp hne => (World.cell?_of_block (a := p) (Below.heap_setCell _ _ _ _ hne)).trans (hb.cell hp)
          exact ⟨(hc _ l4 n94).trans c4, (hc _ l5 n95).trans c5, (hc _ lw n9w).trans cr, (hc _ lr n9r).trans cq⟩
        have SB : Hid (∀ w', Below V0.heap.size V0 w' → (fun w' => w'.cell? ⟨b4, 0, none⟩ = some (.pointer (some ⟨wb, 0, none⟩)) ∧ w'.cell? ⟨b5, 0, none⟩ = some (.int .i64 (i : Int)) ∧ w'.cell? ⟨wb, 2 + i, none⟩ = some (.pointer (some ⟨(s i).rb, 0, none⟩)) ∧ w'.cell? ⟨(s i).rb, 2, none⟩ = some (.slice none 0 0)) w') := fun w' hb => ⟨(hb.cell (p := ⟨b4, 0, none⟩) l4).trans c4, (hb.cell (p := ⟨b5, 0, none⟩) l5).trans c5, (hb.cell (p := ⟨wb, 2 + i, none⟩) lw).trans cr, (hb.cell (p := ⟨(s i).rb, 2, none⟩) lr).trans cq⟩
        refine wp_region_held_drew (S := fun w' => w'.cell? ⟨b4, 0, none⟩ = some (.pointer (some ⟨wb, 0, none⟩)) ∧ w'.cell? ⟨b5, 0, none⟩ = some (.int .i64 (i : Int)) ∧ w'.cell? ⟨wb, 2 + i, none⟩ = some (.pointer (some ⟨(s i).rb, 0, none⟩)) ∧ w'.cell? ⟨(s i).rb, 2, none⟩ = some (.slice none 0 0)) (by kernel_rfl) (SB.out _ (Below.refl _ _).drew) (fun hHeld => ?_)
        refine wpAnyH_take (i := 1) (oi := _) (v := ?_) rfl (by kernel_rfl) (by kernel_rfl) (by kernel_rfl) (fun _ _ _ h => h) (Or.inl ⟨by rfl, ?_⟩) (by assumption) ?_
        rotate_left
        · intro wz hSw; obtain ⟨q1, q2, q3, q4⟩ := hSw; go_simp; try with_reducible rfl
        dsimp only [Act.put, List.getElem_toArray, List.getElem_cons_zero, List.getElem_cons_succ]
        simp only [List.setIfInBounds_toArray, List.set_cons_zero, List.set_cons_succ]
        refine wpAnyH_take (i := 2) (oi := _) (v := ?_) rfl (by kernel_rfl) (by kernel_rfl) (by kernel_rfl) (fun _ _ _ h => h) (Or.inl ⟨by rfl, ?_⟩) (by assumption) ?_
        rotate_left
        · intro wz hSw; obtain ⟨q1, q2, q3, q4⟩ := hSw; go_simp; try with_reducible rfl
        dsimp only [Act.put, List.getElem_toArray, List.getElem_cons_zero, List.getElem_cons_succ]
        simp only [List.setIfInBounds_toArray, List.set_cons_zero, List.set_cons_succ]
        refine wpAnyH_take (i := 3) (oi := _) (v := ?_) rfl (by kernel_rfl) (by kernel_rfl) (by kernel_rfl) (fun _ _ _ h => h) (Or.inl ⟨by rfl, ?_⟩) (by assumption) ?_
        rotate_left
        · intro wz hSw; obtain ⟨q1, q2, q3, q4⟩ := hSw; go_simp; try with_reducible rfl
        dsimp only [Act.put, List.getElem_toArray, List.getElem_cons_zero, List.getElem_cons_succ]
        simp only [List.setIfInBounds_toArray, List.set_cons_zero, List.set_cons_succ]
        refine wpAnyH_take (i := 4) (oi := _) (v := ?_) rfl (by kernel_rfl) (by kernel_rfl) (by kernel_rfl) (fun _ _ _ h => h) (Or.inl ⟨by rfl, ?_⟩) (by assumption) ?_
        rotate_left
        · intro wz hSw; obtain ⟨q1, q2, q3, q4⟩ := hSw; go_simp; try with_reducible rfl
        dsimp only [Act.put, List.getElem_toArray, List.getElem_cons_zero, List.getElem_cons_succ]
        simp only [List.setIfInBounds_toArray, List.set_cons_zero, List.set_cons_succ]
        refine wpAnyH_take (i := 5) (oi := _) (v := ?_) rfl (by kernel_rfl) (by kernel_rfl) (by kernel_rfl) (fun _ _ _ h => h) (Or.inl ⟨by rfl, ?_⟩) (by assumption) ?_
        rotate_left
        · intro wz hSw; obtain ⟨q1, q2, q3, q4⟩ := hSw; go_simp; try with_reducible rfl
        dsimp only [Act.put, List.getElem_toArray, List.getElem_cons_zero, List.getElem_cons_succ]
        simp only [List.setIfInBounds_toArray, List.set_cons_zero, List.set_cons_succ]
        refine wpAnyH_take (i := 6) (oi := _) (v := ?_) rfl (by kernel_rfl) (by kernel_rfl) (by kernel_rfl) (fun _ _ _ h => h) (Or.inl ⟨by rfl, ?_⟩) (by assumption) ?_
        rotate_left
        · intro wz hSw; obtain ⟨q1, q2, q3, q4⟩ := hSw; go_simp; try with_reducible rfl
        dsimp only [Act.put, List.getElem_toArray, List.getElem_cons_zero, List.getElem_cons_succ]
        simp only [List.setIfInBounds_toArray, List.set_cons_zero, List.set_cons_succ]
        refine wpAnyH_take (i := 7) (oi := _) (v := ?_) rfl (by kernel_rfl) (by kernel_rfl) (by kernel_rfl) (fun _ _ _ h => h) (Or.inl ⟨by rfl, ?_⟩) (by assumption) ?_
        rotate_left
        · intro wz hSw; obtain ⟨q1, q2, q3, q4⟩ := hSw; go_simp; try with_reducible rfl
        dsimp only [Act.put, List.getElem_toArray, List.getElem_cons_zero, List.getElem_cons_succ]
        simp only [List.setIfInBounds_toArray, List.set_cons_zero, List.set_cons_succ]
        refine wpAnyH_take (i := 8) (oi := _) (v := ?_) rfl (by kernel_rfl) (by kernel_rfl) (by kernel_rfl) (fun _ _ _ h => h) (Or.inl ⟨by rfl, ?_⟩) (by assumption) ?_
        rotate_left
        · intro wz hSw; obtain ⟨q1, q2, q3, q4⟩ := hSw; go_simp; try with_reducible rfl
        dsimp only [Act.put, List.getElem_toArray, List.getElem_cons_zero, List.getElem_cons_succ]
        simp only [List.setIfInBounds_toArray, List.set_cons_zero, List.set_cons_succ]
        refine wpAnyH_take (i := 9) (oi := _) (v := ?_) rfl (by kernel_rfl) (by kernel_rfl) (by kernel_rfl) (fun _ _ _ h => h) (Or.inl ⟨by rfl, ?_⟩) (by assumption) ?_
        rotate_left
        · intro wz hSw; obtain ⟨q1, q2, q3, q4⟩ := hSw; go_simp; try with_reducible rfl
        dsimp only [Act.put, List.getElem_toArray, List.getElem_cons_zero, List.getElem_cons_succ]
        simp only [List.setIfInBounds_toArray, List.set_cons_zero, List.set_cons_succ]
        refine wpAnyH_ready (rs := [0]) (by kernel_rfl) (by simp) ?_
        refine AllReadyH.cons rfl (fun K hK => ?_) AllReadyH.nil
        go_simp
        refine hK.out _ _ (SB.out _ (Below.refl _ _).drew) (fun hHeld2 => ?_)
        clear hK K
        refine wpAnyH_ready (rs := [10]) (by kernel_rfl) (by simp) ?_
        refine AllReadyH.cons rfl (fun K hK => ?_) AllReadyH.nil
        go_simp
        refine hK.out _ _ (SB.out _ (Below.refl _ _).drew) (fun hHeld3 => ?_)
        clear hK K
        have RW9 : Hid (V0.ownsRow W.heap.size 71 2 (.slice none 0 0) (s i).E.length (cellsR (s i).E)) := (by rw [HE0.out.1, HE0.out.2]; exact World.ownsRow_nil _ _ _ _)
        have PZ := hide3 (Pre9.set WZ.out P1.out (Below.refl _ _) LB1.out.2.2.2.2 RW9.out)
        refine wpAnyH_ready (rs := [11]) (by kernel_rfl) (by simp) ?_
        refine AllReadyH.cons rfl (fun K hK => ?_) AllReadyH.nil
        go_simp
        refine hK.out _ _ (SK.out V0 (.slice none 0 0) (Below.refl _ _)) (fun hHeld4 => ?_)
        clear hK K
        refine wpAnyH_done (by kernel_rfl) ?_ _
        go_wp2
        go_meet
        exact ⟨_, PZ.out.1.kept (Below.refl _ _).drew, World.ownsRow.drew PZ.out.2⟩
      · have cq : V0.cell? ⟨(s i).rb, 2, none⟩ = some (.slice (some ⟨g, 0, none⟩) (s i).E.length cg) := (by rw [← eq0]; exact cell_row RTX.out.hb (i := 2) rfl)
        have ROWG : Hid (V0.ownsRow 0 71 2 (.slice (some ⟨g, 0, none⟩) (s i).E.length cg) (s i).E.length (cellsR (s i).E)) := (by rw [← eq0]; exact RTX.out.own)
        have RD : Hid (∀ j u, (cellsR (s i).E)[j]? = some u → V0.drew.cell? ((⟨g, 0, none⟩ : Addr).add j) = some u) := fun j u hj => (by
          have := ownsRow_at ROWG.out 0 ((s i).E.length * 2) j u (by rw [List.drop_zero, List.take_of_length_le (by rw [cellsR_length]; exact Nat.le_refl _)]; exact hj)
          exact this)
        clear eq0 hq3 hq4 hq5 hq6 hq2
        obtain ⟨EL, hEL⟩ : ∃ EL, (s i).E.length = EL := ⟨_, rfl⟩
        have HEL : Hid ((s i).E.length = EL) := hEL
        have ONE : Hid (∀ u ∈ cellsR (s i).E, u.oneCell' = true) := one_cells _ (fun u hu => hu) RTX.out.one
        have hlo : W.heap.size ≤ V0.heap.size := P1.out.bel.size
        rw [hEL] at cq ROWG hEl
        clear hEL
        have SK : Hid (∀ w' v', Below V0.heap.size V0 w' → (fun w' => w'.cell? ⟨b4, 0, none⟩ = some (.pointer (some ⟨wb, 0, none⟩)) ∧ w'.cell? ⟨b5, 0, none⟩ = some (.int .i64 (i : Int)) ∧ w'.cell? ⟨wb, 2 + i, none⟩ = some (.pointer (some ⟨(s i).rb, 0, none⟩)) ∧ w'.cell? ⟨(s i).rb, 2, none⟩ = some (.slice (some ⟨g, 0, none⟩) EL cg))  (w'.setCell ⟨b9, 0, none⟩ v')) := fun w' v' hb => by
          have hc : ∀ p : Addr, p.block < V0.heap.size → p.block ≠ b9 → (w'.setCell ⟨b9, 0, none⟩ v').cell? p = V0.cell? p := fun p hp hne => (World.cell?_of_block (a := p) (Below.heap_setCell _ _ _ _ hne)).trans (hb.cell hp)
          exact ⟨(hc _ l4 n94).trans c4, (hc _ l5 n95).trans c5, (hc _ lw n9w).trans cr, (hc _ lr n9r).trans cq⟩
        have SB : Hid (∀ w', Below V0.heap.size V0 w' → (fun w' => w'.cell? ⟨b4, 0, none⟩ = some (.pointer (some ⟨wb, 0, none⟩)) ∧ w'.cell? ⟨b5, 0, none⟩ = some (.int .i64 (i : Int)) ∧ w'.cell? ⟨wb, 2 + i, none⟩ = some (.pointer (some ⟨(s i).rb, 0, none⟩)) ∧ w'.cell? ⟨(s i).rb, 2, none⟩ = some (.slice (some ⟨g, 0, none⟩) EL cg)) w') := fun w' hb => ⟨(hb.cell (p := ⟨b4, 0, none⟩) l4).trans c4, (hb.cell (p := ⟨b5, 0, none⟩) l5).trans c5, (hb.cell (p := ⟨wb, 2 + i, none⟩) lw).trans cr, (hb.cell (p := ⟨(s i).rb, 2, none⟩) lr).trans cq⟩
        refine wp_region_held_drew (S := fun w' => w'.cell? ⟨b4, 0, none⟩ = some (.pointer (some ⟨wb, 0, none⟩)) ∧ w'.cell? ⟨b5, 0, none⟩ = some (.int .i64 (i : Int)) ∧ w'.cell? ⟨wb, 2 + i, none⟩ = some (.pointer (some ⟨(s i).rb, 0, none⟩)) ∧ w'.cell? ⟨(s i).rb, 2, none⟩ = some (.slice (some ⟨g, 0, none⟩) EL cg)) (by kernel_rfl) (SB.out _ (Below.refl _ _).drew) (fun hHeld => ?_)
        refine wpAnyH_take (i := 1) (oi := _) (v := ?_) rfl (by kernel_rfl) (by kernel_rfl) (by kernel_rfl) (fun _ _ _ h => h) (Or.inl ⟨by rfl, ?_⟩) (by assumption) ?_
        rotate_left
        · intro wz hSw; obtain ⟨q1, q2, q3, q4⟩ := hSw; go_simp; try with_reducible rfl
        dsimp only [Act.put, List.getElem_toArray, List.getElem_cons_zero, List.getElem_cons_succ]
        simp only [List.setIfInBounds_toArray, List.set_cons_zero, List.set_cons_succ]
        refine wpAnyH_take (i := 2) (oi := _) (v := ?_) rfl (by kernel_rfl) (by kernel_rfl) (by kernel_rfl) (fun _ _ _ h => h) (Or.inl ⟨by rfl, ?_⟩) (by assumption) ?_
        rotate_left
        · intro wz hSw; obtain ⟨q1, q2, q3, q4⟩ := hSw; go_simp; try with_reducible rfl
        dsimp only [Act.put, List.getElem_toArray, List.getElem_cons_zero, List.getElem_cons_succ]
        simp only [List.setIfInBounds_toArray, List.set_cons_zero, List.set_cons_succ]
        refine wpAnyH_take (i := 3) (oi := _) (v := ?_) rfl (by kernel_rfl) (by kernel_rfl) (by kernel_rfl) (fun _ _ _ h => h) (Or.inl ⟨by rfl, ?_⟩) (by assumption) ?_
        rotate_left
        · intro wz hSw; obtain ⟨q1, q2, q3, q4⟩ := hSw; go_simp; try with_reducible rfl
        dsimp only [Act.put, List.getElem_toArray, List.getElem_cons_zero, List.getElem_cons_succ]
        simp only [List.setIfInBounds_toArray, List.set_cons_zero, List.set_cons_succ]
        refine wpAnyH_take (i := 4) (oi := _) (v := ?_) rfl (by kernel_rfl) (by kernel_rfl) (by kernel_rfl) (fun _ _ _ h => h) (Or.inl ⟨by rfl, ?_⟩) (by assumption) ?_
        rotate_left
        · intro wz hSw; obtain ⟨q1, q2, q3, q4⟩ := hSw; go_simp; try with_reducible rfl
        dsimp only [Act.put, List.getElem_toArray, List.getElem_cons_zero, List.getElem_cons_succ]
        simp only [List.setIfInBounds_toArray, List.set_cons_zero, List.set_cons_succ]
        refine wpAnyH_take (i := 5) (oi := _) (v := ?_) rfl (by kernel_rfl) (by kernel_rfl) (by kernel_rfl) (fun _ _ _ h => h) (Or.inl ⟨by rfl, ?_⟩) (by assumption) ?_
        rotate_left
        · intro wz hSw; obtain ⟨q1, q2, q3, q4⟩ := hSw; go_simp; try with_reducible rfl
        dsimp only [Act.put, List.getElem_toArray, List.getElem_cons_zero, List.getElem_cons_succ]
        simp only [List.setIfInBounds_toArray, List.set_cons_zero, List.set_cons_succ]
        refine wpAnyH_take (i := 6) (oi := _) (v := ?_) rfl (by kernel_rfl) (by kernel_rfl) (by kernel_rfl) (fun _ _ _ h => h) (Or.inl ⟨by rfl, ?_⟩) (by assumption) ?_
        rotate_left
        · intro wz hSw; obtain ⟨q1, q2, q3, q4⟩ := hSw; go_simp; try with_reducible rfl
        dsimp only [Act.put, List.getElem_toArray, List.getElem_cons_zero, List.getElem_cons_succ]
        simp only [List.setIfInBounds_toArray, List.set_cons_zero, List.set_cons_succ]
        refine wpAnyH_take (i := 7) (oi := _) (v := ?_) rfl (by kernel_rfl) (by kernel_rfl) (by kernel_rfl) (fun _ _ _ h => h) (Or.inl ⟨by rfl, ?_⟩) (by assumption) ?_
        rotate_left
        · intro wz hSw; obtain ⟨q1, q2, q3, q4⟩ := hSw; go_simp; try with_reducible rfl
        dsimp only [Act.put, List.getElem_toArray, List.getElem_cons_zero, List.getElem_cons_succ]
        simp only [List.setIfInBounds_toArray, List.set_cons_zero, List.set_cons_succ]
        refine wpAnyH_take (i := 8) (oi := _) (v := ?_) rfl (by kernel_rfl) (by kernel_rfl) (by kernel_rfl) (fun _ _ _ h => h) (Or.inl ⟨by rfl, ?_⟩) (by assumption) ?_
        rotate_left
        · intro wz hSw; obtain ⟨q1, q2, q3, q4⟩ := hSw; go_simp; try with_reducible rfl
        dsimp only [Act.put, List.getElem_toArray, List.getElem_cons_zero, List.getElem_cons_succ]
        simp only [List.setIfInBounds_toArray, List.set_cons_zero, List.set_cons_succ]
        refine wpAnyH_take (i := 9) (oi := _) (v := ?_) rfl (by kernel_rfl) (by kernel_rfl) (by kernel_rfl) (fun _ _ _ h => h) (Or.inl ⟨by rfl, ?_⟩) (by assumption) ?_
        rotate_left
        · intro wz hSw; obtain ⟨q1, q2, q3, q4⟩ := hSw; go_simp; try with_reducible rfl
        dsimp only [Act.put, List.getElem_toArray, List.getElem_cons_zero, List.getElem_cons_succ]
        simp only [List.setIfInBounds_toArray, List.set_cons_zero, List.set_cons_succ]
        refine wpAnyH_ready (rs := [0]) (by kernel_rfl) (by simp) ?_
        refine AllReadyH.cons rfl (fun K hK => ?_) AllReadyH.nil
        go_simp
        refine hK.out _ _ (SB.out _ (Below.refl _ _).drew) (fun hHeld2 => ?_)
        clear hK K
        refine wpAnyH_ready (rs := [10]) (by kernel_rfl) (by simp) ?_
        refine AllReadyH.cons rfl (fun K hK => ?_) AllReadyH.nil
        refine step_append_at rfl _ _ 39 rfl W.heap.size 71 j0 (.agg #[.slice none 0 0, .int .i64 0]) 2 32 und_entries hj0 hj1 hj2 hj3 rfl (by decide) (.slice none 0 0) 0 [] (by simp [Act.eval]) (World.ownsRow_nil _ _ _ _) ⟨g, 0, none⟩ EL cg (cellsR (s i).E) (by simp [Act.eval]) (by rw [cellsR_length, HEL.out]) RD.out ONE.out (by unfold maxLen; omega) (by omega) hlo ?_
        intro v' w6 hown' hgrow hblk
        obtain ⟨q6, cap6, rfl⟩ := ownsRow_shape hown'
        have O6 : Hid (w6.ownsRow W.heap.size 71 2 (.slice q6 EL cap6) (s i).E.length (cellsR (s i).E)) := hide3 (by rw [HEL.out]; rw [List.nil_append, Nat.zero_add] at hown'; exact hown')
        have B6 : Hid (Below V0.heap.size V0 w6) := (Below.refl _ _).drew.trans (grown_below hgrow)
        clear hown' hgrow hblk
        refine hK.out _ _ (SB.out _ B6.out) (fun hHeld3 => ?_)
        clear hK K
        have PZ := hide3 (Pre9.set WZ.out P1.out B6.out LB1.out.2.2.2.2 O6.out)
        have c9' : w6.cell? ⟨b9, 0, none⟩ = some (.slice none 0 0) := (B6.out.cell (p := ⟨b9, 0, none⟩) (lt_of_heap P1.out.h9)).trans c9
        have f9' : w6.frozen? ⟨b9, 0, none⟩ = false := (B6.out.frozen (p := ⟨b9, 0, none⟩) (lt_of_heap P1.out.h9)).trans f9
        refine wpAnyH_ready (rs := [11]) (by kernel_rfl) (by simp) ?_
        refine AllReadyH.cons rfl (fun K hK => ?_) AllReadyH.nil
        go_simp
        refine hK.out _ _ (SK.out w6 _ B6.out) (fun hHeld4 => ?_)
        clear hK K
        refine wpAnyH_done (by kernel_rfl) ?_ _
        go_wp2
        go_meet
        exact ⟨_, PZ.out⟩
  case rest =>
    obtain ⟨wasv, hP9, hW9⟩ := hcut
    have Q9 : Hid (Pre9 W0 W wb i s ov vs b4 b5 b7 b8 b9 sv wasv wc) := hP9
    have WR : Hid (wc.ownsRow W.heap.size 71 2 wasv (s i).E.length (cellsR (s i).E)) := hW9
    clear hP9 hW9 P1
    go_upto_region 6 with fail
    have CR : Hid (RC W0 W wb i s ov vs (wc.alloc (.cells #[.int .i64 0] 3)).heap.size b4 b5 b7 b8 b9 wc.heap.size wasv) := by
      have hb : Below wc.heap.size wc (wc.alloc (.cells #[.int .i64 0] 3)) := (Below.refl _ _).alloc (Nat.le_refl _) _
      have Q := Q9.out
      have hs := hb.size
      have hz : wc.heap.size < (wc.alloc (.cells #[.int .i64 0] 3)).heap.size := by simp
      refine ⟨H.out, hi, Nat.le_trans Q.bel.size hs, ?_, ?_, ?_, ?_, ?_, hz, fun z hz' => ?_⟩
      · have := lt_of_heap Q.h4; omega
      · have := lt_of_heap Q.h5; omega
      · have := lt_of_heap Q.h7; omega
      · have := lt_of_heap Q.h8; omega
      · have := lt_of_heap Q.h9; omega
      · obtain ⟨_, cu, hc⟩ := own_block WR.out hz'
        have := lt_of_heap hc; omega
    obtain ⟨tt, htt, hpt⟩ := pick_nat tn 4 (by decide)
    obtain ⟨lf, hlf, hpl⟩ := pick_nat le 9 (by decide)
    have R4 : Hid (RW W0 W wb i s ov vs (wc.alloc (.cells #[.int .i64 0] 3)).heap.size b4 b5 b7 b8 b9 wc.heap.size sv wasv ii tt 0 0 0 false s ov vs (wc.alloc (.cells #[.int .i64 0] 3))) := by
      have hb : Below wc.heap.size wc (wc.alloc (.cells #[.int .i64 0] 3)) := (Below.refl _ _).alloc (Nat.le_refl _) _
      have Q := Q9.out.kept hb
      have P9 := Q9.out
      obtain ⟨e4, e5, e7, e8, e9⟩ := LB1.out
      refine ⟨Q.ws, ⟨Q.h4, Q.h5, Q.h7, Q.h8, Q.h9, alloc_new wc _, ownsRow_below WR.out hb, fun e he => ((Q.ws.p i hi).r.keys e he).1, e4, e5, e7, e8, e9, P9.bel.size, Nat.ne_of_lt (lt_of_heap P9.h5)⟩, fun _ => rfl, by rw [if_pos (.inr (Nat.zero_le _))]; omega, Fr.of_below Q.bel, fun z hz => .inl hz, fun z hz => .inl hz, Nat.le_refl _⟩
    have A4 : Hid (Boxed (wc.alloc (.cells #[.int .i64 0] 3)) ax 25 (.pointer (some ⟨(s i).b, 0, none⟩))) := Boxed.alloc (show Boxed wc ax 25 (.pointer (some ⟨(s i).b, 0, none⟩)) from (Q9.out.bel.block _ HA.out.lt).trans HA.out) _
    generalize (wc.alloc (.cells #[.int .i64 0] 3)) = V4 at CR R4 A4 ⊢
    generalize wc.heap.size = b10 at CR R4 ⊢
    clear Q9 WR
    have PT4 : Hid (∀ W : World, Calls Try.prog 6 #[.int .i64 tn, .int .i64 4] W fun e w' => e = .returned (.int .i64 (tt : Int)) ∧ w' = W) := fun W => by
      have := pick_i tn 4 (by decide) (by decide) wft W
      rw [hpt] at this
      exact this
    have PL9 : Hid (∀ W : World, Calls Try.prog 6 #[.int .i64 le, .int .i64 9] W fun e w' => e = .returned (.int .i64 (lf : Int)) ∧ w' = W) := fun W => by
      have := pick_i le 9 (by decide) (by decide) wfl W
      rw [hpl] at this
      exact this
    have T4 := (R4.out.ws.p i hi).t
    have HC : Hid (cnt (s i).P = (s i).E.length ∧ Same (s i).m (s i).E ∧ Lex (s i).W (s i).E ∧ (s i).W ≤ 128 ∧ (s i).E.length ≤ 1000000) := ⟨(H.out.p i hi).cnt, (H.out.p i hi).same, (H.out.p i hi).lex, (H.out.p i hi).t.t.hW, (H.out.p i hi).r.few⟩
    clear hpt hpl hqf
    go_wp2
    refine (wpIn_wide (n := 5)).1 ?_
    refine all_range5 (by decide) 29 30 11 12 ax rfl rfl A4.out T4
      (fun pre V => ∃ s' ov' vs', RW W0 W wb i s ov vs V4.heap.size b4 b5 b7 b8 b9 b10 sv wasv ii tt pre.length pre.length (pre.length : Int) false s' ov' vs' V)
      (fun c _ V => c = .ret ∧ ∃ kl kf n s' ov' vs', kl ≤ 1000000 ∧ RW W0 W wb i s ov vs V4.heap.size b4 b5 b7 b8 b9 b10 sv wasv ii tt kl kf n true s' ov' vs' V) ?_ ?_ ⟨s, ov, vs, R4.out⟩ ?_ ?_ ?_ ?_
    · rintro pre A A' row ⟨s', ov', vs', hR⟩ hg hr
      exact ⟨s', ov', vs', hR.grown CR.out hg hr⟩
    · rintro c pre A A' row ⟨hc, kl, kf, n, s', ov', vs', hk, hR⟩ hg hr
      exact ⟨hc, kl, kf, n, s', ov', vs', hk, hR.grown CR.out hg hr⟩
    · intro l x V K hK
      gi_wp2
      exact hK
    · as_aux_lemma =>
        clear A4 T4 R4
        rintro l pre ⟨gx, key, val⟩ V0' V ⟨s', ov', vs', hRW0⟩ hgr hl hlo ⟨⟨hk1, hk2, hk3, hpc, hpre⟩, hfresh⟩
        have hRW := hRW0.grown CR.out hgr (fun r e => by cases e; exact ⟨hl, hlo⟩)
        obtain ⟨e, heE, rfl, rfl⟩ : ∃ e, (s i).E[pre.length]? = some e ∧ e.key = key ∧ e.val = val := by
          have h1 := isPre_take HC.out.2.1 HC.out.2.2.1 hpre
          have h2 : ((pre ++ [((gx, key, val) : Hd)]).map (·.2))[pre.length]? = some (key, val) := by simp
          rw [h1, List.getElem?_take_of_lt (by simp), kvs, List.getElem?_map] at h2
          obtain ⟨e, he, h3⟩ := Option.map_eq_some_iff.1 h2
          cases h3
          exact ⟨e, he, rfl, rfl⟩
        have hpl : pre.length < (s i).E.length := (List.getElem?_eq_some_iff.1 heE).1
        obtain ⟨gw, cw, rfl⟩ := ownsRow_some hRW.ob.was (fun q => by
          rw [q] at hRW
          obtain ⟨_, ⟨_, h0⟩ | ⟨_, _, _, h0, _⟩⟩ := hRW.ob.was
          · omega
          · cases h0)
        have R0 : Hid (RW W0 W wb i s ov vs V4.heap.size b4 b5 b7 b8 b9 b10 sv (.slice (some ⟨gw, 0, none⟩) (s i).E.length cw) ii tt pre.length pre.length (pre.length : Int) false s' ov' vs' V0') := hRW0
        have R1 : Hid (RW W0 W wb i s ov vs V4.heap.size b4 b5 b7 b8 b9 b10 sv (.slice (some ⟨gw, 0, none⟩) (s i).E.length cw) ii tt pre.length pre.length (pre.length : Int) false s' ov' vs' V) := hRW
        have GX : Hid (V.heap[gx]? = some (.cells (ints e.key).toArray 3 (0, 0)) ∧ V0'.heap.size ≤ gx) := ⟨hk1, hfresh⟩
        have hkl : e.key.length ≤ 128 := by have := HC.out.2.2.2.1; simp only at hk3; omega
        have SMC : Hid (Calls Try.prog 26 #[.slice (some ⟨gx, 0, none⟩) e.key.length e.key.length, e.kv] V fun e' w' => e' = .returned (.bool true) ∧ Below V.heap.size V w') := (by
          have := same_c (argI_heap (n := e.key.length) hk1 rfl (by omega)) (ownsRow_arg (hRW.ob.keys e (List.mem_of_getElem? heE)))
          rwa [show decide (e.key = e.key) = true by simp] at this)
        have c9 : V.cell? ⟨b9, 0, none⟩ = some (.slice (some ⟨gw, 0, none⟩) (s i).E.length cw) := cell_row hRW.ob.h9 (i := 0) rfl
        have c10 : V.cell? ⟨b10, 0, none⟩ = some (.int .i64 (pre.length : Int)) := cell_row hRW.ob.h10 (i := 0) rfl
        have cw0 : V.cell? ⟨gw, pre.length * 2, none⟩ = some e.kv := (World.ownsRow.cellAt hRW.ob.was (pre.length * 2) (by omega)).trans (cellsR_get heE).1
        have cw1 : V.cell? ⟨gw, pre.length * 2 + 1, none⟩ = some (.int .i64 e.val) := (World.ownsRow.cellAt hRW.ob.was (pre.length * 2 + 1) (by omega)).trans (cellsR_get heE).2
        have c4 : V.cell? ⟨b4, 0, none⟩ = some (.pointer (some ⟨wb, 0, none⟩)) := cell_row hRW.ob.h4 (i := 0) rfl
        have l4 := lt_of_heap hRW.ob.h4
        have EL := HC.out.2.2.2.2
        have d0 : decide ((s i).E.length ≤ pre.length) = false := by simp; omega
        have d1 : ¬ (((s i).E.length : Int) ≤ (pre.length : Int)) := by omega
        have j0 : (0 : Int) ≤ (pre.length : Int) := by omega
        have j1 : (pre.length : Int) < ((s i).E.length : Int) := by omega
        have e1 : (e.val != e.val) = false := by simp
        have hlv : vs'.length ≤ 100000000000 := by
          have := hRW.len
          split at this <;> omega
        clear hRW hRW0 hk1 hk2 hk3 hpc hpre hgr hl hlo heE hfresh
        simp only [roundAct2, List.setIfInBounds_toArray, List.set_cons_succ, List.set_cons_zero]
        generalize hev : e.val = evl at cw1 e1
        obtain ⟨ekv, hekv⟩ : ∃ x, e.kv = x := ⟨_, rfl⟩
        rw [hekv] at cw0 SMC
        gi_wp2_with first | (gi_at_call 26; refine (CallsIn.inRound l (callsIn_wide.2 SMC.out)).mono ?_; rintro e' V1 ⟨rfl, hb⟩; have B1 : Hid (Below V.heap.size V V1) := hb; clear hb; have c4' := (B1.out.cell (p := ⟨b4, 0, none⟩) l4).trans c4) | (gi_at_call 27; refine (CallsIn.inRound l (callsIn_wide.2 (owns_c (R1.out.kept B1.out).ws.hb (R1.out.kept B1.out).ws.out.row (row_heap ((B1.out.block _ (lt_of_heap GX.out.1)).trans GX.out.1) (Nat.le_trans (Nat.le_trans CR.out.ws.size CR.out.le) (Nat.le_trans R0.out.sz GX.out.2)) (by omega)) (R1.out.kept B1.out).ws.size (by omega) hlv))).mono ?_; rintro e' V2 ⟨rfl, ov2, v2, hw2, hr2, hl2, hm2, hv2, hf2⟩; have X2 : Hid (RW W0 W wb i s ov vs V4.heap.size b4 b5 b7 b8 b9 b10 sv (.slice (some ⟨gw, 0, none⟩) (s i).E.length cw) ii tt (pre.length + 1) pre.length (pre.length : Int) false s' ov2 (vs' ++ [v2]) V2 ∧ GK V4.heap.size (s i).P V1 V2) := R0.out.owned CR.out (R1.out.kept B1.out) GX.out.2 ⟨_, (B1.out.block _ (lt_of_heap GX.out.1)).trans GX.out.1⟩ hw2 hr2 hl2 (by omega) hm2 hv2 hf2; clear hw2 hr2 hl2 hm2 hv2 hf2)
        clear c9 c10 cw0 cw1 c4 c4' l4 d0 d1 j0 j1 e1 SMC
        rename_i K1 hK1 K2 hK2
        have GV2 : Hid (GK V4.heap.size (s i).P V V2) := (GK.below B1.out).trans X2.out.2
        have TAIL : Hid (∀ (a : Act) (V5 : World) (s5 : Nat → Sd) (ov5 : Value) (vs5 : List Value), a.tmps = ovTmps (fun j => a.tmps.getD j undef) b4 b5 b7 b8 b9 b10 → a.defers = [] → RW W0 W wb i s ov vs V4.heap.size b4 b5 b7 b8 b9 b10 sv (.slice (some ⟨gw, 0, none⟩) (s i).E.length cw) ii tt (pre.length + 1) (pre.length + 1) (pre.length : Int) false s5 ov5 vs5 V5 → GK V4.heap.size (s i).P V V5 → K1 a V5) := by
          as_aux_lemma =>
            clear hK2 K2 X2 GV2
            rintro ⟨tm, ds⟩ V5 s5 ov5 vs5 ha hd hR hG
            dsimp only at ha hd
            generalize (fun j => tm.getD j undef) = f at ha
            subst ha hd
            refine hK1 _ _ ?_
            clear hK1 K1
            have c10 : V5.cell? ⟨b10, 0, none⟩ = some (.int .i64 (pre.length : Int)) := cell_row hR.ob.h10 (i := 0) rfl
            have f10 := frz_row hR.ob.h10 0
            have SN := hide3 (hR.setN CR.out ((pre.length : Int) + 1))
            have HG : Hid (GK V4.heap.size (s i).P V V5) := hG
            clear hR hG
            unfold ovTmps
            gi_wp2
            generalize (V5.setCell ⟨b10, 0, none⟩ (.int .i64 ((pre.length : Int) + 1))) = V6 at SN ⊢
            clear c10 f10
            have c10 : V6.cell? ⟨b10, 0, none⟩ = some (.int .i64 ((pre.length : Int) + 1)) := cell_row SN.out.1.ob.h10 (i := 0) rfl
            have c73 : V6.cell? ⟨b7, 3, none⟩ = some (.int .i64 le) := cell_row SN.out.1.ob.h7 (i := 3) (by rw [← HSV.out]; rfl)
            have l10 : b10 < V6.heap.size := lt_of_heap SN.out.1.ob.h10
            have l7 : b7 < V6.heap.size := lt_of_heap SN.out.1.ob.h7
            refine wpIn_region_ext (by kernel_rfl) (by kernel_rfl) (by kernel_rfl) (fun ⟨_, _, h⟩ => h) ?_
            repeat (go_big_quiet_step (first | exact rfl | (go_at_call 6; with_reducible exact ext_call_same (PL9.out _))))
            refine wpQuiet_nil ?_
            intro V7 hw
            have R7 := hide3 (SN.out.1.kept (ext_of hw))
            have G7 := hide3 ((HG.out.trans SN.out.2).trans (GK.below (ext_of hw)))
            clear hw c10 c73 l10 l7
            by_cases hlv : (pre.length : Int) + 1 = (lf : Int)
            · have elv : (((pre.length : Int) + 1) == (lf : Int)) = true := by simpa using hlv
              have c8 : V7.cell? ⟨b8, 0, none⟩ = some (.bool false) := cell_row R7.out.ob.h8 (i := 0) rfl
              have f8 := frz_row R7.out.ob.h8 0
              have SR := hide3 (R7.out.setR CR.out true)
              clear hlv
              gi_wp2
              exact ⟨(G7.out.trans SR.out.2).1, rfl, _, _, _, s5, ov5, vs5, by omega, SR.out.1⟩
            · have elv : (((pre.length : Int) + 1) == (lf : Int)) = false := by simpa using hlv
              clear hlv
              gi_wp2
              refine ⟨G7.out.1, G7.out.2, s5, ov5, vs5, ?_⟩
              have := R7.out
              rw [List.length_append, List.length_singleton]
              exact this
        clear hK1
        have c76 : V2.cell? ⟨b7, 6, none⟩ = some (.int .i64 ii) := cell_row X2.out.1.ob.h7 (i := 6) (by rw [← HSV.out]; rfl)
        have c75 : V2.cell? ⟨b7, 5, none⟩ = some (.int .i64 tn) := cell_row X2.out.1.ob.h7 (i := 5) (by rw [← HSV.out]; rfl)
        have c10 : V2.cell? ⟨b10, 0, none⟩ = some (.int .i64 (pre.length : Int)) := cell_row X2.out.1.ob.h10 (i := 0) rfl
        have l10 : b10 < V2.heap.size := lt_of_heap X2.out.1.ob.h10
        have l7 : b7 < V2.heap.size := lt_of_heap X2.out.1.ob.h7
        by_cases h0 : ii = 0
        · as_aux_lemma =>
          have en : (ii != 0) = false := by simp [h0]
          clear h0
          refine wpIn_region_ext (by kernel_rfl) (by kernel_rfl) (by kernel_rfl) (fun ⟨_, _, h⟩ => h) ?_
          repeat (go_big_quiet_step (first | exact rfl | (go_at_call 6; with_reducible exact ext_call_same (PT4.out _))))
          refine wpQuiet_nil ?_
          intro V3 hw
          have R3 := hide3 (X2.out.1.kept (ext_of hw)).flag
          have G3 := hide3 (GV2.out.trans (GK.below (ext_of hw)))
          clear hw c76 c75 c10
          gi_wp2
          refine TAIL.out _ _ s' ov2 (vs' ++ [v2]) ?_ ?_ R3.out G3.out
          · rfl
          · rfl
        have en : (ii != 0) = true := by simp [h0]
        have HI0 : Hid (ii ≠ 0) := h0
        clear h0
        by_cases ht : (pre.length : Int) = (tt : Int)
        · have et : ((pre.length : Int) == (tt : Int)) = true := by simpa using ht
          have HT : Hid (pre.length = tt) := (by omega : pre.length = tt)
          clear ht
          obtain rfl : s = s' := (X2.out.1.eq (.inr (Nat.le_of_eq HT.out))).symm
          refine wpIn_region_ext (by kernel_rfl) (by kernel_rfl) (by kernel_rfl) (fun ⟨_, _, h⟩ => h) ?_
          repeat (go_big_quiet_step (first | exact rfl | (go_at_call 6; with_reducible exact ext_call_same (PT4.out _))))
          refine wpQuiet_nil ?_
          intro V3 hw
          have R3 := hide3 (X2.out.1.kept (ext_of hw))
          have G3 := hide3 (GV2.out.trans (GK.below (ext_of hw)))
          clear hw c76 c75 c10 l10 l7
          have c76 : V3.cell? ⟨b7, 6, none⟩ = some (.int .i64 ii) := cell_row R3.out.ob.h7 (i := 6) (by rw [← HSV.out]; rfl)
          have c4 : V3.cell? ⟨b4, 0, none⟩ = some (.pointer (some ⟨wb, 0, none⟩)) := cell_row R3.out.ob.h4 (i := 0) rfl
          have c5 : V3.cell? ⟨b5, 0, none⟩ = some (.int .i64 (i : Int)) := cell_row R3.out.ob.h5 (i := 0) rfl
          have hl5 : (vs' ++ [v2]).length ≤ Bd + 1000001 := by
            have h1 := R3.out.len
            rw [if_pos (.inr (Nat.le_of_eq HT.out))] at h1
            omega
          by_cases h5 : ii = 5
          · as_aux_lemma =>
            subst h5
            have OV := hide3 (hov rfl)
            have e5 : ((5 : Int) == 5) = true := rfl
            have cti := R3.out.ws.ct hi
            have c73 : V3.cell? ⟨b7, 3, none⟩ = some (.int .i64 le) := cell_row R3.out.ob.h7 (i := 3) (by rw [← HSV.out]; rfl)
            have l4 := lt_of_heap R3.out.ob.h4
            have l5 := lt_of_heap R3.out.ob.h5
            have l7 := lt_of_heap R3.out.ob.h7
            have lw := lt_of_heap R3.out.ws.hb
            have i0' : (0 : Int) ≤ (i : Int) := by omega
            have i1' : (i : Int) < 2 := by omega
            have SB : Hid (∀ w', Below V3.heap.size V3 w' → (fun w' => w'.cell? ⟨b4, 0, none⟩ = some (.pointer (some ⟨wb, 0, none⟩)) ∧ w'.cell? ⟨b5, 0, none⟩ = some (.int .i64 (i : Int)) ∧ w'.cell? ⟨wb, i, none⟩ = some (.pointer (some ⟨(s i).b, 0, none⟩)) ∧ w'.cell? ⟨b7, 3, none⟩ = some (.int .i64 le)) w') := fun w' hb => ⟨(hb.cell (p := ⟨b4, 0, none⟩) l4).trans c4, (hb.cell (p := ⟨b5, 0, none⟩) l5).trans c5, (hb.cell (p := ⟨wb, i, none⟩) lw).trans cti, (hb.cell (p := ⟨b7, 3, none⟩) l7).trans c73⟩
            clear hov
            gi_wp2
            refine wpIn_region_held (S := fun w' => w'.cell? ⟨b4, 0, none⟩ = some (.pointer (some ⟨wb, 0, none⟩)) ∧ w'.cell? ⟨b5, 0, none⟩ = some (.int .i64 (i : Int)) ∧ w'.cell? ⟨wb, i, none⟩ = some (.pointer (some ⟨(s i).b, 0, none⟩)) ∧ w'.cell? ⟨b7, 3, none⟩ = some (.int .i64 le)) (by kernel_rfl) (by kernel_rfl) (fun ⟨_, _, h⟩ => h) (SB.out _ (Below.refl _ _).drew) (fun hHeld => ?_)
            refine wpAnyH_take (i := 0) (oi := _) (v := ?_) rfl (by kernel_rfl) (by kernel_rfl) (by kernel_rfl) (fun _ _ _ h => h) (Or.inl ⟨by rfl, ?_⟩) (by assumption) ?_
            rotate_left
            · intro wz hSw; obtain ⟨q1, q2, q3, q4⟩ := hSw; go_simp; try with_reducible rfl
            dsimp only [Act.put, List.getElem_toArray, List.getElem_cons_zero, List.getElem_cons_succ]
            simp only [List.setIfInBounds_toArray, List.set_cons_zero, List.set_cons_succ]
            refine wpAnyH_take (i := 1) (oi := _) (v := ?_) rfl (by kernel_rfl) (by kernel_rfl) (by kernel_rfl) (fun _ _ _ h => h) (Or.inl ⟨by rfl, ?_⟩) (by assumption) ?_
            rotate_left
            · intro wz hSw; obtain ⟨q1, q2, q3, q4⟩ := hSw; go_simp; try with_reducible rfl
            dsimp only [Act.put, List.getElem_toArray, List.getElem_cons_zero, List.getElem_cons_succ]
            simp only [List.setIfInBounds_toArray, List.set_cons_zero, List.set_cons_succ]
            refine wpAnyH_take (i := 2) (oi := _) (v := ?_) rfl (by kernel_rfl) (by kernel_rfl) (by kernel_rfl) (fun _ _ _ h => h) (Or.inl ⟨by rfl, ?_⟩) (by assumption) ?_
            rotate_left
            · intro wz hSw; obtain ⟨q1, q2, q3, q4⟩ := hSw; go_simp; try with_reducible rfl
            dsimp only [Act.put, List.getElem_toArray, List.getElem_cons_zero, List.getElem_cons_succ]
            simp only [List.setIfInBounds_toArray, List.set_cons_zero, List.set_cons_succ]
            refine wpAnyH_take (i := 3) (oi := _) (v := ?_) rfl (by kernel_rfl) (by kernel_rfl) (by kernel_rfl) (fun _ _ _ h => h) (Or.inl ⟨by rfl, ?_⟩) (by assumption) ?_
            rotate_left
            · intro wz hSw; obtain ⟨q1, q2, q3, q4⟩ := hSw; go_simp; try with_reducible rfl
            dsimp only [Act.put, List.getElem_toArray, List.getElem_cons_zero, List.getElem_cons_succ]
            simp only [List.setIfInBounds_toArray, List.set_cons_zero, List.set_cons_succ]
            refine wpAnyH_take (i := 4) (oi := _) (v := ?_) rfl (by kernel_rfl) (by kernel_rfl) (by kernel_rfl) (fun _ _ _ h => h) (Or.inl ⟨by rfl, ?_⟩) (by assumption) ?_
            rotate_left
            · intro wz hSw; obtain ⟨q1, q2, q3, q4⟩ := hSw; go_simp; try with_reducible rfl
            dsimp only [Act.put, List.getElem_toArray, List.getElem_cons_zero, List.getElem_cons_succ]
            simp only [List.setIfInBounds_toArray, List.set_cons_zero, List.set_cons_succ]
            refine wpAnyH_take (i := 5) (oi := _) (v := ?_) rfl (by kernel_rfl) (by kernel_rfl) (by kernel_rfl) (fun _ _ _ h => h) (Or.inl ⟨by rfl, ?_⟩) (by assumption) ?_
            rotate_left
            · intro wz hSw; obtain ⟨q1, q2, q3, q4⟩ := hSw; go_simp; try with_reducible rfl
            dsimp only [Act.put, List.getElem_toArray, List.getElem_cons_zero, List.getElem_cons_succ]
            simp only [List.setIfInBounds_toArray, List.set_cons_zero, List.set_cons_succ]
            refine wpAnyH_take (i := 6) (oi := _) (v := ?_) rfl (by kernel_rfl) (by kernel_rfl) (by kernel_rfl) (fun _ _ _ h => h) (Or.inl ⟨by rfl, ?_⟩) (by assumption) ?_
            rotate_left
            · intro wz hSw; obtain ⟨q1, q2, q3, q4⟩ := hSw; go_simp; try with_reducible rfl
            dsimp only [Act.put, List.getElem_toArray, List.getElem_cons_zero, List.getElem_cons_succ]
            simp only [List.setIfInBounds_toArray, List.set_cons_zero, List.set_cons_succ]
            refine wpAnyH_take (i := 7) (oi := _) (v := ?_) rfl (by kernel_rfl) (by kernel_rfl) (by kernel_rfl) (fun _ _ _ h => h) (Or.inl ⟨by rfl, ?_⟩) (by assumption) ?_
            rotate_left
            · intro wz hSw; obtain ⟨q1, q2, q3, q4⟩ := hSw; go_simp; try with_reducible rfl
            dsimp only [Act.put, List.getElem_toArray, List.getElem_cons_zero, List.getElem_cons_succ]
            simp only [List.setIfInBounds_toArray, List.set_cons_zero, List.set_cons_succ]
            refine wpAnyH_take (i := 9) (oi := _) (v := ?_) rfl (by kernel_rfl) (by kernel_rfl) (by kernel_rfl) (fun _ _ _ h => h) (Or.inl ⟨by rfl, ?_⟩) (by assumption) ?_
            rotate_left
            · intro wz hSw; obtain ⟨q1, q2, q3, q4⟩ := hSw; go_simp; try with_reducible rfl
            dsimp only [Act.put, List.getElem_toArray, List.getElem_cons_zero, List.getElem_cons_succ]
            simp only [List.setIfInBounds_toArray, List.set_cons_zero, List.set_cons_succ]
            refine wpAnyH_take (i := 10) (oi := _) (v := ?_) rfl (by kernel_rfl) (by kernel_rfl) (by kernel_rfl) (fun _ _ _ h => h) (Or.inl ⟨by rfl, ?_⟩) (by assumption) ?_
            rotate_left
            · intro wz hSw; obtain ⟨q1, q2, q3, q4⟩ := hSw; go_simp; try with_reducible rfl
            dsimp only [Act.put, List.getElem_toArray, List.getElem_cons_zero, List.getElem_cons_succ]
            simp only [List.setIfInBounds_toArray, List.set_cons_zero, List.set_cons_succ]
            refine wpAnyH_take (i := 11) (oi := _) (v := ?_) rfl (by kernel_rfl) (by kernel_rfl) (by kernel_rfl) (fun _ _ _ h => h) (Or.inl ⟨by rfl, ?_⟩) (by assumption) ?_
            rotate_left
            · intro wz hSw; obtain ⟨q1, q2, q3, q4⟩ := hSw; go_simp; try with_reducible rfl
            dsimp only [Act.put, List.getElem_toArray, List.getElem_cons_zero, List.getElem_cons_succ]
            simp only [List.setIfInBounds_toArray, List.set_cons_zero, List.set_cons_succ]
            refine wpAnyH_ready (rs := [8]) (by kernel_rfl) (by simp) ?_
            refine AllReadyH.cons rfl (fun K hK => ?_) AllReadyH.nil
            go_simp
            go_wp2_with (go_at_call 8; refine (all_c (s i).b _).mono ?_; rintro e9 w9 ⟨rfl, h9⟩; subst w9)
            refine hK.out _ _ (SB.out _ ((Below.refl _ _).alloc (Nat.le_refl _) _).drew) (fun hHeld2 => ?_)
            clear hK K
            have R4' := hide3 (R3.out.kept (V' := (V3.alloc (.cells #[.pointer (some ⟨(s i).b, 0, none⟩)] 25)).drew) ((Below.refl _ _).alloc (Nat.le_refl _) _).drew)
            have G4' := hide3 (G3.out.trans (GK.below (V' := (V3.alloc (.cells #[.pointer (some ⟨(s i).b, 0, none⟩)] 25)).drew) ((Below.refl _ _).alloc (Nat.le_refl _) _).drew))
            have BA : Hid (Boxed (V3.alloc (.cells #[.pointer (some ⟨(s i).b, 0, none⟩)] 25)).drew V3.heap.size 25 (.pointer (some ⟨(s i).b, 0, none⟩))) := alloc_new V3 _
            refine wpAnyH_ready (rs := [12]) (by kernel_rfl) (by simp) ?_
            refine AllReadyH.cons rfl (fun K hK => ?_) AllReadyH.nil
            go_simp
            go_wp2_with (go_at_call 18; refine (OV.out _ _ _ V3.heap.size R4'.out.ws hl5 BA.out).mono ?_; rintro e9 V5 ⟨rfl, ov5, vs5, hN5⟩)
            have X5 := hide3 (R4'.out.nest CR.out HI0.out HT.out hN5)
            have S5 : (fun w' => w'.cell? ⟨b4, 0, none⟩ = some (.pointer (some ⟨wb, 0, none⟩)) ∧ w'.cell? ⟨b5, 0, none⟩ = some (.int .i64 (i : Int)) ∧ w'.cell? ⟨wb, i, none⟩ = some (.pointer (some ⟨(s i).b, 0, none⟩)) ∧ w'.cell? ⟨b7, 3, none⟩ = some (.int .i64 le)) V5 := ⟨cell_row X5.out.1.ob.h4 (i := 0) rfl, cell_row X5.out.1.ob.h5 (i := 0) rfl, X5.out.1.ws.ct hi, cell_row X5.out.1.ob.h7 (i := 3) (by rw [← HSV.out]; rfl)⟩
            clear hN5
            refine hK.out _ _ S5 (fun hHeld3 => ?_)
            clear hK K
            refine wpAnyH_ready (rs := [13]) (by kernel_rfl) (by simp) ?_
            refine AllReadyH.cons rfl (fun K hK => ?_) AllReadyH.nil
            go_simp
            refine hK.out _ _ S5 (fun hHeld4 => ?_)
            clear hK K
            refine wpAnyH_done (by kernel_rfl) ?_ _
            clear hHeld hHeld2 hHeld3 hHeld4 S5 c4 c5 c76 cti c73
            gi_wp2
            refine TAIL.out _ _ _ ov5 vs5 ?_ ?_ X5.out.1 (G4'.out.trans X5.out.2)
            · rfl
            · rfl
          · as_aux_lemma =>
            have e5 : (ii == 5) = false := by simpa using h5
            have c72 : V3.cell? ⟨b7, 2, none⟩ = some (.int .i64 vv) := cell_row R3.out.ob.h7 (i := 2) (by rw [← HSV.out]; rfl)
            have c77 : V3.cell? ⟨b7, 7, none⟩ = some k2 := cell_row R3.out.ob.h7 (i := 7) (by rw [← HSV.out]; rfl)
            have DO := hide3 (does5 (R3.out.ws.ct hi) (R3.out.ws.cr hi) hi (R3.out.ws.p i hi) (HK2.out.below R3.out.ws.bel) (R3.out.ws.f i hi) HK2.out.blt ii vv)
            clear h5 hov
            gi_wp2_with (gi_at_call 19; refine (CallsIn.inRound l (callsIn_wide.2 DO.out)).mono ?_; rintro e9 V5 ⟨rfl, x5, hp5, hn5, hf5⟩; have X5 := hide3 (R3.out.does CR.out HI0.out HT.out hp5 hn5 hf5); clear hp5 hn5 hf5)
            refine TAIL.out _ _ _ ov2 (vs' ++ [v2]) ?_ ?_ X5.out.1 (G3.out.trans X5.out.2)
            · rfl
            · rfl
        · as_aux_lemma =>
          have et : ((pre.length : Int) == (tt : Int)) = false := by simpa using ht
          clear ht
          refine wpIn_region_ext (by kernel_rfl) (by kernel_rfl) (by kernel_rfl) (fun ⟨_, _, h⟩ => h) ?_
          repeat (go_big_quiet_step (first | exact rfl | (go_at_call 6; with_reducible exact ext_call_same (PT4.out _))))
          refine wpQuiet_nil ?_
          intro V3 hw
          have R3 := hide3 (X2.out.1.kept (ext_of hw)).flag
          have G3 := hide3 (GV2.out.trans (GK.below (ext_of hw)))
          clear hw c76 c75 c10
          gi_wp2
          refine TAIL.out _ _ s' ov2 (vs' ++ [v2]) ?_ ?_ R3.out G3.out
          · rfl
          · rfl
    · as_aux_lemma =>
        rintro D xs V hD hall ⟨s', ov', vs', hR⟩ hK
        have hlen : xs.length = (s i).E.length := by have := hall.len; rw [List.length_map, HC.out.1] at this; exact this
        rw [hlen] at hR
        obtain ⟨qs, cs, rfl⟩ := ownsRow_shape hR.ob.was
        have SR := hide3 (hR.setR CR.out true)
        have HK : Hid (V.heap[D]? = some (.deferred (some []))) := hK
        have c9 : V.cell? ⟨b9, 0, none⟩ = some (.slice qs (s i).E.length cs) := cell_row hR.ob.h9 (i := 0) rfl
        have c10 : V.cell? ⟨b10, 0, none⟩ = some (.int .i64 ((s i).E.length : Int)) := cell_row hR.ob.h10 (i := 0) rfl
        have c8 : V.cell? ⟨b8, 0, none⟩ = some (.bool false) := cell_row hR.ob.h8 (i := 0) rfl
        have f8 := frz_row hR.ob.h8 0
        have ell : (((s i).E.length : Int) == ((s i).E.length : Int)) = true := by simp
        have hDB : Hid (D ≠ b8) := fun e => by
          have h1 := HK.out
          rw [e, hR.ob.h8] at h1
          cases h1
        have HL := HC.out.2.2.2.2
        clear hR hK hall hlen
        simp only [behindAct]
        go_wp2
        have KD : (V.setCell ⟨b8, 0, none⟩ (.bool true)).heap[D]? = some (.deferred (some [])) := (Below.heap_setCell _ _ _ _ hDB.out).trans HK.out
        refine ⟨by simp, .inl ⟨_, _, rfl, run_takeDeferred KD, ?_⟩⟩
        have cr : ((V.setCell ⟨b8, 0, none⟩ (.bool true)).putObj D (.deferred none)).cell? ⟨b8, 0, none⟩ = some (.bool true) := cell_row ((World.putObj_heap_other (Ne.symm hDB.out)).trans SR.out.1.ob.h8) (i := 0) rfl
        exact ⟨.bool true, by simp [results, Try.results18, go_sem, cr], rfl, s', ov', vs', (SR.out.1.grown CR.out (grownBy_putObj' _ D _) (fun r e => by cases e; exact ⟨hD, _, KD, rfl⟩)).over CR.out HL⟩
    · as_aux_lemma =>
        rintro D c pre V hD - ⟨rfl, kl, kf, n, s', ov', vs', hk, hR⟩ hK
        have hDB : D ≠ b8 := fun e => by
          have h1 := hK
          rw [e, hR.ob.h8] at h1
          cases h1
        simp only [behindAct]
        refine (wpIn_wide (n := 5)).2 ?_
        go_wp2
        refine ⟨by simp, .inl ⟨_, _, rfl, run_takeDeferred hK, ?_⟩⟩
        have cr : (V.putObj D (.deferred none)).cell? ⟨b8, 0, none⟩ = some (.bool true) := cell_row ((World.putObj_heap_other (Ne.symm hDB)).trans hR.ob.h8) (i := 0) rfl
        exact ⟨.bool true, by simp [results, Try.results18, go_sem, cr], rfl, s', ov', vs', (hR.grown CR.out (grownBy_putObj' _ D _) (fun r e => by cases e; exact ⟨hD, _, hK, rfl⟩)).over CR.out hk⟩

theorem over_zero {W0 : World} {wb i : Nat} {s : Nat → Sd} (hi : i < 2) {Bd : Nat} (hBd : Bd ≤ 50000000000) (le : Int) (wfl : (Lit.int .i64 le).wf = true) : OverOK W0 wb i s le Bd := fun V ov vs ax h hvs hax =>
  (over_in h hi hvs hBd ax hax 0 0 0 le (.slice none 0 0) 0 0 (.slice none 0 0) [] wfl rfl ⟨.inl ⟨none, 0, rfl, rfl⟩, by simp, .inl ⟨rfl, rfl⟩⟩ (fun q => by cases q)).mono fun _ _ ⟨h1, s', ov', vs', h2⟩ => ⟨h1, ov', vs', h2.nest⟩
theorem over_c {W0 W : World} {wb i : Nat} {s : Nat → Sd} {ov : Value} {vs : List Value} (h : WS W0 wb s ov vs W) (hi : i < 2) {Bd : Nat} (hvs : vs.length ≤ Bd) (hBd : Bd ≤ 40000000000) (ax : Nat) (hax : Boxed W ax 25 (.pointer (some ⟨(s i).b, 0, none⟩)))
    (kd on vv le : Int) (k1 : Value) (tn ii : Int) (k2 : Value) (key2 : List Int) (wfl : (Lit.int .i64 le).wf = true) (wft : (Lit.int .i64 tn).wf = true) (hk2 : ArgK W0 k2 key2) :
    Calls Try.prog 18 #[.pointer (some ⟨wb, 0, none⟩), .int .i64 (i : Int), fnV ax, .agg #[.int .i64 kd, .int .i64 on, .int .i64 vv, .int .i64 le, k1, .int .i64 tn, .int .i64 ii, k2]] W fun e W' => e = .returned (.bool true) ∧ ∃ s' ov' vs', OverP W0 wb i s ov vs ii W s' ov' vs' W' :=
  over_in h hi hvs (by omega) ax hax kd on vv le k1 tn ii k2 key2 wfl wft hk2 (fun _ => over_zero hi (by omega) le wfl)
end Go.Proofs.Ytmfljfedpdipiaa
