/-
  Parts of the proof.
-/
import Derived.Test.YtaikcnoiaaiopaaDoorPlaysProofB4
import Derived.BigQuiet
import Derived.Test.YtaikcnoiaaiopaaDoorPlaysProofB5
import Derived.Deep.RegionHeld3
import Derived.Deep.DrawnRows
import Derived.Test.YtaikcnoiaaiopaaDoorPlaysProofB0
import Derived.Test.YtaikcnoiaaiopaaDoorPlaysProofB3
set_option linter.unusedSimpArgs false
namespace Go.Proofs.YtaikcnoiaaiopaaDoor
open Go Go.RowKit
def z1_Ext (W : World) : Type := { w : World // Below W.heap.size W w }
theorem z1_wp_region_ext {P : Program} {id : Nat} {Q : Exit → Act → World → Prop} {a : Act} {w : World} {l : List Oper} (hm : P.follows .mixedOrders = true) (hB : Region.lexB .any l.toArray = true)
    (h : wpQuiet P l.toArray (fun w' => ∃ x : z1_Ext w, w' = x.val) (fun a' => ∀ w', (∃ x : z1_Ext w, w' = x.val) → Q .normal a' w') l a) : (Code.region id l.toArray true).wp P Q a w :=
  wp_region_quiet (C := fun w' => ∃ x : z1_Ext w, w' = x.val) hm hB ⟨⟨w.drew, (Below.refl _ _).drew⟩, rfl⟩ (by simpa using h)
theorem z1_ext_call {P : Program} {f : FuncId} {args : Array Value} {W : World} {x : z1_Ext W} {v : Value}
    (h : Calls P f args x.val fun e w' => e = .returned v ∧ Below x.val.heap.size x.val w') : Calls P f args x.val fun e w'' => e = .returned v ∧ ∃ y : z1_Ext W, w'' = y.val :=
  h.mono fun _ w' ⟨he, hb⟩ => ⟨he, ⟨w', x.2.trans (hb.mono x.2.size)⟩, rfl⟩
theorem z1_ext_call_same {P : Program} {f : FuncId} {args : Array Value} {W : World} {x : z1_Ext W} {v : Value}
    (h : Calls P f args x.val fun e w' => e = .returned v ∧ w' = x.val) : Calls P f args x.val fun e w'' => e = .returned v ∧ ∃ y : z1_Ext W, w'' = y.val :=
  h.mono fun _ _ ⟨he, hb⟩ => ⟨he, x, hb⟩
theorem z1_ext_cell {W : World} (x : z1_Ext W) (b o : Nat) (h : b < W.heap.size) : x.val.cell? ⟨b, o, none⟩ = W.cell? ⟨b, o, none⟩ := x.2.cell (p := ⟨b, o, none⟩) h
theorem z1_ext_frozen {W : World} (x : z1_Ext W) (b o : Nat) (h : b < W.heap.size) : x.val.frozen? ⟨b, o, none⟩ = W.frozen? ⟨b, o, none⟩ := x.2.frozen (p := ⟨b, o, none⟩) h
theorem z1_ext_below {W : World} (x : z1_Ext W) : Below W.heap.size W x.val := x.2
theorem z1_ext_size {W : World} (x : z1_Ext W) : W.heap.size ≤ x.val.heap.size := x.2.size
theorem z1_ext_of {W w1 : World} (h : ∃ x : z1_Ext W, w1 = x.val) : Below W.heap.size W w1 := by
  obtain ⟨x, rfl⟩ := h
  exact x.2
theorem z1_bcell {W w1 : World} (hb : Below W.heap.size W w1) : (∀ b o, b < W.heap.size → w1.cell? ⟨b, o, none⟩ = W.cell? ⟨b, o, none⟩) ∧ (∀ b o, b < W.heap.size → w1.frozen? ⟨b, o, none⟩ = W.frozen? ⟨b, o, none⟩) :=
  ⟨fun b o h => hb.cell (p := ⟨b, o, none⟩) h, fun b o h => hb.frozen (p := ⟨b, o, none⟩) h⟩
end Go.Proofs.YtaikcnoiaaiopaaDoor
namespace Go.Proofs.YtaikcnoiaaiopaaDoor
open Go Go.RowKit
theorem z1_eqg_set : Tryd.prog.eqGuardType Tryd.prog.depth 63 = false := by kernel_rfl
theorem z1_eqIn_words (x0 z1_x1 z1_x2 z1_x3 y0 y1 y2 y3 : Int) (w : World) :
    (Op.equalIn 10000 63 (.agg #[.int .u64 x0, .int .u64 z1_x1, .int .u64 z1_x2, .int .u64 z1_x3]) (.agg #[.int .u64 y0, .int .u64 y1, .int .u64 y2, .int .u64 y3])).run Tryd.prog w
      = .ok (x0 == y0 && z1_x1 == y1 && z1_x2 == y2 && z1_x3 == y3) w := by
  have u22 := Tryd.underlying61
  have a22 := Tryd.isAgg61
  have z22 := Tryd.sizeOf61
  have hu : Tryd.prog.underlying 63 = some (.array 4 61) := by kernel_rfl
  rw [show (10000 : Nat) = 9999 + 1 from rfl, Op.equalIn]
  simp only [Sem.run_bind, run_underlying hu, Result.andThen_ok]
  simp only [Std.Legacy.Range.forIn_eq_forIn_range', Std.Legacy.Range.size, Nat.sub_zero, Nat.add_sub_cancel, Nat.div_one, List.range'_succ, List.range'_zero, List.forIn_cons, List.forIn_nil]
  go_simp
  by_cases h0 : x0 = y0 <;> by_cases h1 : z1_x1 = y1 <;> by_cases h2 : z1_x2 = y2 <;> by_cases h3 : z1_x3 = y3 <;> simp [h0, h1, h2, h3]
theorem z1_wd_beq (a b : z1_S) : (z1_wd a 0 == z1_wd b 0 && z1_wd a 1 == z1_wd b 1 && z1_wd a 2 == z1_wd b 2 && z1_wd a 3 == z1_wd b 3) = decide (a = b) := by
  by_cases h : a = b
  · subst h; simp
  · rw [decide_eq_false h, Bool.eq_false_iff]
    intro g
    simp at g
    exact h (z1_wd_ext g.1.1.1 g.1.1.2 g.1.2 g.2)
theorem z1_eqIn_set (a b : z1_S) (w : World) : (Op.equalIn 10000 63 (.agg #[.int .u64 (z1_wd (a) 0), .int .u64 (z1_wd (a) 1), .int .u64 (z1_wd (a) 2), .int .u64 (z1_wd (a) 3)]) (.agg #[.int .u64 (z1_wd (b) 0), .int .u64 (z1_wd (b) 1), .int .u64 (z1_wd (b) 2), .int .u64 (z1_wd (b) 3)])).run Tryd.prog w = .ok (decide (a = b)) w := by
  rw [z1_eqIn_words, z1_wd_beq]
theorem z1_wd_nil (i : Nat) : z1_wd (0#256) i = 0 := by simp [z1_wd]
theorem z1_eqIn_nil (a : z1_S) (w : World) : (Op.equalIn 10000 63 (.agg #[.int .u64 (z1_wd (a) 0), .int .u64 (z1_wd (a) 1), .int .u64 (z1_wd (a) 2), .int .u64 (z1_wd (a) 3)]) (.agg #[.int .u64 0, .int .u64 0, .int .u64 0, .int .u64 0])).run Tryd.prog w = .ok (decide (a = 0#256)) w := by
  have := z1_eqIn_set a (0#256) w
  rwa [z1_wd_nil, z1_wd_nil, z1_wd_nil, z1_wd_nil] at this
end Go.Proofs.YtaikcnoiaaiopaaDoor
namespace Go.Proofs.YtaikcnoiaaiopaaDoor
open Go Go.RowKit
attribute [local go_sem] z1_idx0 z1_idx1 z1_idx2 z1_idx3 z1_u64_signed z1_ext_cell z1_eqg_set z1_eqIn_set z1_eqIn_nil
attribute [local go_sem ↓] Go.wp_at_zero Go.wp_at_succ
def z1_shas (s : z1_S) (b : Int) : Bool := !decide (z1_sand s (z1_sonly b) = 0#256)
set_option maxHeartbeats 1000000 in
theorem z1_with_any (s : z1_S) (b : Int) (w : World) :
    Calls Tryd.prog 47 #[.agg #[.int .u64 (z1_wd (s) 0), .int .u64 (z1_wd (s) 1), .int .u64 (z1_wd (s) 2), .int .u64 (z1_wd (s) 3)], .int .i64 b] w fun e w' => e = .returned (.agg #[.int .u64 (z1_wd (z1_sor s (z1_sonly b)) 0), .int .u64 (z1_wd (z1_sor s (z1_sonly b)) 1), .int .u64 (z1_wd (z1_sor s (z1_sonly b)) 2), .int .u64 (z1_wd (z1_sor s (z1_sonly b)) 3)]) ∧ Below w.heap.size w w' := by
  go_enter Tryd.func47, Tryd.ntmps47
  go_wp2
  go_region_held3 (fun w' => w'.cell? ⟨w.heap.size, 0, none⟩ = some (.int .u64 (z1_wd s 0)) ∧ w'.cell? ⟨w.heap.size, 1, none⟩ = some (.int .u64 (z1_wd s 1)) ∧ w'.cell? ⟨w.heap.size, 2, none⟩ = some (.int .u64 (z1_wd s 2)) ∧ w'.cell? ⟨w.heap.size, 3, none⟩ = some (.int .u64 (z1_wd s 3)))
    (refine ⟨?_, ?_, ?_, ?_⟩ <;> first | (simp [go_sem]; done) | (rw [hc2 _ _ (by omega)]; first | assumption | (rw [hc1 _ _ (by simp; omega)]; simp [go_sem])) | (rw [hc1 _ _ (by simp; omega)]; simp [go_sem]) | go_keep)
    (first
      | (go_at_call 55; refine (z1_only_any b _).mono ?_; rintro e w1 ⟨rfl, hb1⟩; obtain ⟨hc1, hf1⟩ := z1_bcell hb1; have hz1 : w.heap.size + 1 < w1.heap.size := by have := hb1.size; simp at this; omega)
      | (go_at_call 46; refine (z1_or_any s (z1_sonly b) _).mono ?_; rintro e w2 ⟨rfl, hb2⟩; obtain ⟨hc2, hf2⟩ := z1_bcell hb2; have hz2 : w.heap.size + 1 < w2.heap.size := by have := hb2.size; omega))
  have e0 : ∀ o, o < 4 → w2.cell? ⟨w.heap.size + 1, o, none⟩ = some (.int .u64 0) := fun o ho => by
    rw [hc2 _ _ (by omega), hc1 _ _ (by simp)]
    match o, ho with
    | 0, _ => simp [go_sem]
    | 1, _ => simp [go_sem]
    | 2, _ => simp [go_sem]
    | 3, _ => simp [go_sem]
  have c0 := e0 0 (by decide)
  have c1 := e0 1 (by decide)
  have c2 := e0 2 (by decide)
  have c3 := e0 3 (by decide)
  have HB : Below w.heap.size w w2 := ((((Below.refl _ _).alloc (Nat.le_refl _) _).alloc (by simp) _).drew.trans (hb1.mono (by simp; omega))).trans (hb2.mono (by omega))
  clear hc1 hc2 hf1 hf2 e0
  go_wp2
  exact bodyPost_ret (v := .agg #[.int .u64 (z1_wd (z1_sor s (z1_sonly b)) 0), .int .u64 (z1_wd (z1_sor s (z1_sonly b)) 1), .int .u64 (z1_wd (z1_sor s (z1_sonly b)) 2), .int .u64 (z1_wd (z1_sor s (z1_sonly b)) 3)]) (by simp [results, Tryd.results47, go_sem, c0, c1, c2, c3]) rfl ⟨rfl, (((HB.setCell (by simp) _).setCell (by simp) _).setCell (by simp) _).setCell (by simp) _⟩
end Go.Proofs.YtaikcnoiaaiopaaDoor
namespace Go.Proofs.YtaikcnoiaaiopaaDoor
open Go Go.RowKit
structure Pt where
  nb : List Nat → Nat
  rb : List Nat → Nat → Nat
structure Kn where
  ws : z1_S
  bk : Option (List Nat)
  wh : Option (List Nat)
abbrev nodeP (T : Pt) (r : List Nat) : Value := .pointer (some ⟨T.nb r, 0, none⟩)
def ndA (T : Pt) : Option (List Nat) → Option Addr
  | none => none
  | some r => some ⟨T.nb r, 0, none⟩
abbrev ndV (T : Pt) (o : Option (List Nat)) : Value := .pointer (ndA T o)
open Classical in
noncomputable def rowV (T : Pt) (R : List Nat → Nat → Prop) (r : List Nat) (u : Nat) : Value := if R r u then .pointer (some ⟨T.rb r u, 0, none⟩) else .pointer none
open Classical in
noncomputable def kidV (T : Pt) (D : List Nat → Prop) (r : List Nat) (b : Nat) : Value := if D (b :: r) then nodeP T (b :: r) else .pointer none
structure NodeC (T : Pt) (R : List Nat → Nat → Prop) (k : Kn) (r : List Nat) (cur : Array Value) : Prop where
  size : cur.size = 23
  rows : ∀ u, u < 16 → cur[u]? = some (rowV T R r u)
  dep : cur[16]? = some (.int .i64 r.length)
  w0 : cur[17]? = some (.int .u64 (z1_wd k.ws 0))
  w1 : cur[18]? = some (.int .u64 (z1_wd k.ws 1))
  w2 : cur[19]? = some (.int .u64 (z1_wd k.ws 2))
  w3 : cur[20]? = some (.int .u64 (z1_wd k.ws 3))
  bk : cur[21]? = some (ndV T k.bk)
  wh : cur[22]? = some (ndV T k.wh)
structure TrM (base : Nat) (w : World) (T : Pt) (D : List Nat → Prop) (R : List Nat → Nat → Prop) (K : List Nat → Kn) : Prop where
  clo : Clo D
  byte : ∀ b r, D (b :: r) → b < 256 ∧ R r (b / 16)
  rup : ∀ r u, R r u → D r ∧ u < 16
  node : ∀ r, D r → ∃ cur, w.heap[T.nb r]? = some (.cells cur 65 (0, 0)) ∧ NodeC T R (K r) r cur
  row : ∀ r u, R r u → ∃ cur, w.heap[T.rb r u]? = some (.cells cur 112 (0, 0)) ∧ cur.size = 16 ∧ ∀ l, l < 16 → cur[l]? = some (kidV T D r (u * 16 + l))
  inj : ∀ r r', D r → D r' → T.nb r = T.nb r' → r = r'
  rinj : ∀ r u r' u', R r u → R r' u' → T.rb r u = T.rb r' u' → r = r' ∧ u = u'
  bkd : ∀ r x, D r → (K r).bk = some x → D x
  whd : ∀ r x, D r → (K r).wh = some x → D x
  few : ∀ r, D r → r.length ≤ 1000
  bn : ∀ r, D r → base ≤ T.nb r
  br : ∀ r u, R r u → base ≤ T.rb r u
def TrK (w w' : World) : Prop := ∀ (k : Nat) (cur : Array Value) (t : TypeId), (t = 65 ∨ t = 112) → w.heap[k]? = some (.cells cur t (0, 0)) → w'.heap[k]? = some (.cells cur t (0, 0))
theorem TrK.refl (w : World) : TrK w w := fun _ _ _ _ h => h
theorem TrK.trans {a b c : World} (h : TrK a b) (k : TrK b c) : TrK a c := fun i cur t ht hi => k i cur t ht (h i cur t ht hi)
theorem TrK.below {a b : World} (h : Below a.heap.size a b) : TrK a b := fun _ _ _ _ hk => (h.block _ (lt_of_heap hk)).trans hk
theorem TrK.fr {S : Nat → Prop} {a b : World} (h : Fr S a b) (hs : ∀ k cur t, S k → a.heap[k]? = some (.cells cur t (0, 0)) → ¬ (t = 65 ∨ t = 112)) : TrK a b := fun k cur t ht hk => (h.block k (lt_of_heap hk) (fun q => hs k cur t q hk ht)).trans hk
theorem TrK.set {w : World} {k j : Nat} {cur : Array Value} {t : TypeId} {fr : Nat × Nat} (h : w.heap[k]? = some (.cells cur t fr)) (h1 : t ≠ 65) (h2 : t ≠ 112) (v : Value) : TrK w (w.setCell ⟨k, j, none⟩ v) := fun i _ t' ht' hi => by
  have hne : i ≠ k := fun e => by
    subst e; rw [h] at hi; injection hi with hi; injection hi with _ hi _
    rcases ht' with rfl | rfl
    · exact h1 hi
    · exact h2 hi
  exact (Below.heap_setCell _ _ _ _ hne).trans hi
theorem TrK.tkeep {N : Nat → TypeId → Prop} {a b : World} (h : TKeep N a b) (hn : ∀ k t, (t = 65 ∨ t = 112) → N k t) : TrK a b := fun k cur t ht hk => h.same k cur t (0, 0) (hn k t ht) hk
section
variable {base : Nat} {w w' : World} {T : Pt} {D : List Nat → Prop} {R : List Nat → Nat → Prop} {K : List Nat → Kn}
theorem TrM.keep (h : TrM base w T D R K) (hk : TrK w w') : TrM base w' T D R K :=
  ⟨h.clo, h.byte, h.rup, fun r hr => by obtain ⟨cur, h1, h2⟩ := h.node r hr; exact ⟨cur, hk _ _ _ (.inl rfl) h1, h2⟩,
    fun r u hr => by obtain ⟨cur, h1, h2⟩ := h.row r u hr; exact ⟨cur, hk _ _ _ (.inr rfl) h1, h2⟩, h.inj, h.rinj, h.bkd, h.whd, h.few, h.bn, h.br⟩
theorem TrM.below (h : TrM base w T D R K) (hb : Below w.heap.size w w') : TrM base w' T D R K := h.keep (TrK.below hb)
theorem TrM.lt (h : TrM base w T D R K) {r : List Nat} (hr : D r) : T.nb r < w.heap.size := by
  obtain ⟨cur, h1, _⟩ := h.node r hr
  exact lt_of_heap h1
theorem TrM.cRow (h : TrM base w T D R K) {r : List Nat} (hr : D r) {u : Nat} (hu : u < 16) : w.cell? ⟨T.nb r, u, none⟩ = some (rowV T R r u) := by
  obtain ⟨cur, h1, h2⟩ := h.node r hr
  exact cell_row h1 (h2.rows u hu)
theorem TrM.cDep (h : TrM base w T D R K) {r : List Nat} (hr : D r) : w.cell? ⟨T.nb r, 16, none⟩ = some (.int .i64 r.length) := by
  obtain ⟨cur, h1, h2⟩ := h.node r hr
  exact cell_row h1 h2.dep
theorem TrM.cWs (h : TrM base w T D R K) {r : List Nat} (hr : D r) : w.cell? ⟨T.nb r, 17, none⟩ = some (.int .u64 (z1_wd (K r).ws 0)) ∧ w.cell? ⟨T.nb r, 18, none⟩ = some (.int .u64 (z1_wd (K r).ws 1)) ∧ w.cell? ⟨T.nb r, 19, none⟩ = some (.int .u64 (z1_wd (K r).ws 2)) ∧ w.cell? ⟨T.nb r, 20, none⟩ = some (.int .u64 (z1_wd (K r).ws 3)) := by
  obtain ⟨cur, h1, h2⟩ := h.node r hr
  exact ⟨cell_row h1 h2.w0, cell_row h1 h2.w1, cell_row h1 h2.w2, cell_row h1 h2.w3⟩
theorem TrM.cBk (h : TrM base w T D R K) {r : List Nat} (hr : D r) : w.cell? ⟨T.nb r, 21, none⟩ = some (ndV T (K r).bk) := by
  obtain ⟨cur, h1, h2⟩ := h.node r hr
  exact cell_row h1 h2.bk
theorem TrM.cWh (h : TrM base w T D R K) {r : List Nat} (hr : D r) : w.cell? ⟨T.nb r, 22, none⟩ = some (ndV T (K r).wh) := by
  obtain ⟨cur, h1, h2⟩ := h.node r hr
  exact cell_row h1 h2.wh
theorem TrM.cKid (h : TrM base w T D R K) {r : List Nat} {u l : Nat} (hr : R r u) (hl : l < 16) : w.cell? ⟨T.rb r u, l, none⟩ = some (kidV T D r (u * 16 + l)) := by
  obtain ⟨cur, h1, _, h2⟩ := h.row r u hr
  exact cell_row h1 (h2 l hl)
theorem TrM.frz (h : TrM base w T D R K) {r : List Nat} (hr : D r) (i : Nat) : w.frozen? ⟨T.nb r, i, none⟩ = false := by
  obtain ⟨cur, h1, _⟩ := h.node r hr
  exact frz_row h1 i
theorem TrM.frzR (h : TrM base w T D R K) {r : List Nat} {u : Nat} (hr : R r u) (i : Nat) : w.frozen? ⟨T.rb r u, i, none⟩ = false := by
  obtain ⟨cur, h1, _⟩ := h.row r u hr
  exact frz_row h1 i
end
theorem shr4 (b : Nat) : (b : Int) / 16 = ((b / 16 : Nat) : Int) := by omega
theorem rem16 (b : Nat) : (b : Int).tmod 16 = ((b % 16 : Nat) : Int) := by
  rw [Int.tmod_eq_emod_of_nonneg (by omega)]; omega
set_option maxRecDepth 100000 in
set_option maxHeartbeats 2000000 in
theorem kid_c {base : Nat} {w : World} {T : Pt} {D : List Nat → Prop} {R : List Nat → Nat → Prop} {K : List Nat → Kn} (h : TrM base w T D R K) {r : List Nat} (hr : D r) {b : Nat} (hb : b < 256) :
    Calls Tryd.prog 49 #[nodeP T r, .int .u8 (b : Int)] w fun e w' => e = .returned (kidV T D r b) ∧ w' = w := by
  have H : Hid (TrM base w T D R K) := h
  have hu : b / 16 < 16 := by omega
  have hl : b % 16 < 16 := by omega
  have c1 := h.cRow hr hu
  have hdm : b / 16 * 16 + b % 16 = b := by omega
  clear h
  by_cases hR : R r (b / 16)
  · have c2 := H.out.cKid hR hl
    rw [hdm] at c2
    rw [rowV, if_pos hR] at c1
    go_enter Tryd.func49, Tryd.ntmps49
    go_wp2
    go_ret
    exact ⟨rfl, rfl⟩
  · rw [rowV, if_neg hR] at c1
    have hd : ¬ D (b :: r) := fun q => hR (H.out.byte b r q).2
    go_enter Tryd.func49, Tryd.ntmps49
    go_wp2
    go_ret
    exact ⟨by rw [kidV, if_neg hd]; rfl, rfl⟩
end Go.Proofs.YtaikcnoiaaiopaaDoor
