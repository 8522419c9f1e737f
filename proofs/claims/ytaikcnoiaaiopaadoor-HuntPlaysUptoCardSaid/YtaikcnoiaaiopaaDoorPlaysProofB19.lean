/-
  Parts of the proof.
-/
import Derived.Test.YtaikcnoiaaiopaaDoorPlaysProofB18
import Derived.RangeFuncNested
import Derived.RangeFuncBound
import Derived.RangeFuncCalls
import Derived.RangeFuncLeaves
import Derived.RangeFuncBox
import Derived.Shelf.Abstract
import Derived.Shelf.RegionOpen
import Derived.OwnWalkIn
import Derived.TacticsInMore
import Derived.LoopNIn
import Derived.LoopIn
import Derived.Maps.AppendAt
import Derived.Test.YtaikcnoiaaiopaaDoorPlaysProofB4
import Derived.Test.YtaikcnoiaaiopaaDoorPlaysProofB5
import Derived.Test.YtaikcnoiaaiopaaDoorPlaysProofB6
set_option linter.unusedSimpArgs false
namespace Go.Proofs.YtaikcnoiaaiopaaDoor
open Go Go.RowKit Go.Shelf
attribute [local go_sem] Oper.semAt_some
theorem z1_below_grown {W W' : World} (hb : Below W.heap.size W W') : W.grownBy W' none := ⟨hb.os, hb.tape, hb.output, hb.size, fun k hk _ => hb.block k hk⟩
def z1_SetAt (W : World) (B : Nat) (s : z1_S) : Prop := W.heap[B]? = some (.cells #[.int .u64 (z1_wd (s) 0), .int .u64 (z1_wd (s) 1), .int .u64 (z1_wd (s) 2), .int .u64 (z1_wd (s) 3)] 63 (0, 0))
theorem z1_SetAt.lt {W : World} {B : Nat} {s : z1_S} (h : z1_SetAt W B s) : B < W.heap.size := (Array.getElem?_eq_some_iff.1 h).1
theorem z1_SetAt.cell0 {W : World} {B : Nat} {s : z1_S} (h : z1_SetAt W B s) : W.cell? ⟨B, 0, none⟩ = some (.int .u64 (z1_wd s 0)) := by simp [World.cell?, show W.heap[B]? = _ from h]
theorem z1_SetAt.cell1 {W : World} {B : Nat} {s : z1_S} (h : z1_SetAt W B s) : W.cell? ⟨B, 1, none⟩ = some (.int .u64 (z1_wd s 1)) := by simp [World.cell?, show W.heap[B]? = _ from h]
theorem z1_SetAt.cell2 {W : World} {B : Nat} {s : z1_S} (h : z1_SetAt W B s) : W.cell? ⟨B, 2, none⟩ = some (.int .u64 (z1_wd s 2)) := by simp [World.cell?, show W.heap[B]? = _ from h]
theorem z1_SetAt.cell3 {W : World} {B : Nat} {s : z1_S} (h : z1_SetAt W B s) : W.cell? ⟨B, 3, none⟩ = some (.int .u64 (z1_wd s 3)) := by simp [World.cell?, show W.heap[B]? = _ from h]
theorem z1_SetAt.below {W W' : World} {B n₀ : Nat} {s : z1_S} (h : z1_SetAt W B s) (hb : Below n₀ W W') (hB : B < n₀) : z1_SetAt W' B s := (hb.block B hB).trans h
theorem z1_SetAt.new (W : World) (s : z1_S) : z1_SetAt (W.alloc (.cells #[.int .u64 (z1_wd (s) 0), .int .u64 (z1_wd (s) 1), .int .u64 (z1_wd (s) 2), .int .u64 (z1_wd (s) 3)] 63)) W.heap.size s := World.alloc_heap_new W _
theorem z1_SetAt.cells {W : World} {B : Nat} {s : z1_S} (h : z1_SetAt W B s) : W.cell? ⟨B, 0, none⟩ = some (.int .u64 (z1_wd s 0)) ∧ W.cell? ⟨B, 1, none⟩ = some (.int .u64 (z1_wd s 1)) ∧ W.cell? ⟨B, 2, none⟩ = some (.int .u64 (z1_wd s 2)) ∧ W.cell? ⟨B, 3, none⟩ = some (.int .u64 (z1_wd s 3)) := ⟨h.cell0, h.cell1, h.cell2, h.cell3⟩
theorem z1_SetAt.alloc {W : World} {B : Nat} {s : z1_S} (h : z1_SetAt W B s) (o : Obj) : z1_SetAt (W.alloc o) B s := (Below.heap_alloc W o B h.lt).trans h
theorem z1_SetAt.grown {W W' : World} {B : Nat} {s : z1_S} {row : Option Nat} (h : z1_SetAt W B s) (hg : W.grownBy W' row) (hne : some B ≠ row) : z1_SetAt W' B s := (hg.block B h.lt hne).trans h
theorem z1_SetAt.setCell {W : World} {B : Nat} {s : z1_S} (h : z1_SetAt W B s) {a : Addr} (hne : B ≠ a.block) (v : Value) : z1_SetAt (W.setCell a v) B s := (Below.heap_setCell W a v B hne).trans h
theorem z1_Tab.low {n₀ : Nat} {w w' : World} (h : z1_Tab w) (hb : Below n₀ w w') (h0 : 0 < n₀) : z1_Tab w' :=
  ⟨Nat.lt_of_lt_of_le h.1 hb.size, fun j hj => (hb.cell (p := ⟨0, j, none⟩) h0).trans (h.2 j hj)⟩
def z1_KpS (n₀ Bs : Nat) (s : z1_S) (A B : World) : Prop := Below n₀ A B ∧ (z1_SetAt A Bs s → z1_SetAt B Bs s)
theorem z1_kpS_t {n₀ Bs : Nat} {s : z1_S} {A B C : World} (h : z1_KpS n₀ Bs s A B) (k : z1_KpS n₀ Bs s B C) : z1_KpS n₀ Bs s A C := ⟨h.1.trans k.1, fun x => k.2 (h.2 x)⟩
theorem z1_kpS_b {n₀ Bs : Nat} {s : z1_S} {w : World} (hn : n₀ ≤ w.heap.size) (W : World) (l : Nat) (o o' : Obj) (hl : w.heap.size ≤ l) (h : W.heap[l]? = some o) (hc : o.isCells = false) (hw : o.isWalk = false) : z1_KpS n₀ Bs s W (W.putObj l o') :=
  ⟨belowK_b hn W l o o' hl h hc hw, fun x => by
    have hne : Bs ≠ l := fun e => by subst e; rw [show W.heap[Bs]? = _ from x] at h; cases h; cases hc
    exact (World.putObj_heap_other hne).trans x⟩
def z1_leftOf : Value → Value → Nat
  | .int _ b, .bool true => 256 - b.toNat
  | _, _ => 0
theorem z1_snext_spec {s : z1_S} {f : Int} {n : Nat} (h : z1_snext s f = some n) : f ≤ (n : Int) ∧ n < 256 ∧ s.getLsbD n = true := by
  have h1 := List.find?_some h
  have h2 := List.mem_of_find?_eq_some h
  simp at h1 h2
  exact ⟨h1.1, h2, h1.2⟩
theorem z1_left_lt (s : z1_S) (x : Int) (h0 : 0 ≤ x) (h1 : x ≤ 255) : z1_leftOf (.int .i64 (z1_nextV s (x + 1))) (.bool (z1_nextB s (x + 1))) < z1_leftOf (.int .i64 x) (.bool true) := by
  unfold z1_nextV z1_nextB
  cases h : z1_snext s (x + 1) with
  | none => show 0 < 256 - x.toNat; omega
  | some n =>
    obtain ⟨g1, g2, _⟩ := z1_snext_spec h
    show 256 - ((n : Int)).toNat < 256 - x.toNat
    omega
set_option maxRecDepth 100000 in
set_option maxHeartbeats 1000000 in
theorem z1_all1_in (n : Nat) (hn : 1 ≤ n) (l Bs n₀ : Nat) (s : z1_S) (hn₀ : 0 < n₀) (J Jx : List z1_B8 → World → Prop)
    (hJ : ∀ pre A B, J pre A → Below A.heap.size A B → J pre B)
    (hY : ∀ pre x W, J pre W → pre.length < (z1_elems s).length → YieldAt Fence.wide (n - 1) Tryd.prog l #[.int .i64 x.1] W fun e W' =>
      (e = .returned (.bool true) ∧ J (pre ++ [x]) W' ∧ z1_KpS n₀ Bs s W W') ∨ (e = .returned (.bool false) ∧ Jx (pre ++ [x]) W'))
    (W : World) (hS : z1_SetAt W Bs s) (hT : z1_Tab W) (hle : n₀ ≤ W.heap.size) (h0 : J [] W) :
    CallsIn Fence.wide n Tryd.prog 54 #[.func (.yield l) #[] #[], .pointer (some ⟨Bs, 0, none⟩)] W fun e W' => (∃ v, e = .returned v) ∧
      ((∃ ys, ys = z1_elems s ∧ J ys W') ∨ (∃ pre, pre <+: z1_elems s ∧ Jx pre W')) := by
  have hfn : ∀ f, Fence.wide.fn f := fun _ => trivial
  have hc0 := hS.cell0
  have hc1 := hS.cell1
  have hc2 := hS.cell2
  have hc3 := hS.cell3
  have HS : Hid (z1_SetAt W Bs s) := hS
  have HT : Hid (z1_Tab W) := hT
  clear hS hT
  refine callsIn_of_wp Tryd.func54 rfl trivial ?_ rfl
  simp only [Tryd.ntmps54, List.size_toArray, List.length_cons, List.length_nil, Nat.reduceAdd, Nat.reduceSub, Array.replicate_succ, Array.replicate_zero, List.push_toArray, List.append_toArray, List.nil_append, List.cons_append]
  gi_wp2_with (gi_at_call 42; refine (callsIn_wide.2 (z1_next_any s 0 _ HT.out)).mono ?_; rintro e w1 ⟨rfl, hb1⟩)
  have HS1 : Hid (z1_SetAt w1 Bs s) := HS.out.below hb1 HS.out.lt
  have HT1 : Hid (z1_Tab w1) := HT.out.below hb1
  have HL1 : Hid (n₀ ≤ w1.heap.size) := Nat.le_trans hle hb1.size
  have HJ1 : Hid (J [] w1) := hJ _ _ _ h0 hb1
  clear hc0 hc1 hc2 hc3 HS HT h0 hb1
  gi_loopw [3, 4] (fun b ok wr => ∃ (pre rest : List z1_B8), z1_elems s = pre ++ rest ∧ b = .int .i64 (z1_nextV s (z1_fr pre)) ∧ ok = .bool (z1_nextB s (z1_fr pre)) ∧ z1_SetAt wr Bs s ∧ z1_Tab wr ∧ n₀ ≤ wr.heap.size ∧ J pre wr)
    (fun b ok _ => z1_leftOf b ok)
  case atStart => exact ⟨[], z1_elems s, rfl, rfl, rfl, HS1.out, HT1.out, HL1.out, HJ1.out⟩
  case round =>
    obtain ⟨pre, rest, hx, rfl, rfl, hs, ht, hl, hj⟩ := hrel
    clear HS1 HT1 HL1 HJ1
    have HS : Hid (z1_SetAt wr Bs s) := hs
    have HT : Hid (z1_Tab wr) := ht
    clear hs ht
    cases rest with
    | nil =>
      have hx' : z1_elems s = pre := by simpa using hx
      have hne := z1_next_none s
      rw [hx'] at hne
      rw [hne.1, hne.2]
      have HX : Hid (z1_elems s = pre) := hx'
      clear hx hx' hne
      gi_wp2
      go_end0
      exact ⟨⟨_, rfl⟩, .inl ⟨pre, HX.out.symm, hj⟩⟩
    | cons x rest =>
      have hne := z1_next_some s pre x rest hx
      rw [hne.1, hne.2]
      clear hne
      have hxb := x.2
      obtain ⟨fn, tmps, assign, body, hy, hR⟩ := hY pre x wr hj (by rw [hx]; simp)
      have HX : Hid (z1_elems s = pre ++ x :: rest) := hx
      clear hx
      gi_wp2
      refine hR.mono ?_
      rintro e W3 (⟨rfl, hJ3, hk3⟩ | ⟨rfl, hJx3⟩)
      · have HS3 : Hid (z1_SetAt W3 Bs s) := hk3.2 HS.out
        have HT3 : Hid (z1_Tab W3) := HT.out.low hk3.1 hn₀
        have hd0 := HS3.out.cell0
        have hd1 := HS3.out.cell1
        have hd2 := HS3.out.cell2
        have hd3 := HS3.out.cell3
        have HL3 : Hid (n₀ ≤ W3.heap.size) := Nat.le_trans hl hk3.1.size
        have HJ3 : Hid (J (pre ++ [x]) W3) := hJ3
        clear hJ3 hk3 hj hY hy hR HT HS
        gi_wp2_with (gi_at_call 42; refine (callsIn_wide.2 (z1_next_any s _ _ HT3.out)).mono ?_; rintro e w4 ⟨rfl, hb4⟩)
        go_roundw
        case rel => exact ⟨pre ++ [x], rest, by rw [HX.out]; simp, by rw [z1_fr_snoc], by rw [z1_fr_snoc], HS3.out.below hb4 HS3.out.lt, HT3.out.below hb4, Nat.le_trans HL3.out hb4.size, hJ _ _ _ HJ3.out hb4⟩
        case measure => exact z1_left_lt s x.1 hxb.1 hxb.2
      · gi_wp2
        refine bodyPost_ret (results_none rfl _ _ _) rfl ?_
        exact ⟨⟨_, rfl⟩, .inr ⟨pre ++ [x], ⟨rest, by rw [HX.out]; simp⟩, hJx3⟩⟩
set_option maxHeartbeats 1000000 in
theorem z1_all_any (s : z1_S) (w : World) :
    Calls Tryd.prog 45 #[.agg #[.int .u64 (z1_wd (s) 0), .int .u64 (z1_wd (s) 1), .int .u64 (z1_wd (s) 2), .int .u64 (z1_wd (s) 3)]] w fun e w' => e = .returned (.func (.func 54) #[] #[.pointer (some ⟨w.heap.size, 0, none⟩)]) ∧ w' = w.alloc (.cells #[.int .u64 (z1_wd (s) 0), .int .u64 (z1_wd (s) 1), .int .u64 (z1_wd (s) 2), .int .u64 (z1_wd (s) 3)] 63) := by
  go_enter Tryd.func45, Tryd.ntmps45
  go_wp2
  go_ret
  exact ⟨rfl, rfl⟩
theorem z1_all_stops (n : Nat) (hn : 1 ≤ n) (Bs n₀ : Nat) (s : z1_S) (w : World) (hS : z1_SetAt w Bs s) (hT : z1_Tab w) (hn₀ : 0 < n₀) (hle : n₀ ≤ w.heap.size) :
    SeqStopsK Fence.wide n Tryd.prog 54 #[.pointer (some ⟨Bs, 0, none⟩)] (fun x : z1_B8 => #[Value.int .i64 x.1]) (z1_KpS n₀ Bs s) (fun ys => ys = z1_elems s) (fun pre => pre <+: z1_elems s) (z1_elems s).length w := fun l J Jx W hW hJ _ hY h0 =>
  z1_all1_in n hn l Bs n₀ s hn₀ J Jx (fun pre A B h hb => hJ pre A B none h (z1_below_grown hb) (fun r e => by cases e)) hY W (hS.below hW hS.lt) (hT.below hW) (Nat.le_trans hle hW.size) h0
end Go.Proofs.YtaikcnoiaaiopaaDoor
namespace Go.Proofs.YtaikcnoiaaiopaaDoor
open Go Go.RowKit
attribute [local go_sem] z1_idx0 z1_idx1 z1_idx2 z1_idx3 z1_u64_signed
def z1_srange (lo hi : Int) : z1_S := z1_sless (z1_sbelow (hi + 1)) (z1_sbelow lo)
def z1_rangeOk (lo hi : Int) : Prop := 0 ≤ lo ∧ lo ≤ hi ∧ hi ≤ 255
theorem z1_wd_nil0 (i : Nat) : z1_wd (0#256) i = 0 := by simp [z1_wd]
theorem z1_chain {w W W' : World} (h : Below w.heap.size w W) (hb : Below W.heap.size W W') : Below w.heap.size w W' := h.trans (hb.mono h.size)
theorem z1_set_cells {w W : World} {x0 z1_x1 z1_x2 z1_x3 : Value} {t : TypeId} (h : Below (w.alloc (.cells #[x0, z1_x1, z1_x2, z1_x3] t)).heap.size (w.alloc (.cells #[x0, z1_x1, z1_x2, z1_x3] t)) W) :
    W.cell? ⟨w.heap.size, 0, none⟩ = some x0 ∧ W.cell? ⟨w.heap.size, 1, none⟩ = some z1_x1 ∧ W.cell? ⟨w.heap.size, 2, none⟩ = some z1_x2 ∧ W.cell? ⟨w.heap.size, 3, none⟩ = some z1_x3 ∧ ∀ o, W.frozen? ⟨w.heap.size, o, none⟩ = false := by
  refine ⟨?_, ?_, ?_, ?_, fun o => ?_⟩
  · rw [h.cell (by simp)]; simp [go_sem]
  · rw [h.cell (by simp)]; simp [go_sem]
  · rw [h.cell (by simp)]; simp [go_sem]
  · rw [h.cell (by simp)]; simp [go_sem]
  · rw [h.frozen (by simp)]; simp [go_sem]
open Classical in
noncomputable def z1_rangeS (lo hi : Int) : z1_S := if z1_rangeOk lo hi then z1_srange lo hi else 0#256
open Classical in
noncomputable def z1_rangeE (lo hi : Int) : Int := if z1_rangeOk lo hi then 0 else 1
theorem z1_rangeS_ok {lo hi : Int} (h : z1_rangeOk lo hi) : z1_rangeS lo hi = z1_srange lo hi := if_pos h
theorem z1_rangeE_ok {lo hi : Int} (h : z1_rangeOk lo hi) : z1_rangeE lo hi = 0 := if_pos h
theorem z1_rangeE_bad {lo hi : Int} (h : ¬ z1_rangeOk lo hi) : z1_rangeE lo hi = 1 := if_neg h
theorem z1_rangeS_bad {lo hi : Int} (h : ¬ z1_rangeOk lo hi) : z1_rangeS lo hi = 0#256 := if_neg h
end Go.Proofs.YtaikcnoiaaiopaaDoor
