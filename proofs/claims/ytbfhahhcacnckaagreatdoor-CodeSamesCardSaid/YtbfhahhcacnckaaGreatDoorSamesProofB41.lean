/-
  Parts of the proof.
-/
import Derived.Test.YtbfhahhcacnckaaGreatDoorSamesProofB39
import Derived.Test.YtbfhahhcacnckaaGreatDoorSamesProofB40
import Derived.RangeFuncNested
import Derived.RangeFuncBound
import Derived.RangeFuncCalls
import Derived.RangeFuncLeaves
import Derived.RangeFuncBox
import Derived.Shelf.Abstract
import Derived.Shelf.RegionOpen
import Derived.OwnWalkIn
import Derived.TacticsInMore
import Derived.LoopNIn
import Derived.LoopIn
import Derived.Maps.AppendAt
set_option linter.unusedSimpArgs false
namespace Go.Proofs.YtbfhahhcacnckaaGreatDoor
open Go Go.RowKit Go.Shelf
attribute [local go_sem] Oper.semAt_some
theorem below_grown {W W' : World} (hb : Below W.heap.size W W') : W.grownBy W' none := ⟨hb.os, hb.tape, hb.output, hb.size, fun k hk _ => hb.block k hk⟩
structure CKeep (N : Nat) (W W' : World) : Prop where
  size : W.heap.size ≤ W'.heap.size
  same : ∀ (k : Nat) (cur : Array Value) (t : TypeId) (fr : Nat × Nat), N ≤ k → W.heap[k]? = some (.cells cur t fr) → W'.heap[k]? = some (.cells cur t fr)
theorem ck_t {N : Nat} {A B C : World} (h : CKeep N A B) (k : CKeep N B C) : CKeep N A C := ⟨Nat.le_trans h.size k.size, fun i cur t fr hi hc => k.same i cur t fr hi (h.same i cur t fr hi hc)⟩
theorem ck_b {N : Nat} (W : World) (l : Nat) (o o' : Obj) (_ : N ≤ l) (h : W.heap[l]? = some o) (hc : o.isCells = false) (_ : o.isWalk = false) : CKeep N W (W.putObj l o') :=
  ⟨(grownBy_putObj' W l o').size, fun k cur t fr _ hk => by
    have hne : k ≠ l := fun e => by subst e; rw [hk] at h; cases h; cases hc
    exact (World.putObj_heap_other hne).trans hk⟩
theorem Fr.ckeep {S : Nat → Prop} {N : Nat} {W W' : World} (h : Fr S W W') (hs : ∀ k, S k → k < N) : CKeep N W W' :=
  ⟨h.size, fun k cur t fr hk hc => (h.block k (lt_of_heap hc) (fun q => by have := hs k q; omega)).trans hc⟩
theorem Fr.keepsFrom {S : Nat → Prop} {N : Nat} {W W' : World} (h : Fr S W W') (hs : ∀ k, S k → k < N) : KeepsFrom N W W' :=
  ⟨h.size, fun k o hk hc _ => (h.block k (lt_of_heap hc) (fun q => by have := hs k q; omega)).trans hc⟩
set_option maxHeartbeats 1000000 in
theorem all_c (b : Nat) (w : World) :
    Calls Tryz.prog 50 #[.pointer (some ⟨b, 0, none⟩)] w fun e w' => e = .returned (.func (.func 61) #[] #[.pointer (some ⟨w.heap.size, 0, none⟩)]) ∧ w' = w.alloc (.cells #[.pointer (some ⟨b, 0, none⟩)] 70) := by
  go_enter Tryz.func50, Tryz.ntmps50
  go_wp2
  go_ret
  exact ⟨rfl, rfl⟩
theorem m2_take_next (L : List Int) (k : Nat) (h : k < L.length) : L.take (k + 1) = L.take k ++ [L[k]] := by
  rw [List.take_add_one, List.getElem?_eq_getElem h]; rfl
set_option maxRecDepth 100000 in
set_option maxHeartbeats 2000000 in
theorem all1_in (n : Nat) (hn : 1 ≤ n) (l B b o p room : Nat) (L : List Int) (N : Nat) (J Jx : List Int → World → Prop)
    (hJ : ∀ pre A B, J pre A → Below A.heap.size A B → J pre B)
    (hY : ∀ pre x W, J pre W → pre.length < L.length → YieldAt Fence.wide (n - 1) Tryz.prog l #[.int .i64 x] W fun e W' =>
      (e = .returned (.bool true) ∧ J (pre ++ [x]) W' ∧ CKeep N W W') ∨ (e = .returned (.bool false) ∧ Jx (pre ++ [x]) W'))
    (W : World) (hB : W.cell? ⟨B, 0, none⟩ = some (.pointer (some ⟨b, 0, none⟩))) (hM : MAt W b o p room L) (hN : N ≤ W.heap.size) (h0 : J [] W) :
    CallsIn Fence.wide n Tryz.prog 61 #[.func (.yield l) #[] #[], .pointer (some ⟨B, 0, none⟩)] W fun e W' => (∃ v, e = .returned v) ∧
      ((∃ ys, ys = L ∧ J ys W') ∨ (∃ pre, pre <+: L ∧ Jx pre W')) := by
  have hfn : ∀ f, Fence.wide.fn f := fun _ => trivial
  have c0 := hM.cellb0
  have HM : Hid (MAt W b o p room L) := hM
  have hl := hM.len
  have hr := hM.hr
  have HC : Hid (∀ j, j < L.length → W.cell? ⟨o, 0 + j, none⟩ = some (.int .i64 (L.getD j 0))) := fun j hj => by
    rw [Nat.zero_add, HM.out.cello (List.getElem?_eq_getElem hj)]; simp [List.getD, hj]
  clear hM
  refine callsIn_of_wp Tryz.func61 rfl trivial ?_ rfl
  simp only [Tryz.ntmps61, List.size_toArray, List.length_cons, List.length_nil, Nat.reduceAdd, Nat.reduceSub, Array.replicate_succ, Array.replicate_zero, List.push_toArray, List.append_toArray, List.nil_append, List.cons_append]
  gi_wp2_with (gi_at_call 62; refine (callsIn_wide.2 (Tryz.slices_Clone_int o 0 L.length room L W (Nat.le_refl _) (by omega) HC.out)).mono ?_; rintro e w1 ⟨v, rfl, hown, hnil, hb1⟩; obtain ⟨g, cap, cur, rfl, hg0, hg1, hg2, hg3, hg4, hg5⟩ := hown.2.resolve_left (fun q => hnil q.1))
  have HJ1 : Hid (J [] w1) := hJ _ _ _ h0 hb1
  have HN1 : Hid (N ≤ g) := Nat.le_trans hN hg0
  have HG1 : Hid (w1.heap[g]? = some (.cells cur 3 (0, 0))) := hg1
  have HT : Hid (cur.toList.take L.length = ints L) := (show cur.toList.take L.length = ints L from by simpa [ints] using hg5)
  clear hb1 hown hnil hg0 hg1 hg4 hg5 c0 HC h0 hB
  unfold maxLen at hg3
  gi_loopw [11] (fun i wr => ∃ k : Nat, k ≤ L.length ∧ i = .int .i64 k ∧ wr.heap[g]? = some (.cells cur 3 (0, 0)) ∧ J (L.take k) wr) (fun i _ => L.length - (intOf i).toNat)
  case atStart => exact ⟨0, Nat.zero_le _, rfl, HG1.out, by simpa using HJ1.out⟩
  case round =>
    obtain ⟨k, hk, rfl, hg, hj⟩ := hrel
    have HG : Hid (wr.heap[g]? = some (.cells cur 3 (0, 0))) := hg
    have HJ : Hid (J (L.take k) wr) := hj
    clear HJ1 HG1 hg hj
    by_cases hlt : k < L.length
    · have HX : Hid (L.take (k + 1) = L.take k ++ [L[k]]) := m2_take_next L k hlt
      have hcell : wr.cell? ⟨g, k, none⟩ = some (.int .i64 L[k]) := by
        have e := ints_get (List.getElem?_eq_getElem hlt)
        rw [← HT.out, List.getElem?_take_of_lt hlt] at e
        have : cur[k]? = some (.int .i64 L[k]) := by simpa using e
        simp [World.cell?, HG.out, this]
      have HP : Hid (L.take (k + 1) <+: L) := List.take_prefix _ _
      obtain ⟨x, hx⟩ : ∃ x, L[k] = x := ⟨_, rfl⟩
      rw [hx] at hcell HX
      clear hx
      have i0 : (0 : Int) ≤ (k : Int) := by omega
      have i1 : (k : Int) < (L.length : Int) := by omega
      obtain ⟨fn, tmps, assign, body, hy, hR⟩ := hY (L.take k) x wr HJ.out (by simp; omega)
      gi_wp2
      refine hR.mono ?_
      rintro e W3 (⟨rfl, hJ3, hk3⟩ | ⟨rfl, hJx3⟩)
      · have HG3 : Hid (W3.heap[g]? = some (.cells cur 3 (0, 0))) := hk3.same _ _ _ _ HN1.out HG.out
        have HJ3 : Hid (J (L.take k ++ [x]) W3) := hJ3
        clear hJ3 hk3 hY hy hR
        gi_wp2
        go_roundw
        case rel => exact ⟨k + 1, by omega, by go_num, HG3.out, by rw [HX.out]; exact HJ3.out⟩
        case measure => simp [intOf]; omega
      · gi_wp2
        refine bodyPost_ret (results_none rfl _ _ _) rfl ?_
        exact ⟨⟨_, rfl⟩, .inr ⟨L.take k ++ [x], by rw [← HX.out]; exact HP.out, hJx3⟩⟩
    · have hke : L.take k = L := List.take_of_length_le (by omega)
      rw [hke] at HJ
      clear hke
      gi_wp2
      go_end0
      exact ⟨⟨_, rfl⟩, .inl ⟨L, rfl, HJ.out⟩⟩
theorem all_stops (n : Nat) (hn : 1 ≤ n) (B b o p room : Nat) (L : List Int) (w : World) (hB : Boxed w B 70 (.pointer (some ⟨b, 0, none⟩))) (hM : MAt w b o p room L) :
    SeqStopsK Fence.wide n Tryz.prog 61 #[.pointer (some ⟨B, 0, none⟩)] (fun x : Int => #[Value.int .i64 x]) (CKeep w.heap.size) (fun ys => ys = L) (fun pre => pre <+: L) L.length w := fun l J Jx W hW hJ _ hY h0 =>
  all1_in n hn l B b o p room L w.heap.size J Jx (fun pre A B h hb => hJ pre A B none h (below_grown hb) (fun r e => by cases e)) hY W ((hW.cell (p := ⟨B, 0, none⟩) hB.lt).trans hB.cell) (hM.kept hW) hW.size h0
def roundAct (a : Act) (q d : Nat) (x : Int) : Act := { tmps := (a.tmps.setIfInBounds q (.int .i64 x)).setIfInBounds d (.int .i64 x), defers := [] }
def behindAct (a : Act) (D : Nat) : Act := { a with defers := { target := .collected D, args := #[] } :: a.defers }
theorem all_range {g : Operand} {ps : Array Tmp} {assign body : Code} {Q : Exit → Act → World → Prop} {a : Act} {w : World} {n : Nat} (hn : 3 ≤ n) (d q : Nat) (B b o p room : Nat) (L : List Int)
    (hg : a.eval g = .func (.func 61) #[] #[.pointer (some ⟨B, 0, none⟩)]) (hps : ps = #[q]) (hB : Boxed w B 70 (.pointer (some ⟨b, 0, none⟩))) (hM : MAt w b o p room L)
    (I : List Int → World → Prop) (Ix : Code → List Int → World → Prop) (hI : OwnFrom w.heap.size I) (hIx : ∀ c, OwnFrom w.heap.size (Ix c)) (h0 : I [] w)
    (hassign : ∀ (l : Nat) (x : Int) (W : World) (K : Act → World → Prop), K (roundAct a q d x) W →
      assign.wpIn (Fence.wide.inRound l) (n - 1 - 1) Tryz.prog (Exit.then K (fun _ _ _ => False)) { tmps := a.tmps.setIfInBounds q (.int .i64 x), defers := [] } W)
    (hbody : ∀ (l : Nat) (pre : List Int) (x : Int) (W : World), I pre W → pre.length < L.length →
      body.wpIn (Fence.wide.inRound l) (n - 1 - 1) Tryz.prog (ownPostG w.heap.size (CKeep w.heap.size) I Ix (pre ++ [x]) W) (roundAct a q d x) W)
    (hdone : ∀ (D : Nat) (W : World), w.heap.size ≤ D → I L W → W.heap[D]? = some (.deferred (some [])) → Q .normal (behindAct a D) W)
    (hstop : ∀ (D : Nat) (c : Code) (pre : List Int) (W : World), w.heap.size ≤ D → pre <+: L → Ix c pre W → W.heap[D]? = some (.deferred (some [])) → c.wpIn Fence.wide n Tryz.prog Q (behindAct a D) W) :
    (Code.rangeFunc g ps assign body).wpIn Fence.wide n Tryz.prog Q a w := by
  subst hps
  refine wpIn_rangeFunc_ownG rfl (by omega) (gf := 61) (lb := #[.pointer (some ⟨B, 0, none⟩)]) hg trivial (enters_of Tryz.func61 (by kernel_rfl) rfl)
    (all_stops (n - 1) (by omega) B b o p room L w hB hM) ck_t ck_b (Below.refl _ _) (fun _ => rfl) I Ix hI hIx h0 (roundAct a q d) (fun l x W K hK => by have := hassign l x W K hK; simpa using this) hbody ?_ hstop
  rintro D xs W hD rfl hi hK
  exact hdone D W hD hi hK
end Go.Proofs.YtbfhahhcacnckaaGreatDoor
