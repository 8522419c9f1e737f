/-
  Parts of the proof.
-/
import Derived.Test.YtbfhahhcacnckaaGreatDoorUnreachedProofB34
import Derived.Test.YtbfhahhcacnckaaGreatDoorUnreachedProofB35
import Derived.RangeFuncNested
import Derived.RangeFuncBound
import Derived.RangeFuncCalls
import Derived.RangeFuncLeaves
import Derived.RangeFuncBox
import Derived.Shelf.Abstract
import Derived.Shelf.RegionOpen
import Derived.OwnWalkIn
import Derived.TacticsInMore
import Derived.LoopNIn
import Derived.LoopIn
import Derived.Maps.AppendAt
import Derived.Sort.OwnSortedInts
set_option linter.unusedSimpArgs false
namespace Go.Proofs.YtbfhahhcacnckaaGreatDoor
open Go Go.RowKit Go.Shelf
attribute [local go_sem] Oper.semAt_some
theorem below_grown {W W' : World} (hb : Below W.heap.size W W') : W.grownBy W' none := ⟨hb.os, hb.tape, hb.output, hb.size, fun k hk _ => hb.block k hk⟩
structure CKeep (N : Nat) (W W' : World) : Prop where
  size : W.heap.size ≤ W'.heap.size
  same : ∀ (k : Nat) (cur : Array Value) (t : TypeId) (fr : Nat × Nat), N ≤ k → W.heap[k]? = some (.cells cur t fr) → W'.heap[k]? = some (.cells cur t fr)
theorem ck_t {N : Nat} {A B C : World} (h : CKeep N A B) (k : CKeep N B C) : CKeep N A C := ⟨Nat.le_trans h.size k.size, fun i cur t fr hi hc => k.same i cur t fr hi (h.same i cur t fr hi hc)⟩
theorem ck_b {N : Nat} (W : World) (l : Nat) (o o' : Obj) (_ : N ≤ l) (h : W.heap[l]? = some o) (hc : o.isCells = false) (_ : o.isWalk = false) : CKeep N W (W.putObj l o') :=
  ⟨(grownBy_putObj' W l o').size, fun k cur t fr _ hk => by
    have hne : k ≠ l := fun e => by subst e; rw [hk] at h; cases h; cases hc
    exact (World.putObj_heap_other hne).trans hk⟩
theorem Fr.ckeep {S : Nat → Prop} {N : Nat} {W W' : World} (h : Fr S W W') (hs : ∀ k, S k → k < N) : CKeep N W W' :=
  ⟨h.size, fun k cur t fr hk hc => (h.block k (lt_of_heap hc) (fun q => by have := hs k q; omega)).trans hc⟩
theorem Fr.keepsFrom {S : Nat → Prop} {N : Nat} {W W' : World} (h : Fr S W W') (hs : ∀ k, S k → k < N) : KeepsFrom N W W' :=
  ⟨h.size, fun k o hk hc _ => (h.block k (lt_of_heap hc) (fun q => by have := hs k q; omega)).trans hc⟩
set_option maxHeartbeats 1000000 in
theorem all_c (b : Nat) (w : World) :
    Calls Tryz.prog 50 #[.pointer (some ⟨b, 0, none⟩)] w fun e w' => e = .returned (.func (.func 61) #[] #[.pointer (some ⟨w.heap.size, 0, none⟩)]) ∧ w' = w.alloc (.cells #[.pointer (some ⟨b, 0, none⟩)] 70) := by
  go_enter Tryz.func50, Tryz.ntmps50
  go_wp2
  go_ret
  exact ⟨rfl, rfl⟩
theorem m2_take_next (L : List Int) (k : Nat) (h : k < L.length) : L.take (k + 1) = L.take k ++ [L[k]] := by
  rw [List.take_add_one, List.getElem?_eq_getElem h]; rfl
set_option maxRecDepth 100000 in
set_option maxHeartbeats 2000000 in
theorem all1_in (n : Nat) (hn : 1 ≤ n) (l B b o p room : Nat) (L : List Int) (N : Nat) (J Jx : List Int → World → Prop)
    (hJ : ∀ pre A B, J pre A → Below A.heap.size A B → J pre B)
    (hY : ∀ pre x W, J pre W → pre.length < L.length → YieldAt Fence.wide (n - 1) Tryz.prog l #[.int .i64 x] W fun e W' =>
      (e = .returned (.bool true) ∧ J (pre ++ [x]) W' ∧ CKeep N W W') ∨ (e = .returned (.bool false) ∧ Jx (pre ++ [x]) W'))
    (W : World) (hB : W.cell? ⟨B, 0, none⟩ = some (.pointer (some ⟨b, 0, none⟩))) (hM : MAt W b o p room L) (hN : N ≤ W.heap.size) (h0 : J [] W) :
    CallsIn Fence.wide n Tryz.prog 61 #[.func (.yield l) #[] #[], .pointer (some ⟨B, 0, none⟩)] W fun e W' => (∃ v, e = .returned v) ∧
      ((∃ ys, ys = L ∧ J ys W') ∨ (∃ pre, pre <+: L ∧ Jx pre W')) := by
  have hfn : ∀ f, Fence.wide.fn f := fun _ => trivial
  have c0 := hM.cellb0
  have HM : Hid (MAt W b o p room L) := hM
  have hl := hM.len
  have hr := hM.hr
  have HC : Hid (∀ j, j < L.length → W.cell? ⟨o, 0 + j, none⟩ = some (.int .i64 (L.getD j 0))) := fun j hj => by
    rw [Nat.zero_add, HM.out.cello (List.getElem?_eq_getElem hj)]; simp [List.getD, hj]
  clear hM
  refine callsIn_of_wp Tryz.func61 rfl trivial ?_ rfl
  simp only [Tryz.ntmps61, List.size_toArray, List.length_cons, List.length_nil, Nat.reduceAdd, Nat.reduceSub, Array.replicate_succ, Array.replicate_zero, List.push_toArray, List.append_toArray, List.nil_append, List.cons_append]
  gi_wp2_with (gi_at_call 62; refine (callsIn_wide.2 (Tryz.slices_Clone_int o 0 L.length room L W (Nat.le_refl _) (by omega) HC.out)).mono ?_; rintro e w1 ⟨v, rfl, hown, hnil, hb1⟩; obtain ⟨g, cap, cur, rfl, hg0, hg1, hg2, hg3, hg4, hg5⟩ := hown.2.resolve_left (fun q => hnil q.1))
  have HJ1 : Hid (J [] w1) := hJ _ _ _ h0 hb1
  have HN1 : Hid (N ≤ g) := Nat.le_trans hN hg0
  have HG1 : Hid (w1.heap[g]? = some (.cells cur 3 (0, 0))) := hg1
  have HT : Hid (cur.toList.take L.length = ints L) := (show cur.toList.take L.length = ints L from by simpa [ints] using hg5)
  clear hb1 hown hnil hg0 hg1 hg4 hg5 c0 HC h0 hB
  unfold maxLen at hg3
  gi_loopw [11] (fun i wr => ∃ k : Nat, k ≤ L.length ∧ i = .int .i64 k ∧ wr.heap[g]? = some (.cells cur 3 (0, 0)) ∧ J (L.take k) wr) (fun i _ => L.length - (intOf i).toNat)
  case atStart => exact ⟨0, Nat.zero_le _, rfl, HG1.out, by simpa using HJ1.out⟩
  case round =>
    obtain ⟨k, hk, rfl, hg, hj⟩ := hrel
    have HG : Hid (wr.heap[g]? = some (.cells cur 3 (0, 0))) := hg
    have HJ : Hid (J (L.take k) wr) := hj
    clear HJ1 HG1 hg hj
    by_cases hlt : k < L.length
    · have HX : Hid (L.take (k + 1) = L.take k ++ [L[k]]) := m2_take_next L k hlt
      have hcell : wr.cell? ⟨g, k, none⟩ = some (.int .i64 L[k]) := by
        have e := ints_get (List.getElem?_eq_getElem hlt)
        rw [← HT.out, List.getElem?_take_of_lt hlt] at e
        have : cur[k]? = some (.int .i64 L[k]) := by simpa using e
        simp [World.cell?, HG.out, this]
      have HP : Hid (L.take (k + 1) <+: L) := List.take_prefix _ _
      obtain ⟨x, hx⟩ : ∃ x, L[k] = x := ⟨_, rfl⟩
      rw [hx] at hcell HX
      clear hx
      have i0 : (0 : Int) ≤ (k : Int) := by omega
      have i1 : (k : Int) < (L.length : Int) := by omega
      obtain ⟨fn, tmps, assign, body, hy, hR⟩ := hY (L.take k) x wr HJ.out (by simp; omega)
      gi_wp2
      refine hR.mono ?_
      rintro e W3 (⟨rfl, hJ3, hk3⟩ | ⟨rfl, hJx3⟩)
      · have HG3 : Hid (W3.heap[g]? = some (.cells cur 3 (0, 0))) := hk3.same _ _ _ _ HN1.out HG.out
        have HJ3 : Hid (J (L.take k ++ [x]) W3) := hJ3
        clear hJ3 hk3 hY hy hR
        gi_wp2
        go_roundw
        case rel => exact ⟨k + 1, by omega, by go_num, HG3.out, by rw [HX.out]; exact HJ3.out⟩
        case measure => simp [intOf]; omega
      · gi_wp2
        refine bodyPost_ret (results_none rfl _ _ _) rfl ?_
        exact ⟨⟨_, rfl⟩, .inr ⟨L.take k ++ [x], by rw [← HX.out]; exact HP.out, hJx3⟩⟩
    · have hke : L.take k = L := List.take_of_length_le (by omega)
      rw [hke] at HJ
      clear hke
      gi_wp2
      go_end0
      exact ⟨⟨_, rfl⟩, .inl ⟨L, rfl, HJ.out⟩⟩
theorem all_stops (n : Nat) (hn : 1 ≤ n) (B b o p room : Nat) (L : List Int) (w : World) (hB : Boxed w B 70 (.pointer (some ⟨b, 0, none⟩))) (hM : MAt w b o p room L) :
    SeqStopsK Fence.wide n Tryz.prog 61 #[.pointer (some ⟨B, 0, none⟩)] (fun x : Int => #[Value.int .i64 x]) (CKeep w.heap.size) (fun ys => ys = L) (fun pre => pre <+: L) L.length w := fun l J Jx W hW hJ _ hY h0 =>
  all1_in n hn l B b o p room L w.heap.size J Jx (fun pre A B h hb => hJ pre A B none h (below_grown hb) (fun r e => by cases e)) hY W ((hW.cell (p := ⟨B, 0, none⟩) hB.lt).trans hB.cell) (hM.kept hW) hW.size h0
def roundAct (a : Act) (q d : Nat) (x : Int) : Act := { tmps := (a.tmps.setIfInBounds q (.int .i64 x)).setIfInBounds d (.int .i64 x), defers := [] }
def behindAct (a : Act) (D : Nat) : Act := { a with defers := { target := .collected D, args := #[] } :: a.defers }
theorem all_range {g : Operand} {ps : Array Tmp} {assign body : Code} {Q : Exit → Act → World → Prop} {a : Act} {w : World} {n : Nat} (hn : 3 ≤ n) (d q : Nat) (B b o p room : Nat) (L : List Int)
    (hg : a.eval g = .func (.func 61) #[] #[.pointer (some ⟨B, 0, none⟩)]) (hps : ps = #[q]) (hB : Boxed w B 70 (.pointer (some ⟨b, 0, none⟩))) (hM : MAt w b o p room L)
    (I : List Int → World → Prop) (Ix : Code → List Int → World → Prop) (hI : OwnFrom w.heap.size I) (hIx : ∀ c, OwnFrom w.heap.size (Ix c)) (h0 : I [] w)
    (hassign : ∀ (l : Nat) (x : Int) (W : World) (K : Act → World → Prop), K (roundAct a q d x) W →
      assign.wpIn (Fence.wide.inRound l) (n - 1 - 1) Tryz.prog (Exit.then K (fun _ _ _ => False)) { tmps := a.tmps.setIfInBounds q (.int .i64 x), defers := [] } W)
    (hbody : ∀ (l : Nat) (pre : List Int) (x : Int) (W : World), I pre W → pre.length < L.length →
      body.wpIn (Fence.wide.inRound l) (n - 1 - 1) Tryz.prog (ownPostG w.heap.size (CKeep w.heap.size) I Ix (pre ++ [x]) W) (roundAct a q d x) W)
    (hdone : ∀ (D : Nat) (W : World), w.heap.size ≤ D → I L W → W.heap[D]? = some (.deferred (some [])) → Q .normal (behindAct a D) W)
    (hstop : ∀ (D : Nat) (c : Code) (pre : List Int) (W : World), w.heap.size ≤ D → pre <+: L → Ix c pre W → W.heap[D]? = some (.deferred (some [])) → c.wpIn Fence.wide n Tryz.prog Q (behindAct a D) W) :
    (Code.rangeFunc g ps assign body).wpIn Fence.wide n Tryz.prog Q a w := by
  subst hps
  refine wpIn_rangeFunc_ownG rfl (by omega) (gf := 61) (lb := #[.pointer (some ⟨B, 0, none⟩)]) hg trivial (enters_of Tryz.func61 (by kernel_rfl) rfl)
    (all_stops (n - 1) (by omega) B b o p room L w hB hM) ck_t ck_b (Below.refl _ _) (fun _ => rfl) I Ix hI hIx h0 (roundAct a q d) (fun l x W K hK => by have := hassign l x W K hK; simpa using this) hbody ?_ hstop
  rintro D xs W hD rfl hi hK
  exact hdone D W hD hi hK
end Go.Proofs.YtbfhahhcacnckaaGreatDoor
namespace Go.Proofs.YtbfhahhcacnckaaGreatDoor
open Go Go.RowKit Go.Shelf
attribute [local go_sem] Oper.semAt_some
theorem cells_kept {W W' : World} {row : Option Nat} {B : Nat} (hg : W.grownBy W' row) (hr : ∀ r, row = some r → B ≤ r ∧ ∃ o : Obj, W.heap[r]? = some o ∧ o.isCells = false) {k : Nat} {cur : Array Value} {t : TypeId} {fr : Nat × Nat} (hc : W.heap[k]? = some (.cells cur t fr)) :
    W'.heap[k]? = some (.cells cur t fr) := by
  refine (hg.block k (lt_of_heap hc) (fun e => ?_)).trans hc
  obtain ⟨_, o, ho, hq⟩ := hr k e.symm
  rw [hc] at ho
  cases ho
  cases hq
def RowG (W : World) (g cap : Nat) (l : List Int) : Prop := ∃ cur, W.heap[g]? = some (.cells cur 3 (0, 0)) ∧ cur.size = cap ∧ cur.toList.take l.length = ints l
theorem RowG.lt {W : World} {g cap : Nat} {l : List Int} (h : RowG W g cap l) : g < W.heap.size := by obtain ⟨_, h, _⟩ := h; exact lt_of_heap h
theorem RowG.same {W W' : World} {g cap : Nat} {l : List Int} (h : RowG W g cap l) (e : W'.heap[g]? = W.heap[g]?) : RowG W' g cap l := by unfold RowG; rw [e]; exact h
theorem RowG.kept {W W' : World} {g cap : Nat} {l : List Int} (h : RowG W g cap l) (hb : Below W.heap.size W W') : RowG W' g cap l := h.same (hb.block _ h.lt)
theorem RowG.fr {S : Nat → Prop} {W W' : World} {g cap : Nat} {l : List Int} (h : RowG W g cap l) (hb : Fr S W W') (hg : ¬ S g) : RowG W' g cap l := h.same (hb.block _ h.lt hg)
theorem RowG.len {W : World} {g cap : Nat} {l : List Int} (h : RowG W g cap l) : l.length ≤ cap := by
  obtain ⟨cur, _, h2, h3⟩ := h
  have := congrArg List.length h3
  simp [ints_length, h2] at this
  omega
theorem RowG.cell {W : World} {g cap : Nat} {l : List Int} (h : RowG W g cap l) {i : Nat} {x : Int} (hx : l[i]? = some x) : W.cell? ⟨g, i, none⟩ = some (.int .i64 x) := by
  obtain ⟨cur, h1, h2, h3⟩ := h
  have hi : i < l.length := (List.getElem?_eq_some_iff.1 hx).1
  have e := ints_get hx
  rw [← h3, List.getElem?_take_of_lt hi] at e
  have : cur[i]? = some (.int .i64 x) := by simpa using e
  simp [World.cell?, h1, this]
theorem RowG.fz {W : World} {g cap : Nat} {l : List Int} (h : RowG W g cap l) (i : Nat) : W.frozen? ⟨g, i, none⟩ = false := by
  obtain ⟨cur, h1, _⟩ := h
  simp [World.frozen?, h1]
theorem RowG.spare {W : World} {g cap : Nat} {l : List Int} (h : RowG W g cap l) (hl : l.length < cap) : ∃ u, W.cell? ⟨g, l.length, none⟩ = some u := by
  obtain ⟨cur, hc, h2, h3⟩ := h
  exact ⟨cur[l.length]'(by omega), by simp [World.cell?, hc, h2, hl]⟩
theorem RowG.push {W : World} {g cap : Nat} {l : List Int} (h : RowG W g cap l) (hl : l.length < cap) (x : Int) : RowG (W.setCell ⟨g, l.length, none⟩ (.int .i64 x)) g cap (l ++ [x]) := by
  obtain ⟨cur, hc, h2, h3⟩ := h
  refine ⟨_, heap_set_in hc _ _, by simp [h2], ?_⟩
  have hl : l.length < cur.toList.length := by simp; omega
  rw [Array.toList_setIfInBounds, List.length_append, List.length_singleton, List.take_set, List.take_add_one, h3, ints_append]
  rw [List.getElem?_eq_getElem hl, Option.toList_some, List.set_append_right _ _ (by rw [ints_length]; omega), ints_length]
  simp [ints]
theorem RowG.setCell {W : World} {g cap : Nat} {l : List Int} (h : RowG W g cap l) {a : Addr} (hne : g ≠ a.block) (v : Value) : RowG (W.setCell a v) g cap l := h.same (Below.heap_setCell W a v g hne)
theorem RowG.alloc {W : World} {g cap : Nat} {l : List Int} (h : RowG W g cap l) (o : Obj) : RowG (W.alloc o) g cap l := h.same (Below.heap_alloc W o g h.lt)
theorem RowG.made (W : World) (c : Nat) : RowG (W.alloc (.cells (madeCells #[.int .i64 0] c) 3)) W.heap.size c [] := ⟨_, World.alloc_heap_new W _, size_madeCells _ _, by simp [ints]⟩
theorem boxed_same {W W' : World} {B : Nat} {t : TypeId} {v : Value} (h : Boxed W B t v) (e : W'.heap[B]? = W.heap[B]?) : Boxed W' B t v := e.trans h
theorem boxed_kept {W W' : World} {B : Nat} {t : TypeId} {v : Value} (h : Boxed W B t v) (hb : Below W.heap.size W W') : Boxed W' B t v := boxed_same h (hb.block _ h.lt)
theorem boxed_fr {S : Nat → Prop} {W W' : World} {B : Nat} {t : TypeId} {v : Value} (h : Boxed W B t v) (hb : Fr S W W') (hg : ¬ S B) : Boxed W' B t v := boxed_same h (hb.block _ h.lt hg)
theorem boxed_set {W : World} {B : Nat} {t : TypeId} {v : Value} (h : Boxed W B t v) (u : Value) : Boxed (W.setCell ⟨B, 0, none⟩ u) B t u := by
  have := heap_set_in (show W.heap[B]? = some (.cells #[v] t (0, 0)) from h) 0 u
  simpa [Boxed] using this
def sortI (L : List Int) : List Int := L.mergeSort fun x y => decide (x ≤ y)
theorem sortI_length (L : List Int) : (sortI L).length = L.length := by simp [sortI]
theorem sort_c {w : World} {g cap : Nat} {L : List Int} (h : RowG w g cap L) (hl : L.length < 4611686018427387904) (c : Nat) :
    Calls Tryz.prog 51 #[.slice (some ⟨g, 0, none⟩) L.length c] w fun e w' => e = .returned (.tuple #[]) ∧ RowG w' g cap (sortI L) ∧ Fr (fun k => k = g) w w' := by
  have hc := h.len
  obtain ⟨cur, g1, g2, g3⟩ := h
  refine (Tryz.slices_Sort_int g 0 c L w (holds_of_blockI g1 (by simpa [ints] using g3)) (lt_of_heap g1) hl).mono ?_
  rintro e w2 ⟨rfl, n, os, rfl⟩
  refine ⟨rfl, ⟨_, heap_sortedI _ g1, by simp [Sort.putCells, g2], take_putCellsI cur (sortI L) (by rw [sortI_length]; omega)⟩, ?_⟩
  exact (Fr.refl _ _).grown (grownBy_sortedI _) (fun k e => (Option.some.inj e).symm)
set_option maxRecDepth 100000 in
set_option maxHeartbeats 2000000 in
theorem rising_in (n : Nat) (hn : 3 ≤ n) {w : World} {b o p room : Nat} {L : List Int} (hM : MAt w b o p room L) :
    CallsIn Fence.wide n Tryz.prog 34 #[.pointer (some ⟨b, 0, none⟩)] w fun e W' => e = .returned (.slice (some ⟨w.heap.size, 0, none⟩) L.length L.length) ∧ RowG W' w.heap.size L.length (sortI L) ∧ Below w.heap.size w W' := by
  have h1 : 1 ≤ n := by omega
  have h2 : 1 ≤ n - 1 - 1 := by omega
  have hfn : ∀ f, Fence.wide.fn f := fun _ => trivial
  have HM : Hid (MAt w b o p room L) := hM
  have hl := hM.len
  have hr := hM.hr
  have m0 := make_none L.length (by omega)
  clear hM
  refine callsIn_of_wp_marks Tryz.func34 rfl trivial ?_ rfl
  simp only [Tryz.ntmps34, List.size_toArray, List.length_cons, List.length_nil, Nat.reduceAdd, Nat.reduceSub, Array.replicate_succ, Array.replicate_zero, List.push_toArray, List.append_toArray, List.nil_append, List.cons_append]
  gi_wp2_with first | (gi_at_call 30; refine (callsIn_wide.2 (len_c HM.out)).mono ?_; rintro e w' ⟨rfl, rfl⟩) | (gi_at_call 50; refine (callsIn_wide.2 (all_c b _)).mono ?_; rintro e w' ⟨rfl, rfl⟩)
  have bR := ((RowG.made w' L.length).alloc (.cells #[.slice (some ⟨w'.heap.size, 0, none⟩) 0 L.length] 43)).alloc (.cells #[.pointer (some ⟨b, 0, none⟩)] 70)
  have bL := (Boxed.new (w'.alloc (.cells (madeCells #[.int .i64 0] L.length) 3)) 43 (.slice (some ⟨w'.heap.size, 0, none⟩) 0 L.length)).alloc (.cells #[.pointer (some ⟨b, 0, none⟩)] 70)
  have bB := Boxed.new ((w'.alloc (.cells (madeCells #[.int .i64 0] L.length) 3)).alloc (.cells #[.slice (some ⟨w'.heap.size, 0, none⟩) 0 L.length] 43)) 70 (.pointer (some ⟨b, 0, none⟩))
  have hV0 : Below w'.heap.size w' (((w'.alloc (.cells (madeCells #[.int .i64 0] L.length) 3)).alloc (.cells #[.slice (some ⟨w'.heap.size, 0, none⟩) 0 L.length] 43)).alloc (.cells #[.pointer (some ⟨b, 0, none⟩)] 70)) :=
    (((Below.refl _ _).alloc (Nat.le_refl _) _).alloc (by simp) _).alloc (by simp; omega) _
  have hVs : (((w'.alloc (.cells (madeCells #[.int .i64 0] L.length) 3)).alloc (.cells #[.slice (some ⟨w'.heap.size, 0, none⟩) 0 L.length] 43)).alloc (.cells #[.pointer (some ⟨b, 0, none⟩)] 70)).heap.size = w'.heap.size + 1 + 1 + 1 := by simp
  simp only [World.size_alloc] at bL bB
  obtain ⟨V, hV⟩ : ∃ V, (((w'.alloc (.cells (madeCells #[.int .i64 0] L.length) 3)).alloc (.cells #[.slice (some ⟨w'.heap.size, 0, none⟩) 0 L.length] 43)).alloc (.cells #[.pointer (some ⟨b, 0, none⟩)] 70)) = V := ⟨_, rfl⟩
  rw [hV] at bR bL bB hV0 hVs ⊢
  clear hV m0
  refine all_range hn 4 10 (w'.heap.size + 1 + 1) b o p room L rfl rfl bB (HM.out.kept hV0)
    (fun pre W => (RowG W w'.heap.size L.length pre ∧ Boxed W (w'.heap.size + 1) 43 (.slice (some ⟨w'.heap.size, 0, none⟩) pre.length L.length)) ∧ Below w'.heap.size w' W)
    (fun _ _ _ => False)
    (OwnFrom.and (fun pre W W' row hs hg hr => ⟨by obtain ⟨cur, h1, h2, h3⟩ := hs.1; exact ⟨cur, cells_kept hg hr h1, h2, h3⟩, cells_kept hg hr hs.2⟩) (ownFrom_below (Nat.le_refl _) (by omega)))
    (fun _ _ _ _ _ hs _ _ => hs)
    ⟨⟨bR, bL⟩, hV0⟩ ?_ ?_ ?_ ?_
  · intro l x W K hK
    gi_wp2
    exact hK
  · rintro l pre x W ⟨⟨hR, hBx⟩, hBe⟩ hlt
    obtain ⟨u, cu⟩ := hR.spare hlt
    have fu := hR.fz pre.length
    have HR : Hid (RowG W w'.heap.size L.length pre) := hR
    have HX : Hid (Boxed W (w'.heap.size + 1) 43 (.slice (some ⟨w'.heap.size, 0, none⟩) pre.length L.length)) := hBx
    have c1 := hBx.cell
    have f1 := hBx.frozen
    have cu2 := (hBe.size)
    clear hR hBx
    have e1 := World.cell?_of_block (a := ⟨w'.heap.size, pre.length, none⟩) (Below.heap_alloc W (.cells #[.int .i64 x] 3) w'.heap.size HR.out.lt)
    have e2 := World.frozen?_of_block (a := ⟨w'.heap.size, pre.length, none⟩) (Below.heap_alloc W (.cells #[.int .i64 x] 3) w'.heap.size HR.out.lt)
    have e3 := World.cell?_of_block (a := ⟨w'.heap.size + 1, 0, none⟩) (Below.heap_alloc W (.cells #[.int .i64 x] 3) (w'.heap.size + 1) HX.out.lt)
    have e4 := World.frozen?_of_block (a := ⟨w'.heap.size + 1, 0, none⟩) (Below.heap_alloc W (.cells #[.int .i64 x] 3) (w'.heap.size + 1) HX.out.lt)
    rw [cu] at e1
    rw [fu] at e2
    rw [c1] at e3
    rw [f1] at e4
    simp only [roundAct, List.setIfInBounds_toArray, List.set_cons_succ, List.set_cons_zero]
    gi_wp2
    have hF : Fr (fun k => k = w'.heap.size ∨ k = w'.heap.size + 1) W (((W.alloc (.cells #[.int .i64 x] 3)).setCell ⟨w'.heap.size, pre.length, none⟩ (.int .i64 x)).setCell ⟨w'.heap.size + 1, 0, none⟩ (.slice (some ⟨w'.heap.size, 0, none⟩) (pre.length + 1) L.length)) :=
      (((Fr.refl _ _).alloc _).setCell (.inl rfl) _).setCell (.inr rfl) _
    refine ⟨hF.keepsFrom (fun k hk => by omega), hF.ckeep (fun k hk => by omega), ⟨?_, ?_⟩, hBe.trans (hF.below hBe.size (fun k hk => by omega))⟩
    · exact ((HR.out.alloc _).push hlt x).setCell (by simp) _
    · have := boxed_set (boxed_same (HX.out.alloc (.cells #[.int .i64 x] 3)) (Below.heap_setCell _ ⟨w'.heap.size, pre.length, none⟩ (.int .i64 x) _ (by simp))) (.slice (some ⟨w'.heap.size, 0, none⟩) (pre.length + 1) L.length)
      simpa using this
  · rintro D W hD ⟨⟨hR, hBx⟩, hBe⟩ hK
    simp only [behindAct]
    have c1 := hBx.cell
    have HX : Hid (Boxed W (w'.heap.size + 1) 43 (.slice (some ⟨w'.heap.size, 0, none⟩) L.length L.length)) := hBx
    have HR : Hid (RowG W w'.heap.size L.length L) := hR
    have HK : Hid (W.heap[D]? = some (.deferred (some []))) := hK
    have hne : D ≠ w'.heap.size := by omega
    clear hBx hR hK
    gi_wp2_with (gi_at_call 51; refine (callsIn_wide.2 (sort_c HR.out (by omega) L.length)).mono ?_; rintro e w2 ⟨rfl, hrow, hfr⟩; have X2 : Hid (Boxed w2 (w'.heap.size + 1) 43 (.slice (some ⟨w'.heap.size, 0, none⟩) L.length L.length)) := boxed_fr HX.out hfr (by omega); have R2 : Hid (RowG w2 w'.heap.size L.length (sortI L)) := hrow; have B2 : Hid (Below w'.heap.size w' w2) := hBe.trans (hfr.below hBe.size (fun k hk => by omega)); have K2 : Hid (w2.heap[D]? = some (.deferred (some []))) := (hfr.block D (lt_of_heap HK.out) hne).trans HK.out; clear hrow hfr; have c2 := X2.out.cell)
    refine ⟨by simp, .inl ⟨_, _, rfl, run_takeDeferred K2.out, ?_⟩⟩
    exact ⟨_, results_tmp rfl _ _ _, rfl, R2.out.same (World.putObj_heap_other hne.symm), B2.out.trans (belowK_b (w := w') (Nat.le_refl _) w2 D _ _ (by omega) K2.out rfl rfl)⟩
  · rintro D c pre W _ _ h _
    exact h.elim
theorem rising_c {w : World} {b o p room : Nat} {L : List Int} (hM : MAt w b o p room L) :
    Calls Tryz.prog 34 #[.pointer (some ⟨b, 0, none⟩)] w fun e W' => e = .returned (.slice (some ⟨w.heap.size, 0, none⟩) L.length L.length) ∧ RowG W' w.heap.size L.length (sortI L) ∧ Below w.heap.size w W' :=
  callsIn_wide.1 (rising_in 3 (Nat.le_refl _) hM)
end Go.Proofs.YtbfhahhcacnckaaGreatDoor
