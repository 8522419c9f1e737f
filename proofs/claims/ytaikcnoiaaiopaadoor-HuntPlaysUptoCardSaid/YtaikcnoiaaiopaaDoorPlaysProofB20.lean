/-
  Parts of the proof.
-/
import Derived.Test.YtaikcnoiaaiopaaDoorPlaysProofB6
import Derived.Test.YtaikcnoiaaiopaaDoorPlaysProofB19
set_option linter.unusedSimpArgs false
namespace Go.Proofs.YtaikcnoiaaiopaaDoor
open Go Go.RowKit
def z1_lastB (l : List Oper) (o : Oper) : Bool :=
  (l.zipIdx.all fun x => x.1.after.all (fun e => decide (e.on < x.2)) && (match x.1.guard with | none => true | some g => decide (g.1 < l.length))) &&
  o.guard.isNone && o.after.all (fun e => decide (e.on < l.length)) && (List.range l.length).all fun j => o.after.any fun e => Region.binds .any e && e.on == j
section
variable {P : Program} {l : List Oper} {o : Oper} {Q : Exit → Act → World → Prop}
def z1_Q1 (P : Program) (l : List Oper) (o : Oper) (Q : Exit → Act → World → Prop) : Exit → Act → World → Prop
  | .normal, a, w => wpList P (l ++ [o]).toArray Q [o] a w
  | e, a, w => Q e a w
theorem z1_ops_lt {j : Nat} (h : j < l.length) : (l ++ [o]).toArray[j]? = l.toArray[j]? := by
  simp [List.getElem?_append_left h]
theorem z1_ops_last : (l ++ [o]).toArray[l.length]? = some o := by simp
theorem z1_lastB_edge (h : z1_lastB l o = true) {j : Nat} {x : Oper} (hx : l.toArray[j]? = some x) : (∀ e ∈ x.after, e.on < j) ∧ ∀ g b, x.guard = some (g, b) → g < l.length := by
  unfold z1_lastB at h
  simp only [Bool.and_eq_true, List.all_eq_true] at h
  have hm : (x, j) ∈ l.zipIdx := by
    rw [List.mem_zipIdx_iff_getElem?]; simpa using hx
  have := h.1.1.1 (x, j) hm
  refine ⟨fun e he => ?_, fun g b hg => ?_⟩
  · have h1 := this.1
    rw [Array.all_eq_true_iff_forall_mem] at h1
    simpa using h1 e he
  · have h2 := this.2
    simp only [hg] at h2
    simpa using h2
theorem z1_lastB_guard (h : z1_lastB l o = true) : o.guard = none := by
  unfold z1_lastB at h
  simp only [Bool.and_eq_true] at h
  simpa using h.1.1.2
theorem z1_lastB_on (h : z1_lastB l o = true) : ∀ e ∈ o.after, e.on < l.length := by
  unfold z1_lastB at h
  simp only [Bool.and_eq_true] at h
  have h1 := h.1.2
  rw [Array.all_eq_true_iff_forall_mem] at h1
  intro e he
  simpa using h1 e he
theorem z1_lastB_all (h : z1_lastB l o = true) {j : Nat} (hj : j < l.length) : ∃ e ∈ o.after, Region.binds .any e = true ∧ e.on = j := by
  unfold z1_lastB at h
  simp only [Bool.and_eq_true, List.all_eq_true] at h
  have := h.2 j (by simpa using hj)
  rw [← Array.any_toList, List.any_eq_true] at this
  obtain ⟨e, he, hb⟩ := this
  simp at hb
  exact ⟨e, by simpa using he, hb.1, hb.2⟩
theorem z1_getD_push_lt {listed : Array Bool} {j : Nat} (d : Bool) (hj : j < listed.size) : (listed.push false).getD j d = listed.getD j d := by
  simp [Array.getD_eq_getD_getElem?, Array.getElem?_push, Nat.ne_of_lt hj]
theorem z1_getD_push_eq {listed : Array Bool} (d : Bool) : (listed.push false).getD listed.size d = false := by
  simp [Array.getD_eq_getD_getElem?]
theorem z1_ready_lt (h : z1_lastB l o = true) {listed : Array Bool} (hs : listed.size = l.length) {j : Nat} (hj : j < l.length) :
    j ∈ Region.ready .any (l ++ [o]).toArray (listed.push false) ↔ j ∈ Region.ready .any l.toArray listed := by
  rw [mem_ready, mem_ready, z1_ops_lt hj, z1_getD_push_lt _ (by omega)]
  refine and_congr_right fun _ => exists_congr fun x => and_congr_right fun hx => ?_
  have he := (z1_lastB_edge h hx).1
  refine forall_congr' fun e => forall_congr' fun hm => forall_congr' fun _ => ?_
  have := he e hm
  rw [z1_getD_push_lt _ (by omega)]
theorem z1_all_listed (h : z1_lastB l o = true) {listed : Array Bool} (hs : listed.size = l.length) (hr : Region.ready .any l.toArray listed = []) :
    ∀ j, j < l.length → listed.getD j false = true := by
  intro j
  induction j using Nat.strongRecOn with
  | _ j ih =>
    intro hj
    have hx : l.toArray[j]? = some l[j] := by simp [hj]
    have hn : ¬ j ∈ Region.ready .any l.toArray listed := by rw [hr]; simp
    rw [mem_ready] at hn
    have hge : listed.getD j true = true := by
      rcases hb : listed.getD j true with _ | _
      · exact absurd ⟨hb, _, hx, fun e he _ => ih e.on ((z1_lastB_edge h hx).1 e he) (by have := (z1_lastB_edge h hx).1 e he; omega)⟩ hn
      · rfl
    have hlt : j < listed.size := by omega
    simpa [Array.getD_eq_getD_getElem?, hlt] using hge
theorem z1_last_ready (h : z1_lastB l o = true) {listed : Array Bool} (hs : listed.size = l.length) (hr : Region.ready .any l.toArray listed = []) :
    l.length ∈ Region.ready .any (l ++ [o]).toArray (listed.push false) := by
  rw [mem_ready]
  refine ⟨by rw [← hs]; exact z1_getD_push_eq _, o, z1_ops_last, fun e he _ => ?_⟩
  have := z1_lastB_on h e he
  rw [z1_getD_push_lt _ (by omega)]
  exact z1_all_listed h hs hr _ this
theorem z1_ready_of_last (h : z1_lastB l o = true) {listed : Array Bool} (hs : listed.size = l.length)
    (hl : l.length ∈ Region.ready .any (l ++ [o]).toArray (listed.push false)) : Region.ready .any l.toArray listed = [] := by
  rw [mem_ready] at hl
  obtain ⟨_, x, hx, ha⟩ := hl
  rw [z1_ops_last] at hx
  cases hx
  rw [List.eq_nil_iff_forall_not_mem]
  intro j hj
  rw [mem_ready] at hj
  obtain ⟨hu, x, hx, _⟩ := hj
  have hlt : j < l.length := by
    have := (Array.getElem?_eq_some_iff.1 hx).1
    simpa using this
  obtain ⟨e, he, hb, rfl⟩ := z1_lastB_all h hlt
  have := ha e he hb
  rw [z1_getD_push_lt _ (by omega)] at this
  have hlt' : e.on < listed.size := by omega
  simp [Array.getD_eq_getD_getElem?, hlt'] at this hu
  rw [this] at hu
  cases hu
theorem z1_none_left (h : z1_lastB l o = true) {listed : Array Bool} (hs : listed.size = l.length) (hr : Region.ready .any l.toArray listed = []) :
    Region.ready .any (l ++ [o]).toArray ((listed.push false).setIfInBounds l.length true) = [] := by
  rw [List.eq_nil_iff_forall_not_mem]
  intro j hj
  rw [mem_ready] at hj
  obtain ⟨hu, x, hx, _⟩ := hj
  have hlt : j < l.length + 1 := by
    have := (Array.getElem?_eq_some_iff.1 hx).1
    simpa using this
  by_cases e : j = l.length
  · subst e
    simp [Array.getD_eq_getD_getElem?, hs] at hu
  · have hj' : j < l.length := by omega
    have := z1_all_listed h hs hr j hj'
    have hlt' : j < listed.size := by omega
    have hne : ¬ l.length = j := fun h => e h.symm
    simp [Array.getD_eq_getD_getElem?, hne, Array.getElem?_push, Nat.ne_of_lt hlt', hlt'] at this hu
    rw [this] at hu
    cases hu
theorem z1_wanted_lt (h : z1_lastB l o = true) {j : Nat} {x : Oper} (hx : l.toArray[j]? = some x) (tmps : Array Value) :
    Region.wanted x (yielded (l ++ [o]).toArray tmps) = Region.wanted x (yielded l.toArray tmps) := by
  unfold Region.wanted
  cases hg : x.guard with
  | none => rfl
  | some g =>
    obtain ⟨g, b⟩ := g
    have := (z1_lastB_edge h hx).2 g b hg
    simp only [yielded, z1_ops_lt this]
theorem Oper.z1_wp_q1 {x : Oper} {a : Act} {w : World} {K K' : Act → World → Prop} (hK : ∀ a w, K a w → K' a w) (hh : x.wp P a w K (z1_Q1 P l o Q)) : x.wp P a w K' Q := by
  unfold Oper.wp at *
  generalize (execOp a.eval x).run P w = r at *
  cases r with
  | ok n w' =>
    cases n <;> simp only [Oper.upon] at hh ⊢ <;>
      first
        | exact hK _ _ hh
        | exact Calls.mono hh (fun e w'' he => by cases e <;> first | exact hK _ _ he | exact he)
        | exact Rows.mono hh (fun _ _ he => hK _ _ he)
  | halt x w' => cases x <;> simp only [Oper.upon] at hh ⊢ <;> exact hh
theorem z1_wpOp_q1 (h : z1_lastB l o = true) {i : Nat} (hi : i < l.length) {a : Act} {w : World} {K K' : Act → World → Prop} (hK : ∀ a w, K a w → K' a w)
    (hh : wpOp P l.toArray (z1_Q1 P l o Q) i K a w) : wpOp P (l ++ [o]).toArray Q i K' a w := by
  unfold wpOp at *
  rw [z1_ops_lt hi]
  have hx : l.toArray[i]? = some l[i] := by simp [hi]
  simp only [hx] at hh ⊢
  rw [z1_wanted_lt h hx]
  split
  · rename_i hw
    rw [if_pos hw] at hh
    exact hh.imp (Oper.z1_wp_q1 hK) (fun g => ⟨g.1, g.2⟩)
  · rename_i hw
    rw [if_neg hw] at hh
    exact hK _ _ hh
theorem z1_wpOp_last (h : z1_lastB l o = true) {a : Act} {w : World} {K : Act → World → Prop} (hK : ∀ a w, Q .normal a w → K a w) (hh : z1_Q1 P l o Q .normal a w) :
    wpOp P (l ++ [o]).toArray Q l.length K a w := by
  unfold wpOp
  rw [z1_ops_last]
  have hw : ∀ y, Region.wanted o y = true := fun y => by unfold Region.wanted; rw [z1_lastB_guard h]
  have hh' : wpList P (l ++ [o]).toArray Q [o] a w := hh
  unfold wpList at hh'
  rw [if_pos (hw _)] at hh'
  simp only [hw, if_true]
  exact hh'.imp (Oper.wp_mono hK) id
theorem z1_push_set {listed : Array Bool} {i : Nat} (hi : i < listed.size) : (listed.setIfInBounds i true).push false = (listed.push false).setIfInBounds i true := by
  apply Array.ext'
  simp [List.set_append_left _ _ (show i < listed.toList.length by simpa using hi)]
theorem z1_wpAny_last (h : z1_lastB l o = true) : ∀ (fuel : Nat) (listed : Array Bool) (a : Act) (w : World), listed.size = l.length →
    wpAny P .any l.toArray (z1_Q1 P l o Q) fuel listed a w → wpAny P .any (l ++ [o]).toArray Q (fuel + 1) (listed.push false) a w := by
  intro fuel
  induction fuel with
  | zero =>
    rintro listed a w hs ⟨hr, hq⟩
    refine ⟨fun h0 => ?_, fun i hi => ?_⟩
    · have := z1_last_ready h hs hr; rw [h0] at this; cases this
    · by_cases e : i = l.length
      · subst e; exact z1_wpOp_last h (fun a w hq => ⟨z1_none_left h hs hr, hq⟩) hq
      · have hlt : i < l.length := by
          rw [mem_ready] at hi
          obtain ⟨_, x, hx, _⟩ := hi
          have := (Array.getElem?_eq_some_iff.1 hx).1
          simp at this; omega
        rw [z1_ready_lt h hs hlt, hr] at hi; cases hi
  | succ fuel ih =>
    rintro listed a w hs ⟨hq, hall⟩
    refine ⟨fun h0 => ?_, fun i hi => ?_⟩
    · by_cases hr : Region.ready .any l.toArray listed = []
      · have := z1_last_ready h hs hr; rw [h0] at this; cases this
      · obtain ⟨j, hj⟩ := List.exists_mem_of_ne_nil _ hr
        have hlt : j < l.length := by
          rw [mem_ready] at hj
          obtain ⟨_, x, hx, _⟩ := hj
          have := (Array.getElem?_eq_some_iff.1 hx).1
          simpa using this
        rw [← z1_ready_lt h hs hlt, h0] at hj; cases hj
    · by_cases e : i = l.length
      · subst e
        have hr := z1_ready_of_last h hs hi
        exact z1_wpOp_last h (fun a w hq => ⟨fun _ => hq, fun j hj => by rw [z1_none_left h hs hr] at hj; cases hj⟩) (hq hr)
      · have hlt : i < l.length := by
          rw [mem_ready] at hi
          obtain ⟨_, x, hx, _⟩ := hi
          have := (Array.getElem?_eq_some_iff.1 hx).1
          simp at this; omega
        have hi' := (z1_ready_lt h hs hlt).1 hi
        refine z1_wpOp_q1 h hlt (fun a' w' hw => ?_) (hall i hi')
        have := ih (listed.setIfInBounds i true) a' w' (by simpa using hs) hw
        rwa [z1_push_set (by omega)] at this
theorem z1_wp_region_last {id : Nat} {a : Act} {w : World} (hm : P.follows .mixedOrders = true) (hB : Region.lexB .any l.toArray = true) (hl : z1_lastB l o = true)
    (h : wpQuiet P l.toArray (fun w' => ∃ x : z1_Ext w, w' = x.val) (fun a' => ∀ w', (∃ x : z1_Ext w, w' = x.val) → wpList P (l ++ [o]).toArray Q [o] a' w') l a) : (Code.region id (l ++ [o]).toArray true).wp P Q a w := by
  simp only [Region.lexB, Bool.and_eq_true] at hB
  refine wp_region_any hm ?_
  have h1 := wpAnyQ_lex (C := fun w' => ∃ x : z1_Ext w, w' = x.val) (md := .any) hB.1 l 0 (Array.replicate l.length false) a (by simp) (by simpa using hB.2) h
  have h2 := wpAny_of_quiet (Q' := z1_Q1 P l o Q) (fun _ w' hw' h => h w' hw') _ _ _ { w with drawn := w.drawn + 1 } ⟨⟨w.drew, (Below.refl _ _).drew⟩, rfl⟩ h1
  have h3 := z1_wpAny_last hl _ _ _ _ (by simp) h2
  have e : (Array.replicate l.length false).push false = Array.replicate (l ++ [o]).toArray.size false := by simp [Array.replicate_succ]
  rw [e] at h3
  simpa using h3
end
theorem z1_wp_region_last_lit {P : Program} {Q : Exit → Act → World → Prop} {id : Nat} {a : Act} {w : World} {L : List Oper} (hne : L ≠ []) (hm : P.follows .mixedOrders = true) (hB : Region.lexB .any L.dropLast.toArray = true) (hl : z1_lastB L.dropLast (L.getLast hne) = true)
    (h : wpQuiet P L.dropLast.toArray (fun w' => ∃ x : z1_Ext w, w' = x.val) (fun a' => ∀ w', (∃ x : z1_Ext w, w' = x.val) → wpList P L.toArray Q [L.getLast hne] a' w') L.dropLast a) : (Code.region id L.toArray true).wp P Q a w := by
  have e : L.dropLast ++ [L.getLast hne] = L := List.dropLast_concat_getLast hne
  have := z1_wp_region_last (P := P) (Q := Q) (id := id) (a := a) (w := w) (l := L.dropLast) (o := L.getLast hne) hm hB hl (by rw [e]; exact h)
  rwa [e] at this
end Go.Proofs.YtaikcnoiaaiopaaDoor
namespace Go.Proofs.YtaikcnoiaaiopaaDoor
open Go Go.RowKit
attribute [local go_sem] z1_idx0 z1_idx1 z1_idx2 z1_idx3 z1_u64_signed z1_ext_cell
def z1_sof (l : List UInt8) : z1_S := l.foldl (fun s c => z1_sor s (z1_sonly (c.toNat : Int))) 0#256
theorem z1_sof_snoc (l : List UInt8) (c : UInt8) : z1_sof (l ++ [c]) = z1_sor (z1_sof l) (z1_sonly (c.toNat : Int)) := by simp [z1_sof]
theorem z1_take_snoc (s : ByteArray) (k : Nat) (h : k < s.size) : s.data.toList.take (k + 1) = s.data.toList.take k ++ [s[k]] := by
  rw [List.take_succ_eq_append_getElem (by simpa using h)]; rfl
theorem z1_heap_set_in {W : World} {g : Nat} {cur : Array Value} {t : TypeId} (hg : W.heap[g]? = some (.cells cur t (0, 0))) (o : Nat) (v : Value) : (W.setCell ⟨g, o, none⟩ v).heap[g]? = some (.cells (cur.setIfInBounds o v) t (0, 0)) := by
  unfold World.setCell
  dsimp only
  rw [Array.getElem?_modify, if_pos rfl, hg]
  rfl
theorem z1_SetAt.store {W : World} {B : Nat} {s : z1_S} (h : z1_SetAt W B s) (t : z1_S) :
    z1_SetAt ((((W.setCell ⟨B, 0, none⟩ (.int .u64 (z1_wd t 0))).setCell ⟨B, 1, none⟩ (.int .u64 (z1_wd t 1))).setCell ⟨B, 2, none⟩ (.int .u64 (z1_wd t 2))).setCell ⟨B, 3, none⟩ (.int .u64 (z1_wd t 3))) B t :=
  (z1_heap_set_in (z1_heap_set_in (z1_heap_set_in (z1_heap_set_in h 0 _) 1 _) 2 _) 3 _).trans (by rfl)
theorem z1_SetAt.frozen {W : World} {B : Nat} {s : z1_S} (h : z1_SetAt W B s) (o : Nat) : W.frozen? ⟨B, o, none⟩ = false := by simp [World.frozen?, show W.heap[B]? = _ from h]
theorem z1_wrap_byte (c : UInt8) : wrap64 (c.toNat : Int) = (c.toNat : Int) := by
  have := c.toNat_lt
  unfold wrap64; omega
end Go.Proofs.YtaikcnoiaaiopaaDoor
