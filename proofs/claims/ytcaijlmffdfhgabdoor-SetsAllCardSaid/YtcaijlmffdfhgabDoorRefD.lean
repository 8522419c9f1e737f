/-
  The document's own answer: With, Without, Has, Next, List, Count.
-/
import Derived.Test.YtcaijlmffdfhgabDoorRefC
import Derived.Test.YtcaijlmffdfhgabDoorBackMath
namespace Go.Proofs.YtcaijlmffdfhgabDoor
open Go Go.RowKit
attribute [local go_sem] u64_signed ext_cell

/-- Nothing is in the set from f to k. -/
def noneIn (s : S) (f k : Int) : Prop := ∀ n : Nat, f ≤ (n : Int) → (n : Int) < k → s.getLsbD n = false
theorem next_found (s : S) (f : Int) (k : Nat) (hk : k < 256) (hf : f ≤ (k : Int)) (hn : noneIn s f k) (hb : s.getLsbD k = true) : nextV s f = (k : Int) ∧ nextB s f = true := by
  have : snext s f = some k := by
    refine find_least hk (by rw [hb, decide_eq_true hf]; rfl) fun j hj => ?_
    by_cases h : f ≤ (j : Int)
    · rw [hn j h (by omega)]; simp
    · rw [decide_eq_false h]; rfl
  unfold nextV nextB
  rw [this]
  exact ⟨rfl, rfl⟩
theorem next_gone (s : S) (f : Int) (hn : noneIn s f 256) : nextV s f = 0 ∧ nextB s f = false := by
  have : snext s f = none := by
    unfold snext
    rw [List.find?_eq_none]
    intro n hm
    have hm' : n < 256 := by simpa using hm
    by_cases h : f ≤ (n : Int)
    · rw [hn n h (by omega)]; simp
    · rw [decide_eq_false h]; simp
  unfold nextV nextB
  rw [this]
  exact ⟨rfl, rfl⟩

def elemsK (s : S) (k : Nat) : List B8 := (List.range k).filterMap fun n => if h : n < 256 ∧ s.getLsbD n = true then some ⟨(n : Int), b8_of h.1⟩ else none
theorem elemsK_all (s : S) : elemsK s 256 = elems s := rfl
theorem elemsK_hit (s : S) (k : Nat) (hk : k < 256) (h : s.getLsbD k = true) : elemsK s (k + 1) = elemsK s k ++ [⟨(k : Int), b8_of hk⟩] := by
  unfold elemsK
  rw [List.range_succ, List.filterMap_append]
  simp only [List.filterMap_cons, List.filterMap_nil]
  rw [dif_pos ⟨hk, h⟩]
theorem elemsK_miss (s : S) (k : Nat) (h : s.getLsbD k = false) : elemsK s (k + 1) = elemsK s k := by
  unfold elemsK
  rw [List.range_succ, List.filterMap_append]
  simp only [List.filterMap_cons, List.filterMap_nil]
  rw [dif_neg (by rw [h]; simp)]
  simp
theorem elemsK_length (s : S) (k : Nat) : (elemsK s k).length ≤ k := by
  unfold elemsK
  refine Nat.le_trans (List.length_filterMap_le _ _) ?_
  simp
def intsOf (l : List B8) : List Value := l.map fun x => .int .i64 x.1

theorem row_below {B : Nat} {e : TypeId} {k : Nat} {v : Value} {n : Nat} {xs : List Value} {w w' : World} (h : w.ownsRow B e k v n xs) (hb : Below w.heap.size w w') : w'.ownsRow B e k v n xs :=
  h.kept (row := none) ⟨hb.os, hb.tape, hb.output, hb.size, fun j hj _ => hb.block j hj⟩ (by cases hv : v.ownBlock <;> simp)
theorem SetAt.not_rowG {W : World} {B base n k : Nat} {t : TypeId} {s : S} {v : Value} {xs : List Value} (h : SetAt W B s) (hr : W.ownsRow base t k v n xs) (ht : t ≠ 24) : some B ≠ v.ownBlock := by
  rcases hr.2 with ⟨rfl, _⟩ | ⟨g, cap, cur, rfl, _, hg, _⟩
  · simp [Value.ownBlock]
  · intro e
    simp [Value.ownBlock] at e
    subst e
    rw [show W.heap[B]? = _ from h] at hg
    injection hg with hg
    injection hg with _ h2 _
    exact ht h2.symm

theorem info_int : (Tryd.prog.info? 3).map (fun i => (i.zero, i.size, i.bytes)) = some (some (.int .i64 0), 1, 8) := by kernel_rfl

set_option maxRecDepth 100000 in
set_option maxHeartbeats 1000000 in
theorem rList (s : S) (w : World) :
    Calls Tryd.prog 5 #[.agg #[.int .u64 (wd (s) 0), .int .u64 (wd (s) 1), .int .u64 (wd (s) 2), .int .u64 (wd (s) 3)]] w fun e w' => ∃ v, e = .returned v ∧ w'.ownsRow w.heap.size 3 1 v (elems s).length (intsOf (elems s)) ∧ Below w.heap.size w w' := by
  obtain ⟨i0, hi, hz0, hz1, hz2⟩ := info_parts info_int
  go_enter Tryd.func5, Tryd.ntmps5
  go_wp2
  go_loopw [3, 4] (fun v i wr => ∃ k : Nat, k ≤ 256 ∧ i = .int .i64 k ∧ wr.ownsRow w.heap.size 3 1 v (elemsK s k).length (intsOf (elemsK s k)) ∧ SetAt wr w.heap.size s ∧ Below w.heap.size w wr) (fun _ i _ => 256 - (intOf i).toNat)
  case atStart => exact ⟨0, by omega, rfl, World.ownsRow_nil _ _ _ _, SetAt.new w s, (Below.refl _ _).alloc (Nat.le_refl _) _⟩
  case round =>
    obtain ⟨k, hk0, rfl, hrow, hset, hb⟩ := hrel
    obtain ⟨a0, a1, a2, a3⟩ := hset.cells
    have HS : Hid (SetAt wr w.heap.size s) := hset
    have HB : Hid (Below w.heap.size w wr) := hb
    have HR : Hid (wr.ownsRow w.heap.size 3 1 _ (elemsK s k).length (intsOf (elemsK s k))) := hrow
    have hl := elemsK_length s k
    clear hset hb hrow
    by_cases hlt : (k : Int) < 256
    · by_cases hbit : sbit s k = true
      · have HX : Hid (sbit s k = true) := hbit
        clear hbit
        go_wp2_with first | (go_at_call 15; refine (in_any _ _ _ (by omega) hlt).mono ?_; rw [Int.toNat_natCast, HX.out]; rintro e w2 ⟨rfl, hb2⟩; have H2 : Hid (Below w.heap.size w w2) := chain HB.out hb2; have S2 : Hid (SetAt w2 w.heap.size s) := HS.out.below hb2 HS.out.lt; have R2 := row_below HR.out hb2; clear hb2) | (at_builtin; refine wpList_append_own _ rfl _ _ 26 rfl w.heap.size 3 i0 (.int .i64 0) 1 8 Tryd.underlying26 hi hz0 hz1 hz2 rfl (by decide) _ _ _ rfl (R2.alloc _) ⟨w2.heap.size, 0, none⟩ 1 1 [.int .i64 k] rfl rfl (cell_one_new _ _ _) (by simp [Value.oneCell']) (by unfold maxLen; omega) (by omega) (by have := H2.out.size; simp; omega) ?_; intro v' w1 hown' hgrow _)
        refine ⟨⟨k + 1, by omega, rfl, ?_, (S2.out.alloc _).grown hgrow (S2.out.not_rowG R2 (by decide)), (H2.out.alloc (by have := H2.out.size; omega) _).grown hgrow (by have := H2.out.size; simp; omega) (fun j hj => (R2.lt j hj).1)⟩, by simp [intOf]; omega⟩
        rw [elemsK_hit s k (by omega) HX.out, intsOf, List.map_append, List.length_append]
        exact hown'
      · have hbit' : sbit s k = false := by simpa using hbit
        have HX : Hid (sbit s k = false) := hbit'
        clear hbit
        go_wp2_with (go_at_call 15; refine (in_any _ _ _ (by omega) hlt).mono ?_; rw [Int.toNat_natCast, HX.out]; rintro e w2 ⟨rfl, hb2⟩; have H2 : Hid (Below w.heap.size w w2) := chain HB.out hb2; have S2 : Hid (SetAt w2 w.heap.size s) := HS.out.below hb2 HS.out.lt; have R2 := row_below HR.out hb2; clear hb2)
        refine ⟨⟨k + 1, by omega, rfl, ?_, S2.out, H2.out⟩, by simp [intOf]; omega⟩
        rw [elemsK_miss s k HX.out]
        exact R2
    · have hk : k = 256 := by omega
      subst hk
      go_wp2
      go_ret
      exact ⟨_, rfl, HR.out, HB.out⟩

theorem own_slice {W : World} {base n k : Nat} {t : TypeId} {v : Value} {xs : List Value} (h : W.ownsRow base t k v n xs) : ∃ a cap, v = .slice a n cap := by
  rcases h.2 with ⟨rfl, h0⟩ | ⟨g, cap, cur, rfl, _⟩
  · subst h0; exact ⟨_, _, rfl⟩
  · exact ⟨_, _, rfl⟩

end Go.Proofs.YtcaijlmffdfhgabDoor
