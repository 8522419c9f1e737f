/-
  The document's own answer: With, Without, Has, Next, List, Count.
-/
import Derived.Test.YtcaijlmffdfhgaaDoorRefC
import Derived.Test.YtcaijlmffdfhgaaDoorBackMath
namespace Go.Proofs.YtcaijlmffdfhgaaDoor
open Go Go.RowKit
attribute [local go_sem] u64_signed ext_cell

set_option maxHeartbeats 1000000 in
theorem rWith (s : S) (b : Int) (w : World) :
    Calls Tryd.prog 31 #[.agg #[.int .u64 (wd (s) 0), .int .u64 (wd (s) 1), .int .u64 (wd (s) 2), .int .u64 (wd (s) 3)], .int .i64 b] w fun e w' => e = .returned (.agg #[.int .u64 (wd (sor s (sonly b)) 0), .int .u64 (wd (sor s (sonly b)) 1), .int .u64 (wd (sor s (sonly b)) 2), .int .u64 (wd (sor s (sonly b)) 3)]) ∧ Below w.heap.size w w' := by
  have HB0 : Hid (Below w.heap.size w ((w.alloc (.cells #[.int .u64 (wd (s) 0), .int .u64 (wd (s) 1), .int .u64 (wd (s) 2), .int .u64 (wd (s) 3)] 24)).alloc (.cells #[.int .u64 0, .int .u64 0, .int .u64 0, .int .u64 0] 24))) := ((Below.refl _ _).alloc (Nat.le_refl _) _).alloc (by simp) _
  have HC : Hid (∀ w, Calls Tryd.prog 47 #[.agg #[.int .u64 (wd (s) 0), .int .u64 (wd (s) 1), .int .u64 (wd (s) 2), .int .u64 (wd (s) 3)], .int .i64 b, .bool true] w fun e w' => e = .returned (.agg #[.int .u64 (wd (sor s (sonly b)) 0), .int .u64 (wd (sor s (sonly b)) 1), .int .u64 (wd (sor s (sonly b)) 2), .int .u64 (wd (sor s (sonly b)) 3)]) ∧ Below w.heap.size w w') := fun w => by have := rWith_any s b true w; rw [if_pos rfl] at this; exact this
  go_enter Tryd.func31, Tryd.ntmps31
  go_wp2_with (go_at_call 47; refine (HC.out _).mono ?_; rintro e w1 ⟨rfl, hb1⟩; have H1 : Hid (Below w.heap.size w w1) := chain HB0.out hb1; have R1 : Hid (SetAt w1 (w.heap.size + 1) (0#256)) := (by have h := SetAt.new0 (w.alloc (.cells #[.int .u64 (wd (s) 0), .int .u64 (wd (s) 1), .int .u64 (wd (s) 2), .int .u64 (wd (s) 3)] 24)); rw [World.size_alloc] at h; exact h.below hb1 (by simp)); clear hb1; obtain ⟨e0, e1, e2, e3⟩ := R1.out.cells; have fz := R1.out.frozen)
  exact bodyPost_ret (v := .agg #[.int .u64 (wd (sor s (sonly b)) 0), .int .u64 (wd (sor s (sonly b)) 1), .int .u64 (wd (sor s (sonly b)) 2), .int .u64 (wd (sor s (sonly b)) 3)]) (by simp [results, Tryd.results31, go_sem, e0, e1, e2, e3]) rfl ⟨rfl, (((H1.out.setCell (by simp) _).setCell (by simp) _).setCell (by simp) _).setCell (by simp) _⟩

set_option maxHeartbeats 1000000 in
theorem rWithout (s : S) (b : Int) (w : World) :
    Calls Tryd.prog 32 #[.agg #[.int .u64 (wd (s) 0), .int .u64 (wd (s) 1), .int .u64 (wd (s) 2), .int .u64 (wd (s) 3)], .int .i64 b] w fun e w' => e = .returned (.agg #[.int .u64 (wd (sless s (sonly b)) 0), .int .u64 (wd (sless s (sonly b)) 1), .int .u64 (wd (sless s (sonly b)) 2), .int .u64 (wd (sless s (sonly b)) 3)]) ∧ Below w.heap.size w w' := by
  have HB0 : Hid (Below w.heap.size w ((w.alloc (.cells #[.int .u64 (wd (s) 0), .int .u64 (wd (s) 1), .int .u64 (wd (s) 2), .int .u64 (wd (s) 3)] 24)).alloc (.cells #[.int .u64 0, .int .u64 0, .int .u64 0, .int .u64 0] 24))) := ((Below.refl _ _).alloc (Nat.le_refl _) _).alloc (by simp) _
  have HC : Hid (∀ w, Calls Tryd.prog 47 #[.agg #[.int .u64 (wd (s) 0), .int .u64 (wd (s) 1), .int .u64 (wd (s) 2), .int .u64 (wd (s) 3)], .int .i64 b, .bool false] w fun e w' => e = .returned (.agg #[.int .u64 (wd (sless s (sonly b)) 0), .int .u64 (wd (sless s (sonly b)) 1), .int .u64 (wd (sless s (sonly b)) 2), .int .u64 (wd (sless s (sonly b)) 3)]) ∧ Below w.heap.size w w') := fun w => by have := rWith_any s b false w; rw [if_neg (by simp)] at this; exact this
  go_enter Tryd.func32, Tryd.ntmps32
  go_wp2_with (go_at_call 47; refine (HC.out _).mono ?_; rintro e w1 ⟨rfl, hb1⟩; have H1 : Hid (Below w.heap.size w w1) := chain HB0.out hb1; have R1 : Hid (SetAt w1 (w.heap.size + 1) (0#256)) := (by have h := SetAt.new0 (w.alloc (.cells #[.int .u64 (wd (s) 0), .int .u64 (wd (s) 1), .int .u64 (wd (s) 2), .int .u64 (wd (s) 3)] 24)); rw [World.size_alloc] at h; exact h.below hb1 (by simp)); clear hb1; obtain ⟨e0, e1, e2, e3⟩ := R1.out.cells; have fz := R1.out.frozen)
  exact bodyPost_ret (v := .agg #[.int .u64 (wd (sless s (sonly b)) 0), .int .u64 (wd (sless s (sonly b)) 1), .int .u64 (wd (sless s (sonly b)) 2), .int .u64 (wd (sless s (sonly b)) 3)]) (by simp [results, Tryd.results32, go_sem, e0, e1, e2, e3]) rfl ⟨rfl, (((H1.out.setCell (by simp) _).setCell (by simp) _).setCell (by simp) _).setCell (by simp) _⟩

set_option maxHeartbeats 1000000 in
theorem rHas (s : S) (b : Int) (w : World) :
    Calls Tryd.prog 30 #[.agg #[.int .u64 (wd (s) 0), .int .u64 (wd (s) 1), .int .u64 (wd (s) 2), .int .u64 (wd (s) 3)], .int .i64 b] w fun e w' => e = .returned (.bool (shas s b)) ∧ Below w.heap.size w w' := by
  have HB0 : Hid (Below w.heap.size w (w.alloc (.cells #[.int .u64 (wd (s) 0), .int .u64 (wd (s) 1), .int .u64 (wd (s) 2), .int .u64 (wd (s) 3)] 24))) := (Below.refl _ _).alloc (Nat.le_refl _) _
  have hq : b < 0 ∨ 256 ≤ b ∨ (0 ≤ b ∧ b < 256) := by omega
  rcases hq with h | h | ⟨h, h'⟩
  · have e : shas s b = false := by rw [shas_eq, decide_eq_false (by omega)]; rfl
    go_enter Tryd.func30, Tryd.ntmps30
    go_wp2
    go_ret
    exact ⟨by simp, HB0.out⟩
  · have e : shas s b = false := by rw [shas_eq, decide_eq_false (by omega)]; rfl
    have h2 : 0 ≤ b := by omega
    go_enter Tryd.func30, Tryd.ntmps30
    go_wp2
    all_goals (go_ret; exact ⟨by first | (simp; done) | (simp; omega), HB0.out⟩)
  · have e : sbit s b.toNat = shas s b := by rw [shas_eq, decide_eq_true (by omega)]; rfl
    go_enter Tryd.func30, Tryd.ntmps30
    go_wp2_with (go_at_call 46; refine (in_any _ _ _ h h').mono ?_; rw [e]; rintro e w1 ⟨rfl, hb1⟩; have H1 : Hid (Below w.heap.size w w1) := chain HB0.out hb1; clear hb1)
    go_ret
    exact ⟨by first | (simp; done) | (simp; omega), H1.out⟩

/-- Nothing is in the set from f to k. -/
def noneIn (s : S) (f k : Int) : Prop := ∀ n : Nat, f ≤ (n : Int) → (n : Int) < k → s.getLsbD n = false
theorem next_found (s : S) (f : Int) (k : Nat) (hk : k < 256) (hf : f ≤ (k : Int)) (hn : noneIn s f k) (hb : s.getLsbD k = true) : nextV s f = (k : Int) ∧ nextB s f = true := by
  have : snext s f = some k := by
    refine find_least hk (by rw [hb, decide_eq_true hf]; rfl) fun j hj => ?_
    by_cases h : f ≤ (j : Int)
    · rw [hn j h (by omega)]; simp
    · rw [decide_eq_false h]; rfl
  unfold nextV nextB
  rw [this]
  exact ⟨rfl, rfl⟩
theorem next_gone (s : S) (f : Int) (hn : noneIn s f 256) : nextV s f = 0 ∧ nextB s f = false := by
  have : snext s f = none := by
    unfold snext
    rw [List.find?_eq_none]
    intro n hm
    have hm' : n < 256 := by simpa using hm
    by_cases h : f ≤ (n : Int)
    · rw [hn n h (by omega)]; simp
    · rw [decide_eq_false h]; simp
  unfold nextV nextB
  rw [this]
  exact ⟨rfl, rfl⟩

set_option maxRecDepth 100000 in
set_option maxHeartbeats 1000000 in
theorem rNext (s : S) (f : Int) (w : World) :
    Calls Tryd.prog 29 #[.agg #[.int .u64 (wd (s) 0), .int .u64 (wd (s) 1), .int .u64 (wd (s) 2), .int .u64 (wd (s) 3)], .int .i64 f] w fun e w' => e = .returned (.tuple #[.int .i64 (nextV s f), .bool (nextB s f)]) ∧ Below w.heap.size w w' := by
  have hq : f < 0 ∨ 0 ≤ f := by omega
  rcases hq with h | h
  all_goals
    go_enter Tryd.func29, Tryd.ntmps29
    go_wp2
    go_loopw [6] (fun i wr => ∃ k : Int, 0 ≤ k ∧ f ≤ k ∧ (k ≤ 256 ∨ k = f) ∧ i = .int .i64 k ∧ noneIn s f k ∧ SetAt wr w.heap.size s ∧ Below w.heap.size w wr) (fun i _ => (256 - intOf i).toNat)
    case atStart => exact ⟨_, by omega, by omega, by omega, rfl, fun n a b => by omega, SetAt.new w s, (Below.refl _ _).alloc (Nat.le_refl _) _⟩
    case round =>
      obtain ⟨k, hk0, hk1, hk2, rfl, hnone, hset, hb⟩ := hrel
      obtain ⟨a0, a1, a2, a3⟩ := hset.cells
      have HS : Hid (SetAt wr w.heap.size s) := hset
      have HB : Hid (Below w.heap.size w wr) := hb
      have HN : Hid (noneIn s f k) := hnone
      clear hset hb hnone
      by_cases hlt : k < 256
      · by_cases hbit : sbit s k.toNat = true
        · have hh := next_found s f k.toNat (by omega) (by omega) (fun n a b => HN.out n a (by omega)) hbit
          have HH : Hid (nextV s f = ((k.toNat : Nat) : Int) ∧ nextB s f = true) := hh
          clear hh
          go_wp2_with (go_at_call 46; refine (in_any _ _ _ hk0 hlt).mono ?_; rintro e w2 ⟨rfl, hb2⟩; have H2 : Hid (Below w.heap.size w w2) := chain HB.out hb2; clear hb2)
          go_ret2
          rw [HH.out.1, HH.out.2, Int.toNat_of_nonneg hk0]
          exact ⟨rfl, H2.out⟩
        · have hbit' : sbit s k.toNat = false := by simpa using hbit
          have HX : Hid (sbit s k.toNat = false) := hbit'
          clear hbit
          go_wp2_with (go_at_call 46; refine (in_any _ _ _ hk0 hlt).mono ?_; rintro e w2 ⟨rfl, hb2⟩; have H2 : Hid (Below w.heap.size w w2) := chain HB.out hb2; have S2 : Hid (SetAt w2 w.heap.size s) := HS.out.below hb2 HS.out.lt; clear hb2)
          go_roundw
          case rel =>
            refine ⟨k + 1, by omega, by omega, by omega, rfl, fun n a b => ?_, S2.out, H2.out⟩
            by_cases hnk : (n : Int) = k
            · have : n = k.toNat := by omega
              rw [this]; exact HX.out
            · exact HN.out n a (by omega)
          case measure => simp [intOf]; omega
      · have hh := next_gone s f (fun n a b => HN.out n a (by omega))
        have HH : Hid (nextV s f = 0 ∧ nextB s f = false) := hh
        clear hh
        go_wp2
        go_ret2
        rw [HH.out.1, HH.out.2]
        exact ⟨rfl, HB.out⟩

def elemsK (s : S) (k : Nat) : List B8 := (List.range k).filterMap fun n => if h : n < 256 ∧ s.getLsbD n = true then some ⟨(n : Int), b8_of h.1⟩ else none
theorem elemsK_all (s : S) : elemsK s 256 = elems s := rfl
theorem elemsK_hit (s : S) (k : Nat) (hk : k < 256) (h : s.getLsbD k = true) : elemsK s (k + 1) = elemsK s k ++ [⟨(k : Int), b8_of hk⟩] := by
  unfold elemsK
  rw [List.range_succ, List.filterMap_append]
  simp only [List.filterMap_cons, List.filterMap_nil]
  rw [dif_pos ⟨hk, h⟩]
theorem elemsK_miss (s : S) (k : Nat) (h : s.getLsbD k = false) : elemsK s (k + 1) = elemsK s k := by
  unfold elemsK
  rw [List.range_succ, List.filterMap_append]
  simp only [List.filterMap_cons, List.filterMap_nil]
  rw [dif_neg (by rw [h]; simp)]
  simp
theorem elemsK_length (s : S) (k : Nat) : (elemsK s k).length ≤ k := by
  unfold elemsK
  refine Nat.le_trans (List.length_filterMap_le _ _) ?_
  simp
def intsOf (l : List B8) : List Value := l.map fun x => .int .i64 x.1

theorem row_below {B : Nat} {e : TypeId} {k : Nat} {v : Value} {n : Nat} {xs : List Value} {w w' : World} (h : w.ownsRow B e k v n xs) (hb : Below w.heap.size w w') : w'.ownsRow B e k v n xs :=
  h.kept (row := none) ⟨hb.os, hb.tape, hb.output, hb.size, fun j hj _ => hb.block j hj⟩ (by cases hv : v.ownBlock <;> simp)
theorem SetAt.not_rowG {W : World} {B base n k : Nat} {t : TypeId} {s : S} {v : Value} {xs : List Value} (h : SetAt W B s) (hr : W.ownsRow base t k v n xs) (ht : t ≠ 24) : some B ≠ v.ownBlock := by
  rcases hr.2 with ⟨rfl, _⟩ | ⟨g, cap, cur, rfl, _, hg, _⟩
  · simp [Value.ownBlock]
  · intro e
    simp [Value.ownBlock] at e
    subst e
    rw [show W.heap[B]? = _ from h] at hg
    injection hg with hg
    injection hg with _ h2 _
    exact ht h2.symm

theorem info_int : (Tryd.prog.info? 3).map (fun i => (i.zero, i.size, i.bytes)) = some (some (.int .i64 0), 1, 8) := by kernel_rfl

set_option maxRecDepth 100000 in
set_option maxHeartbeats 1000000 in
theorem rList (s : S) (w : World) :
    Calls Tryd.prog 48 #[.agg #[.int .u64 (wd (s) 0), .int .u64 (wd (s) 1), .int .u64 (wd (s) 2), .int .u64 (wd (s) 3)]] w fun e w' => ∃ v, e = .returned v ∧ w'.ownsRow w.heap.size 3 1 v (elems s).length (intsOf (elems s)) ∧ Below w.heap.size w w' := by
  obtain ⟨i0, hi, hz0, hz1, hz2⟩ := info_parts info_int
  go_enter Tryd.func48, Tryd.ntmps48
  go_wp2
  go_loopw [3, 4] (fun v i wr => ∃ k : Nat, k ≤ 256 ∧ i = .int .i64 k ∧ wr.ownsRow w.heap.size 3 1 v (elemsK s k).length (intsOf (elemsK s k)) ∧ SetAt wr w.heap.size s ∧ Below w.heap.size w wr) (fun _ i _ => 256 - (intOf i).toNat)
  case atStart => exact ⟨0, by omega, rfl, World.ownsRow_nil _ _ _ _, SetAt.new w s, (Below.refl _ _).alloc (Nat.le_refl _) _⟩
  case round =>
    obtain ⟨k, hk0, rfl, hrow, hset, hb⟩ := hrel
    obtain ⟨a0, a1, a2, a3⟩ := hset.cells
    have HS : Hid (SetAt wr w.heap.size s) := hset
    have HB : Hid (Below w.heap.size w wr) := hb
    have HR : Hid (wr.ownsRow w.heap.size 3 1 _ (elemsK s k).length (intsOf (elemsK s k))) := hrow
    have hl := elemsK_length s k
    clear hset hb hrow
    by_cases hlt : (k : Int) < 256
    · by_cases hbit : sbit s k = true
      · have HX : Hid (sbit s k = true) := hbit
        clear hbit
        go_wp2_with first | (go_at_call 46; refine (in_any _ _ _ (by omega) hlt).mono ?_; rw [Int.toNat_natCast, HX.out]; rintro e w2 ⟨rfl, hb2⟩; have H2 : Hid (Below w.heap.size w w2) := chain HB.out hb2; have S2 : Hid (SetAt w2 w.heap.size s) := HS.out.below hb2 HS.out.lt; have R2 := row_below HR.out hb2; clear hb2) | (at_builtin; refine wpList_append_own _ rfl _ _ 60 rfl w.heap.size 3 i0 (.int .i64 0) 1 8 Tryd.underlying60 hi hz0 hz1 hz2 rfl (by decide) _ _ _ rfl (R2.alloc _) ⟨w2.heap.size, 0, none⟩ 1 1 [.int .i64 k] rfl rfl (cell_one_new _ _ _) (by simp [Value.oneCell']) (by unfold maxLen; omega) (by omega) (by have := H2.out.size; simp; omega) ?_; intro v' w1 hown' hgrow _)
        refine ⟨⟨k + 1, by omega, rfl, ?_, (S2.out.alloc _).grown hgrow (S2.out.not_rowG R2 (by decide)), (H2.out.alloc (by have := H2.out.size; omega) _).grown hgrow (by have := H2.out.size; simp; omega) (fun j hj => (R2.lt j hj).1)⟩, by simp [intOf]; omega⟩
        rw [elemsK_hit s k (by omega) HX.out, intsOf, List.map_append, List.length_append]
        exact hown'
      · have hbit' : sbit s k = false := by simpa using hbit
        have HX : Hid (sbit s k = false) := hbit'
        clear hbit
        go_wp2_with (go_at_call 46; refine (in_any _ _ _ (by omega) hlt).mono ?_; rw [Int.toNat_natCast, HX.out]; rintro e w2 ⟨rfl, hb2⟩; have H2 : Hid (Below w.heap.size w w2) := chain HB.out hb2; have S2 : Hid (SetAt w2 w.heap.size s) := HS.out.below hb2 HS.out.lt; have R2 := row_below HR.out hb2; clear hb2)
        refine ⟨⟨k + 1, by omega, rfl, ?_, S2.out, H2.out⟩, by simp [intOf]; omega⟩
        rw [elemsK_miss s k HX.out]
        exact R2
    · have hk : k = 256 := by omega
      subst hk
      go_wp2
      go_ret
      exact ⟨_, rfl, HR.out, HB.out⟩

theorem own_slice {W : World} {base n k : Nat} {t : TypeId} {v : Value} {xs : List Value} (h : W.ownsRow base t k v n xs) : ∃ a cap, v = .slice a n cap := by
  rcases h.2 with ⟨rfl, h0⟩ | ⟨g, cap, cur, rfl, _⟩
  · subst h0; exact ⟨_, _, rfl⟩
  · exact ⟨_, _, rfl⟩

set_option maxHeartbeats 1000000 in
theorem rCount (s : S) (w : World) :
    Calls Tryd.prog 33 #[.agg #[.int .u64 (wd (s) 0), .int .u64 (wd (s) 1), .int .u64 (wd (s) 2), .int .u64 (wd (s) 3)]] w fun e w' => e = .returned (.int .i64 (scount s)) ∧ Below w.heap.size w w' := by
  go_enter Tryd.func33, Tryd.ntmps33
  go_wp2_with (go_at_call 48; refine (rList _ _).mono ?_; rintro e w1 ⟨v, rfl, hrow, hb1⟩; obtain ⟨a, cap, rfl⟩ := own_slice hrow)
  go_ret
  exact ⟨rfl, ((Below.refl _ _).alloc (Nat.le_refl _) _).trans (hb1.mono (by simp))⟩
end Go.Proofs.YtcaijlmffdfhgaaDoor
