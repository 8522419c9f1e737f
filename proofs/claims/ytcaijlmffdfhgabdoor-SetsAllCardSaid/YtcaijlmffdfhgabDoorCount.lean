/-
  What sets.Count and sets.Range answer.
-/
import Derived.Test.YtcaijlmffdfhgabDoorElems
import Derived.Test.YtcaijlmffdfhgabDoorOnes
namespace Go.Proofs.YtcaijlmffdfhgabDoor
open Go Go.RowKit
attribute [local go_sem] idx0 idx1 idx2 idx3 u64_signed ext_cell

/-- How many bytes are in a set. -/
def scount (s : S) : Int := ((elems s).length : Int)
def wcount (s : S) (i : Nat) : Int := (pcN 64 (wd s i).toNat : Nat)

theorem filterMap_length {α β : Type} (f : α → Option β) (p : α → Bool) (h : ∀ a, (f a).isSome = p a) : ∀ l : List α, (l.filterMap f).length = (l.filter p).length
  | [] => rfl
  | a :: l => by
    have := h a
    have ih := filterMap_length f p h l
    rw [List.filterMap_cons, List.filter_cons]
    cases hf : f a with
    | none => rw [hf] at this; simp at this; rw [if_neg (by simp [this])]; exact ih
    | some b => rw [hf] at this; simp at this; rw [if_pos this]; simp [ih]

theorem elems_count (s : S) : (elems s).length = ((List.range 256).filter fun n => s.getLsbD n).length := by
  unfold elems
  refine filterMap_length _ _ ?_ _
  intro n
  split
  · rename_i h; simp [h.2]
  · rename_i h
    by_cases hn : n < 256
    · have : ¬ s.getLsbD n = true := fun g => h ⟨hn, g⟩
      simpa using this
    · have : s.getLsbD n = false := BitVec.getLsbD_of_ge _ _ (by omega)
      simp [this]

theorem filter_shift (p : Nat → Bool) (a b : Nat) : ((List.range (a + b)).filter p).length = ((List.range a).filter p).length + ((List.range b).filter fun i => p (a + i)).length := by
  rw [List.range_add, List.filter_append, List.length_append, List.filter_map, List.length_map]
  rfl

theorem word_count (s : S) (i : Nat) : (pcN 64 (wd s i).toNat) = ((List.range 64).filter fun n => s.getLsbD (64 * i + n)).length := by
  rw [pcN_count]
  have e : (wd s i).toNat = (s.extractLsb' (64 * i) 64).toNat := by unfold wd; simp only [Int.toNat_natCast]
  rw [e]
  congr 1
  refine List.filter_congr fun n hn => ?_
  have hn' : n < 64 := by simpa using hn
  rw [← bit_word s i n hn']
  rfl

theorem scount_words (s : S) : scount s = wcount s 0 + wcount s 1 + wcount s 2 + wcount s 3 := by
  unfold scount wcount
  have e : ((List.range 256).filter fun n => s.getLsbD n).length = ((List.range (64 + (64 + (64 + 64)))).filter fun n => s.getLsbD n).length := rfl
  rw [elems_count, e, filter_shift, filter_shift, filter_shift, word_count, word_count, word_count, word_count]
  simp only [Nat.mul_zero, Nat.zero_add, Nat.mul_one, Nat.reduceMul, ← Nat.add_assoc, Nat.reduceAdd]
  omega

theorem wcount_range (s : S) (i : Nat) : 0 ≤ wcount s i ∧ wcount s i ≤ 64 := by
  unfold wcount
  have := pcN_le 64 (wd s i).toNat
  omega

theorem ones_any (s : S) (i : Nat) (w : World) : Calls Tryd.prog 21 #[.int .u64 (wd s i)] w fun e w' => e = .returned (.int .i64 (wcount s i)) ∧ w' = w := by
  have r := wd_range s i
  have h := ones_nat (wd s i).toNat w (by omega)
  rwa [Int.toNat_of_nonneg r.1] at h

set_option maxHeartbeats 1000000 in
theorem count_any (s : S) (w : World) :
    Calls Tryd.prog 13 #[.agg #[.int .u64 (wd (s) 0), .int .u64 (wd (s) 1), .int .u64 (wd (s) 2), .int .u64 (wd (s) 3)]] w fun e w' => e = .returned (.int .i64 (scount s)) ∧ Below w.heap.size w w' := by
  have r0 := wcount_range s 0
  have r1 := wcount_range s 1
  have r2 := wcount_range s 2
  have r3 := wcount_range s 3
  go_enter Tryd.func13, Tryd.ntmps13
  go_wp2
  refine wp_loop_unr 5 ?_
  refine unr_succ ?_
  go_wp2_with (go_at_call 21; refine (ones_any _ _ _).mono ?_; rintro e w' ⟨rfl, rfl⟩)
  refine unr_succ ?_
  go_wp2_with (go_at_call 21; refine (ones_any _ _ _).mono ?_; rintro e w' ⟨rfl, rfl⟩)
  refine unr_succ ?_
  go_wp2_with (go_at_call 21; refine (ones_any _ _ _).mono ?_; rintro e w' ⟨rfl, rfl⟩)
  refine unr_succ ?_
  go_wp2_with (go_at_call 21; refine (ones_any _ _ _).mono ?_; rintro e w' ⟨rfl, rfl⟩)
  refine unr_succ ?_
  go_wp2
  go_ret
  exact ⟨by rw [scount_words]; simp, (Below.refl _ _).alloc (Nat.le_refl _) _⟩
end Go.Proofs.YtcaijlmffdfhgabDoor
