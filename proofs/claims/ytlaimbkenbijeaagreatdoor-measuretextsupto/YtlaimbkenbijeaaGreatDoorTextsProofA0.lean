/-
  Short names.
-/
import Derived.Below
import Derived.WalkKit
namespace Go.Proofs.YtlaimbkenbijeaaGreatDoor
open Go
abbrev a7 := @World.size_alloc
abbrev a8 := @List.setIfInBounds_toArray
theorem b6 {α : Type} {a : α} {l : List α} {h : 0 < (a :: l).length} : (a :: l)[0] = a := rfl
theorem b7 {α : Type} {a : α} {l : List α} {i : Nat} {h : i + 1 < (a :: l).length} : (a :: l)[i + 1] = l[i]'(Nat.lt_of_succ_lt_succ h) := rfl
theorem f4 {α : Type} {xs : List α} {i : Nat} {h : i < xs.toArray.size} : xs.toArray[i] = xs[i]'(by simpa using h) := rfl
abbrev g3 := @List.set_cons_succ
abbrev g4 := @List.set_cons_zero
abbrev g8 := @Nat.zero_add
abbrev g9 := @List.getElem?_eq_getElem
abbrev i4 := @beq_eq_false_iff_ne
abbrev i5 := @List.getElem?_eq_some_iff
abbrev i6 := @Nat.lt_of_lt_of_le
abbrev i7 := @Array.getElem?_setIfInBounds_ne
abbrev i8 := @Nat.le_trans
abbrev i9 := @List.mem_of_getElem?
abbrev j8 := @List.length_cons
abbrev j9 := @List.take_of_length_le
abbrev l8 := @decide_eq_false
abbrev l9 := @World.ownsRow.alloc
abbrev m7 := @List.length_append
abbrev m8 := @List.mem_cons_self
abbrev m9 := @Nat.zero_le
abbrev n6 := @List.mem_cons_of_mem
abbrev n7 := @World.cell?_setCell_same
abbrev n8 := @Nat.le_refl
abbrev n9 := @List.mem_append
abbrev o3 := @List.eq_nil_of_length_eq_zero
abbrev o4 := @List.getElem?_append_left
abbrev o5 := @List.take_add_one
abbrev o8 := @List.length_map
abbrev o9 := @List.length_take
abbrev r7 := @List.map_cons
abbrev r8 := @decide_eq_true
abbrev r9 := @List.cons_append
abbrev t8 := @List.getElem?_set_ne
abbrev t9 := @List.append_assoc
abbrev v9 := @Array.getElem?_setIfInBounds_self_of_lt
abbrev aAA := @Array.getElem?_eq_some_iff
abbrev aAB := @List.getElem?_append_right
abbrev aAC := @Nat.succ_pos
abbrev aAD := @Array.getD_eq_getD_getElem?
abbrev aAE := @List.getElem?_map
abbrev aAF := @List.cons_ne_nil
abbrev aAG := @List.nil_append
abbrev aAH := @List.drop_eq_getElem_cons
abbrev aAI := @Nat.add_assoc
abbrev aAJ := @Nat.mul_comm
abbrev aAK := @Nat.zero_mul
abbrev aAL := @List.getElem?_cons_succ
abbrev aAM := @List.mem_map
abbrev aAN := @Int.le_refl
abbrev aAO := @Array.size_setIfInBounds
abbrev aAP := @Option.some.inj
abbrev aAQ := @List.take_length
abbrev aAR := @List.map_append
abbrev aAS := @List.take_zero
abbrev aAT := @Bool.and_eq_true
abbrev aAU := @List.mem_of_mem_take
abbrev aAV := @Option.toList_some
abbrev aAW := @List.mem_cons
abbrev aAX := @World.ownsRow_nil
abbrev aAY := @Array.replicate_succ
abbrev aAZ := @Array.all_eq_true_iff_forall_mem
abbrev aBA := @List.flatMap_cons
abbrev aBB := @List.size_toArray
abbrev aBC := @decide_eq_true_eq
abbrev aBD := @Bool.eq_iff_iff
abbrev aBE := @List.getElem?_set_self
abbrev aBF := @Int.toNat_natCast
abbrev aBG := @List.take_append_drop
abbrev aBH := @List.append_nil
abbrev aBI := @Array.replicate_zero
abbrev aBJ := @List.foldl_append
abbrev aBK := @List.append_toArray
abbrev aBL := @List.take_succ_cons
abbrev aBM := @List.pairwise_cons
abbrev aBN := @List.mem_singleton
abbrev aBO := @World.ownsRow.drew
abbrev aBP := @Nat.add_zero
abbrev aBQ := @List.push_toArray
abbrev aBR := @Array.getElem?_eq_none
abbrev aBS := @List.length_singleton
abbrev aBT := @List.getElem?_toArray
abbrev aBU := @List.eq_nil_iff_forall_not_mem
abbrev aBV := @Bool.eq_false_iff
abbrev aBW := @List.take_append_of_le_length
abbrev aBX := @Array.length_toList
abbrev aBY := @List.dropLast_concat_getLast
abbrev aBZ := @Bool.false_eq_true
abbrev aCA := @List.nil_prefix
abbrev aCB := @List.length_set
abbrev aCC := @Bool.true_and
end Go.Proofs.YtlaimbkenbijeaaGreatDoor
