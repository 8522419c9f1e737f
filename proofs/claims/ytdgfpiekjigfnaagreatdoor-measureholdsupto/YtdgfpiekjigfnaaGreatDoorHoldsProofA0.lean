/-
  Short names.
-/
import Derived.Below
import Derived.WalkKit
namespace Go.Proofs.YtdgfpiekjigfnaaGreatDoor
open Go Go.RowKit
abbrev f4 := @World.size_alloc
abbrev f8 := @List.setIfInBounds_toArray
theorem g4 {α : Type} {a : α} {l : List α} {h : 0 < (a :: l).length} : (a :: l)[0] = a := rfl
theorem g8 {α : Type} {a : α} {l : List α} {i : Nat} {h : i + 1 < (a :: l).length} : (a :: l)[i + 1] = l[i]'(Nat.lt_of_succ_lt_succ h) := rfl
theorem g9 {α : Type} {xs : List α} {i : Nat} {h : i < xs.toArray.size} : xs.toArray[i] = xs[i]'(by simpa using h) := rfl
abbrev i7 := @List.set_cons_succ
abbrev i8 := @List.set_cons_zero
abbrev i9 := @List.getElem?_eq_getElem
abbrev m7 := @List.getElem?_eq_some_iff
abbrev m8 := @Nat.le_trans
abbrev m9 := @Nat.zero_add
abbrev n6 := @beq_eq_false_iff_ne
abbrev n7 := @List.mem_of_getElem?
abbrev n8 := @List.take_of_length_le
abbrev n9 := @Nat.lt_of_lt_of_le
abbrev o3 := @List.mem_append
abbrev o4 := @List.length_append
abbrev o5 := @List.length_cons
abbrev o8 := @World.ownsRow.alloc
abbrev o9 := @Nat.zero_le
abbrev r8 := @List.mem_cons_of_mem
abbrev r9 := @List.mem_cons_self
abbrev t5 := @decide_eq_false
abbrev t6 := @Option.some.inj
abbrev t7 := @List.take_add_one
abbrev t8 := @List.mem_singleton
abbrev t9 := @Nat.le_refl
abbrev v9 := @List.take_zero
abbrev aAA := @List.length_take
abbrev aAB := @World.cell?_setCell_same
abbrev aAC := @List.getElem?_append_left
abbrev aAD := @List.getElem?_append_right
abbrev aAE := @List.length_map
abbrev aAF := @List.cons_append
abbrev aAG := @List.getD_eq_getElem?_getD
abbrev aAH := @Int.le_refl
abbrev aAI := @List.mem_map
abbrev aAJ := @List.mem_of_mem_take
abbrev aAK := @List.eq_nil_of_length_eq_zero
abbrev aAL := @Nat.succ_pos
abbrev aAM := @List.append_assoc
abbrev aAN := @Nat.add_assoc
abbrev aAO := @List.nil_append
abbrev aAP := @List.pairwise_cons
abbrev aAQ := @Nat.add_zero
abbrev aAR := @decide_eq_true
abbrev aAS := @List.length_drop
abbrev aAT := @List.getElem?_cons_succ
abbrev aAU := @Nat.mul_comm
abbrev aAV := @List.length_set
abbrev aAW := @Int.toNat_natCast
abbrev aAX := @Option.toList_some
abbrev aAY := @List.cons_ne_nil
abbrev aAZ := @List.flatMap_cons
abbrev aBA := @List.drop_eq_getElem_cons
abbrev aBB := @List.mem_cons
abbrev aBC := @List.getElem?_map
abbrev aBD := @Nat.le_of_lt
abbrev aBE := @Bool.and_eq_true
abbrev aBF := @List.take_length
abbrev aBG := @World.ownsRow_nil
abbrev aBH := @decide_eq_true_eq
abbrev aBI := @Array.getElem?_eq_some_iff
abbrev aBJ := @Nat.zero_mul
abbrev aBK := @List.size_toArray
abbrev aBL := @Bool.eq_iff_iff
abbrev aBM := @List.take_succ_cons
abbrev aBN := @Array.getD_eq_getD_getElem?
abbrev aBO := @List.getElem?_set
abbrev aBP := @List.map_cons
abbrev aBQ := @Array.replicate_succ
abbrev aBR := @List.append_nil
abbrev aBS := @List.map_append
abbrev aBT := @Nat.add_sub_cancel
abbrev aBU := @Nat.lt_of_le_of_lt
abbrev aBV := @Array.replicate_zero
abbrev aBW := @List.append_toArray
abbrev aBX := @List.take_append_drop
abbrev aBY := @World.ownsRow.drew
abbrev aBZ := @List.getElem?_drop
abbrev aCA := @List.push_toArray
abbrev aCB := @Nat.le_succ_of_le
abbrev aCC := @Array.getElem?_modify
abbrev aCD := @List.length_singleton
abbrev aCE := @List.map_nil
abbrev aCF := @List.foldl_append
abbrev aCG := @List.flatten_cons
abbrev aCH := @List.take_append_of_le_length
abbrev aCI := @List.length_eq_zero_iff
abbrev aCJ := @List.mem_range
abbrev aCK := @List.ext_getElem
abbrev aCL := @Int.mul_nonneg
abbrev aCM := @List.nil_prefix
abbrev aCN := @Bool.true_and
abbrev aDr (b i : Nat) : Addr := ⟨b, i, none⟩
abbrev wBl (w w' : World) : Prop := Below w.heap.size w w'
abbrev lIi := List (Int × Int)
abbrev lOn := List (Option Nat)
abbrev bAb := ByteArray × Bool
abbrev bVb := BitVec 256 × Bool
end Go.Proofs.YtdgfpiekjigfnaaGreatDoor
namespace Go.RowKit
theorem Hid.o {p : Prop} (h : Hid p) : p := h
end Go.RowKit
namespace Go
abbrev Value.I (x : Int) : Value := .int .i64 x
end Go
