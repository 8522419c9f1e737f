/-
  Short names.
-/
import Derived.Below
import Derived.WalkKit
namespace Go.Proofs.YtdgfpiekjigfnaaGreatDoor
open Go Go.RowKit
abbrev f8 := @World.size_alloc
abbrev g4 := @List.setIfInBounds_toArray
theorem g8 {α : Type} {a : α} {l : List α} {h : 0 < (a :: l).length} : (a :: l)[0] = a := rfl
theorem g9 {α : Type} {a : α} {l : List α} {i : Nat} {h : i + 1 < (a :: l).length} : (a :: l)[i + 1] = l[i]'(Nat.lt_of_succ_lt_succ h) := rfl
theorem i7 {α : Type} {xs : List α} {i : Nat} {h : i < xs.toArray.size} : xs.toArray[i] = xs[i]'(by simpa using h) := rfl
abbrev i8 := @List.set_cons_succ
abbrev i9 := @List.set_cons_zero
abbrev m7 := @List.getElem?_eq_getElem
abbrev m8 := @List.getElem?_eq_some_iff
abbrev m9 := @Nat.le_trans
abbrev n6 := @beq_eq_false_iff_ne
abbrev n7 := @Nat.zero_add
abbrev n8 := @List.mem_of_getElem?
abbrev n9 := @List.take_of_length_le
abbrev o4 := @Nat.lt_of_lt_of_le
abbrev o5 := @List.mem_append
abbrev o8 := @List.length_append
abbrev o9 := @World.ownsRow.alloc
abbrev r8 := @List.length_cons
abbrev r9 := @Nat.zero_le
abbrev t5 := @List.mem_cons_self
abbrev t6 := @decide_eq_false
abbrev t7 := @List.mem_cons_of_mem
abbrev t8 := @Option.some.inj
abbrev t9 := @List.take_add_one
abbrev v9 := @List.mem_singleton
abbrev aAA := @List.take_zero
abbrev aAB := @Nat.le_refl
abbrev aAC := @List.length_take
abbrev aAD := @World.cell?_setCell_same
abbrev aAE := @List.getElem?_append_left
abbrev aAF := @List.getElem?_append_right
abbrev aAG := @List.length_map
abbrev aAH := @List.getD_eq_getElem?_getD
abbrev aAI := @List.cons_append
abbrev aAJ := @List.mem_of_mem_take
abbrev aAK := @Int.le_refl
abbrev aAL := @List.eq_nil_of_length_eq_zero
abbrev aAM := @Nat.succ_pos
abbrev aAN := @List.append_assoc
abbrev aAO := @Nat.add_assoc
abbrev aAP := @List.nil_append
abbrev aAQ := @decide_eq_true
abbrev aAR := @Nat.add_zero
abbrev aAS := @List.length_drop
abbrev aAT := @List.mem_map
abbrev aAU := @List.getElem?_cons_succ
abbrev aAV := @Nat.mul_comm
abbrev aAW := @List.length_set
abbrev aAX := @Int.toNat_natCast
abbrev aAY := @Bool.and_eq_true
abbrev aAZ := @Option.toList_some
abbrev aBA := @List.cons_ne_nil
abbrev aBB := @List.flatMap_cons
abbrev aBC := @List.getElem?_map
abbrev aBD := @List.pairwise_cons
abbrev aBE := @Nat.le_of_lt
abbrev aBF := @List.drop_eq_getElem_cons
abbrev aBG := @List.take_length
abbrev aBH := @World.ownsRow_nil
abbrev aBI := @decide_eq_true_eq
abbrev aBJ := @Array.getElem?_eq_some_iff
abbrev aBK := @List.mem_cons
abbrev aBL := @Nat.zero_mul
abbrev aBM := @List.size_toArray
abbrev aBN := @Array.getD_eq_getD_getElem?
abbrev aBO := @List.getElem?_set
abbrev aBP := @List.map_cons
abbrev aBQ := @Bool.eq_iff_iff
abbrev aBR := @Array.replicate_succ
abbrev aBS := @List.take_succ_cons
abbrev aBT := @List.append_nil
abbrev aBU := @List.map_append
abbrev aBV := @Nat.add_sub_cancel
abbrev aBW := @Nat.lt_of_le_of_lt
abbrev aBX := @Array.replicate_zero
abbrev aBY := @List.append_toArray
abbrev aBZ := @List.take_append_drop
abbrev aCA := @World.ownsRow.drew
abbrev aCB := @List.getElem?_drop
abbrev aCC := @List.push_toArray
abbrev aCD := @Nat.le_succ_of_le
abbrev aCE := @List.ext_getElem
abbrev aCF := @Array.getElem?_modify
abbrev aCG := @List.length_singleton
abbrev aCH := @List.map_nil
abbrev aCI := @List.foldl_append
abbrev aCJ := @List.flatten_cons
abbrev aCK := @List.take_append_of_le_length
abbrev aCL := @List.length_eq_zero_iff
abbrev aCM := @Int.mul_nonneg
abbrev aCN := @Bool.false_eq_true
abbrev aCO := @List.nil_prefix
abbrev aCP := @Bool.true_and
abbrev aDr (b i : Nat) : Addr := ⟨b, i, none⟩
abbrev wBl (w w' : World) : Prop := Below w.heap.size w w'
abbrev lIi := List (Int × Int)
abbrev lOn := List (Option Nat)
abbrev bAb := ByteArray × Bool
abbrev bVb := BitVec 256 × Bool
end Go.Proofs.YtdgfpiekjigfnaaGreatDoor
namespace Go.RowKit
theorem Hid.o {p : Prop} (h : Hid p) : p := h
end Go.RowKit
namespace Go
abbrev Value.I (x : Int) : Value := .int .i64 x
end Go
