/-
  Short names.
-/
import Derived.Below
import Derived.WalkKit
namespace Go.Proofs.YtlamifbjklpdbaaGreat
open Go Go.RowKit
abbrev a7 := @Nat.zero_add
abbrev a8 := @beq_eq_false_iff_ne
abbrev b6 := @List.mem_cons_of_mem
abbrev b7 := @List.getElem?_eq_getElem
abbrev f8 := @List.setIfInBounds_toArray
abbrev g7 := @List.mem_cons_self
theorem g8 {α : Type} {a : α} {l : List α} {h : 0 < (a :: l).length} : (a :: l)[0] = a := rfl
theorem g9 {α : Type} {a : α} {l : List α} {i : Nat} {h : i + 1 < (a :: l).length} : (a :: l)[i + 1] = l[i]'(Nat.lt_of_succ_lt_succ h) := rfl
abbrev i4 := @List.set_cons_zero
abbrev i5 := @List.mem_of_getElem?
theorem i6 {α : Type} {xs : List α} {i : Nat} {h : i < xs.toArray.size} : xs.toArray[i] = xs[i]'(by simpa using h) := rfl
abbrev i7 := @List.getElem?_eq_some_iff
abbrev i8 := @List.set_cons_succ
abbrev i9 := @List.length_cons
abbrev j2 := @Nat.lt_of_lt_of_le
abbrev j3 := @List.length_append
abbrev j4 := @Nat.le_trans
abbrev j5 := @List.take_of_length_le
abbrev j6 := @List.mem_append
abbrev j7 := @List.append_assoc
abbrev j8 := @decide_eq_false
abbrev j9 := @World.cell?_setCell_same
abbrev l7 := @List.cons_append
abbrev l8 := @List.map_cons
abbrev l9 := @List.append_nil
abbrev m7 := @Nat.zero_le
abbrev m8 := @World.size_alloc
abbrev m9 := @List.mem_map
abbrev n7 := @List.mem_cons
abbrev n8 := @List.eq_nil_of_length_eq_zero
abbrev n9 := @List.nil_append
abbrev o0 := @List.getElem?_append_right
abbrev o4 := @List.map_append
abbrev o5 := @Nat.le_refl
abbrev o6 := @List.mem_filter
abbrev o7 := @List.take_add_one
abbrev o8 := @World.ownsRow.alloc
abbrev o9 := @List.length_take
abbrev r6 := @List.getElem?_append_left
abbrev r7 := @List.length_map
abbrev r8 := @List.filter_cons
abbrev r9 := @decide_eq_true
abbrev s4 := @List.flatMap_cons
abbrev s6 := @Int.le_refl
abbrev s7 := @List.getElem?_cons_succ
abbrev s8 := @List.any_eq_true
abbrev s9 := @List.mem_singleton
abbrev t4 := @World.ownsRow_nil
abbrev t8 := @List.getElem?_map
abbrev t9 := @Nat.add_assoc
abbrev u0 := @Nat.mul_comm
abbrev u1 := @Nat.sub_self
abbrev u2 := @List.map_singleton
abbrev u4 := @Nat.succ_pos
abbrev u6 := @decide_eq_true_eq
abbrev u8 := @List.drop_eq_getElem_cons
abbrev u9 := @List.take_append_drop
abbrev v9 := @List.length_singleton
abbrev aAA := @List.pairwise_cons
abbrev aAB := @List.take_length
abbrev aAC := @List.flatMap_append
abbrev aAD := @List.take_succ_cons
abbrev aAE := @Nat.add_zero
abbrev aAF := @List.mem_flatMap
abbrev aAG := @List.mem_of_mem_take
abbrev aAH := @List.size_toArray
abbrev aAI := @List.any_cons
abbrev aDr (b i : Nat) : Addr := ⟨b, i, none⟩
abbrev wBl (w w' : World) : Prop := Below w.heap.size w w'
abbrev lIi := List (Int × Int)
abbrev lOn := List (Option Nat)
abbrev bAb := ByteArray × Bool
abbrev bVb := BitVec 256 × Bool
end Go.Proofs.YtlamifbjklpdbaaGreat
namespace Go.RowKit
theorem Hid.o {p : Prop} (h : Hid p) : p := h
end Go.RowKit
namespace Go
abbrev Value.I (x : Int) : Value := .int .i64 x
end Go
