/-
  Short names.
-/
import Derived.Below
import Derived.WalkKit
namespace Go.Proofs.YtlamifbjklpdbaaGreat
open Go Go.RowKit
abbrev f8 := @List.setIfInBounds_toArray
theorem g7 {α : Type} {a : α} {l : List α} {h : 0 < (a :: l).length} : (a :: l)[0] = a := rfl
theorem g8 {α : Type} {a : α} {l : List α} {i : Nat} {h : i + 1 < (a :: l).length} : (a :: l)[i + 1] = l[i]'(Nat.lt_of_succ_lt_succ h) := rfl
abbrev g9 := @List.getElem?_eq_getElem
theorem i7 {α : Type} {xs : List α} {i : Nat} {h : i < xs.toArray.size} : xs.toArray[i] = xs[i]'(by simpa using h) := rfl
abbrev i8 := @List.set_cons_zero
abbrev i9 := @List.set_cons_succ
abbrev m7 := @Nat.zero_add
abbrev m8 := @List.getElem?_eq_some_iff
abbrev m9 := @List.mem_cons_of_mem
abbrev n7 := @beq_eq_false_iff_ne
abbrev n8 := @List.mem_of_getElem?
abbrev n9 := @List.mem_cons_self
abbrev o0 := @Nat.le_trans
abbrev o3 := @List.mem_append
abbrev o4 := @List.take_of_length_le
abbrev o5 := @List.length_append
abbrev o7 := @List.length_cons
abbrev o8 := @Nat.lt_of_lt_of_le
abbrev o9 := @Nat.zero_le
abbrev r8 := @List.append_assoc
abbrev r9 := @decide_eq_false
abbrev s4 := @List.mem_map
abbrev s6 := @List.map_cons
abbrev s7 := @List.take_add_one
abbrev s8 := @World.cell?_setCell_same
abbrev s9 := @List.mem_singleton
abbrev t4 := @List.cons_append
abbrev t8 := @Nat.le_refl
abbrev t9 := @List.append_nil
abbrev u0 := @List.mem_cons
abbrev v9 := @World.size_alloc
abbrev aAA := @List.getElem?_append_right
abbrev aAB := @World.ownsRow.alloc
abbrev aAC := @List.length_map
abbrev aAD := @List.eq_nil_of_length_eq_zero
abbrev aAE := @Option.some.inj
abbrev aAF := @List.mem_filter
abbrev aAG := @List.length_take
abbrev aAH := @List.getElem?_append_left
abbrev aAI := @List.nil_append
abbrev aAJ := @Nat.add_zero
abbrev aAK := @List.map_append
abbrev aAL := @List.take_zero
abbrev aAM := @decide_eq_true
abbrev aAN := @List.flatMap_cons
abbrev aAO := @List.getElem?_map
abbrev aAP := @List.getElem?_cons_succ
abbrev aAQ := @List.length_set
abbrev aAR := @List.length_drop
abbrev aAS := @List.mem_of_mem_take
abbrev aAT := @List.pairwise_cons
abbrev aAU := @Nat.add_assoc
abbrev aAV := @List.filter_cons
abbrev aAW := @Int.le_refl
abbrev aAX := @List.any_eq_true
abbrev aAY := @World.ownsRow_nil
abbrev aAZ := @List.getElem?_set
abbrev aBA := @Nat.lt_of_le_of_lt
abbrev aBB := @Nat.mul_comm
abbrev aBC := @Nat.le_of_lt
abbrev aBD := @decide_eq_true_eq
abbrev aBE := @List.getD_eq_getElem?_getD
abbrev aBF := @Nat.sub_self
abbrev aBG := @List.take_append_drop
abbrev aBH := @Option.toList_some
abbrev aBI := @List.map_singleton
abbrev aBJ := @List.mem_flatMap
abbrev aBK := @Nat.succ_pos
abbrev aBL := @Nat.le_succ_of_le
abbrev aBM := @List.flatMap_append
abbrev aBN := @List.take_succ_cons
abbrev aBO := @List.drop_eq_getElem_cons
abbrev aBP := @List.length_singleton
abbrev aBQ := @List.take_length
abbrev aBR := @Nat.add_sub_cancel
abbrev aBS := @List.getElem?_set_ne
abbrev aBT := @List.size_toArray
abbrev aBU := @List.set_append_right
abbrev aBV := @List.getElem?_drop
abbrev aBW := @List.mem_range
abbrev aBX := @List.ext_getElem
abbrev aBY := @Bool.and_eq_true
abbrev aBZ := @List.getElem?_set_self
abbrev aCA := @Nat.le_succ
abbrev aCB := @Bool.true_and
abbrev aCC := @List.any_cons
abbrev aDr (b i : Nat) : Addr := ⟨b, i, none⟩
abbrev wBl (w w' : World) : Prop := Below w.heap.size w w'
abbrev lIi := List (Int × Int)
abbrev lOn := List (Option Nat)
abbrev bAb := ByteArray × Bool
abbrev bVb := BitVec 256 × Bool
end Go.Proofs.YtlamifbjklpdbaaGreat
namespace Go.RowKit
theorem Hid.o {p : Prop} (h : Hid p) : p := h
end Go.RowKit
namespace Go
abbrev Value.I (x : Int) : Value := .int .i64 x
end Go
