/-
  Short names.
-/
import Derived.Below
import Derived.WalkKit
namespace Go.Proofs.Ytliflleaeimngaa
open Go Go.RowKit
abbrev f7 := @List.getElem?_eq_some_iff
abbrev f8 := @beq_eq_false_iff_ne
abbrev f9 := @List.setIfInBounds_toArray
theorem g7 {α : Type} {a : α} {l : List α} {h : 0 < (a :: l).length} : (a :: l)[0] = a := rfl
theorem g9 {α : Type} {a : α} {l : List α} {i : Nat} {h : i + 1 < (a :: l).length} : (a :: l)[i + 1] = l[i]'(Nat.lt_of_succ_lt_succ h) := rfl
theorem i8 {α : Type} {xs : List α} {i : Nat} {h : i < xs.toArray.size} : xs.toArray[i] = xs[i]'(by simpa using h) := rfl
abbrev i9 := @List.set_cons_zero
abbrev j3 := @List.set_cons_succ
abbrev j4 := @List.getElem?_eq_getElem
abbrev j5 := @decide_eq_false
abbrev j6 := @decide_eq_true
abbrev j7 := @Nat.lt_or_ge
abbrev j8 := @List.mem_of_getElem?
abbrev j9 := @Nat.lt_of_lt_of_le
abbrev k4 := @Int.toNat_natCast
abbrev k5 := @List.length_set
abbrev k6 := @Nat.le_trans
abbrev k7 := @Array.getD_eq_getD_getElem?
abbrev k8 := @Array.getElem?_eq_some_iff
abbrev k9 := @Nat.le_refl
abbrev l4 := @List.getElem?_append_left
abbrev l5 := @List.mem_append_left
abbrev l6 := @Int.eq_ofNat_of_zero_le
abbrev l7 := @List.append_assoc
abbrev l9 := @List.mem_append
abbrev o3 := @List.getElem?_append_right
abbrev o4 := @List.mem_cons
abbrev o5 := @Bool.and_eq_true
abbrev o6 := @World.size_alloc
abbrev o7 := @Nat.zero_le
abbrev aDr (b i : Nat) : Addr := ⟨b, i, none⟩
abbrev wBl (w w' : World) : Prop := Below w.heap.size w w'
abbrev lIi := List (Int × Int)
abbrev lOn := List (Option Nat)
abbrev bAb := ByteArray × Bool
abbrev bVb := BitVec 256 × Bool
end Go.Proofs.Ytliflleaeimngaa
namespace Go.RowKit
theorem Hid.o {p : Prop} (h : Hid p) : p := h
end Go.RowKit
namespace Go
abbrev Value.I (x : Int) : Value := .int .i64 x
end Go
