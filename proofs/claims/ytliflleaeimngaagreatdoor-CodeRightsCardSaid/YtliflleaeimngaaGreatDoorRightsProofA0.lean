/-
  Short names.
-/
import Derived.Below
import Derived.WalkKit
namespace Go.Proofs.YtliflleaeimngaaGreatDoor
open Go Go.RowKit
abbrev g7 := @List.getElem?_eq_some_iff
abbrev i7 := @beq_eq_false_iff_ne
abbrev i8 := @List.getElem?_eq_getElem
abbrev i9 := @World.ownsRow.alloc
abbrev j2 := @List.length_append
abbrev j3 := @Option.some.inj
abbrev j4 := @Nat.le_trans
abbrev j5 := @Nat.lt_of_lt_of_le
abbrev j6 := @decide_eq_false
abbrev j7 := @List.getElem?_append_left
abbrev j8 := @World.ownsRow_nil
abbrev j9 := @Nat.le_refl
abbrev k6 := @List.take_of_length_le
abbrev k8 := @List.getD_eq_getElem?_getD
abbrev k9 := @List.mem_cons
abbrev l0 := @List.not_mem_nil
abbrev l7 := @Bool.and_eq_true
abbrev l8 := @List.getElem?_set_self
abbrev l9 := @List.nil_append
abbrev n3 := @Array.getElem?_eq_some_iff
abbrev n4 := @List.cons_append
abbrev n5 := @List.take_add_one
abbrev n6 := @List.mem_of_getElem?
abbrev n7 := @List.getElem?_set_ne
abbrev n8 := @List.eq_nil_or_concat
abbrev n9 := @List.concat_eq_append
abbrev o3 := @List.getElem?_append_right
abbrev o4 := @List.mem_append
abbrev o5 := @List.append_nil
abbrev o6 := @Int.toNat_natCast
abbrev o7 := @Array.getD_eq_getD_getElem?
abbrev o8 := @Bool.false_eq_true
abbrev p7 := @Int.eq_ofNat_of_zero_le
abbrev p8 := @List.length_cons
abbrev p9 := @decide_eq_true
abbrev r4 := @decide_eq_true_eq
abbrev r5 := @List.getElem?_eq_none
abbrev r6 := @List.eq_nil_of_length_eq_zero
abbrev r7 := @World.size_alloc
abbrev r8 := @Int.tmod_eq_emod_of_nonneg
abbrev r9 := @List.length_replicate
abbrev s5 := @List.getElem?_take_of_lt
abbrev s6 := @List.getElem?_of_mem
abbrev s7 := @List.getElem?_replicate
abbrev aDr (b i : Nat) : Addr := ⟨b, i, none⟩
abbrev wBl (w w' : World) : Prop := Below w.heap.size w w'
abbrev lIi := List (Int × Int)
abbrev lOn := List (Option Nat)
abbrev bAb := ByteArray × Bool
abbrev bVb := BitVec 256 × Bool
end Go.Proofs.YtliflleaeimngaaGreatDoor
namespace Go.RowKit
theorem Hid.o {p : Prop} (h : Hid p) : p := h
end Go.RowKit
namespace Go
abbrev Value.I (x : Int) : Value := .int .i64 x
end Go
