/-
  Named of what is no name.
-/
import Derived.Test.YtfihhliiecdnaabNamed1
namespace Go.Proofs.Ytfihhliiecdnaab
open Go Go.RowKit

set_option maxRecDepth 100000 in
set_option maxHeartbeats 4000000 in
theorem named_none {s : ByteArray} (w : World) (n0 : (s.toList == [112, 114, 105, 110, 116]) = false) (n1 : (s.toList == [103, 114, 97, 112, 104]) = false) (n2 : (s.toList == [97, 108, 110, 117, 109]) = false) (n3 : (s.toList == [97, 108, 112, 104, 97]) = false) (n4 : (s.toList == [108, 111, 119, 101, 114]) = false) (n5 : (s.toList == [120, 100, 105, 103, 105, 116]) = false) (n6 : (s.toList == [100, 105, 103, 105, 116]) = false) (n7 : (s.toList == [115, 112, 97, 99, 101]) = false) (n8 : (s.toList == [98, 108, 97, 110, 107]) = false) (n9 : (s.toList == [99, 110, 116, 114, 108]) = false) (n10 : (s.toList == [112, 117, 110, 99, 116]) = false) (n11 : (s.toList == [117, 112, 112, 101, 114]) = false) :
    Calls Try.prog 7 #[.string s] w fun e w' => e = .returned (.tuple #[.slice none 0 0, .bool false]) ∧ w' = w := by
  go_enter Try.func7, Try.ntmps7
  go_wp2
  go_ret2
  exact ⟨rfl, rfl⟩
theorem lit_ne (l m : List UInt8) (h : (l == m) = false) : ((ByteArray.mk l.toArray).toList == m) = false := by
  rw [ByteArray.toList_mk]
  exact h
theorem named_Blank (w : World) : Calls Try.prog 7 #[.string ⟨#[66, 108, 97, 110, 107]⟩] w fun e w' => e = .returned (.tuple #[.slice none 0 0, .bool false]) ∧ w' = w :=
  named_none w (lit_ne [66, 108, 97, 110, 107] _ (by decide)) (lit_ne [66, 108, 97, 110, 107] _ (by decide)) (lit_ne [66, 108, 97, 110, 107] _ (by decide)) (lit_ne [66, 108, 97, 110, 107] _ (by decide)) (lit_ne [66, 108, 97, 110, 107] _ (by decide)) (lit_ne [66, 108, 97, 110, 107] _ (by decide)) (lit_ne [66, 108, 97, 110, 107] _ (by decide)) (lit_ne [66, 108, 97, 110, 107] _ (by decide)) (lit_ne [66, 108, 97, 110, 107] _ (by decide)) (lit_ne [66, 108, 97, 110, 107] _ (by decide)) (lit_ne [66, 108, 97, 110, 107] _ (by decide)) (lit_ne [66, 108, 97, 110, 107] _ (by decide))
end Go.Proofs.Ytfihhliiecdnaab
