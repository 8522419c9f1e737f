/-
  The document's Named; the names; what both tell of any name. (mknamed2.py writes it.) Named of the document, of any name.
-/
import Derived.Test.YtloeajhmmjdlgaaGreatDoorC8
import Derived.Test.YtloeajhmmjdlgaaGreatDoorC9
import Derived.Test.YtloeajhmmjdlgaaGreatDoorC10
namespace Go.Proofs.YtloeajhmmjdlgaaGreatDoor
open Go Go.RowKit

theorem lit_own (W : World) (L : List (Int × Int)) (hl : L.length ≤ 1000) : RR W.heap.size (W.alloc (.cells (cellsR L).toArray 39)) (.slice (some ⟨W.heap.size, 0, none⟩) L.length L.length) L := by
  have := World.ownsRow_lit (base := W.heap.size) (e := 39) (size := 2) W (cellsR L).toArray L.length (Nat.le_refl _) (by unfold maxLen; omega) (by simp [cellsR_length])
  exact this
theorem lit_is_b (l m : List UInt8) (b : Bool) (h : (l == m) = b) : ((ByteArray.mk l.toArray).toList == m) = b := by
  rw [ByteArray.toList_mk]
  exact h
set_option maxRecDepth 100000 in
set_option maxHeartbeats 2000000 in
theorem rnamed_alnum (w : World) : Calls Tryz.prog 70 #[.string ⟨#[97, 108, 110, 117, 109]⟩] w (NamedIs w [(48, 57), (65, 90), (97, 122)]) := by
  have n0 : ((⟨#[97, 108, 110, 117, 109]⟩ : ByteArray).toList == [97, 108, 110, 117, 109]) = true := lit_is_b [97, 108, 110, 117, 109] _ _ (by decide)
  have n1 : ((⟨#[97, 108, 110, 117, 109]⟩ : ByteArray).toList == [97, 108, 112, 104, 97]) = false := lit_is_b [97, 108, 110, 117, 109] _ _ (by decide)
  have n2 : ((⟨#[97, 108, 110, 117, 109]⟩ : ByteArray).toList == [98, 108, 97, 110, 107]) = false := lit_is_b [97, 108, 110, 117, 109] _ _ (by decide)
  have n3 : ((⟨#[97, 108, 110, 117, 109]⟩ : ByteArray).toList == [99, 110, 116, 114, 108]) = false := lit_is_b [97, 108, 110, 117, 109] _ _ (by decide)
  have n4 : ((⟨#[97, 108, 110, 117, 109]⟩ : ByteArray).toList == [100, 105, 103, 105, 116]) = false := lit_is_b [97, 108, 110, 117, 109] _ _ (by decide)
  have n5 : ((⟨#[97, 108, 110, 117, 109]⟩ : ByteArray).toList == [103, 114, 97, 112, 104]) = false := lit_is_b [97, 108, 110, 117, 109] _ _ (by decide)
  have n6 : ((⟨#[97, 108, 110, 117, 109]⟩ : ByteArray).toList == [108, 111, 119, 101, 114]) = false := lit_is_b [97, 108, 110, 117, 109] _ _ (by decide)
  have n7 : ((⟨#[97, 108, 110, 117, 109]⟩ : ByteArray).toList == [112, 114, 105, 110, 116]) = false := lit_is_b [97, 108, 110, 117, 109] _ _ (by decide)
  have n8 : ((⟨#[97, 108, 110, 117, 109]⟩ : ByteArray).toList == [112, 117, 110, 99, 116]) = false := lit_is_b [97, 108, 110, 117, 109] _ _ (by decide)
  have n9 : ((⟨#[97, 108, 110, 117, 109]⟩ : ByteArray).toList == [115, 112, 97, 99, 101]) = false := lit_is_b [97, 108, 110, 117, 109] _ _ (by decide)
  have n10 : ((⟨#[97, 108, 110, 117, 109]⟩ : ByteArray).toList == [117, 112, 112, 101, 114]) = false := lit_is_b [97, 108, 110, 117, 109] _ _ (by decide)
  have n11 : ((⟨#[97, 108, 110, 117, 109]⟩ : ByteArray).toList == [120, 100, 105, 103, 105, 116]) = false := lit_is_b [97, 108, 110, 117, 109] _ _ (by decide)
  go_enter Tryz.func70, Tryz.ntmps70
  go_wp2
  go_ret2
  exact ⟨_, rfl, lit_own w [(48, 57), (65, 90), (97, 122)] (by simp), (Below.refl _ _).alloc (Nat.le_refl _) _⟩
set_option maxRecDepth 100000 in
set_option maxHeartbeats 2000000 in
theorem rnamed_alpha (w : World) : Calls Tryz.prog 70 #[.string ⟨#[97, 108, 112, 104, 97]⟩] w (NamedIs w [(65, 90), (97, 122)]) := by
  have n0 : ((⟨#[97, 108, 112, 104, 97]⟩ : ByteArray).toList == [97, 108, 110, 117, 109]) = false := lit_is_b [97, 108, 112, 104, 97] _ _ (by decide)
  have n1 : ((⟨#[97, 108, 112, 104, 97]⟩ : ByteArray).toList == [97, 108, 112, 104, 97]) = true := lit_is_b [97, 108, 112, 104, 97] _ _ (by decide)
  have n2 : ((⟨#[97, 108, 112, 104, 97]⟩ : ByteArray).toList == [98, 108, 97, 110, 107]) = false := lit_is_b [97, 108, 112, 104, 97] _ _ (by decide)
  have n3 : ((⟨#[97, 108, 112, 104, 97]⟩ : ByteArray).toList == [99, 110, 116, 114, 108]) = false := lit_is_b [97, 108, 112, 104, 97] _ _ (by decide)
  have n4 : ((⟨#[97, 108, 112, 104, 97]⟩ : ByteArray).toList == [100, 105, 103, 105, 116]) = false := lit_is_b [97, 108, 112, 104, 97] _ _ (by decide)
  have n5 : ((⟨#[97, 108, 112, 104, 97]⟩ : ByteArray).toList == [103, 114, 97, 112, 104]) = false := lit_is_b [97, 108, 112, 104, 97] _ _ (by decide)
  have n6 : ((⟨#[97, 108, 112, 104, 97]⟩ : ByteArray).toList == [108, 111, 119, 101, 114]) = false := lit_is_b [97, 108, 112, 104, 97] _ _ (by decide)
  have n7 : ((⟨#[97, 108, 112, 104, 97]⟩ : ByteArray).toList == [112, 114, 105, 110, 116]) = false := lit_is_b [97, 108, 112, 104, 97] _ _ (by decide)
  have n8 : ((⟨#[97, 108, 112, 104, 97]⟩ : ByteArray).toList == [112, 117, 110, 99, 116]) = false := lit_is_b [97, 108, 112, 104, 97] _ _ (by decide)
  have n9 : ((⟨#[97, 108, 112, 104, 97]⟩ : ByteArray).toList == [115, 112, 97, 99, 101]) = false := lit_is_b [97, 108, 112, 104, 97] _ _ (by decide)
  have n10 : ((⟨#[97, 108, 112, 104, 97]⟩ : ByteArray).toList == [117, 112, 112, 101, 114]) = false := lit_is_b [97, 108, 112, 104, 97] _ _ (by decide)
  have n11 : ((⟨#[97, 108, 112, 104, 97]⟩ : ByteArray).toList == [120, 100, 105, 103, 105, 116]) = false := lit_is_b [97, 108, 112, 104, 97] _ _ (by decide)
  go_enter Tryz.func70, Tryz.ntmps70
  go_wp2
  go_ret2
  exact ⟨_, rfl, lit_own w [(65, 90), (97, 122)] (by simp), (Below.refl _ _).alloc (Nat.le_refl _) _⟩
set_option maxRecDepth 100000 in
set_option maxHeartbeats 2000000 in
theorem rnamed_blank (w : World) : Calls Tryz.prog 70 #[.string ⟨#[98, 108, 97, 110, 107]⟩] w (NamedIs w [(9, 9), (32, 32)]) := by
  have n0 : ((⟨#[98, 108, 97, 110, 107]⟩ : ByteArray).toList == [97, 108, 110, 117, 109]) = false := lit_is_b [98, 108, 97, 110, 107] _ _ (by decide)
  have n1 : ((⟨#[98, 108, 97, 110, 107]⟩ : ByteArray).toList == [97, 108, 112, 104, 97]) = false := lit_is_b [98, 108, 97, 110, 107] _ _ (by decide)
  have n2 : ((⟨#[98, 108, 97, 110, 107]⟩ : ByteArray).toList == [98, 108, 97, 110, 107]) = true := lit_is_b [98, 108, 97, 110, 107] _ _ (by decide)
  have n3 : ((⟨#[98, 108, 97, 110, 107]⟩ : ByteArray).toList == [99, 110, 116, 114, 108]) = false := lit_is_b [98, 108, 97, 110, 107] _ _ (by decide)
  have n4 : ((⟨#[98, 108, 97, 110, 107]⟩ : ByteArray).toList == [100, 105, 103, 105, 116]) = false := lit_is_b [98, 108, 97, 110, 107] _ _ (by decide)
  have n5 : ((⟨#[98, 108, 97, 110, 107]⟩ : ByteArray).toList == [103, 114, 97, 112, 104]) = false := lit_is_b [98, 108, 97, 110, 107] _ _ (by decide)
  have n6 : ((⟨#[98, 108, 97, 110, 107]⟩ : ByteArray).toList == [108, 111, 119, 101, 114]) = false := lit_is_b [98, 108, 97, 110, 107] _ _ (by decide)
  have n7 : ((⟨#[98, 108, 97, 110, 107]⟩ : ByteArray).toList == [112, 114, 105, 110, 116]) = false := lit_is_b [98, 108, 97, 110, 107] _ _ (by decide)
  have n8 : ((⟨#[98, 108, 97, 110, 107]⟩ : ByteArray).toList == [112, 117, 110, 99, 116]) = false := lit_is_b [98, 108, 97, 110, 107] _ _ (by decide)
  have n9 : ((⟨#[98, 108, 97, 110, 107]⟩ : ByteArray).toList == [115, 112, 97, 99, 101]) = false := lit_is_b [98, 108, 97, 110, 107] _ _ (by decide)
  have n10 : ((⟨#[98, 108, 97, 110, 107]⟩ : ByteArray).toList == [117, 112, 112, 101, 114]) = false := lit_is_b [98, 108, 97, 110, 107] _ _ (by decide)
  have n11 : ((⟨#[98, 108, 97, 110, 107]⟩ : ByteArray).toList == [120, 100, 105, 103, 105, 116]) = false := lit_is_b [98, 108, 97, 110, 107] _ _ (by decide)
  go_enter Tryz.func70, Tryz.ntmps70
  go_wp2
  go_ret2
  exact ⟨_, rfl, lit_own w [(9, 9), (32, 32)] (by simp), (Below.refl _ _).alloc (Nat.le_refl _) _⟩
set_option maxRecDepth 100000 in
set_option maxHeartbeats 2000000 in
theorem rnamed_cntrl (w : World) : Calls Tryz.prog 70 #[.string ⟨#[99, 110, 116, 114, 108]⟩] w (NamedIs w [(0, 31), (127, 127)]) := by
  have n0 : ((⟨#[99, 110, 116, 114, 108]⟩ : ByteArray).toList == [97, 108, 110, 117, 109]) = false := lit_is_b [99, 110, 116, 114, 108] _ _ (by decide)
  have n1 : ((⟨#[99, 110, 116, 114, 108]⟩ : ByteArray).toList == [97, 108, 112, 104, 97]) = false := lit_is_b [99, 110, 116, 114, 108] _ _ (by decide)
  have n2 : ((⟨#[99, 110, 116, 114, 108]⟩ : ByteArray).toList == [98, 108, 97, 110, 107]) = false := lit_is_b [99, 110, 116, 114, 108] _ _ (by decide)
  have n3 : ((⟨#[99, 110, 116, 114, 108]⟩ : ByteArray).toList == [99, 110, 116, 114, 108]) = true := lit_is_b [99, 110, 116, 114, 108] _ _ (by decide)
  have n4 : ((⟨#[99, 110, 116, 114, 108]⟩ : ByteArray).toList == [100, 105, 103, 105, 116]) = false := lit_is_b [99, 110, 116, 114, 108] _ _ (by decide)
  have n5 : ((⟨#[99, 110, 116, 114, 108]⟩ : ByteArray).toList == [103, 114, 97, 112, 104]) = false := lit_is_b [99, 110, 116, 114, 108] _ _ (by decide)
  have n6 : ((⟨#[99, 110, 116, 114, 108]⟩ : ByteArray).toList == [108, 111, 119, 101, 114]) = false := lit_is_b [99, 110, 116, 114, 108] _ _ (by decide)
  have n7 : ((⟨#[99, 110, 116, 114, 108]⟩ : ByteArray).toList == [112, 114, 105, 110, 116]) = false := lit_is_b [99, 110, 116, 114, 108] _ _ (by decide)
  have n8 : ((⟨#[99, 110, 116, 114, 108]⟩ : ByteArray).toList == [112, 117, 110, 99, 116]) = false := lit_is_b [99, 110, 116, 114, 108] _ _ (by decide)
  have n9 : ((⟨#[99, 110, 116, 114, 108]⟩ : ByteArray).toList == [115, 112, 97, 99, 101]) = false := lit_is_b [99, 110, 116, 114, 108] _ _ (by decide)
  have n10 : ((⟨#[99, 110, 116, 114, 108]⟩ : ByteArray).toList == [117, 112, 112, 101, 114]) = false := lit_is_b [99, 110, 116, 114, 108] _ _ (by decide)
  have n11 : ((⟨#[99, 110, 116, 114, 108]⟩ : ByteArray).toList == [120, 100, 105, 103, 105, 116]) = false := lit_is_b [99, 110, 116, 114, 108] _ _ (by decide)
  go_enter Tryz.func70, Tryz.ntmps70
  go_wp2
  go_ret2
  exact ⟨_, rfl, lit_own w [(0, 31), (127, 127)] (by simp), (Below.refl _ _).alloc (Nat.le_refl _) _⟩
set_option maxRecDepth 100000 in
set_option maxHeartbeats 2000000 in
theorem rnamed_digit (w : World) : Calls Tryz.prog 70 #[.string ⟨#[100, 105, 103, 105, 116]⟩] w (NamedIs w [(48, 57)]) := by
  have n0 : ((⟨#[100, 105, 103, 105, 116]⟩ : ByteArray).toList == [97, 108, 110, 117, 109]) = false := lit_is_b [100, 105, 103, 105, 116] _ _ (by decide)
  have n1 : ((⟨#[100, 105, 103, 105, 116]⟩ : ByteArray).toList == [97, 108, 112, 104, 97]) = false := lit_is_b [100, 105, 103, 105, 116] _ _ (by decide)
  have n2 : ((⟨#[100, 105, 103, 105, 116]⟩ : ByteArray).toList == [98, 108, 97, 110, 107]) = false := lit_is_b [100, 105, 103, 105, 116] _ _ (by decide)
  have n3 : ((⟨#[100, 105, 103, 105, 116]⟩ : ByteArray).toList == [99, 110, 116, 114, 108]) = false := lit_is_b [100, 105, 103, 105, 116] _ _ (by decide)
  have n4 : ((⟨#[100, 105, 103, 105, 116]⟩ : ByteArray).toList == [100, 105, 103, 105, 116]) = true := lit_is_b [100, 105, 103, 105, 116] _ _ (by decide)
  have n5 : ((⟨#[100, 105, 103, 105, 116]⟩ : ByteArray).toList == [103, 114, 97, 112, 104]) = false := lit_is_b [100, 105, 103, 105, 116] _ _ (by decide)
  have n6 : ((⟨#[100, 105, 103, 105, 116]⟩ : ByteArray).toList == [108, 111, 119, 101, 114]) = false := lit_is_b [100, 105, 103, 105, 116] _ _ (by decide)
  have n7 : ((⟨#[100, 105, 103, 105, 116]⟩ : ByteArray).toList == [112, 114, 105, 110, 116]) = false := lit_is_b [100, 105, 103, 105, 116] _ _ (by decide)
  have n8 : ((⟨#[100, 105, 103, 105, 116]⟩ : ByteArray).toList == [112, 117, 110, 99, 116]) = false := lit_is_b [100, 105, 103, 105, 116] _ _ (by decide)
  have n9 : ((⟨#[100, 105, 103, 105, 116]⟩ : ByteArray).toList == [115, 112, 97, 99, 101]) = false := lit_is_b [100, 105, 103, 105, 116] _ _ (by decide)
  have n10 : ((⟨#[100, 105, 103, 105, 116]⟩ : ByteArray).toList == [117, 112, 112, 101, 114]) = false := lit_is_b [100, 105, 103, 105, 116] _ _ (by decide)
  have n11 : ((⟨#[100, 105, 103, 105, 116]⟩ : ByteArray).toList == [120, 100, 105, 103, 105, 116]) = false := lit_is_b [100, 105, 103, 105, 116] _ _ (by decide)
  go_enter Tryz.func70, Tryz.ntmps70
  go_wp2
  go_ret2
  exact ⟨_, rfl, lit_own w [(48, 57)] (by simp), (Below.refl _ _).alloc (Nat.le_refl _) _⟩
set_option maxRecDepth 100000 in
set_option maxHeartbeats 2000000 in
theorem rnamed_graph (w : World) : Calls Tryz.prog 70 #[.string ⟨#[103, 114, 97, 112, 104]⟩] w (NamedIs w [(33, 126)]) := by
  have n0 : ((⟨#[103, 114, 97, 112, 104]⟩ : ByteArray).toList == [97, 108, 110, 117, 109]) = false := lit_is_b [103, 114, 97, 112, 104] _ _ (by decide)
  have n1 : ((⟨#[103, 114, 97, 112, 104]⟩ : ByteArray).toList == [97, 108, 112, 104, 97]) = false := lit_is_b [103, 114, 97, 112, 104] _ _ (by decide)
  have n2 : ((⟨#[103, 114, 97, 112, 104]⟩ : ByteArray).toList == [98, 108, 97, 110, 107]) = false := lit_is_b [103, 114, 97, 112, 104] _ _ (by decide)
  have n3 : ((⟨#[103, 114, 97, 112, 104]⟩ : ByteArray).toList == [99, 110, 116, 114, 108]) = false := lit_is_b [103, 114, 97, 112, 104] _ _ (by decide)
  have n4 : ((⟨#[103, 114, 97, 112, 104]⟩ : ByteArray).toList == [100, 105, 103, 105, 116]) = false := lit_is_b [103, 114, 97, 112, 104] _ _ (by decide)
  have n5 : ((⟨#[103, 114, 97, 112, 104]⟩ : ByteArray).toList == [103, 114, 97, 112, 104]) = true := lit_is_b [103, 114, 97, 112, 104] _ _ (by decide)
  have n6 : ((⟨#[103, 114, 97, 112, 104]⟩ : ByteArray).toList == [108, 111, 119, 101, 114]) = false := lit_is_b [103, 114, 97, 112, 104] _ _ (by decide)
  have n7 : ((⟨#[103, 114, 97, 112, 104]⟩ : ByteArray).toList == [112, 114, 105, 110, 116]) = false := lit_is_b [103, 114, 97, 112, 104] _ _ (by decide)
  have n8 : ((⟨#[103, 114, 97, 112, 104]⟩ : ByteArray).toList == [112, 117, 110, 99, 116]) = false := lit_is_b [103, 114, 97, 112, 104] _ _ (by decide)
  have n9 : ((⟨#[103, 114, 97, 112, 104]⟩ : ByteArray).toList == [115, 112, 97, 99, 101]) = false := lit_is_b [103, 114, 97, 112, 104] _ _ (by decide)
  have n10 : ((⟨#[103, 114, 97, 112, 104]⟩ : ByteArray).toList == [117, 112, 112, 101, 114]) = false := lit_is_b [103, 114, 97, 112, 104] _ _ (by decide)
  have n11 : ((⟨#[103, 114, 97, 112, 104]⟩ : ByteArray).toList == [120, 100, 105, 103, 105, 116]) = false := lit_is_b [103, 114, 97, 112, 104] _ _ (by decide)
  go_enter Tryz.func70, Tryz.ntmps70
  go_wp2
  go_ret2
  exact ⟨_, rfl, lit_own w [(33, 126)] (by simp), (Below.refl _ _).alloc (Nat.le_refl _) _⟩
set_option maxRecDepth 100000 in
set_option maxHeartbeats 2000000 in
theorem rnamed_lower (w : World) : Calls Tryz.prog 70 #[.string ⟨#[108, 111, 119, 101, 114]⟩] w (NamedIs w [(97, 122)]) := by
  have n0 : ((⟨#[108, 111, 119, 101, 114]⟩ : ByteArray).toList == [97, 108, 110, 117, 109]) = false := lit_is_b [108, 111, 119, 101, 114] _ _ (by decide)
  have n1 : ((⟨#[108, 111, 119, 101, 114]⟩ : ByteArray).toList == [97, 108, 112, 104, 97]) = false := lit_is_b [108, 111, 119, 101, 114] _ _ (by decide)
  have n2 : ((⟨#[108, 111, 119, 101, 114]⟩ : ByteArray).toList == [98, 108, 97, 110, 107]) = false := lit_is_b [108, 111, 119, 101, 114] _ _ (by decide)
  have n3 : ((⟨#[108, 111, 119, 101, 114]⟩ : ByteArray).toList == [99, 110, 116, 114, 108]) = false := lit_is_b [108, 111, 119, 101, 114] _ _ (by decide)
  have n4 : ((⟨#[108, 111, 119, 101, 114]⟩ : ByteArray).toList == [100, 105, 103, 105, 116]) = false := lit_is_b [108, 111, 119, 101, 114] _ _ (by decide)
  have n5 : ((⟨#[108, 111, 119, 101, 114]⟩ : ByteArray).toList == [103, 114, 97, 112, 104]) = false := lit_is_b [108, 111, 119, 101, 114] _ _ (by decide)
  have n6 : ((⟨#[108, 111, 119, 101, 114]⟩ : ByteArray).toList == [108, 111, 119, 101, 114]) = true := lit_is_b [108, 111, 119, 101, 114] _ _ (by decide)
  have n7 : ((⟨#[108, 111, 119, 101, 114]⟩ : ByteArray).toList == [112, 114, 105, 110, 116]) = false := lit_is_b [108, 111, 119, 101, 114] _ _ (by decide)
  have n8 : ((⟨#[108, 111, 119, 101, 114]⟩ : ByteArray).toList == [112, 117, 110, 99, 116]) = false := lit_is_b [108, 111, 119, 101, 114] _ _ (by decide)
  have n9 : ((⟨#[108, 111, 119, 101, 114]⟩ : ByteArray).toList == [115, 112, 97, 99, 101]) = false := lit_is_b [108, 111, 119, 101, 114] _ _ (by decide)
  have n10 : ((⟨#[108, 111, 119, 101, 114]⟩ : ByteArray).toList == [117, 112, 112, 101, 114]) = false := lit_is_b [108, 111, 119, 101, 114] _ _ (by decide)
  have n11 : ((⟨#[108, 111, 119, 101, 114]⟩ : ByteArray).toList == [120, 100, 105, 103, 105, 116]) = false := lit_is_b [108, 111, 119, 101, 114] _ _ (by decide)
  go_enter Tryz.func70, Tryz.ntmps70
  go_wp2
  go_ret2
  exact ⟨_, rfl, lit_own w [(97, 122)] (by simp), (Below.refl _ _).alloc (Nat.le_refl _) _⟩
set_option maxRecDepth 100000 in
set_option maxHeartbeats 2000000 in
theorem rnamed_print (w : World) : Calls Tryz.prog 70 #[.string ⟨#[112, 114, 105, 110, 116]⟩] w (NamedIs w [(32, 126)]) := by
  have n0 : ((⟨#[112, 114, 105, 110, 116]⟩ : ByteArray).toList == [97, 108, 110, 117, 109]) = false := lit_is_b [112, 114, 105, 110, 116] _ _ (by decide)
  have n1 : ((⟨#[112, 114, 105, 110, 116]⟩ : ByteArray).toList == [97, 108, 112, 104, 97]) = false := lit_is_b [112, 114, 105, 110, 116] _ _ (by decide)
  have n2 : ((⟨#[112, 114, 105, 110, 116]⟩ : ByteArray).toList == [98, 108, 97, 110, 107]) = false := lit_is_b [112, 114, 105, 110, 116] _ _ (by decide)
  have n3 : ((⟨#[112, 114, 105, 110, 116]⟩ : ByteArray).toList == [99, 110, 116, 114, 108]) = false := lit_is_b [112, 114, 105, 110, 116] _ _ (by decide)
  have n4 : ((⟨#[112, 114, 105, 110, 116]⟩ : ByteArray).toList == [100, 105, 103, 105, 116]) = false := lit_is_b [112, 114, 105, 110, 116] _ _ (by decide)
  have n5 : ((⟨#[112, 114, 105, 110, 116]⟩ : ByteArray).toList == [103, 114, 97, 112, 104]) = false := lit_is_b [112, 114, 105, 110, 116] _ _ (by decide)
  have n6 : ((⟨#[112, 114, 105, 110, 116]⟩ : ByteArray).toList == [108, 111, 119, 101, 114]) = false := lit_is_b [112, 114, 105, 110, 116] _ _ (by decide)
  have n7 : ((⟨#[112, 114, 105, 110, 116]⟩ : ByteArray).toList == [112, 114, 105, 110, 116]) = true := lit_is_b [112, 114, 105, 110, 116] _ _ (by decide)
  have n8 : ((⟨#[112, 114, 105, 110, 116]⟩ : ByteArray).toList == [112, 117, 110, 99, 116]) = false := lit_is_b [112, 114, 105, 110, 116] _ _ (by decide)
  have n9 : ((⟨#[112, 114, 105, 110, 116]⟩ : ByteArray).toList == [115, 112, 97, 99, 101]) = false := lit_is_b [112, 114, 105, 110, 116] _ _ (by decide)
  have n10 : ((⟨#[112, 114, 105, 110, 116]⟩ : ByteArray).toList == [117, 112, 112, 101, 114]) = false := lit_is_b [112, 114, 105, 110, 116] _ _ (by decide)
  have n11 : ((⟨#[112, 114, 105, 110, 116]⟩ : ByteArray).toList == [120, 100, 105, 103, 105, 116]) = false := lit_is_b [112, 114, 105, 110, 116] _ _ (by decide)
  go_enter Tryz.func70, Tryz.ntmps70
  go_wp2
  go_ret2
  exact ⟨_, rfl, lit_own w [(32, 126)] (by simp), (Below.refl _ _).alloc (Nat.le_refl _) _⟩
set_option maxRecDepth 100000 in
set_option maxHeartbeats 2000000 in
theorem rnamed_punct (w : World) : Calls Tryz.prog 70 #[.string ⟨#[112, 117, 110, 99, 116]⟩] w (NamedIs w [(33, 47), (58, 64), (91, 96), (123, 126)]) := by
  have n0 : ((⟨#[112, 117, 110, 99, 116]⟩ : ByteArray).toList == [97, 108, 110, 117, 109]) = false := lit_is_b [112, 117, 110, 99, 116] _ _ (by decide)
  have n1 : ((⟨#[112, 117, 110, 99, 116]⟩ : ByteArray).toList == [97, 108, 112, 104, 97]) = false := lit_is_b [112, 117, 110, 99, 116] _ _ (by decide)
  have n2 : ((⟨#[112, 117, 110, 99, 116]⟩ : ByteArray).toList == [98, 108, 97, 110, 107]) = false := lit_is_b [112, 117, 110, 99, 116] _ _ (by decide)
  have n3 : ((⟨#[112, 117, 110, 99, 116]⟩ : ByteArray).toList == [99, 110, 116, 114, 108]) = false := lit_is_b [112, 117, 110, 99, 116] _ _ (by decide)
  have n4 : ((⟨#[112, 117, 110, 99, 116]⟩ : ByteArray).toList == [100, 105, 103, 105, 116]) = false := lit_is_b [112, 117, 110, 99, 116] _ _ (by decide)
  have n5 : ((⟨#[112, 117, 110, 99, 116]⟩ : ByteArray).toList == [103, 114, 97, 112, 104]) = false := lit_is_b [112, 117, 110, 99, 116] _ _ (by decide)
  have n6 : ((⟨#[112, 117, 110, 99, 116]⟩ : ByteArray).toList == [108, 111, 119, 101, 114]) = false := lit_is_b [112, 117, 110, 99, 116] _ _ (by decide)
  have n7 : ((⟨#[112, 117, 110, 99, 116]⟩ : ByteArray).toList == [112, 114, 105, 110, 116]) = false := lit_is_b [112, 117, 110, 99, 116] _ _ (by decide)
  have n8 : ((⟨#[112, 117, 110, 99, 116]⟩ : ByteArray).toList == [112, 117, 110, 99, 116]) = true := lit_is_b [112, 117, 110, 99, 116] _ _ (by decide)
  have n9 : ((⟨#[112, 117, 110, 99, 116]⟩ : ByteArray).toList == [115, 112, 97, 99, 101]) = false := lit_is_b [112, 117, 110, 99, 116] _ _ (by decide)
  have n10 : ((⟨#[112, 117, 110, 99, 116]⟩ : ByteArray).toList == [117, 112, 112, 101, 114]) = false := lit_is_b [112, 117, 110, 99, 116] _ _ (by decide)
  have n11 : ((⟨#[112, 117, 110, 99, 116]⟩ : ByteArray).toList == [120, 100, 105, 103, 105, 116]) = false := lit_is_b [112, 117, 110, 99, 116] _ _ (by decide)
  go_enter Tryz.func70, Tryz.ntmps70
  go_wp2
  go_ret2
  exact ⟨_, rfl, lit_own w [(33, 47), (58, 64), (91, 96), (123, 126)] (by simp), (Below.refl _ _).alloc (Nat.le_refl _) _⟩
set_option maxRecDepth 100000 in
set_option maxHeartbeats 2000000 in
theorem rnamed_space (w : World) : Calls Tryz.prog 70 #[.string ⟨#[115, 112, 97, 99, 101]⟩] w (NamedIs w [(9, 13), (32, 32)]) := by
  have n0 : ((⟨#[115, 112, 97, 99, 101]⟩ : ByteArray).toList == [97, 108, 110, 117, 109]) = false := lit_is_b [115, 112, 97, 99, 101] _ _ (by decide)
  have n1 : ((⟨#[115, 112, 97, 99, 101]⟩ : ByteArray).toList == [97, 108, 112, 104, 97]) = false := lit_is_b [115, 112, 97, 99, 101] _ _ (by decide)
  have n2 : ((⟨#[115, 112, 97, 99, 101]⟩ : ByteArray).toList == [98, 108, 97, 110, 107]) = false := lit_is_b [115, 112, 97, 99, 101] _ _ (by decide)
  have n3 : ((⟨#[115, 112, 97, 99, 101]⟩ : ByteArray).toList == [99, 110, 116, 114, 108]) = false := lit_is_b [115, 112, 97, 99, 101] _ _ (by decide)
  have n4 : ((⟨#[115, 112, 97, 99, 101]⟩ : ByteArray).toList == [100, 105, 103, 105, 116]) = false := lit_is_b [115, 112, 97, 99, 101] _ _ (by decide)
  have n5 : ((⟨#[115, 112, 97, 99, 101]⟩ : ByteArray).toList == [103, 114, 97, 112, 104]) = false := lit_is_b [115, 112, 97, 99, 101] _ _ (by decide)
  have n6 : ((⟨#[115, 112, 97, 99, 101]⟩ : ByteArray).toList == [108, 111, 119, 101, 114]) = false := lit_is_b [115, 112, 97, 99, 101] _ _ (by decide)
  have n7 : ((⟨#[115, 112, 97, 99, 101]⟩ : ByteArray).toList == [112, 114, 105, 110, 116]) = false := lit_is_b [115, 112, 97, 99, 101] _ _ (by decide)
  have n8 : ((⟨#[115, 112, 97, 99, 101]⟩ : ByteArray).toList == [112, 117, 110, 99, 116]) = false := lit_is_b [115, 112, 97, 99, 101] _ _ (by decide)
  have n9 : ((⟨#[115, 112, 97, 99, 101]⟩ : ByteArray).toList == [115, 112, 97, 99, 101]) = true := lit_is_b [115, 112, 97, 99, 101] _ _ (by decide)
  have n10 : ((⟨#[115, 112, 97, 99, 101]⟩ : ByteArray).toList == [117, 112, 112, 101, 114]) = false := lit_is_b [115, 112, 97, 99, 101] _ _ (by decide)
  have n11 : ((⟨#[115, 112, 97, 99, 101]⟩ : ByteArray).toList == [120, 100, 105, 103, 105, 116]) = false := lit_is_b [115, 112, 97, 99, 101] _ _ (by decide)
  go_enter Tryz.func70, Tryz.ntmps70
  go_wp2
  go_ret2
  exact ⟨_, rfl, lit_own w [(9, 13), (32, 32)] (by simp), (Below.refl _ _).alloc (Nat.le_refl _) _⟩
set_option maxRecDepth 100000 in
set_option maxHeartbeats 2000000 in
theorem rnamed_upper (w : World) : Calls Tryz.prog 70 #[.string ⟨#[117, 112, 112, 101, 114]⟩] w (NamedIs w [(65, 90)]) := by
  have n0 : ((⟨#[117, 112, 112, 101, 114]⟩ : ByteArray).toList == [97, 108, 110, 117, 109]) = false := lit_is_b [117, 112, 112, 101, 114] _ _ (by decide)
  have n1 : ((⟨#[117, 112, 112, 101, 114]⟩ : ByteArray).toList == [97, 108, 112, 104, 97]) = false := lit_is_b [117, 112, 112, 101, 114] _ _ (by decide)
  have n2 : ((⟨#[117, 112, 112, 101, 114]⟩ : ByteArray).toList == [98, 108, 97, 110, 107]) = false := lit_is_b [117, 112, 112, 101, 114] _ _ (by decide)
  have n3 : ((⟨#[117, 112, 112, 101, 114]⟩ : ByteArray).toList == [99, 110, 116, 114, 108]) = false := lit_is_b [117, 112, 112, 101, 114] _ _ (by decide)
  have n4 : ((⟨#[117, 112, 112, 101, 114]⟩ : ByteArray).toList == [100, 105, 103, 105, 116]) = false := lit_is_b [117, 112, 112, 101, 114] _ _ (by decide)
  have n5 : ((⟨#[117, 112, 112, 101, 114]⟩ : ByteArray).toList == [103, 114, 97, 112, 104]) = false := lit_is_b [117, 112, 112, 101, 114] _ _ (by decide)
  have n6 : ((⟨#[117, 112, 112, 101, 114]⟩ : ByteArray).toList == [108, 111, 119, 101, 114]) = false := lit_is_b [117, 112, 112, 101, 114] _ _ (by decide)
  have n7 : ((⟨#[117, 112, 112, 101, 114]⟩ : ByteArray).toList == [112, 114, 105, 110, 116]) = false := lit_is_b [117, 112, 112, 101, 114] _ _ (by decide)
  have n8 : ((⟨#[117, 112, 112, 101, 114]⟩ : ByteArray).toList == [112, 117, 110, 99, 116]) = false := lit_is_b [117, 112, 112, 101, 114] _ _ (by decide)
  have n9 : ((⟨#[117, 112, 112, 101, 114]⟩ : ByteArray).toList == [115, 112, 97, 99, 101]) = false := lit_is_b [117, 112, 112, 101, 114] _ _ (by decide)
  have n10 : ((⟨#[117, 112, 112, 101, 114]⟩ : ByteArray).toList == [117, 112, 112, 101, 114]) = true := lit_is_b [117, 112, 112, 101, 114] _ _ (by decide)
  have n11 : ((⟨#[117, 112, 112, 101, 114]⟩ : ByteArray).toList == [120, 100, 105, 103, 105, 116]) = false := lit_is_b [117, 112, 112, 101, 114] _ _ (by decide)
  go_enter Tryz.func70, Tryz.ntmps70
  go_wp2
  go_ret2
  exact ⟨_, rfl, lit_own w [(65, 90)] (by simp), (Below.refl _ _).alloc (Nat.le_refl _) _⟩
set_option maxRecDepth 100000 in
set_option maxHeartbeats 2000000 in
theorem rnamed_xdigit (w : World) : Calls Tryz.prog 70 #[.string ⟨#[120, 100, 105, 103, 105, 116]⟩] w (NamedIs w [(48, 57), (65, 70), (97, 102)]) := by
  have n0 : ((⟨#[120, 100, 105, 103, 105, 116]⟩ : ByteArray).toList == [97, 108, 110, 117, 109]) = false := lit_is_b [120, 100, 105, 103, 105, 116] _ _ (by decide)
  have n1 : ((⟨#[120, 100, 105, 103, 105, 116]⟩ : ByteArray).toList == [97, 108, 112, 104, 97]) = false := lit_is_b [120, 100, 105, 103, 105, 116] _ _ (by decide)
  have n2 : ((⟨#[120, 100, 105, 103, 105, 116]⟩ : ByteArray).toList == [98, 108, 97, 110, 107]) = false := lit_is_b [120, 100, 105, 103, 105, 116] _ _ (by decide)
  have n3 : ((⟨#[120, 100, 105, 103, 105, 116]⟩ : ByteArray).toList == [99, 110, 116, 114, 108]) = false := lit_is_b [120, 100, 105, 103, 105, 116] _ _ (by decide)
  have n4 : ((⟨#[120, 100, 105, 103, 105, 116]⟩ : ByteArray).toList == [100, 105, 103, 105, 116]) = false := lit_is_b [120, 100, 105, 103, 105, 116] _ _ (by decide)
  have n5 : ((⟨#[120, 100, 105, 103, 105, 116]⟩ : ByteArray).toList == [103, 114, 97, 112, 104]) = false := lit_is_b [120, 100, 105, 103, 105, 116] _ _ (by decide)
  have n6 : ((⟨#[120, 100, 105, 103, 105, 116]⟩ : ByteArray).toList == [108, 111, 119, 101, 114]) = false := lit_is_b [120, 100, 105, 103, 105, 116] _ _ (by decide)
  have n7 : ((⟨#[120, 100, 105, 103, 105, 116]⟩ : ByteArray).toList == [112, 114, 105, 110, 116]) = false := lit_is_b [120, 100, 105, 103, 105, 116] _ _ (by decide)
  have n8 : ((⟨#[120, 100, 105, 103, 105, 116]⟩ : ByteArray).toList == [112, 117, 110, 99, 116]) = false := lit_is_b [120, 100, 105, 103, 105, 116] _ _ (by decide)
  have n9 : ((⟨#[120, 100, 105, 103, 105, 116]⟩ : ByteArray).toList == [115, 112, 97, 99, 101]) = false := lit_is_b [120, 100, 105, 103, 105, 116] _ _ (by decide)
  have n10 : ((⟨#[120, 100, 105, 103, 105, 116]⟩ : ByteArray).toList == [117, 112, 112, 101, 114]) = false := lit_is_b [120, 100, 105, 103, 105, 116] _ _ (by decide)
  have n11 : ((⟨#[120, 100, 105, 103, 105, 116]⟩ : ByteArray).toList == [120, 100, 105, 103, 105, 116]) = true := lit_is_b [120, 100, 105, 103, 105, 116] _ _ (by decide)
  go_enter Tryz.func70, Tryz.ntmps70
  go_wp2
  go_ret2
  exact ⟨_, rfl, lit_own w [(48, 57), (65, 70), (97, 102)] (by simp), (Below.refl _ _).alloc (Nat.le_refl _) _⟩
set_option maxRecDepth 100000 in
set_option maxHeartbeats 4000000 in
theorem rnamed_none {s : ByteArray} (w : World) (n0 : (s.toList == [97, 108, 110, 117, 109]) = false) (n1 : (s.toList == [97, 108, 112, 104, 97]) = false) (n2 : (s.toList == [98, 108, 97, 110, 107]) = false) (n3 : (s.toList == [99, 110, 116, 114, 108]) = false) (n4 : (s.toList == [100, 105, 103, 105, 116]) = false) (n5 : (s.toList == [103, 114, 97, 112, 104]) = false) (n6 : (s.toList == [108, 111, 119, 101, 114]) = false) (n7 : (s.toList == [112, 114, 105, 110, 116]) = false) (n8 : (s.toList == [112, 117, 110, 99, 116]) = false) (n9 : (s.toList == [115, 112, 97, 99, 101]) = false) (n10 : (s.toList == [117, 112, 112, 101, 114]) = false) (n11 : (s.toList == [120, 100, 105, 103, 105, 116]) = false) :
    Calls Tryz.prog 70 #[.string s] w fun e w' => e = .returned (.tuple #[.slice none 0 0, .bool false]) ∧ w' = w := by
  go_enter Tryz.func70, Tryz.ntmps70
  go_wp2
  go_ret2
  exact ⟨rfl, rfl⟩
/-- The names and their classes. -/
def NM : List (List UInt8 × List (Int × Int)) := [([97, 108, 110, 117, 109], [(48, 57), (65, 90), (97, 122)]), ([97, 108, 112, 104, 97], [(65, 90), (97, 122)]), ([98, 108, 97, 110, 107], [(9, 9), (32, 32)]), ([99, 110, 116, 114, 108], [(0, 31), (127, 127)]), ([100, 105, 103, 105, 116], [(48, 57)]), ([103, 114, 97, 112, 104], [(33, 126)]), ([108, 111, 119, 101, 114], [(97, 122)]), ([112, 114, 105, 110, 116], [(32, 126)]), ([112, 117, 110, 99, 116], [(33, 47), (58, 64), (91, 96), (123, 126)]), ([115, 112, 97, 99, 101], [(9, 13), (32, 32)]), ([117, 112, 112, 101, 114], [(65, 90)]), ([120, 100, 105, 103, 105, 116], [(48, 57), (65, 70), (97, 102)])]
theorem named_at : ∀ (i : Nat) (l : List UInt8) (D : List (Int × Int)), NM[i]? = some (l, D) → ∀ w : World, Calls Tryz.prog 79 #[.string ⟨l.toArray⟩] w (NamedIs w D) ∧ Calls Tryz.prog 70 #[.string ⟨l.toArray⟩] w (NamedIs w D)
  | 0, l, D, h, w => by cases h; exact ⟨named_alnum w, rnamed_alnum w⟩
  | 1, l, D, h, w => by cases h; exact ⟨named_alpha w, rnamed_alpha w⟩
  | 2, l, D, h, w => by cases h; exact ⟨named_blank w, rnamed_blank w⟩
  | 3, l, D, h, w => by cases h; exact ⟨named_cntrl w, rnamed_cntrl w⟩
  | 4, l, D, h, w => by cases h; exact ⟨named_digit w, rnamed_digit w⟩
  | 5, l, D, h, w => by cases h; exact ⟨named_graph w, rnamed_graph w⟩
  | 6, l, D, h, w => by cases h; exact ⟨named_lower w, rnamed_lower w⟩
  | 7, l, D, h, w => by cases h; exact ⟨named_print w, rnamed_print w⟩
  | 8, l, D, h, w => by cases h; exact ⟨named_punct w, rnamed_punct w⟩
  | 9, l, D, h, w => by cases h; exact ⟨named_space w, rnamed_space w⟩
  | 10, l, D, h, w => by cases h; exact ⟨named_upper w, rnamed_upper w⟩
  | 11, l, D, h, w => by cases h; exact ⟨named_xdigit w, rnamed_xdigit w⟩
  | i + 12, l, D, h, w => by cases h
/-- What both tell of any name. -/
def Tells2 (w : World) (b : Bool) (D : List (Int × Int)) (e : Ending) (w' : World) : Prop := ∃ v, e = .returned (.tuple #[v, .bool b]) ∧ RR w.heap.size w' v D ∧ Below w.heap.size w w'
theorem bytes_of {s : ByteArray} {l : List UInt8} (h : (s.toList == l) = true) : s = ⟨l.toArray⟩ := by
  obtain ⟨⟨d⟩⟩ := s
  have e : (ByteArray.mk { toList := d }).toList = d := ByteArray.toList_mk d
  rw [e] at h
  have := eq_of_beq h
  subst this
  rfl
theorem named_any (s : ByteArray) : ∃ (b : Bool) (D : List (Int × Int)), (∀ w, Calls Tryz.prog 79 #[.string s] w (Tells2 w b D)) ∧ (∀ w, Calls Tryz.prog 70 #[.string s] w (Tells2 w b D)) := by
  cases h0 : (s.toList == [97, 108, 110, 117, 109]) with
  | true => exact ⟨true, [(48, 57), (65, 90), (97, 122)], fun w => by rw [bytes_of h0]; exact named_alnum w, fun w => by rw [bytes_of h0]; exact rnamed_alnum w⟩
  | false =>
  cases h1 : (s.toList == [97, 108, 112, 104, 97]) with
  | true => exact ⟨true, [(65, 90), (97, 122)], fun w => by rw [bytes_of h1]; exact named_alpha w, fun w => by rw [bytes_of h1]; exact rnamed_alpha w⟩
  | false =>
  cases h2 : (s.toList == [98, 108, 97, 110, 107]) with
  | true => exact ⟨true, [(9, 9), (32, 32)], fun w => by rw [bytes_of h2]; exact named_blank w, fun w => by rw [bytes_of h2]; exact rnamed_blank w⟩
  | false =>
  cases h3 : (s.toList == [99, 110, 116, 114, 108]) with
  | true => exact ⟨true, [(0, 31), (127, 127)], fun w => by rw [bytes_of h3]; exact named_cntrl w, fun w => by rw [bytes_of h3]; exact rnamed_cntrl w⟩
  | false =>
  cases h4 : (s.toList == [100, 105, 103, 105, 116]) with
  | true => exact ⟨true, [(48, 57)], fun w => by rw [bytes_of h4]; exact named_digit w, fun w => by rw [bytes_of h4]; exact rnamed_digit w⟩
  | false =>
  cases h5 : (s.toList == [103, 114, 97, 112, 104]) with
  | true => exact ⟨true, [(33, 126)], fun w => by rw [bytes_of h5]; exact named_graph w, fun w => by rw [bytes_of h5]; exact rnamed_graph w⟩
  | false =>
  cases h6 : (s.toList == [108, 111, 119, 101, 114]) with
  | true => exact ⟨true, [(97, 122)], fun w => by rw [bytes_of h6]; exact named_lower w, fun w => by rw [bytes_of h6]; exact rnamed_lower w⟩
  | false =>
  cases h7 : (s.toList == [112, 114, 105, 110, 116]) with
  | true => exact ⟨true, [(32, 126)], fun w => by rw [bytes_of h7]; exact named_print w, fun w => by rw [bytes_of h7]; exact rnamed_print w⟩
  | false =>
  cases h8 : (s.toList == [112, 117, 110, 99, 116]) with
  | true => exact ⟨true, [(33, 47), (58, 64), (91, 96), (123, 126)], fun w => by rw [bytes_of h8]; exact named_punct w, fun w => by rw [bytes_of h8]; exact rnamed_punct w⟩
  | false =>
  cases h9 : (s.toList == [115, 112, 97, 99, 101]) with
  | true => exact ⟨true, [(9, 13), (32, 32)], fun w => by rw [bytes_of h9]; exact named_space w, fun w => by rw [bytes_of h9]; exact rnamed_space w⟩
  | false =>
  cases h10 : (s.toList == [117, 112, 112, 101, 114]) with
  | true => exact ⟨true, [(65, 90)], fun w => by rw [bytes_of h10]; exact named_upper w, fun w => by rw [bytes_of h10]; exact rnamed_upper w⟩
  | false =>
  cases h11 : (s.toList == [120, 100, 105, 103, 105, 116]) with
  | true => exact ⟨true, [(48, 57), (65, 70), (97, 102)], fun w => by rw [bytes_of h11]; exact named_xdigit w, fun w => by rw [bytes_of h11]; exact rnamed_xdigit w⟩
  | false =>
  exact ⟨false, [], fun w => (named_none w h7 h5 h0 h1 h6 h11 h4 h9 h2 h3 h8 h10).mono fun e w' ⟨q1, q2⟩ => ⟨_, q1, RR.nil _ _, by rw [q2]; exact Below.refl _ _⟩, fun w => (rnamed_none w h0 h1 h2 h3 h4 h5 h6 h7 h8 h9 h10 h11).mono fun e w' ⟨q1, q2⟩ => ⟨_, q1, RR.nil _ _, by rw [q2]; exact Below.refl _ _⟩⟩
end Go.Proofs.YtloeajhmmjdlgaaGreatDoor
namespace Go.Proofs.YtloeajhmmjdlgaaGreatDoor
open Go Go.RowKit

theorem rnamed_is (s : ByteArray) (w : World) : Calls Tryz.prog 70 #[.string s] w (TellsN w (nmd s).1 (nmd s).2) := by
  unfold nmd
  cases h0 : (s.toList == [97, 108, 110, 117, 109]) with
  | true =>
    simp only [if_true]
    rw [bytesOf h0]
    exact rnamed_alnum w
  | false =>
  cases h1 : (s.toList == [97, 108, 112, 104, 97]) with
  | true =>
    simp only [if_true, Bool.false_eq_true, if_false]
    rw [bytesOf h1]
    exact rnamed_alpha w
  | false =>
  cases h2 : (s.toList == [98, 108, 97, 110, 107]) with
  | true =>
    simp only [if_true, Bool.false_eq_true, if_false]
    rw [bytesOf h2]
    exact rnamed_blank w
  | false =>
  cases h3 : (s.toList == [99, 110, 116, 114, 108]) with
  | true =>
    simp only [if_true, Bool.false_eq_true, if_false]
    rw [bytesOf h3]
    exact rnamed_cntrl w
  | false =>
  cases h4 : (s.toList == [100, 105, 103, 105, 116]) with
  | true =>
    simp only [if_true, Bool.false_eq_true, if_false]
    rw [bytesOf h4]
    exact rnamed_digit w
  | false =>
  cases h5 : (s.toList == [103, 114, 97, 112, 104]) with
  | true =>
    simp only [if_true, Bool.false_eq_true, if_false]
    rw [bytesOf h5]
    exact rnamed_graph w
  | false =>
  cases h6 : (s.toList == [108, 111, 119, 101, 114]) with
  | true =>
    simp only [if_true, Bool.false_eq_true, if_false]
    rw [bytesOf h6]
    exact rnamed_lower w
  | false =>
  cases h7 : (s.toList == [112, 114, 105, 110, 116]) with
  | true =>
    simp only [if_true, Bool.false_eq_true, if_false]
    rw [bytesOf h7]
    exact rnamed_print w
  | false =>
  cases h8 : (s.toList == [112, 117, 110, 99, 116]) with
  | true =>
    simp only [if_true, Bool.false_eq_true, if_false]
    rw [bytesOf h8]
    exact rnamed_punct w
  | false =>
  cases h9 : (s.toList == [115, 112, 97, 99, 101]) with
  | true =>
    simp only [if_true, Bool.false_eq_true, if_false]
    rw [bytesOf h9]
    exact rnamed_space w
  | false =>
  cases h10 : (s.toList == [117, 112, 112, 101, 114]) with
  | true =>
    simp only [if_true, Bool.false_eq_true, if_false]
    rw [bytesOf h10]
    exact rnamed_upper w
  | false =>
  cases h11 : (s.toList == [120, 100, 105, 103, 105, 116]) with
  | true =>
    simp only [if_true, Bool.false_eq_true, if_false]
    rw [bytesOf h11]
    exact rnamed_xdigit w
  | false =>
  simp only [Bool.false_eq_true, if_false]
  exact (rnamed_none w h0 h1 h2 h3 h4 h5 h6 h7 h8 h9 h10 h11).mono fun e w' ⟨q1, q2⟩ => ⟨_, q1, RR.nil _ _, by rw [q2]; exact Below.refl _ _⟩
end Go.Proofs.YtloeajhmmjdlgaaGreatDoor
