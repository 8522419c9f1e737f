/-
  Named of what is no name. Named of any name.
-/
import Derived.Test.YtloeajhmmjdlgaaGreatDoorC7
import Derived.Test.YtloeajhmmjdlgaaGreatDoorC1
import Derived.Test.YtloeajhmmjdlgaaGreatDoorC8
import Derived.Test.YtloeajhmmjdlgaaGreatDoorC9
namespace Go.Proofs.YtloeajhmmjdlgaaGreatDoor
open Go Go.RowKit

set_option maxRecDepth 100000 in
set_option maxHeartbeats 4000000 in
theorem named_none {s : ByteArray} (w : World) (n0 : (s.toList == [112, 114, 105, 110, 116]) = false) (n1 : (s.toList == [103, 114, 97, 112, 104]) = false) (n2 : (s.toList == [97, 108, 110, 117, 109]) = false) (n3 : (s.toList == [97, 108, 112, 104, 97]) = false) (n4 : (s.toList == [108, 111, 119, 101, 114]) = false) (n5 : (s.toList == [120, 100, 105, 103, 105, 116]) = false) (n6 : (s.toList == [100, 105, 103, 105, 116]) = false) (n7 : (s.toList == [115, 112, 97, 99, 101]) = false) (n8 : (s.toList == [98, 108, 97, 110, 107]) = false) (n9 : (s.toList == [99, 110, 116, 114, 108]) = false) (n10 : (s.toList == [112, 117, 110, 99, 116]) = false) (n11 : (s.toList == [117, 112, 112, 101, 114]) = false) :
    Calls Tryz.prog 79 #[.string s] w fun e w' => e = .returned (.tuple #[.slice none 0 0, .bool false]) ∧ w' = w := by
  go_enter Tryz.func79, Tryz.ntmps79
  go_wp2
  go_ret2
  exact ⟨rfl, rfl⟩
theorem lit_ne (l m : List UInt8) (h : (l == m) = false) : ((ByteArray.mk l.toArray).toList == m) = false := by
  rw [ByteArray.toList_mk]
  exact h
theorem named_Blank (w : World) : Calls Tryz.prog 79 #[.string ⟨#[66, 108, 97, 110, 107]⟩] w fun e w' => e = .returned (.tuple #[.slice none 0 0, .bool false]) ∧ w' = w :=
  named_none w (lit_ne [66, 108, 97, 110, 107] _ (by decide)) (lit_ne [66, 108, 97, 110, 107] _ (by decide)) (lit_ne [66, 108, 97, 110, 107] _ (by decide)) (lit_ne [66, 108, 97, 110, 107] _ (by decide)) (lit_ne [66, 108, 97, 110, 107] _ (by decide)) (lit_ne [66, 108, 97, 110, 107] _ (by decide)) (lit_ne [66, 108, 97, 110, 107] _ (by decide)) (lit_ne [66, 108, 97, 110, 107] _ (by decide)) (lit_ne [66, 108, 97, 110, 107] _ (by decide)) (lit_ne [66, 108, 97, 110, 107] _ (by decide)) (lit_ne [66, 108, 97, 110, 107] _ (by decide)) (lit_ne [66, 108, 97, 110, 107] _ (by decide))
end Go.Proofs.YtloeajhmmjdlgaaGreatDoor
namespace Go.Proofs.YtloeajhmmjdlgaaGreatDoor
open Go Go.RowKit

def TellsN (w : World) (b : Bool) (D : List (Int × Int)) (e : Ending) (w' : World) : Prop := ∃ v, e = .returned (.tuple #[v, .bool b]) ∧ RR w.heap.size w' v D ∧ Below w.heap.size w w'
theorem bytesOf {s : ByteArray} {l : List UInt8} (h : (s.toList == l) = true) : s = ⟨l.toArray⟩ := by
  obtain ⟨⟨d⟩⟩ := s
  have e : (ByteArray.mk { toList := d }).toList = d := ByteArray.toList_mk d
  rw [e] at h
  have := eq_of_beq h
  subst this
  rfl
theorem named_is (s : ByteArray) (w : World) : Calls Tryz.prog 79 #[.string s] w (TellsN w (nmd s).1 (nmd s).2) := by
  unfold nmd
  cases h0 : (s.toList == [97, 108, 110, 117, 109]) with
  | true =>
    simp only [if_true]
    rw [bytesOf h0]
    exact named_alnum w
  | false =>
  cases h1 : (s.toList == [97, 108, 112, 104, 97]) with
  | true =>
    simp only [if_true, Bool.false_eq_true, if_false]
    rw [bytesOf h1]
    exact named_alpha w
  | false =>
  cases h2 : (s.toList == [98, 108, 97, 110, 107]) with
  | true =>
    simp only [if_true, Bool.false_eq_true, if_false]
    rw [bytesOf h2]
    exact named_blank w
  | false =>
  cases h3 : (s.toList == [99, 110, 116, 114, 108]) with
  | true =>
    simp only [if_true, Bool.false_eq_true, if_false]
    rw [bytesOf h3]
    exact named_cntrl w
  | false =>
  cases h4 : (s.toList == [100, 105, 103, 105, 116]) with
  | true =>
    simp only [if_true, Bool.false_eq_true, if_false]
    rw [bytesOf h4]
    exact named_digit w
  | false =>
  cases h5 : (s.toList == [103, 114, 97, 112, 104]) with
  | true =>
    simp only [if_true, Bool.false_eq_true, if_false]
    rw [bytesOf h5]
    exact named_graph w
  | false =>
  cases h6 : (s.toList == [108, 111, 119, 101, 114]) with
  | true =>
    simp only [if_true, Bool.false_eq_true, if_false]
    rw [bytesOf h6]
    exact named_lower w
  | false =>
  cases h7 : (s.toList == [112, 114, 105, 110, 116]) with
  | true =>
    simp only [if_true, Bool.false_eq_true, if_false]
    rw [bytesOf h7]
    exact named_print w
  | false =>
  cases h8 : (s.toList == [112, 117, 110, 99, 116]) with
  | true =>
    simp only [if_true, Bool.false_eq_true, if_false]
    rw [bytesOf h8]
    exact named_punct w
  | false =>
  cases h9 : (s.toList == [115, 112, 97, 99, 101]) with
  | true =>
    simp only [if_true, Bool.false_eq_true, if_false]
    rw [bytesOf h9]
    exact named_space w
  | false =>
  cases h10 : (s.toList == [117, 112, 112, 101, 114]) with
  | true =>
    simp only [if_true, Bool.false_eq_true, if_false]
    rw [bytesOf h10]
    exact named_upper w
  | false =>
  cases h11 : (s.toList == [120, 100, 105, 103, 105, 116]) with
  | true =>
    simp only [if_true, Bool.false_eq_true, if_false]
    rw [bytesOf h11]
    exact named_xdigit w
  | false =>
  simp only [Bool.false_eq_true, if_false]
  exact (named_none w h7 h5 h0 h1 h6 h11 h4 h9 h2 h3 h8 h10).mono fun e w' ⟨q1, q2⟩ => ⟨_, q1, RR.nil _ _, by rw [q2]; exact Below.refl _ _⟩
def okL (L : List (Int × Int)) : Bool := decide (L.length ≤ 4) && L.all fun r => decide (0 ≤ r.1) && decide (r.1 ≤ 127) && decide (0 ≤ r.2) && decide (r.2 ≤ 127)
theorem ite_ok (c : Bool) (a b : Bool × List (Int × Int)) (ha : okL a.2 = true) (hb : okL b.2 = true) : okL (if c then a else b).2 = true := by cases c <;> assumption
theorem nmd_ok (s : ByteArray) : okL (nmd s).2 = true := by
  unfold nmd
  refine ite_ok _ _ _ (by decide) ?_
  refine ite_ok _ _ _ (by decide) ?_
  refine ite_ok _ _ _ (by decide) ?_
  refine ite_ok _ _ _ (by decide) ?_
  refine ite_ok _ _ _ (by decide) ?_
  refine ite_ok _ _ _ (by decide) ?_
  refine ite_ok _ _ _ (by decide) ?_
  refine ite_ok _ _ _ (by decide) ?_
  refine ite_ok _ _ _ (by decide) ?_
  refine ite_ok _ _ _ (by decide) ?_
  refine ite_ok _ _ _ (by decide) ?_
  exact ite_ok _ _ _ (by decide) (by decide)
theorem nmd_fit (s : ByteArray) : Fit (nmd s).2 ∧ (nmd s).2.length ≤ 4 := by
  have h := nmd_ok s
  unfold okL at h
  simp only [Bool.and_eq_true, decide_eq_true_eq, List.all_eq_true] at h
  refine ⟨fun r hr => ?_, h.1⟩
  have := h.2 r hr
  omega
def posL (x : Bool × List (Int × Int)) : Bool := !x.1 || decide (0 < x.2.length)
theorem ite_pos (c : Bool) (a b : Bool × List (Int × Int)) (ha : posL a = true) (hb : posL b = true) : posL (if c then a else b) = true := by cases c <;> assumption
theorem nmd_pos (s : ByteArray) (h : (nmd s).1 = true) : 0 < (nmd s).2.length := by
  have k : posL (nmd s) = true := by
    unfold nmd
    refine ite_pos _ _ _ (by decide) ?_
    refine ite_pos _ _ _ (by decide) ?_
    refine ite_pos _ _ _ (by decide) ?_
    refine ite_pos _ _ _ (by decide) ?_
    refine ite_pos _ _ _ (by decide) ?_
    refine ite_pos _ _ _ (by decide) ?_
    refine ite_pos _ _ _ (by decide) ?_
    refine ite_pos _ _ _ (by decide) ?_
    refine ite_pos _ _ _ (by decide) ?_
    refine ite_pos _ _ _ (by decide) ?_
    refine ite_pos _ _ _ (by decide) ?_
    exact ite_pos _ _ _ (by decide) (by decide)
  unfold posL at k
  rw [h] at k
  simpa using k
end Go.Proofs.YtloeajhmmjdlgaaGreatDoor
