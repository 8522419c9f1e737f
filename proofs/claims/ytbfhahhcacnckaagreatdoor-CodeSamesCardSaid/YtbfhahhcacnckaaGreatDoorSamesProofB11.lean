/-
  Parts of the proof.
-/
import Derived.Test.YtbfhahhcacnckaaGreatDoorSamesProofB9
import Derived.Test.YtbfhahhcacnckaaGreatDoorSamesProofB10
set_option linter.unusedSimpArgs false
namespace Go.Proofs.YtbfhahhcacnckaaGreatDoor
open Go Go.RowKit
attribute [local go_sem] Oper.semAt_some
def cutL (c : UInt8) : List UInt8 → List UInt8 × List UInt8 × Bool
  | [] => ([], [], false)
  | x :: r => if x == c then ([], r, true) else (x :: (cutL c r).1, (cutL c r).2.1, (cutL c r).2.2)
theorem cutL_no (c : UInt8) : ∀ l, Lib.indexByte l c = -1 → cutL c l = (l, [], false)
  | [], _ => rfl
  | x :: r, h => by
    unfold Lib.indexByte at h
    cases hx : (x == c) with
    | true => rw [hx] at h; simp at h
    | false =>
      rw [hx] at h
      cases hr : (Lib.indexByte r c == -1) with
      | true =>
        have h2 := cutL_no c r (by simpa using hr)
        unfold cutL
        rw [hx, h2]
        rfl
      | false =>
        rw [hr] at h
        simp at h hr
        have := Lib.indexByte_ge r c
        omega
theorem cutL_yes (c : UInt8) : ∀ l (n : Nat), Lib.indexByte l c = (n : Int) → cutL c l = (l.take n, l.drop (n + 1), true) ∧ n < l.length
  | [], n, h => by unfold Lib.indexByte at h; omega
  | x :: r, n, h => by
    unfold Lib.indexByte at h
    cases hx : (x == c) with
    | true =>
      rw [hx] at h
      simp at h
      obtain rfl : n = 0 := by omega
      unfold cutL
      rw [hx]
      exact ⟨rfl, by simp⟩
    | false =>
      rw [hx] at h
      cases hr : (Lib.indexByte r c == -1) with
      | true => rw [hr] at h; simp at h
      | false =>
        rw [hr] at h
        simp at h
        obtain ⟨m, rfl⟩ : ∃ m, n = m + 1 := ⟨n - 1, by have h1 := Lib.indexByte_ge r c; simp at hr; omega⟩
        obtain ⟨h2, h3⟩ := cutL_yes c r m (by omega)
        unfold cutL
        rw [hx, h2]
        exact ⟨rfl, by simp; omega⟩
theorem txt_ext (l : List UInt8) (a b : Nat) : (txt l).extract a b = txt ((l.drop a).take (b - a)) := by
  apply ByteArray.ext
  simp [txt, ByteArray.data_extract]
set_option maxRecDepth 100000 in
set_option maxHeartbeats 2000000 in
theorem cutI_c (s : List UInt8) (c : UInt8) (hl : s.length ≤ 9223372036854775806) (w : World) : Calls Tryz.prog 89 #[.string (txt s), .string ⟨#[c]⟩] w fun e w' => e = .returned (.tuple #[.string (txt (cutL c s).1), .string (txt (cutL c s).2.1), .bool (cutL c s).2.2]) ∧ Below w.heap.size w w' := by
  have HX : Hid (Calls Tryz.prog 106 #[.string (txt s), .string ⟨#[c]⟩] w fun e w' => e = .returned (.int .i64 (Lib.indexByte s c)) ∧ w' = w) := Tryz.stringslite_Index_one (txt s) c w
  obtain ⟨i, hi⟩ : ∃ i, Lib.indexByte s c = i := ⟨_, rfl⟩
  have hge := Lib.indexByte_ge s c
  rw [hi] at HX hge
  by_cases h0 : i = -1
  · subst h0
    rw [cutL_no c s hi]
    clear hi hge
    go_enter Tryz.func89, Tryz.ntmps89
    go_wp2_with (go_at_call 106; (with_reducible refine (HX.out).mono ?_); rintro e w5 ⟨rfl, rfl⟩)
    refine bodyPost_ret (by simp [results, Tryz.results89, go_sem]; try rfl) rfl ?_
    exact ⟨rfl, Below.refl _ _⟩
  · obtain ⟨n, rfl⟩ : ∃ n : Nat, i = (n : Int) := ⟨i.toNat, by omega⟩
    obtain ⟨h1, h2⟩ := cutL_yes c s n hi
    rw [h1]
    have hs : (txt s).size = s.length := txt_size s
    have E1 : (txt s).extract 0 n = txt (s.take n) := by rw [txt_ext]; simp
    have E2 : (txt s).extract (n + 1) s.length = txt (s.drop (n + 1)) := by rw [txt_ext, List.take_of_length_le (by simp)]
    have i1 : (0 : Int) ≤ (n : Int) := by omega
    have i2 : (n : Int) ≤ ((txt s).size : Int) := by omega
    have i3 : (n : Int) + 1 ≤ ((txt s).size : Int) := by omega
    have hw : IntKind.wrap .i64 ((n : Int) + 1) = (n : Int) + 1 := wrap_small _ (by omega) (by omega)
    clear hi hge h0 h1
    go_enter Tryz.func89, Tryz.ntmps89
    go_wp2_with (go_at_call 106; (with_reducible refine (HX.out).mono ?_); rintro e w5 ⟨rfl, rfl⟩)
    go_region
    all_goals go_wp2
    all_goals refine bodyPost_ret (by simp [results, Tryz.results89, go_sem]; try rfl) rfl ?_
    all_goals exact ⟨rfl, (Below.refl _ _).drew⟩
set_option maxRecDepth 100000 in
set_option maxHeartbeats 2000000 in
theorem cut_c (s : List UInt8) (c : UInt8) (hl : s.length ≤ 9223372036854775806) (w : World) : Calls Tryz.prog 65 #[.string (txt s), .string ⟨#[c]⟩] w fun e w' => e = .returned (.tuple #[.string (txt (cutL c s).1), .string (txt (cutL c s).2.1), .bool (cutL c s).2.2]) ∧ Below w.heap.size w w' := by
  have HX := hide (cutI_c s c hl w)
  obtain ⟨⟨a, b, f⟩, hr⟩ : ∃ r, cutL c s = r := ⟨_, rfl⟩
  rw [hr] at HX ⊢
  clear hr
  go_enter Tryz.func65, Tryz.ntmps65
  go_wp2_with (go_at_call 89; (with_reducible refine (HX.out).mono ?_); rintro e w5 ⟨rfl, h5⟩; have B5 := hide h5; clear h5)
  refine bodyPost_ret (by simp [results, Tryz.results65, go_sem]; try rfl) rfl ?_
  exact ⟨rfl, B5.out⟩
end Go.Proofs.YtbfhahhcacnckaaGreatDoor
