/-
  firstDifference: contract.
-/
import Derived.Test.YtihmnibopeljaaaDoorTake2
namespace Go.Proofs.YtihmnibopeljaaaDoor
open Go Go.RowKit

/-- How many bytes two texts begin alike. -/
def cpl : List UInt8 → List UInt8 → Nat
  | x :: a, y :: b => if x = y then cpl a b + 1 else 0
  | _, _ => 0
theorem cpl_at (a b : List UInt8) (k : Nat) (x y : UInt8) (ha : a[k]? = some x) (hb : b[k]? = some y) : cpl (a.drop k) (b.drop k) = if x = y then cpl (a.drop (k + 1)) (b.drop (k + 1)) + 1 else 0 := by
  obtain ⟨h1, e1⟩ := List.getElem?_eq_some_iff.1 ha
  obtain ⟨h2, e2⟩ := List.getElem?_eq_some_iff.1 hb
  rw [List.drop_eq_getElem_cons h1, List.drop_eq_getElem_cons h2, e1, e2, cpl]
theorem cpl_end (a b : List UInt8) (k : Nat) (h : a.length ≤ k ∨ b.length ≤ k) : cpl (a.drop k) (b.drop k) = 0 := by
  rcases h with h | h
  · rw [List.drop_eq_nil_of_le h]; unfold cpl; rfl
  · rw [List.drop_eq_nil_of_le h]; cases a.drop k <;> rfl

set_option maxHeartbeats 4000000 in
set_option maxRecDepth 1000000 in
theorem firstDiff_c (a b : ByteArray) (w : World) (ha : a.size ≤ 1099511627776000) :
    Calls Tryd.prog 36 #[.string a, .string b] w fun e w' => e = .returned (.int .i64 (cpl a.data.toList b.data.toList : Int)) ∧ Below w.heap.size w w' := by
  go_enter Tryd.func36, Tryd.ntmps36
  go_wp2
  go_loopw [5] (fun i wr => ∃ k : Nat, i = .int .i64 (k : Int) ∧ k ≤ a.size ∧ k ≤ b.size ∧ k + cpl (a.data.toList.drop k) (b.data.toList.drop k) = cpl a.data.toList b.data.toList ∧ Below w.heap.size w wr) (fun i _ => a.size - (intOf i).toNat)
  case atStart => exact ⟨0, rfl, Nat.zero_le _, Nat.zero_le _, by simp, Below.refl _ _⟩
  case round =>
    obtain ⟨k, rfl, hka, hkb, hc, hbw⟩ := hrel
    have B : Hid (Below w.heap.size w wr) := hbw
    have C : Hid (k + cpl (a.data.toList.drop k) (b.data.toList.drop k) = cpl a.data.toList b.data.toList) := hc
    clear hbw hc
    by_cases hlt : k < a.size ∧ k < b.size
    · obtain ⟨ha1, hb1⟩ := hlt
      obtain ⟨x, hx⟩ : ∃ x, a[k]'ha1 = x := ⟨_, rfl⟩
      obtain ⟨y, hy⟩ : ∃ y, b[k]'hb1 = y := ⟨_, rfl⟩
      have gx : a.data.toList[k]? = some x := by rw [← hx]; exact List.getElem?_eq_getElem (by rw [size_list]; exact ha1)
      have gy : b.data.toList[k]? = some y := by rw [← hy]; exact List.getElem?_eq_getElem (by rw [size_list]; exact hb1)
      have CA : Hid _ := cpl_at _ _ k x y gx gy
      clear gx gy
      have i0 : (0 : Int) ≤ (k : Int) := by omega
      have i1 : (k : Int) < (a.size : Int) := by omega
      have i2 : (k : Int) < (b.size : Int) := by omega
      have i3 : (k : Int) < min (a.size : Int) (b.size : Int) := by omega
      have hwr : IntKind.wrap .i64 ((k : Int) + 1) = (k : Int) + 1 := wrap_small _ (by omega) (by omega)
      by_cases hxy : x = y
      · have bxy : ((x.toNat : Int) == (y.toNat : Int)) = true := by rw [hxy]; simp
        go_wp2
        refine wp_region_ext (by kernel_rfl) (by kernel_rfl) ?_
        repeat (go_big_quiet_step (first | exact rfl))
        refine wpQuiet_nil ?_
        intro w5 hw5
        have B5 : Hid (Below w.heap.size w w5) := chain B.out (ext_of hw5) (Nat.le_refl _)
        clear hw5
        go_wp2
        go_roundw
        case rel =>
          refine ⟨k + 1, by go_num, by omega, by omega, ?_, B5.out⟩
          have h1 := CA.out
          rw [if_pos hxy] at h1
          have h2 := C.out
          omega
        case measure => simp only [intOf]; omega
      · have bxy : ((x.toNat : Int) == (y.toNat : Int)) = false := by
          simp
          intro q
          exact hxy (UInt8.toNat_inj.1 (by omega))
        go_wp2
        refine wp_region_ext (by kernel_rfl) (by kernel_rfl) ?_
        repeat (go_big_quiet_step (first | exact rfl))
        refine wpQuiet_nil ?_
        intro w5 hw5
        have B5 : Hid (Below w.heap.size w w5) := chain B.out (ext_of hw5) (Nat.le_refl _)
        clear hw5
        go_wp2
        go_ret
        have h1 := CA.out
        rw [if_neg hxy] at h1
        have h2 := C.out
        rw [h1] at h2
        exact ⟨by rw [← h2]; rfl, B5.out⟩
    · have d3 : decide ((k : Int) < min (a.size : Int) (b.size : Int)) = false := by rw [decide_eq_false_iff_not]; omega
      have h1 := cpl_end a.data.toList b.data.toList k (by rw [size_list, size_list]; omega)
      have h2 := C.out
      rw [h1] at h2
      have E : Hid (k + 0 = cpl a.data.toList b.data.toList) := h2
      clear h1 h2
      go_wp2
      refine wp_region_ext (by kernel_rfl) (by kernel_rfl) ?_
      repeat (go_big_quiet_step (first | exact rfl))
      refine wpQuiet_nil ?_
      intro w5 hw5
      have B5 : Hid (Below w.heap.size w w5) := chain B.out (ext_of hw5) (Nat.le_refl _)
      clear hw5
      go_wp2
      go_ret
      exact ⟨by rw [← E.out]; rfl, B5.out⟩
end Go.Proofs.YtihmnibopeljaaaDoor
