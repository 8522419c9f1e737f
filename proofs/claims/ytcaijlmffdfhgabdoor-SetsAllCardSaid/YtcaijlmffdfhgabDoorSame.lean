/-
  What dredgelaw01.same answers of two lists that hold the same ranges: true.
-/
import Derived.Test.YtcaijlmffdfhgabDoorFrom
namespace Go.Proofs.YtcaijlmffdfhgabDoor
open Go Go.RowKit
attribute [local go_sem] eqg_range eqIn_range ext_cell

theorem RowAt.slice {w : World} {v : Value} {rs : List (Int × Int)} (h : RowAt w v rs) : ∃ p cap, v = .slice p rs.length cap ∧ rs.length ≤ maxLen := by
  rcases h with ⟨p0, cap, rfl, rfl⟩ | ⟨g, off, cap, rfl, _, h1, h2, _⟩
  · exact ⟨p0, cap, rfl, by decide⟩
  · exact ⟨_, cap, rfl, Nat.le_trans h1 h2⟩

set_option maxRecDepth 100000 in
set_option maxHeartbeats 1000000 in
theorem same_any (rs : List (Int × Int)) (va vb : Value) (w : World) (h1 : RowAt w va rs) (h2 : RowAt w vb rs) :
    Calls Tryd.prog 9 #[va, vb] w fun e w' => e = .returned (.bool true) ∧ Below w.heap.size w w' := by
  have HA : Hid (RowAt w va rs) := h1
  have HB : Hid (RowAt w vb rs) := h2
  clear h1 h2
  obtain ⟨pa, capa, rfl, hlen⟩ := HA.out.slice
  obtain ⟨pb, capb, rfl, _⟩ := HB.out.slice
  unfold maxLen at hlen
  go_enter Tryd.func9, Tryd.ntmps9
  go_wp2
  go_loopw [5] (fun i wr => ∃ k : Nat, k ≤ rs.length ∧ i = .int .i64 k ∧ Below w.heap.size w wr) (fun i _ => rs.length - (intOf i).toNat)
  case atStart => exact ⟨0, Nat.zero_le _, rfl, Below.refl _ _⟩
  case round =>
    obtain ⟨k, hk, rfl, hb⟩ := hrel
    have HW : Hid (Below w.heap.size w wr) := hb
    clear hb
    by_cases hlt : k < rs.length
    · have HK : Hid (rs[k]? = some rs[k]) := List.getElem?_eq_getElem hlt
      generalize hlh : rs[k] = lh at HK
      obtain ⟨lo, hi⟩ := lh
      clear hlh
      rcases HA.out.below HW.out with ⟨_, _, h1, h2⟩ | ⟨g, off, cap', h1, hg, hc1, hc2, hcl⟩
      · rw [h2] at hlt; simp at hlt
      · cases h1
        obtain ⟨q1, q2⟩ := hcl k lo hi HK.out
        rcases HB.out.below HW.out with ⟨_, _, h1, h2⟩ | ⟨g', off', cap', h1, hg', hc1', hc2', hcl'⟩
        · rw [h2] at hlt; simp at hlt
        · cases h1
          obtain ⟨q3, q4⟩ := hcl' k lo hi HK.out
          unfold maxLen at hc2 hc2'
          clear hcl hcl'
          have i0 : (0 : Int) ≤ (k : Int) := by omega
          have i1 : (k : Int) < (rs.length : Int) := by omega
          go_wp2
          refine wp_region_ext (by kernel_rfl) (by kernel_rfl) ?_
          repeat (go_big_quiet_step (first | exact rfl))
          refine wpQuiet_nil ?_
          intro w5 hw
          have hb5 := ext_of hw
          clear hw
          go_wp2
          go_roundw
          case rel => exact ⟨k + 1, by omega, by go_num, chain HW.out hb5⟩
          case measure => simp [intOf]; omega
    · go_wp2
      go_ret
      exact ⟨rfl, HW.out⟩
end Go.Proofs.YtcaijlmffdfhgabDoor
