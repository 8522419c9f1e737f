/-
  dredgeref06.Alike: two lists, range by range.
-/
import Derived.Test.YtfihhliiecdnaabEq6
namespace Go.Proofs.Ytfihhliiecdnaab
open Go Go.RowKit
attribute [local go_sem] ext_cell

set_option maxRecDepth 100000 in
set_option maxHeartbeats 2000000 in
theorem alike_c {w : World} {va vb : Value} {A B : List (Int × Int)} (ha : ArgR w va A) (hb : ArgR w vb B) :
    Calls Try.prog 9 #[va, vb] w fun e w' => e = .returned (.bool (decide (A = B))) ∧ Below w.heap.size w w' := by
  obtain ⟨q1, cap1, rfl, hl1, -, hc1⟩ := ha.slice
  obtain ⟨q2, cap2, rfl, hl2, -, hc2⟩ := hb.slice
  have HC1 : Hid (∀ (i : Nat) (r : Int × Int), A[i]? = some r → ∃ g off, q1 = some ⟨g, off, none⟩ ∧ g < w.heap.size ∧ w.cell? ⟨g, off + 2 * i, none⟩ = some (.int .i64 r.1) ∧ w.cell? ⟨g, off + 2 * i + 1, none⟩ = some (.int .i64 r.2)) := hc1
  have HC2 : Hid (∀ (i : Nat) (r : Int × Int), B[i]? = some r → ∃ g off, q2 = some ⟨g, off, none⟩ ∧ g < w.heap.size ∧ w.cell? ⟨g, off + 2 * i, none⟩ = some (.int .i64 r.1) ∧ w.cell? ⟨g, off + 2 * i + 1, none⟩ = some (.int .i64 r.2)) := hc2
  clear hc1 hc2 ha hb
  unfold maxLen at hl1 hl2
  by_cases hne : A.length = B.length
  · have HNE : Hid (A.length = B.length) := hne
    rw [← hne]
    have b1 : (((A.length : Nat) : Int) != ((A.length : Nat) : Int)) = false := by simp
    clear hne hl2
    go_enter Try.func9, Try.ntmps9
    go_wp2
    go_loopw [5] (fun i wr => ∃ k : Nat, k ≤ A.length ∧ i = .int .i64 k ∧ A.take k = B.take k ∧ Below w.heap.size w wr) (fun i _ => A.length - (intOf i).toNat)
    case atStart => exact ⟨0, Nat.zero_le _, rfl, by simp, Below.refl _ _⟩
    case round =>
      obtain ⟨k, hk, rfl, ht, hbl⟩ := hrel
      have HT : Hid (A.take k = B.take k) := ht
      have BW : Hid (Below w.heap.size w wr) := hbl
      clear ht hbl
      by_cases hlt : k < A.length
      · obtain ⟨a, ea⟩ : ∃ r, A[k]? = some r := ⟨_, List.getElem?_eq_getElem hlt⟩
        obtain ⟨b, eb⟩ : ∃ r, B[k]? = some r := ⟨_, List.getElem?_eq_getElem (by have := HNE.out; omega)⟩
        obtain ⟨g1, o1, rfl, hg1, x1, x2⟩ := HC1.out k _ ea
        obtain ⟨g2, o2, rfl, hg2, y1, y2⟩ := HC2.out k _ eb
        have d1 := (BW.out.cell (p := ⟨g1, o1 + 2 * k, none⟩) hg1).trans x1
        have d2 := (BW.out.cell (p := ⟨g1, o1 + 2 * k + 1, none⟩) hg1).trans x2
        have d3 := (BW.out.cell (p := ⟨g2, o2 + 2 * k, none⟩) hg2).trans y1
        have d4 := (BW.out.cell (p := ⟨g2, o2 + 2 * k + 1, none⟩) hg2).trans y2
        rw [Nat.mul_comm] at d1 d2 d3 d4
        have s1 : g1 < wr.heap.size := Nat.lt_of_lt_of_le hg1 BW.out.size
        have s2 : g2 < wr.heap.size := Nat.lt_of_lt_of_le hg2 BW.out.size
        have NX : Hid (A.take (k + 1) = B.take (k + 1) ↔ a = b) := take_eq_next ea eb HT.out
        have NE : Hid (a ≠ b → ¬ A = B) := fun q e => by subst e; rw [ea] at eb; exact q (Option.some.inj eb)
        have i0 : (0 : Int) ≤ (k : Int) := by omega
        have i1 : (k : Int) < (A.length : Int) := by omega
        obtain ⟨a1, a2⟩ := a
        obtain ⟨b1', b2⟩ := b
        dsimp only at d1 d2 d3 d4
        clear x1 x2 y1 y2 ea eb
        by_cases e1 : a1 = b1'
        · by_cases e2 : a2 = b2
          · subst e1 e2
            have f1 : (a1 == a1) = true := by simp
            have f2 : (a2 == a2) = true := by simp
            have NX2 : Hid (A.take (k + 1) = B.take (k + 1)) := NX.out.2 rfl
            clear NX NE
            go_wp2
            refine wp_region_ext (by kernel_rfl) (by kernel_rfl) ?_
            repeat (go_big_quiet_step (first | exact rfl))
            refine wpQuiet_nil ?_
            intro w7 hw7
            have B7 : Hid (Below wr.heap.size wr w7) := ext_of hw7
            clear hw7
            go_wp2
            go_roundw
            case rel => exact ⟨k + 1, by omega, by go_num, NX2.out, chain BW.out B7.out (Nat.le_refl _)⟩
            case measure => simp [intOf]; omega
          · subst e1
            have f1 : (a1 == a1) = true := by simp
            have f2 : (a2 == b2) = false := by simp [e2]
            have N2 : Hid (decide (A = B) = false) := decide_eq_false (NE.out (fun q => e2 (Prod.mk.inj q).2))
            clear NX NE
            go_wp2
            refine wp_region_ext (by kernel_rfl) (by kernel_rfl) ?_
            repeat (go_big_quiet_step (first | exact rfl))
            refine wpQuiet_nil ?_
            intro w7 hw7
            have B7 : Hid (Below wr.heap.size wr w7) := ext_of hw7
            clear hw7
            go_wp2
            go_ret
            exact ⟨by rw [N2.out]; rfl, chain BW.out B7.out (Nat.le_refl _)⟩
        · have f1 : (a1 == b1') = false := by simp [e1]
          have N2 : Hid (decide (A = B) = false) := decide_eq_false (NE.out (fun q => e1 (Prod.mk.inj q).1))
          clear NX NE
          go_wp2
          refine wp_region_ext (by kernel_rfl) (by kernel_rfl) ?_
          repeat (go_big_quiet_step (first | exact rfl))
          refine wpQuiet_nil ?_
          intro w7 hw7
          have B7 : Hid (Below wr.heap.size wr w7) := ext_of hw7
          clear hw7
          go_wp2
          go_ret
          exact ⟨by rw [N2.out]; rfl, chain BW.out B7.out (Nat.le_refl _)⟩
      · have i1 : ¬ (k : Int) < (A.length : Int) := by omega
        have EE : Hid (decide (A = B) = true) := decide_eq_true (by
          have e := HT.out
          rw [List.take_of_length_le (by omega), List.take_of_length_le (by have := HNE.out; omega)] at e
          exact e)
        go_wp2
        go_ret
        exact ⟨by rw [EE.out]; rfl, BW.out⟩
  · have EE : Hid (decide (A = B) = false) := decide_eq_false (fun e => hne (by rw [e]))
    have b1 : (((A.length : Nat) : Int) != ((B.length : Nat) : Int)) = true := by simp; omega
    go_enter Try.func9, Try.ntmps9
    go_wp2
    go_ret
    exact ⟨by rw [EE.out]; rfl, Below.refl _ _⟩
end Go.Proofs.Ytfihhliiecdnaab
