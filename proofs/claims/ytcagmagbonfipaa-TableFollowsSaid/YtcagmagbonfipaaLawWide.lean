/-
  The law TableWide, walked.
-/
import Derived.Test.YtcagmagbonfipaaCmp
namespace Go.Proofs.Ytcagmagbonfipaa
open Go Go.RowKit

theorem argI_heap {w : World} {g n : Nat} {l : List Int} (h : w.heap[g]? = some (.cells (ints l).toArray 3 (0, 0))) (hl : l.length = n) (hn : n ≤ 1000000) : ArgI w (.slice (some ⟨g, 0, none⟩) n n) l := by
  subst hl
  exact KeyAt.argI ⟨g, rfl, h⟩ (by unfold maxLen; omega)
/-- A list of the call's own is no old block's. -/
theorem apart_arg {w : World} {v : Value} {zs : List Int} (h : ArgI w v zs) {b : Nat} (hb : w.heap.size ≤ b) : Apart v b := fun p n c e hn => by
  rcases h with ⟨p', cap, rfl, rfl⟩ | ⟨g, off, cap, rfl, h2, _⟩
  · cases e; exact absurd rfl hn
  · cases e
    simp only
    omega
set_option maxRecDepth 100000 in
set_option maxHeartbeats 4000000 in
theorem law_wide (width : Int) (wf0 : (Lit.int .i64 width).wf = true) (zs : List Int) (v : Value) (x : Int) (_ : (Lit.int .i64 x).wf = true) (w : World) (hz : ArgI w v zs) :
    Calls Try.prog 6 #[.int .i64 width, v, .int .i64 x] w fun e w' => e = .returned (.bool true) ∧ Below w.heap.size w w' := by
  obtain ⟨r, hr, hpk⟩ := pick_nat width 129 (by decide)
  have HR : Hid (pk width 129 = r) := hpk
  clear hpk
  have HZ : Hid (ArgI w v zs) := hz
  obtain ⟨q, cap, rfl, hlen, hcell⟩ := hz.slice
  have AP : Hid (∀ b, w.heap.size ≤ b → Apart (.slice q zs.length cap) b) := fun b hb => apart_arg hz hb
  clear hz hcell
  unfold maxLen at hlen
  have r0 : (0 : Int) ≤ (r : Int) := by omega
  have m1 := make_ints r r (Nat.le_refl _) (by omega)
  rw [made_zero] at m1
  have ZL : Hid ((List.replicate r (0 : Int)).length = r) := List.length_replicate
  have ZN : Hid (m0 (List.replicate r (0 : Int)) = none) := rfl
  generalize List.replicate r (0 : Int) = zz at m1 ZL ZN
  go_enter Try.func6, Try.ntmps6
  go_upto_region 9 with first | (go_at_call 9; (with_reducible refine (known_c _).mono ?_); rintro e w0 ⟨rfl, hb⟩; have B0 : Hid (Below w.heap.size w w0) := hb; clear hb) | (go_at_call 17; (with_reducible refine (pick_i width 129 (by decide) (by decide) wf0 _).mono ?_); rw [HR.out]; rintro e w5 ⟨rfl, h5⟩; subst w5) | (go_at_call 10; (with_reducible refine (new_s r 9 (by omega) (by decide) _).mono ?_); rintro e w1 ⟨b, rfl, hT, hB⟩; have T0 : Hid (TS w.heap.size w1 b r 9 0 0 m0) := (hT.mono B0.out.size : TS w.heap.size w1 b r 9 0 0 m0); have O0 : Hid (Below w.heap.size w w1) := chain B0.out hB (Nat.le_refl _); clear hT hB) | (go_at_call 13; (with_reducible refine (put_new (T0.out.alloc (.cells (ints zz).toArray 3)) (argI_heap (World.alloc_heap_new w1 _) ZL.out (by omega)) (apart_new T0.out.lt) x ZL.out ZN.out (by decide)).mono ?_); rintro e w2 ⟨rfl, ⟨n2, hT, _⟩, hO⟩; have T2 : Hid (TS w.heap.size w2 b r 9 1 n2 (upd m0 zz (some x))) := hT; have O2 : Hid (Below w.heap.size w w2) := O0.out.trans (hO.laid T0.out.base_le).below; have Z2 : Hid (w2.heap[w1.heap.size]? = some (.cells (ints zz).toArray 3 (0, 0))) := hO.ki _ _ _ (by decide) (by decide) (World.alloc_heap_new w1 _); clear hT hO)
  have AZ2 : Hid (ArgI w2 (.slice q zs.length cap) zs) := HZ.out.kept O2.out
  have APB : Hid (Apart (.slice q zs.length cap) b) := AP.out b T2.out.hb
  by_cases hl : zs.length = r
  · have HL : Hid (zs.length = r) := hl
    have hb1 : (((zs.length : Nat) : Int) != ((r : Nat) : Int)) = false := by simp [hl]
    clear hl
    by_cases hzz : zs = zz
    · have HD : Hid (decide (zs = zz) = true) := decide_eq_true hzz
      have G1 : Hid (upd m0 zz (some x) zs = some x) := (by rw [hzz]; exact upd_same _ _ _ : upd m0 zz (some x) zs = some x)
      have G2 : Hid (upd (upd m0 zz (some x)) zs (some 7) zs = some 7) := upd_same _ _ _
      have G3 : Hid (upd (upd m0 zz (some x)) zs (some 7) zz = some 7) := (by rw [hzz]; exact upd_same _ _ _ : upd (upd m0 zz (some x)) zs (some 7) zz = some 7)
      clear hzz
      go_wp2_with first | (go_at_call 22; (with_reducible refine (same_c AZ2.out (argI_heap Z2.out ZL.out (by omega))).mono ?_); rw [HD.out]; rintro e w3 ⟨rfl, hB⟩; have T3 : Hid (TS w.heap.size w3 b r 9 1 n2 (upd m0 zz (some x))) := T2.out.kept hB; have A3 : Hid (ArgI w3 (.slice q zs.length cap) zs) := AZ2.out.kept hB; have Z3 : Hid (w3.heap[w1.heap.size]? = some (.cells (ints zz).toArray 3 (0, 0))) := (hB.block _ (lt_of_heap Z2.out)).trans Z2.out; have O3 : Hid (Below w.heap.size w w3) := chain O2.out hB (Nat.le_refl _); clear hB) | (go_at_call 13; (with_reducible refine (put_old T3.out A3.out APB.out 7 HL.out G1.out).mono ?_); rintro e w4 ⟨rfl, hT, hO⟩; have T4 : Hid (TS w.heap.size w4 b r 9 1 n2 (upd (upd m0 zz (some x)) zs (some 7))) := hT; have O4 : Hid (Below w.heap.size w w4) := O3.out.trans hO.below; have Z4 : Hid (w4.heap[w1.heap.size]? = some (.cells (ints zz).toArray 3 (0, 0))) := hO.ki _ _ _ (by decide) (by decide) Z3.out; have A4 : Hid (ArgI w4 (.slice q zs.length cap) zs) := HZ.out.kept O4.out; clear hT hO) | (go_at_call 12; (with_reducible refine (get_s T4.out A4.out).mono ?_); rw [G2.out]; rintro e w5 ⟨rfl, hB⟩; have T5 : Hid (TS w.heap.size w5 b r 9 1 n2 (upd (upd m0 zz (some x)) zs (some 7))) := T4.out.kept hB; have O5 : Hid (Below w.heap.size w w5) := chain O4.out hB (Nat.le_refl _); have Z5 : Hid (w5.heap[w1.heap.size]? = some (.cells (ints zz).toArray 3 (0, 0))) := (hB.block _ (lt_of_heap Z4.out)).trans Z4.out; clear hB) | (go_at_call 12; (with_reducible refine (get_s T5.out (argI_heap Z5.out ZL.out (by omega))).mono ?_); rw [G3.out]; rintro e w6 ⟨rfl, hB⟩; have T6 : Hid (TS w.heap.size w6 b r 9 1 n2 (upd (upd m0 zz (some x)) zs (some 7))) := T5.out.kept hB; have O6 : Hid (Below w.heap.size w w6) := chain O5.out hB (Nat.le_refl _); clear hB) | (go_at_call 11; (with_reducible refine (len_s T6.out).mono ?_); rintro e w9 ⟨rfl, h9⟩; subst w9)
      go_ret
      exact ⟨rfl, O6.out⟩
    · have HD : Hid (decide (zs = zz) = false) := decide_eq_false hzz
      have G1 : Hid (upd m0 zz (some x) zs = none) := (by rw [upd_other _ hzz]; rfl : upd m0 zz (some x) zs = none)
      have G2 : Hid (upd (upd m0 zz (some x)) zs (some 7) zs = some 7) := upd_same _ _ _
      have G3 : Hid (upd (upd m0 zz (some x)) zs (some 7) zz = some x) := (by rw [upd_other _ (Ne.symm hzz)]; exact upd_same _ _ _ : upd (upd m0 zz (some x)) zs (some 7) zz = some x)
      clear hzz
      go_wp2_with first | (go_at_call 22; (with_reducible refine (same_c AZ2.out (argI_heap Z2.out ZL.out (by omega))).mono ?_); rw [HD.out]; rintro e w3 ⟨rfl, hB⟩; have T3 : Hid (TS w.heap.size w3 b r 9 1 n2 (upd m0 zz (some x))) := T2.out.kept hB; have A3 : Hid (ArgI w3 (.slice q zs.length cap) zs) := AZ2.out.kept hB; have Z3 : Hid (w3.heap[w1.heap.size]? = some (.cells (ints zz).toArray 3 (0, 0))) := (hB.block _ (lt_of_heap Z2.out)).trans Z2.out; have O3 : Hid (Below w.heap.size w w3) := chain O2.out hB (Nat.le_refl _); clear hB) | (go_at_call 13; (with_reducible refine (put_new T3.out A3.out APB.out 7 HL.out G1.out (by decide)).mono ?_); rintro e w4 ⟨rfl, ⟨n4, hT, _⟩, hO⟩; have T4 : Hid (TS w.heap.size w4 b r 9 2 n4 (upd (upd m0 zz (some x)) zs (some 7))) := hT; have O4 : Hid (Below w.heap.size w w4) := O3.out.trans hO.below; have Z4 : Hid (w4.heap[w1.heap.size]? = some (.cells (ints zz).toArray 3 (0, 0))) := hO.ki _ _ _ (by decide) (by decide) Z3.out; have A4 : Hid (ArgI w4 (.slice q zs.length cap) zs) := HZ.out.kept O4.out; clear hT hO) | (go_at_call 12; (with_reducible refine (get_s T4.out A4.out).mono ?_); rw [G2.out]; rintro e w5 ⟨rfl, hB⟩; have T5 : Hid (TS w.heap.size w5 b r 9 2 n4 (upd (upd m0 zz (some x)) zs (some 7))) := T4.out.kept hB; have O5 : Hid (Below w.heap.size w w5) := chain O4.out hB (Nat.le_refl _); have Z5 : Hid (w5.heap[w1.heap.size]? = some (.cells (ints zz).toArray 3 (0, 0))) := (hB.block _ (lt_of_heap Z4.out)).trans Z4.out; clear hB) | (go_at_call 12; (with_reducible refine (get_s T5.out (argI_heap Z5.out ZL.out (by omega))).mono ?_); rw [G3.out]; rintro e w6 ⟨rfl, hB⟩; have T6 : Hid (TS w.heap.size w6 b r 9 2 n4 (upd (upd m0 zz (some x)) zs (some 7))) := T5.out.kept hB; have O6 : Hid (Below w.heap.size w w6) := chain O5.out hB (Nat.le_refl _); clear hB) | (go_at_call 11; (with_reducible refine (len_s T6.out).mono ?_); rintro e w9 ⟨rfl, h9⟩; subst w9)
      go_ret
      exact ⟨by simp, O6.out⟩
  · have HL : Hid (zs.length ≠ r) := hl
    have hb1 : (((zs.length : Nat) : Int) != ((r : Nat) : Int)) = true := by simp; omega
    have hzz : zs ≠ zz := fun e => hl (by rw [e]; exact ZL.out)
    have G1 : Hid (upd m0 zz (some x) zs = none) := (by rw [upd_other _ hzz]; rfl : upd m0 zz (some x) zs = none)
    have G3 : Hid (upd (upd m0 zz (some x)) zs none zz = some x) := (by rw [upd_other _ (Ne.symm hzz)]; exact upd_same _ _ _ : upd (upd m0 zz (some x)) zs none zz = some x)
    clear hl hzz
    go_wp2_with first | (go_at_call 13; (with_reducible refine (put_wide T2.out AZ2.out APB.out 7 HL.out).mono ?_); rintro e w4 ⟨rfl, hT, hO⟩; have T4 : Hid (TS w.heap.size w4 b r 9 1 n2 (upd m0 zz (some x))) := hT; have O4 : Hid (Below w.heap.size w w4) := O2.out.trans hO.below; have Z4 : Hid (w4.heap[w1.heap.size]? = some (.cells (ints zz).toArray 3 (0, 0))) := hO.ki _ _ _ (by decide) (by decide) Z2.out; have A4 : Hid (ArgI w4 (.slice q zs.length cap) zs) := HZ.out.kept O4.out; clear hT hO) | (go_at_call 12; (with_reducible refine (get_s T4.out A4.out).mono ?_); rw [G1.out]; rintro e w5 ⟨rfl, hB⟩; have T5 : Hid (TS w.heap.size w5 b r 9 1 n2 (upd m0 zz (some x))) := T4.out.kept hB; have O5 : Hid (Below w.heap.size w w5) := chain O4.out hB (Nat.le_refl _); have Z5 : Hid (w5.heap[w1.heap.size]? = some (.cells (ints zz).toArray 3 (0, 0))) := (hB.block _ (lt_of_heap Z4.out)).trans Z4.out; have A5 : Hid (ArgI w5 (.slice q zs.length cap) zs) := A4.out.kept hB; clear hB) | (go_at_call 21; (with_reducible refine (drop_s T5.out A5.out).mono ?_); rw [G1.out]; rintro e w6 ⟨rfl, hT, hO⟩; have T6 : Hid (TS w.heap.size w6 b r 9 1 n2 (upd (upd m0 zz (some x)) zs none)) := hT; have O6 : Hid (Below w.heap.size w w6) := O5.out.trans hO.below; have Z6 : Hid (w6.heap[w1.heap.size]? = some (.cells (ints zz).toArray 3 (0, 0))) := hO.ki _ _ _ (by decide) (by decide) Z5.out; clear hT hO) | (go_at_call 12; (with_reducible refine (get_s T6.out (argI_heap Z6.out ZL.out (by omega))).mono ?_); rw [G3.out]; rintro e w7 ⟨rfl, hB⟩; have T7 : Hid (TS w.heap.size w7 b r 9 1 n2 (upd (upd m0 zz (some x)) zs none)) := T6.out.kept hB; have O7 : Hid (Below w.heap.size w w7) := chain O6.out hB (Nat.le_refl _); clear hB) | (go_at_call 11; (with_reducible refine (len_s T7.out).mono ?_); rintro e w9 ⟨rfl, h9⟩; subst w9)
    go_ret
    exact ⟨by simp, O7.out⟩
end Go.Proofs.Ytcagmagbonfipaa
