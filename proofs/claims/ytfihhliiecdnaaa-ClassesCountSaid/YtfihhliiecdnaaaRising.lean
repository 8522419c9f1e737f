/-
  rising; Right and Same where the answer is known.
-/
import Derived.Test.YtfihhliiecdnaaaFold
namespace Go.Proofs.Ytfihhliiecdnaaa
open Go Go.RowKit
attribute [local go_sem] ext_cell

theorem right_true {w : World} {v : Value} {L : List (Int × Int)} {m : Bool} {p : Int → Prop} (h : ArgR w v L) (hp : IsC L p) (hc : ∀ c, p c → isChar m c) (hl : L.length + 3 ≤ 8796093022208) :
    Calls Try.prog 18 #[v, .bool m] w fun e w' => e = .returned (.bool true) ∧ Below w.heap.size w w' :=
  (right_c (m := m) h hp.fit hl).mono fun e w' ⟨b, h1, h2, h3⟩ => ⟨by
    rw [h1, h2.2 ⟨hp.cls, hp.fit, fun c => ⟨fun q => ⟨q, hc c ((hp.mem c).1 q)⟩, fun q => q.1⟩⟩], h3⟩
theorem same_true {w : World} {va vb : Value} {A B : List (Int × Int)} (ha : ArgR w va A) (hb : ArgR w vb B) (fa : Fit A) (fb : Fit B) (hl1 : A.length ≤ 8796093022208) (hl2 : B.length ≤ 8796093022208) (hs : ∀ c, In A c ↔ In B c) :
    Calls Try.prog 19 #[va, vb] w fun e w' => e = .returned (.bool true) ∧ Below w.heap.size w w' :=
  (same_c ha hb fa fb hl1 hl2).mono fun e w' ⟨b, h1, h2, h3⟩ => ⟨by rw [h1, h2.2 hs], h3⟩
theorem same_false {w : World} {va vb : Value} {A B : List (Int × Int)} (ha : ArgR w va A) (hb : ArgR w vb B) (fa : Fit A) (fb : Fit B) (hl1 : A.length ≤ 8796093022208) (hl2 : B.length ≤ 8796093022208) (hs : ¬ ∀ c, In A c ↔ In B c) :
    Calls Try.prog 19 #[va, vb] w fun e w' => e = .returned (.bool false) ∧ Below w.heap.size w w' :=
  (same_c ha hb fa fb hl1 hl2).mono fun e w' ⟨b, h1, h2, h3⟩ => ⟨by
    cases b with
    | false => exact h1
    | true => exact absurd (h2.1 rfl) hs, h3⟩

set_option maxRecDepth 100000 in
set_option maxHeartbeats 2000000 in
theorem rising_c {w : World} {v : Value} {C : List (Int × Int)} (h : ArgR w v C) (hC : Cls C) (hF : Fit C) :
    Calls Try.prog 20 #[v] w fun e w' => e = .returned (.bool true) ∧ Below w.heap.size w w' := by
  obtain ⟨q, cap, rfl, hlen, -, hcells⟩ := h.slice
  have HC : Hid (∀ (i : Nat) (r : Int × Int), C[i]? = some r → ∃ g off, q = some ⟨g, off, none⟩ ∧ g < w.heap.size ∧ w.cell? ⟨g, off + 2 * i, none⟩ = some (.int .i64 r.1) ∧ w.cell? ⟨g, off + 2 * i + 1, none⟩ = some (.int .i64 r.2)) := hcells
  have K : Hid (Cls C ∧ Fit C) := ⟨hC, hF⟩
  clear hcells h hC hF
  unfold maxLen at hlen
  go_enter Try.func20, Try.ntmps20
  go_wp2
  go_loopw [3] (fun i wr => ∃ k : Nat, k ≤ C.length ∧ i = .int .i64 k ∧ Below w.heap.size w wr) (fun i _ => C.length - (intOf i).toNat)
  case atStart => exact ⟨0, Nat.zero_le _, rfl, Below.refl _ _⟩
  case round =>
    obtain ⟨k, hk, rfl, hbl⟩ := hrel
    have BW : Hid (Below w.heap.size w wr) := hbl
    clear hbl
    by_cases hlt : k < C.length
    · obtain ⟨r, hr⟩ : ∃ r, C[k]? = some r := ⟨_, List.getElem?_eq_getElem hlt⟩
      obtain ⟨g, off, rfl, hg, x1, x2⟩ := HC.out k _ hr
      have d1 := (BW.out.cell (p := ⟨g, off + 2 * k, none⟩) hg).trans x1
      have d2 := (BW.out.cell (p := ⟨g, off + 2 * k + 1, none⟩) hg).trans x2
      rw [Nat.mul_comm] at d1 d2
      have s1 : g < wr.heap.size := Nat.lt_of_lt_of_le hg BW.out.size
      have hrm := List.mem_of_getElem? hr
      have hs := K.out.1.some r hrm
      have hf := K.out.2 r hrm
      have HR : Hid (C[k]? = some r) := hr
      obtain ⟨lo, hi⟩ := r
      dsimp only at d1 d2 hs hf
      have e0 : decide (hi < lo) = false := decide_eq_false (by omega)
      clear x1 x2 hr hrm
      cases k with
      | zero =>
        simp only [Nat.zero_mul, Nat.add_zero] at d1 d2
        have i1 : (0 : Int) < (C.length : Int) := by omega
        have e1 : decide ((0 : Int) < 0) = false := by decide
        go_wp2
        refine wp_region_ext (by kernel_rfl) (by kernel_rfl) ?_
        repeat (go_big_quiet_step (first | exact rfl))
        refine wpQuiet_nil ?_
        intro w7 hw7
        have B7 : Hid (Below wr.heap.size wr w7) := ext_of hw7
        clear hw7
        go_wp2
        go_roundw
        case rel => exact ⟨1, by omega, by go_num, chain BW.out B7.out (Nat.le_refl _)⟩
        case measure => simp [intOf]; omega
      | succ j =>
        obtain ⟨p, hp⟩ : ∃ r, C[j]? = some r := ⟨_, List.getElem?_eq_getElem (by omega)⟩
        obtain ⟨g', off', e, hg', y1, y2⟩ := HC.out j _ hp
        cases e
        have d4 := (BW.out.cell (p := ⟨g, off + 2 * j + 1, none⟩) hg).trans y2
        rw [Nat.mul_comm] at d4
        have hap : p.2 + 1 < lo := by
          obtain ⟨h1, e1⟩ := List.getElem?_eq_some_iff.1 hp
          obtain ⟨h2, e2⟩ := List.getElem?_eq_some_iff.1 HR.out
          have := List.pairwise_iff_getElem.1 K.out.1.apart j (j + 1) h1 h2 (by omega)
          rw [e1, e2] at this
          exact this
        have hfp := K.out.2 p (List.mem_of_getElem? hp)
        obtain ⟨plo, phi⟩ := p
        dsimp only at d4 hap hfp
        have i0 : (0 : Int) ≤ (j : Int) + 1 := by omega
        have i1 : (j : Int) + 1 < (C.length : Int) := by omega
        have j0 : (0 : Int) ≤ (j : Int) := by omega
        have j1 : (j : Int) < (C.length : Int) := by omega
        have wj : IntKind.wrap .i64 ((j : Int) + 1 - 1) = (j : Int) := by rw [IntKind.wrap_i64]; omega
        have wl : IntKind.wrap .i64 (lo - 1) = lo - 1 := by rw [IntKind.wrap_i64]; omega
        have e1 : decide ((0 : Int) < (j : Int) + 1) = true := decide_eq_true (by omega)
        have e2 : decide (lo ≤ phi) = false := decide_eq_false (by omega)
        have e3 : (lo - 1 == phi) = false := by simp; omega
        clear y1 y2 hp
        go_wp2
        refine wp_region_ext (by kernel_rfl) (by kernel_rfl) ?_
        repeat (go_big_quiet_step (first | exact rfl))
        refine wpQuiet_nil ?_
        intro w7 hw7
        have B7 : Hid (Below wr.heap.size wr w7) := ext_of hw7
        clear hw7
        go_wp2
        go_roundw
        case rel => exact ⟨j + 1 + 1, by omega, by go_num, chain BW.out B7.out (Nat.le_refl _)⟩
        case measure => simp [intOf]; omega
    · have i1 : ¬ (k : Int) < (C.length : Int) := by omega
      go_wp2
      go_ret
      exact ⟨rfl, BW.out⟩
end Go.Proofs.Ytfihhliiecdnaaa
