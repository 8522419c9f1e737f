/-
  The document's own answer: laid: the set of those bytes for which it is so.
-/
import Derived.Test.YtcaijlmffdfhgaaDoorRefA
namespace Go.Proofs.YtcaijlmffdfhgaaDoor
open Go Go.RowKit
attribute [local go_sem] u64_signed ext_cell

/-- The set of those bytes below k for which it is so. -/
def lai (f : Nat → Bool) (k : Nat) : S := (List.range k).foldl (fun s b => if f b then sor s (sonly (b : Int)) else s) 0#256
theorem lai_succ (f : Nat → Bool) (k : Nat) : lai f (k + 1) = if f k then sor (lai f k) (sonly (k : Int)) else lai f k := by
  unfold lai
  rw [List.range_succ, List.foldl_append]
  rfl
theorem bit_lai (f : Nat → Bool) (n : Nat) : ∀ k, k ≤ 256 → (lai f k).getLsbD n = (decide (n < k) && f n)
  | 0, _ => by simp [lai]
  | k + 1, hk => by
    have ih := bit_lai f n k (by omega)
    rw [lai_succ]
    by_cases h : n = k
    · subst h
      cases hf : f n
      · simp [ih, hf]
      · simp only [if_true, sor, BitVec.getLsbD_or, ih, hf, bit_only]
        simp; omega
    · have hd : decide (n < k + 1) = decide (n < k) := by
        rw [Bool.eq_iff_iff]; simp; omega
      rw [hd]
      split
      · simp only [sor, BitVec.getLsbD_or, ih, bit_only]
        have : ¬ (k : Int) = (n : Int) := by omega
        simp [this]
      · exact ih

theorem pow_word (k : Nat) (h : k < 64) : (2 : Int) ^ k < 18446744073709551616 ∧ 0 < (2 : Int) ^ k := by
  have h1 : (2 : Nat) ^ k < 2 ^ 64 := Nat.pow_lt_pow_right (by decide) h
  have h2 : (0 : Nat) < 2 ^ k := Nat.pow_pos (by decide)
  have e : ((2 ^ k : Nat) : Int) = (2 : Int) ^ k := by simp
  omega

/-- A bit that is not set is set by adding it. -/
theorem add_bit (s : S) (q k : Nat) (hk : k < 64) (h : s.getLsbD (64 * q + k) = false) :
    IntKind.u64.wrap (wd s q + IntKind.u64.wrap (2 ^ k)) = wd (sor s (sonly ((64 * q + k : Nat) : Int))) q ∨ 4 ≤ q := by
  by_cases hq : 4 ≤ q
  · exact .inr hq
  · left
    have hp := pow_word k hk
    obtain ⟨x, hx⟩ : ∃ x, x = s.extractLsb' (64 * q) 64 := ⟨_, rfl⟩
    have hb : x.getLsbD k = false := by rw [hx, bit_word s q k hk]; exact h
    have e1 : wd s q = (x.toNat : Int) := by rw [hx]; rfl
    have e2 : wd (sor s (sonly ((64 * q + k : Nat) : Int))) q = ((x ||| BitVec.twoPow 64 k).toNat : Int) := by
      refine wd_eq _ q _ fun n hn => ?_
      rw [sor, BitVec.getLsbD_or, bit_only, BitVec.getLsbD_or, hx, bit_word s q n hn, BitVec.getLsbD_twoPow]
      congr 1
      rw [Bool.eq_iff_iff]
      simp
      omega
    have e3 : (x ||| BitVec.twoPow 64 k) = x + BitVec.twoPow 64 k := by
      rw [BitVec.add_eq_or_of_and_eq_zero]
      refine BitVec.eq_of_getLsbD_eq fun n hn => ?_
      rw [BitVec.getLsbD_and, BitVec.getLsbD_twoPow]
      by_cases hnk : k = n
      · subst hnk; simp [hb]
      · simp [hnk]
    rw [e1, e2, e3, BitVec.toNat_add, BitVec.toNat_twoPow]
    have e4 : IntKind.u64.wrap (2 ^ k) = (2 : Int) ^ k := by rw [IntKind.wrap_u64]; omega
    have e5 : ((2 ^ k : Nat) : Int) = (2 : Int) ^ k := by simp
    have e6 : 2 ^ k % 2 ^ 64 = 2 ^ k := Nat.mod_eq_of_lt (by omega)
    rw [e4, e6, IntKind.wrap_u64]
    omega

theorem other_word (s : S) (q j : Nat) (k : Nat) (hk : k < 64) (hne : j ≠ q) : wd (sor s (sonly ((64 * q + k : Nat) : Int))) j = wd s j := by
  have e : (sor s (sonly ((64 * q + k : Nat) : Int))).extractLsb' (64 * j) 64 = s.extractLsb' (64 * j) 64 := by
    refine BitVec.eq_of_getLsbD_eq fun n hn => ?_
    rw [bit_word _ j n hn, bit_word _ j n hn, sor, BitVec.getLsbD_or, bit_only]
    rw [decide_eq_false (show ¬ (0 ≤ ((64 * q + k : Nat) : Int) ∧ ((64 * q + k : Nat) : Int) ≤ 255 ∧ ((64 * q + k : Nat) : Int) = ((64 * j + n : Nat) : Int)) by omega), Bool.or_false]
  unfold wd
  rw [e]

theorem SetAt.store1 {W : World} {B : Nat} {s : S} (h : SetAt W B s) (t : S) (q : Nat) (hq : q < 4) (same : ∀ j, j ≠ q → wd t j = wd s j) :
    SetAt (W.setCell ⟨B, q, none⟩ (.int .u64 (wd t q))) B t := by
  refine (heap_set_in h q _).trans ?_
  match q, hq with
  | 0, _ => rw [same 1 (by decide), same 2 (by decide), same 3 (by decide)]; rfl
  | 1, _ => rw [same 0 (by decide), same 2 (by decide), same 3 (by decide)]; rfl
  | 2, _ => rw [same 0 (by decide), same 1 (by decide), same 3 (by decide)]; rfl
  | 3, _ => rw [same 0 (by decide), same 1 (by decide), same 2 (by decide)]; rfl

theorem add_bit' (s : S) (q k : Nat) (h0 : k / 64 = q) (h1 : k < 256) (h : s.getLsbD k = false) :
    IntKind.u64.wrap (wd s q + IntKind.u64.wrap (2 ^ (k % 64))) = wd (sor s (sonly (k : Int))) q := by
  have e : 64 * q + k % 64 = k := by omega
  rcases add_bit s q (k % 64) (Nat.mod_lt _ (by decide)) (by rw [e]; exact h) with g | g
  · rw [e] at g; exact g
  · omega
theorem other_word' (s : S) (q k : Nat) (h0 : k / 64 = q) (j : Nat) (hne : j ≠ q) : wd (sor s (sonly (k : Int))) j = wd s j := by
  have e : 64 * q + k % 64 = k := by omega
  have := other_word s q j (k % 64) (Nat.mod_lt _ (by decide)) hne
  rwa [e] at this

set_option maxRecDepth 100000 in
set_option maxHeartbeats 1000000 in
theorem laid_any (f : Nat → Bool) (w : World) :
    Calls Tryd.prog 45 #[.agg (bA f)] w fun e w' => e = .returned (.agg #[.int .u64 (wd (lai f 256) 0), .int .u64 (wd (lai f 256) 1), .int .u64 (wd (lai f 256) 2), .int .u64 (wd (lai f 256) 3)]) ∧ Below w.heap.size w w' := by
  go_enter Tryd.func45, Tryd.ntmps45
  go_wp2
  go_loopw [4] (fun i wr => ∃ k : Nat, k ≤ 256 ∧ i = .int .i64 k ∧ SetAt wr (w.heap.size + 1 + 1) (lai f k) ∧ Below (w.heap.size + 1 + 1) ((w.alloc (.cells (bA f) 57)).alloc (.cells #[.int .u64 0, .int .u64 0, .int .u64 0, .int .u64 0] 24)) wr) (fun i _ => 256 - (intOf i).toNat)
  case atStart =>
    refine ⟨0, by omega, rfl, ?_, (Below.refl _ _).alloc (by simp) _⟩
    have := SetAt.new0 ((w.alloc (.cells (bA f) 57)).alloc (.cells #[.int .u64 0, .int .u64 0, .int .u64 0, .int .u64 0] 24))
    simpa [lai] using this
  case round =>
    obtain ⟨k, hk, rfl, hset, hb⟩ := hrel
    have HS : Hid (SetAt wr (w.heap.size + 1 + 1) (lai f k)) := hset
    have HB : Hid (Below (w.heap.size + 1 + 1) ((w.alloc (.cells (bA f) 57)).alloc (.cells #[.int .u64 0, .int .u64 0, .int .u64 0, .int .u64 0] 24)) wr) := hb
    have aF : Hid (ArrAt wr w.heap.size f) := ((ArrAt.new w f).alloc _).below hb (by omega)
    clear hset hb
    by_cases hlt : k < 256
    · have i0 : (0 : Int) ≤ (k : Int) := by omega
      have i1 : (k : Int) < 256 := by omega
      have c1 := aF.out.cell k hlt
      by_cases hf : f k = true
      · have hbit : (lai f k).getLsbD k = false := by rw [bit_lai f k k hk]; simp
        have HL : Hid (lai f (k + 1) = sor (lai f k) (sonly (k : Int))) := by show _ = _; rw [lai_succ, if_pos hf]
        obtain ⟨L, hL⟩ : ∃ L, lai f k = L := ⟨_, rfl⟩
        rw [hL] at HS HL hbit
        clear hL
        obtain ⟨a0, a1, a2, a3⟩ := HS.out.cells
        have z := HS.out.lt
        have hq : (k : Int) / 64 = 0 ∨ (k : Int) / 64 = 1 ∨ (k : Int) / 64 = 2 ∨ (k : Int) / 64 = 3 := by omega
        rcases hq with hq | hq | hq | hq
        · have E := add_bit' L 0 k (by omega) hlt hbit
          go_wp2
          refine wp_region_last_lit (List.cons_ne_nil _ _) (by kernel_rfl) (by kernel_rfl) (by kernel_rfl) ?_
          dsimp only [List.dropLast, List.getLast]
          repeat (go_big_quiet_step (first | exact rfl))
          refine wpQuiet_nil ?_
          intro w3 hw
          have hb3 := ext_of hw
          clear hw
          have S3 : Hid (SetAt w3 (w.heap.size + 1 + 1) L) := HS.out.below hb3 HS.out.lt
          clear a0 a1 a2 a3
          obtain ⟨a0, a1, a2, a3⟩ := S3.out.cells
          have fz := S3.out.frozen
          go_wp2
          go_roundw
          case rel =>
            refine ⟨k + 1, by omega, by go_num, ?_, (HB.out.trans (hb3.mono (Nat.le_of_lt HS.out.lt))).setCell (by simp) _⟩
            rw [HL.out]
            exact S3.out.store1 _ 0 (by decide) (other_word' L 0 k (by omega))
          case measure => simp [intOf]; omega
        · have E := add_bit' L 1 k (by omega) hlt hbit
          go_wp2
          refine wp_region_last_lit (List.cons_ne_nil _ _) (by kernel_rfl) (by kernel_rfl) (by kernel_rfl) ?_
          dsimp only [List.dropLast, List.getLast]
          repeat (go_big_quiet_step (first | exact rfl))
          refine wpQuiet_nil ?_
          intro w3 hw
          have hb3 := ext_of hw
          clear hw
          have S3 : Hid (SetAt w3 (w.heap.size + 1 + 1) L) := HS.out.below hb3 HS.out.lt
          clear a0 a1 a2 a3
          obtain ⟨a0, a1, a2, a3⟩ := S3.out.cells
          have fz := S3.out.frozen
          go_wp2
          go_roundw
          case rel =>
            refine ⟨k + 1, by omega, by go_num, ?_, (HB.out.trans (hb3.mono (Nat.le_of_lt HS.out.lt))).setCell (by simp) _⟩
            rw [HL.out]
            exact S3.out.store1 _ 1 (by decide) (other_word' L 1 k (by omega))
          case measure => simp [intOf]; omega
        · have E := add_bit' L 2 k (by omega) hlt hbit
          go_wp2
          refine wp_region_last_lit (List.cons_ne_nil _ _) (by kernel_rfl) (by kernel_rfl) (by kernel_rfl) ?_
          dsimp only [List.dropLast, List.getLast]
          repeat (go_big_quiet_step (first | exact rfl))
          refine wpQuiet_nil ?_
          intro w3 hw
          have hb3 := ext_of hw
          clear hw
          have S3 : Hid (SetAt w3 (w.heap.size + 1 + 1) L) := HS.out.below hb3 HS.out.lt
          clear a0 a1 a2 a3
          obtain ⟨a0, a1, a2, a3⟩ := S3.out.cells
          have fz := S3.out.frozen
          go_wp2
          go_roundw
          case rel =>
            refine ⟨k + 1, by omega, by go_num, ?_, (HB.out.trans (hb3.mono (Nat.le_of_lt HS.out.lt))).setCell (by simp) _⟩
            rw [HL.out]
            exact S3.out.store1 _ 2 (by decide) (other_word' L 2 k (by omega))
          case measure => simp [intOf]; omega
        · have E := add_bit' L 3 k (by omega) hlt hbit
          go_wp2
          refine wp_region_last_lit (List.cons_ne_nil _ _) (by kernel_rfl) (by kernel_rfl) (by kernel_rfl) ?_
          dsimp only [List.dropLast, List.getLast]
          repeat (go_big_quiet_step (first | exact rfl))
          refine wpQuiet_nil ?_
          intro w3 hw
          have hb3 := ext_of hw
          clear hw
          have S3 : Hid (SetAt w3 (w.heap.size + 1 + 1) L) := HS.out.below hb3 HS.out.lt
          clear a0 a1 a2 a3
          obtain ⟨a0, a1, a2, a3⟩ := S3.out.cells
          have fz := S3.out.frozen
          go_wp2
          go_roundw
          case rel =>
            refine ⟨k + 1, by omega, by go_num, ?_, (HB.out.trans (hb3.mono (Nat.le_of_lt HS.out.lt))).setCell (by simp) _⟩
            rw [HL.out]
            exact S3.out.store1 _ 3 (by decide) (other_word' L 3 k (by omega))
          case measure => simp [intOf]; omega
      · have hf' : f k = false := by simpa using hf
        have HL : Hid (lai f (k + 1) = lai f k) := by show _ = _; rw [lai_succ, if_neg hf]
        clear hf
        go_wp2
        go_roundw
        case rel => exact ⟨k + 1, by omega, by go_num, by rw [HL.out]; exact HS.out, HB.out⟩
        case measure => simp [intOf]; omega
    · obtain rfl : k = 256 := by omega
      obtain ⟨a0, a1, a2, a3⟩ := HS.out.cells
      obtain ⟨e0, e1, e2, e3, fz⟩ := set_cells (w := w.alloc (.cells (bA f) 57)) (W := wr) (by simpa using HB.out)
      simp only [World.size_alloc] at e0 e1 e2 e3 fz
      go_wp2
      exact bodyPost_ret (v := .agg #[.int .u64 (wd (lai f 256) 0), .int .u64 (wd (lai f 256) 1), .int .u64 (wd (lai f 256) 2), .int .u64 (wd (lai f 256) 3)]) (by simp [results, Tryd.results45, go_sem, e0, e1, e2, e3]) rfl ⟨rfl, (((((((Below.refl _ _).alloc (Nat.le_refl _) _).alloc (by simp) _).trans (HB.out.mono (by omega))).setCell (by simp) _).setCell (by simp) _).setCell (by simp) _).setCell (by simp) _⟩
end Go.Proofs.YtcaijlmffdfhgaaDoor
