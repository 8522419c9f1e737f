/-
  Next, Valid, Column: contracts.
-/
import Derived.Test.YtihmnibopeljaaaDoorUnits
namespace Go.Proofs.YtihmnibopeljaaaDoor
open Go Go.RowKit

set_option maxHeartbeats 4000000 in
set_option maxRecDepth 1000000 in
theorem next_in (s : ByteArray) (p : Nat) (w : World) (hT : Tabs w) (hp : p < s.size) (hs : s.size ≤ maxLen) :
    Calls Tryd.prog 22 #[.string s, .int .i64 (p : Int)] w fun e w' => e = .returned (.tuple #[.int .i64 (ch s p), .int .i64 (wd s p : Int)]) ∧ Below w.heap.size w w' := by
  have HT : Hid (Tabs w) := hT
  have HS : Hid (s.size ≤ maxLen) := hs
  unfold maxLen at hs
  have hz : (s.extract p s.size).size = s.size - p := by rw [ByteArray.size_extract]; omega
  have hd : Lib.decodeGo (s.extract p s.size) = Utf8.decode s p := by
    unfold Lib.decodeGo
    rw [if_neg (by rw [hz]; omega), Lib.tail_decode]; rfl
  have h0 : ¬ (p : Int) < 0 := by omega
  have h1 : ¬ (s.size : Int) ≤ (p : Int) := by omega
  have h2 : (0 : Int) ≤ (p : Int) := by omega
  have h3 : (p : Int) ≤ (s.size : Int) := by omega
  have h4 : ¬ s.size < p := by omega
  have HD : Hid (Utf8.decode s p = ((Utf8.decode s p).1, (Utf8.decode s p).2)) := rfl
  have hc := broken_c s p
  have hl := dec_le s p
  rcases hb : bad s p with _ | _
  · have e1 := ch_good hb
    clear hT hz
    go_enter Tryd.func22, Tryd.ntmps22
    go_wp2_with first
      | (go_at_call 39; (with_reducible refine (Tryd.utf8_DecodeRuneInString _ _ HT.out).mono ?_); rw [hd]; rintro e w1 ⟨rfl, hb1⟩)
      | (go_at_call 34; (with_reducible refine (hc _ hp).mono ?_); rw [hb]; rintro e w' ⟨rfl, rfl⟩)
    go_ret2
    rw [e1]
    refine ⟨?_, hb1⟩
    simp only [wd]
    rfl
  · have e1 : Hid _ := ch_bad hb
    clear hT hz
    go_enter Tryd.func22, Tryd.ntmps22
    go_wp2_with first
      | (go_at_call 39; (with_reducible refine (Tryd.utf8_DecodeRuneInString _ _ HT.out).mono ?_); rw [hd]; rintro e w1 ⟨rfl, hb1⟩)
      | (go_at_call 34; (with_reducible refine (hc _ hp).mono ?_); rw [hb]; rintro e w' ⟨rfl, rfl⟩)
    go_ret2
    rw [e1.out.1, e1.out.2.1]
    exact ⟨rfl, hb1⟩
set_option maxHeartbeats 4000000 in
set_option maxRecDepth 1000000 in
theorem next_out (s : ByteArray) (p : Int) (w : World) (hp : p < 0 ∨ (s.size : Int) ≤ p) :
    Calls Tryd.prog 22 #[.string s, .int .i64 p] w fun e w' => e = .returned (.tuple #[.int .i64 0, .int .i64 0]) ∧ w' = w := by
  by_cases h0 : p < 0
  · go_enter Tryd.func22, Tryd.ntmps22
    go_wp2
    go_ret2
    exact ⟨rfl, rfl⟩
  · have h1 : (s.size : Int) ≤ p := by omega
    clear hp
    go_enter Tryd.func22, Tryd.ntmps22
    go_wp2
    go_ret2
    exact ⟨rfl, rfl⟩

/-- The first unit that is no character. -/
def validOf (n : Nat) : List (Nat × Int) → Nat
  | [] => n
  | (p, c) :: t => if c < 0 then p else validOf n t

theorem iter_below {w wr : World} {k n : Nat} {s : ByteArray} (h : Below n w wr) (hk : n ≤ k) (p : Nat) : Below n w (wr.iterAt k s p) := Lib.below_iterAt h hk s p

set_option maxHeartbeats 4000000 in
set_option maxRecDepth 1000000 in
theorem valid_c (s : ByteArray) (w : World) (hs : s.size ≤ maxLen) :
    Calls Tryd.prog 24 #[.string s] w fun e w' => e = .returned (.int .i64 (validOf s.size (us s) : Int)) ∧ Below w.heap.size w w' := by
  have HS : Hid (s.size ≤ maxLen) := hs
  unfold maxLen at hs
  go_enter Tryd.func24, Tryd.ntmps24
  go_wp2
  go_loopw [] (fun wr => ∃ (pos f : Nat), wr.heap[w.heap.size]? = some (.stringIter s pos) ∧ Below w.heap.size w wr ∧ validOf s.size (uFrom s f pos) = validOf s.size (us s) ∧ s.size ≤ pos + f) (fun wr => s.size - wr.iterPos w.heap.size)
  case atStart => exact ⟨0, s.size, World.iter_heap w s 0, (Below.refl _ w).alloc (Nat.le_refl _) _, rfl, by omega⟩
  case round =>
    obtain ⟨pos, f, hit, hbw, hacc, hfu⟩ := hrel
    have B : Hid (Below w.heap.size w wr) := hbw
    have A : Hid (validOf s.size (uFrom s f pos) = validOf s.size (us s)) := hacc
    have I : Hid (wr.heap[w.heap.size]? = some (.stringIter s pos)) := hit
    clear hbw hacc
    by_cases hp : pos < s.size
    · have hnx : ∀ ty, (Instr.next (.pointer (some ⟨w.heap.size, 0, none⟩)) true ty).run Tryd.prog wr = _ := fun ty => Lib.run_next_any_at wr w.heap.size s pos ty hit hp
      have I2 : Hid _ := Lib.iterAt_heap wr w.heap.size s pos (pos + (Utf8.decode s pos).2) hit
      have B2 : Hid _ := iter_below (s := s) B.out (Nat.le_refl _) (pos + (Utf8.decode s pos).2)
      have hc := broken_c s pos
      obtain ⟨f, rfl⟩ : ∃ g, f = g + 1 := ⟨f - 1, by omega⟩
      have A2 := A.out
      rw [uFrom_more s f pos hp] at A2
      have A3 : Hid (validOf s.size ((pos, ch s pos) :: uFrom s f (pos + wd s pos)) = validOf s.size (us s)) := A2
      have hw := wd_pos s pos
      clear A2 hit
      rcases hb : bad s pos with _ | _
      · go_wp2_with (go_at_call 34; (with_reducible refine (hc _ hp).mono ?_); rw [hb]; rintro e w' ⟨rfl, rfl⟩)
        go_roundw
        case rel =>
          refine ⟨pos + wd s pos, f, I2.out, B2.out, ?_, by omega⟩
          have := A3.out
          have hn : ¬ ch s pos < 0 := by rw [ch_neg, hb]; simp
          simpa only [validOf, if_neg hn] using this
        case measure =>
          simp only [World.iterPos, I2.out, I.out]
          have : wd s pos = (Utf8.decode s pos).2 := rfl
          omega
      · go_wp2_with (go_at_call 34; (with_reducible refine (hc _ hp).mono ?_); rw [hb]; rintro e w' ⟨rfl, rfl⟩)
        go_ret
        refine ⟨?_, B2.out⟩
        have := A3.out
        have hn : ch s pos < 0 := by rw [ch_neg, hb]
        rw [validOf, if_pos hn] at this
        rw [← this]; rfl
    · have hnx : ∀ ty, (Instr.next (.pointer (some ⟨w.heap.size, 0, none⟩)) true ty).run Tryd.prog wr = _ := fun ty => Lib.run_next_end_at wr w.heap.size s pos ty hit hp
      clear hit
      go_wp2
      go_ret
      refine ⟨?_, B.out⟩
      have := A.out
      rw [uFrom_end s f pos hp, validOf] at this
      rw [← this]; rfl

/-- How many units begin ahead of a place. -/
def colOf (at' : Int) : List (Nat × Int) → Nat
  | [] => 0
  | (p, _) :: t => if at' ≤ (p : Int) then 0 else colOf at' t + 1
theorem colOf_le (x : Int) (l : List (Nat × Int)) : colOf x l ≤ l.length := by
  induction l with
  | nil => simp [colOf]
  | cons a t ih =>
    obtain ⟨p, c⟩ := a
    rw [colOf]
    split <;> simp <;> omega
set_option maxHeartbeats 4000000 in
set_option maxRecDepth 1000000 in
theorem column_c (s : ByteArray) (x : Int) (w : World) (hs : s.size ≤ maxLen) :
    Calls Tryd.prog 23 #[.string s, .int .i64 x] w fun e w' => e = .returned (.int .i64 (colOf x (us s) : Int)) ∧ Below w.heap.size w w' := by
  unfold maxLen at hs
  go_enter Tryd.func23, Tryd.ntmps23
  go_wp2
  go_loopw [5] (fun t wr => ∃ (pos f n : Nat), t = .int .i64 (n : Int) ∧ wr.heap[w.heap.size]? = some (.stringIter s pos) ∧ Below w.heap.size w wr ∧ n + colOf x (uFrom s f pos) = colOf x (us s) ∧ s.size ≤ pos + f ∧ n ≤ pos) (fun _ wr => s.size - wr.iterPos w.heap.size)
  case atStart => exact ⟨0, s.size, 0, rfl, World.iter_heap w s 0, (Below.refl _ w).alloc (Nat.le_refl _) _, by simp [us], by omega, by omega⟩
  case round =>
    obtain ⟨pos, f, n, rfl, hit, hbw, hacc, hfu, hnp⟩ := hrel
    have B : Hid (Below w.heap.size w wr) := hbw
    have A : Hid (n + colOf x (uFrom s f pos) = colOf x (us s)) := hacc
    have I : Hid (wr.heap[w.heap.size]? = some (.stringIter s pos)) := hit
    clear hbw hacc
    by_cases hp : pos < s.size
    · have hnx : ∀ ty, (Instr.next (.pointer (some ⟨w.heap.size, 0, none⟩)) true ty).run Tryd.prog wr = _ := fun ty => Lib.run_next_any_at wr w.heap.size s pos ty hit hp
      have I2 : Hid _ := Lib.iterAt_heap wr w.heap.size s pos (pos + (Utf8.decode s pos).2) hit
      have B2 : Hid _ := iter_below (s := s) B.out (Nat.le_refl _) (pos + (Utf8.decode s pos).2)
      obtain ⟨f, rfl⟩ : ∃ g, f = g + 1 := ⟨f - 1, by omega⟩
      have A2 := A.out
      rw [uFrom_more s f pos hp] at A2
      have A3 : Hid (n + colOf x ((pos, ch s pos) :: uFrom s f (pos + wd s pos)) = colOf x (us s)) := A2
      have hw := wd_pos s pos
      have hwr : IntKind.wrap .i64 ((n : Int) + 1) = (n : Int) + 1 := wrap_small _ (by omega) (by omega)
      clear A2 hit
      by_cases hx : x ≤ (pos : Int)
      · go_wp2
        go_ret
        refine ⟨?_, B2.out⟩
        have := A3.out
        rw [colOf, if_pos hx] at this
        rw [← this]; rfl
      · go_wp2
        go_roundw
        case rel =>
          refine ⟨pos + wd s pos, f, n + 1, by first | rfl | (simp; done), I2.out, B2.out, ?_, by omega, by omega⟩
          have := A3.out
          rw [colOf, if_neg hx] at this
          omega
        case measure =>
          simp only [World.iterPos, I2.out, I.out]
          have : wd s pos = (Utf8.decode s pos).2 := rfl
          omega
    · have hnx : ∀ ty, (Instr.next (.pointer (some ⟨w.heap.size, 0, none⟩)) true ty).run Tryd.prog wr = _ := fun ty => Lib.run_next_end_at wr w.heap.size s pos ty hit hp
      clear hit
      go_wp2
      go_ret
      refine ⟨?_, B.out⟩
      have := A.out
      rw [uFrom_end s f pos hp, colOf] at this
      rw [← this]; rfl
end Go.Proofs.YtihmnibopeljaaaDoor
