/-
  The law TableNew, walked.
-/
import Derived.Test.YtcagmagbonfipaaRefT
import Derived.Test.YtcagmagbonfipaaRng
namespace Go.Proofs.Ytcagmagbonfipaa
open Go Go.RowKit
attribute [local go_sem] Oper.semAt_some ext_cell

theorem TS.other {base : Nat} {w w' : World} {b W M c n : Nat} {m : List Int → Option Int} (h : TS base w b W M c n m) {x : Nat} {cs : Array Value} {t : TypeId} (hx : w.heap[x]? = some (.cells cs t (0, 0))) (h1 : t ≠ 61) (h2 : t ≠ 63) (h3 : t ≠ 3) (hf : Fr (fun j => j = x) w w') : TS base w' b W M c n m := by
  obtain ⟨pb, P, hT, hc, hn, hp, he⟩ := h.ex
  refine ⟨⟨pb, P, hT.fr hf (fun e => ?_) (fun hP e => ?_) (fun k hk hq => ?_), hc, hn, hp, he⟩, h.hb⟩
  · exact ne_type hT.t.hb hx (Ne.symm h1) e
  · exact ne_type (hT.t.hp hP) hx (Ne.symm h2) e
  · obtain ⟨i, e, o, n', m', hi, hkv⟩ := hq
    obtain ⟨⟨g, hg, hh⟩, _⟩ := hT.t.hk i e hi
    rw [hkv] at hg
    cases hg
    exact ne_type hh hx (Ne.symm h3) hk
theorem lay0 (w : World) (n : Nat) (hn : n ≤ 1000000) : ArgI (w.alloc (.cells (madeCells #[.int .i64 0] n) 3)) (.slice (some ⟨w.heap.size, 0, none⟩) n n) (List.replicate n 0) := by
  have := argI_new w (List.replicate n 0) (by unfold maxLen; simp; omega)
  rw [List.length_replicate, ← made_zero] at this
  exact this
theorem heap0 (w : World) (n : Nat) : (w.alloc (.cells (madeCells #[.int .i64 0] n) 3)).heap[w.heap.size]? = some (.cells (ints (List.replicate n 0)).toArray 3 (0, 0)) := by
  rw [← made_zero]; exact World.alloc_heap_new w _

set_option maxRecDepth 100000 in
set_option maxHeartbeats 4000000 in
theorem new_pos (W M : Nat) (hW : W ≤ 128) (hM : M ≤ 1000000) (hM0 : 0 < M) (w : World) :
    Calls Try.prog 3 #[.int .i64 (W : Int), .int .i64 (M : Int)] w fun e w' => e = .returned (.bool true) ∧ Below w.heap.size w w' := by
  have a1 : ¬ ((W : Int) < 0) := by omega
  have a2 : ¬ ((128 : Int) < (W : Int)) := by omega
  have a3 : ¬ ((M : Int) < 0) := by omega
  have a4 : ¬ ((1000000 : Int) < (M : Int)) := by omega
  have HM0 : Hid (0 < M) := hM0
  have HWM : Hid (W ≤ 128 ∧ M ≤ 1000000) := ⟨hW, hM⟩
  clear hM0
  have m0 := make_ints W W (Nat.le_refl _) (by omega)
  have m1 : ∀ w : World, (Instr.makeSlice 34 (.int .i64 ((W : Int) + 1)) (.int .i64 ((W : Int) + 1))).run Try.prog w = .ok (.slice (some ⟨w.heap.size, 0, none⟩) (W + 1) (W + 1)) (w.alloc (.cells (madeCells #[.int .i64 0] (W + 1)) 3)) := fun w => make_ints (W + 1) (W + 1) (Nat.le_refl _) (by omega) w
  have NEW : Hid (∀ w0 : World, Calls Try.prog 10 #[.int .i64 (W : Int), .int .i64 (M : Int)] w0 fun e w' => ∃ b, e = .returned (.tuple #[.pointer (some ⟨b, 0, none⟩), .int .i64 0]) ∧ TS w0.heap.size w' b W M 0 0 (fun _ => none) ∧ Below w0.heap.size w0 w') := fun w0 => new_s W M ⟨by omega, by omega⟩ ⟨by omega, by omega⟩ w0
  go_enter Try.func3, Try.ntmps3
  go_wp2_with first | (go_at_call 9; (with_reducible refine (known_c _).mono ?_); rintro e w0 ⟨rfl, hb⟩; have B0 : Hid (Below w.heap.size w w0) := hb; clear hb) | (go_at_call 10; (with_reducible refine (NEW.out _).mono ?_); rintro e w1 ⟨b, rfl, hT, hB⟩; have T0 : Hid (TS w.heap.size w1 b W M 0 0 (fun _ => none)) := (hT.mono B0.out.size : TS w.heap.size w1 b W M 0 0 (fun _ => none)); have O0 : Hid (Below w.heap.size w w1) := chain B0.out hB (Nat.le_refl _); clear hT hB) | (go_at_call 11; (with_reducible refine (len_s T0.out).mono ?_); rintro e w9 ⟨rfl, h9⟩; subst w9) | (go_at_call 12; have Ta : TS w.heap.size (w1.alloc (.cells #[.int .i64 W, .int .i64 M, .slice none 0 0, .int .i64 0] 31)) b W M 0 0 (fun _ => none) := T0.out.alloc _; have Aa := lay0 (w1.alloc (.cells #[.int .i64 W, .int .i64 M, .slice none 0 0, .int .i64 0] 31)) W (by have := HWM.out; omega); rw [World.size_alloc] at Aa; (with_reducible refine (get_s (Ta.alloc _) Aa).mono ?_); rintro e w2 ⟨rfl, hb⟩; have T2 : Hid (TS w.heap.size w2 b W M 0 0 (fun _ => none)) := (Ta.alloc _).kept hb; have N2 : Hid (RN w2 w1.heap.size W M) := ⟨(hb.block _ (by simp; omega)).trans ((Below.heap_alloc _ _ _ (by simp)).trans (World.alloc_heap_new w1 _))⟩; have O2 : Hid (Below w.heap.size w w2) := chain ((O0.out.alloc O0.out.size _).alloc (by have := O0.out.size; simp; omega) _) hb (Nat.le_refl _); clear hb Ta Aa) | (go_at_call 13; (with_reducible refine (put_new (T3.out.alloc _) (lay0 w3 W (by have := HWM.out; omega)) (apart_new T3.out.lt) 1 (by simp) rfl HM0.out).mono ?_); rintro e w4 ⟨rfl, ⟨n4, hT, hn4⟩, hO⟩; have T4 : Hid (TS w.heap.size w4 b W M 1 n4 (upd (fun _ => none) (List.replicate W 0) (some 1))) := hT; have SL4 : Hid (n4 = 16) := (by have := hT.two; omega : n4 = 16); have N4 : Hid (RN w4 w1.heap.size W M) := ⟨hO.ki _ _ _ (by decide) (by decide) ((Below.heap_alloc _ _ _ (lt_of_heap N3.out.hb)).trans N3.out.hb)⟩; have O4 : Hid (Below w.heap.size w w4) := (O3.out.alloc O3.out.size _).trans hO.below; clear hT hO hn4) | (go_at_call 13; (with_reducible refine (put_wide (T2.out.alloc _) (lay0 w2 (W + 1) (by have := HWM.out; omega)) (apart_new T2.out.lt) 1 (by simp)).mono ?_); rintro e w3 ⟨rfl, hT, hO⟩; have T3 : Hid (TS w.heap.size w3 b W M 0 0 (fun _ => none)) := hT; have N3 : Hid (RN w3 w1.heap.size W M) := ⟨hO.ki _ _ _ (by decide) (by decide) ((Below.heap_alloc _ _ _ (lt_of_heap N2.out.hb)).trans N2.out.hb)⟩; have O3 : Hid (Below w.heap.size w w3) := (O2.out.alloc O2.out.size _).trans hO.below; clear hT hO) | (go_at_call 14; have RA : RN (w4.alloc (.cells (madeCells #[.int .i64 0] W) 3)) w1.heap.size W M := ⟨(Below.heap_alloc _ _ _ (lt_of_heap N4.out.hb)).trans N4.out.hb⟩; have RP := rput_new RA (heap0 w4 W) (by simp) HWM.out.1 HM0.out 1; rw [List.length_replicate] at RP; (with_reducible refine RP.mono ?_); rintro e w5 ⟨rfl, q5, c5, hH, hF⟩; have H5 : Hid (w5.heap[w1.heap.size]? = some (.cells #[.int .i64 W, .int .i64 M, .slice q5 1 c5, .int .i64 1] 31 (0, 0))) := hH; have T5 : Hid (TS w.heap.size w5 b W M 1 n4 (upd (fun _ => none) (List.replicate W 0) (some 1))) := (T4.out.alloc _).other RA.hb (by decide) (by decide) (by decide) hF; have O5 : Hid (Below w.heap.size w w5) := (O4.out.alloc O4.out.size _).trans (hF.below (by have := O4.out.size; simp; omega) (fun k hk => by have := O0.out.size; omega)); have SL : Hid ((n4 = 0 ∧ 1 = 0) ∨ ((∃ j, n4 = 2 ^ j) ∧ 2 * 1 ≤ n4 ∧ (n4 : Int) ≤ 16 + 8 * 1)) := (.inr ⟨⟨4, SL4.out⟩, by have := SL4.out; omega, by have := SL4.out; omega⟩); have SB : Hid (n4 ≤ 100) := (by have := SL4.out; omega : n4 ≤ 100); clear RA RP hH hF) | (go_at_call 16; (with_reducible refine (slots_s T5.out).mono ?_); rintro e w9 ⟨rfl, h9⟩; subst w9) | (go_at_call 15; (with_reducible refine (rslots H5.out SL.out (by have := SB.out; omega) (by decide)).mono ?_); rintro e w9 ⟨rfl, h9⟩; subst w9)
  go_ret
  exact ⟨rfl, O5.out⟩

set_option maxRecDepth 100000 in
set_option maxHeartbeats 4000000 in
theorem new_zero (W M : Nat) (hW : W ≤ 128) (hM : M ≤ 1000000) (hM0 : M = 0) (w : World) :
    Calls Try.prog 3 #[.int .i64 (W : Int), .int .i64 (M : Int)] w fun e w' => e = .returned (.bool true) ∧ Below w.heap.size w w' := by
  have a1 : ¬ ((W : Int) < 0) := by omega
  have a2 : ¬ ((128 : Int) < (W : Int)) := by omega
  have a3 : ¬ ((M : Int) < 0) := by omega
  have a4 : ¬ ((1000000 : Int) < (M : Int)) := by omega
  have HM0 : Hid (M = 0) := hM0
  have HWM : Hid (W ≤ 128 ∧ M ≤ 1000000) := ⟨hW, hM⟩
  clear hM0
  have m0 := make_ints W W (Nat.le_refl _) (by omega)
  have m1 : ∀ w : World, (Instr.makeSlice 34 (.int .i64 ((W : Int) + 1)) (.int .i64 ((W : Int) + 1))).run Try.prog w = .ok (.slice (some ⟨w.heap.size, 0, none⟩) (W + 1) (W + 1)) (w.alloc (.cells (madeCells #[.int .i64 0] (W + 1)) 3)) := fun w => make_ints (W + 1) (W + 1) (Nat.le_refl _) (by omega) w
  have NEW : Hid (∀ w0 : World, Calls Try.prog 10 #[.int .i64 (W : Int), .int .i64 (M : Int)] w0 fun e w' => ∃ b, e = .returned (.tuple #[.pointer (some ⟨b, 0, none⟩), .int .i64 0]) ∧ TS w0.heap.size w' b W M 0 0 (fun _ => none) ∧ Below w0.heap.size w0 w') := fun w0 => new_s W M ⟨by omega, by omega⟩ ⟨by omega, by omega⟩ w0
  go_enter Try.func3, Try.ntmps3
  go_wp2_with first | (go_at_call 9; (with_reducible refine (known_c _).mono ?_); rintro e w0 ⟨rfl, hb⟩; have B0 : Hid (Below w.heap.size w w0) := hb; clear hb) | (go_at_call 10; (with_reducible refine (NEW.out _).mono ?_); rintro e w1 ⟨b, rfl, hT, hB⟩; have T0 : Hid (TS w.heap.size w1 b W M 0 0 (fun _ => none)) := (hT.mono B0.out.size : TS w.heap.size w1 b W M 0 0 (fun _ => none)); have O0 : Hid (Below w.heap.size w w1) := chain B0.out hB (Nat.le_refl _); clear hT hB) | (go_at_call 11; (with_reducible refine (len_s T0.out).mono ?_); rintro e w9 ⟨rfl, h9⟩; subst w9) | (go_at_call 12; have Ta : TS w.heap.size (w1.alloc (.cells #[.int .i64 W, .int .i64 M, .slice none 0 0, .int .i64 0] 31)) b W M 0 0 (fun _ => none) := T0.out.alloc _; have Aa := lay0 (w1.alloc (.cells #[.int .i64 W, .int .i64 M, .slice none 0 0, .int .i64 0] 31)) W (by have := HWM.out; omega); rw [World.size_alloc] at Aa; (with_reducible refine (get_s (Ta.alloc _) Aa).mono ?_); rintro e w2 ⟨rfl, hb⟩; have T2 : Hid (TS w.heap.size w2 b W M 0 0 (fun _ => none)) := (Ta.alloc _).kept hb; have N2 : Hid (RN w2 w1.heap.size W M) := ⟨(hb.block _ (by simp; omega)).trans ((Below.heap_alloc _ _ _ (by simp)).trans (World.alloc_heap_new w1 _))⟩; have O2 : Hid (Below w.heap.size w w2) := chain ((O0.out.alloc O0.out.size _).alloc (by have := O0.out.size; simp; omega) _) hb (Nat.le_refl _); clear hb Ta Aa) | (go_at_call 13; (with_reducible refine (put_full (T3.out.alloc _) (lay0 w3 W (by have := HWM.out; omega)) (apart_new T3.out.lt) 1 (by simp) rfl HM0.out.symm).mono ?_); rintro e w4 ⟨rfl, hT, hO⟩; have T4 : Hid (TS w.heap.size w4 b W M 0 0 (fun _ => none)) := hT; have N4 : Hid (RN w4 w1.heap.size W M) := ⟨hO.ki _ _ _ (by decide) (by decide) ((Below.heap_alloc _ _ _ (lt_of_heap N3.out.hb)).trans N3.out.hb)⟩; have O4 : Hid (Below w.heap.size w w4) := (O3.out.alloc O3.out.size _).trans hO.below; clear hT hO) | (go_at_call 13; (with_reducible refine (put_wide (T2.out.alloc _) (lay0 w2 (W + 1) (by have := HWM.out; omega)) (apart_new T2.out.lt) 1 (by simp)).mono ?_); rintro e w3 ⟨rfl, hT, hO⟩; have T3 : Hid (TS w.heap.size w3 b W M 0 0 (fun _ => none)) := hT; have N3 : Hid (RN w3 w1.heap.size W M) := ⟨hO.ki _ _ _ (by decide) (by decide) ((Below.heap_alloc _ _ _ (lt_of_heap N2.out.hb)).trans N2.out.hb)⟩; have O3 : Hid (Below w.heap.size w w3) := (O2.out.alloc O2.out.size _).trans hO.below; clear hT hO) | (go_at_call 14; have RA : RN (w4.alloc (.cells (madeCells #[.int .i64 0] W) 3)) w1.heap.size W M := ⟨(Below.heap_alloc _ _ _ (lt_of_heap N4.out.hb)).trans N4.out.hb⟩; (with_reducible refine (rput_nil RA (lay0 w4 W (by have := HWM.out; omega)) (by simp) HM0.out 1).mono ?_); rintro e w5 ⟨rfl, hB⟩; have H5 : Hid (w5.heap[w1.heap.size]? = some (.cells #[.int .i64 W, .int .i64 M, .slice none 0 0, .int .i64 0] 31 (0, 0))) := (hB.block _ (lt_of_heap RA.hb)).trans RA.hb; have T5 : Hid (TS w.heap.size w5 b W M 0 0 (fun _ => none)) := (T4.out.alloc _).kept hB; have O5 : Hid (Below w.heap.size w w5) := chain (O4.out.alloc O4.out.size _) hB (Nat.le_refl _); have SL : Hid ((0 = 0 ∧ 0 = 0) ∨ ((∃ j, 0 = 2 ^ j) ∧ 2 * 0 ≤ 0 ∧ ((0 : Nat) : Int) ≤ 16 + 8 * 0)) := (.inl ⟨rfl, rfl⟩); have RS : Hid (Calls Try.prog 15 #[.pointer (some ⟨w1.heap.size, 0, none⟩), .int .i64 0] w5 fun e w' => e = .returned (.bool true) ∧ w' = w5) := rslots (n := 0) H5.out SL.out (by omega) (by decide); clear RA hB) | (go_at_call 16; (with_reducible refine (slots_s T5.out).mono ?_); rintro e w9 ⟨rfl, h9⟩; subst w9) | (go_at_call 15; (with_reducible refine RS.out.mono ?_); rintro e w9 ⟨rfl, h9⟩; subst w9)
  go_ret
  exact ⟨rfl, O5.out⟩

set_option maxRecDepth 100000 in
set_option maxHeartbeats 4000000 in
theorem new_not (W M : Int) (h : W < 0 ∨ 128 < W ∨ M < 0 ∨ 1000000 < M) (w : World) :
    Calls Try.prog 3 #[.int .i64 W, .int .i64 M] w fun e w' => e = .returned (.bool true) ∧ Below w.heap.size w w' := by
  have hbad : (decide (W < 0) || decide (128 < W) || decide (M < 0) || decide (1000000 < M)) = true := by simp; omega
  have HB : Hid (W < 0 ∨ 128 < W ∨ M < 0 ∨ 1000000 < M) := h
  clear h
  go_enter Try.func3, Try.ntmps3
  go_wp2_with first | (go_at_call 9; (with_reducible refine (known_c _).mono ?_); rintro e w0 ⟨rfl, hb⟩; have B0 : Hid (Below w.heap.size w w0) := hb; clear hb) | (go_at_call 10; (with_reducible refine (new_bad W M HB.out _).mono ?_); rintro e w1 ⟨rfl, h1⟩; subst w1)
  all_goals go_ret
  all_goals exact ⟨rfl, B0.out⟩

theorem law_new (width : Int) (_ : (Lit.int .i64 width).wf = true) (most : Int) (_ : (Lit.int .i64 most).wf = true) (w : World) :
    Calls Try.prog 3 #[.int .i64 width, .int .i64 most] w fun e w' => e = .returned (.bool true) ∧ Below w.heap.size w w' := by
  by_cases h : width < 0 ∨ 128 < width ∨ most < 0 ∨ 1000000 < most
  · exact new_not width most h w
  · obtain ⟨W, rfl⟩ : ∃ n : Nat, width = n := ⟨width.toNat, by omega⟩
    obtain ⟨M, rfl⟩ : ∃ n : Nat, most = n := ⟨most.toNat, by omega⟩
    rcases Nat.eq_zero_or_pos M with h0 | h0
    · exact new_zero W M (by omega) (by omega) h0 w
    · exact new_pos W M (by omega) (by omega) h0 w
end Go.Proofs.Ytcagmagbonfipaa
