/-
  The document's own table, as far as TableNew goes.
-/
import Derived.Test.YtmfljfedpdipiaaLawPlaces
import Derived.Test.YtmfljfedpdipiaaSorted
namespace Go.Proofs.Ytmfljfedpdipiaa
open Go Go.RowKit
attribute [local go_sem] Oper.semAt_some ext_cell

/-- The document's table in memory: no entries. -/
structure RN (w : World) (b W M : Nat) : Prop where
  hb : w.heap[b]? = some (.cells #[.int .i64 W, .int .i64 M, .slice none 0 0, .int .i64 0] 41 (0, 0))

theorem und_entries : Try.prog.underlying 39 = some (.slice 71) := by kernel_rfl
theorem size_entry : (Try.prog.info? 71).map (fun i => (i.zero, i.size, i.bytes)) = some (some (.agg #[.slice none 0 0, .int .i64 0]), 2, 32) := by kernel_rfl
theorem ownsRow_shape {w : World} {base : Nat} {e : TypeId} {size n : Nat} {v : Value} {xs : List Value} (h : w.ownsRow base e size v n xs) : ∃ q c, v = .slice q n c := by
  rcases h.2 with ⟨rfl, rfl⟩ | ⟨g, cap, cur, rfl, _⟩
  · exact ⟨_, _, rfl⟩
  · exact ⟨_, _, rfl⟩
theorem ownsRow_cap {w : World} {base : Nat} {e : TypeId} {size n g c : Nat} {xs : List Value} (h : w.ownsRow base e size (.slice (some ⟨g, 0, none⟩) n c) n xs) : n ≤ c := by
  rcases h.2 with ⟨q, _⟩ | ⟨g, cap, cur, q, _, _, hc, _⟩
  · cases q
  · cases q; exact hc
theorem grown_below {w w' : World} (h : w.grownBy w' none) : Below w.heap.size w w' := ⟨h.os, h.tape, h.output, h.size, fun k hk => h.block k hk (by simp)⟩
theorem cells_at {w : World} {g : Nat} {k : List Int} (h : w.heap[g]? = some (.cells (ints k).toArray 3 (0, 0))) (j : Nat) (u : Value) (hj : (ints k)[j]? = some u) : w.cell? ((⟨g, 0, none⟩ : Addr).add j) = some u := by
  have := cell_row h (i := j) (v := u) (by simpa using hj)
  unfold Addr.add
  split
  · rename_i q; subst q; exact this
  · simpa using this
theorem cell_two_new (w : World) (a b : Value) (t : TypeId) (j : Nat) (u : Value) (hj : [a, b][j]? = some u) : (w.alloc (.cells #[a, b] t)).cell? ((⟨w.heap.size, 0, none⟩ : Addr).add j) = some u := by
  have := cell_row (World.alloc_heap_new w (.cells #[a, b] t)) (i := j) (v := u) (by simpa using hj)
  unfold Addr.add
  split
  · rename_i q; subst q; exact this
  · rw [Nat.zero_add]; exact this


set_option maxRecDepth 100000 in
set_option maxHeartbeats 1000000 in
theorem rat_nil {w : World} {b W M : Nat} (h : RN w b W M) {v : Value} {k : List Int} (hz : ArgI w v k) (hl : k.length = W) :
    Calls Try.prog 44 #[.pointer (some ⟨b, 0, none⟩), v] w fun e w' => e = .returned (.tuple #[.int .i64 0, .bool false]) ∧ w' = w := by
  obtain ⟨q, cap, rfl, hlen, _⟩ := hz.slice
  have c0 : w.cell? ⟨b, 0, none⟩ = some (.int .i64 W) := cell_row h.hb (i := 0) rfl
  have c2 : w.cell? ⟨b, 2, none⟩ = some (.slice none 0 0) := cell_row h.hb (i := 2) rfl
  have hbl := lt_of_heap h.hb
  clear hz h
  subst hl
  have e0 : ((k.length : Int) != (k.length : Int)) = false := by simp
  go_enter Try.func44, Try.ntmps44
  go_wp2
  go_loopw [6] (fun i wx => i = .int .i64 0 ∧ wx = w) (fun _ _ => 0)
  case atStart => exact ⟨rfl, rfl⟩
  case round =>
    obtain ⟨rfl, rfl⟩ := hrel
    go_wp2
    go_ret2
    exact ⟨rfl, rfl⟩

set_option maxRecDepth 100000 in
set_option maxHeartbeats 1000000 in
theorem rslots {w : World} {b : Nat} {W M top : Int} {q : Option Addr} {len cap n : Nat} (h : w.heap[b]? = some (.cells #[.int .i64 W, .int .i64 M, .slice q len cap, .int .i64 top] 41 (0, 0)))
    (hn : (n = 0 ∧ len = 0) ∨ ((∃ j, n = 2 ^ j) ∧ 2 * len ≤ n ∧ (n : Int) ≤ 16 + 8 * top)) (hnb : n ≤ 100000000) (ht : 0 ≤ top ∧ top ≤ 100000000) :
    Calls Try.prog 35 #[.pointer (some ⟨b, 0, none⟩), .int .i64 n] w fun e w' => e = .returned (.bool true) ∧ w' = w := by
  have c2 : w.cell? ⟨b, 2, none⟩ = some (.slice q len cap) := cell_row h (i := 2) rfl
  have c3 : w.cell? ⟨b, 3, none⟩ = some (.int .i64 top) := cell_row h (i := 3) rfl
  clear h
  rcases hn with ⟨rfl, rfl⟩ | ⟨hj, h2, h3⟩
  · go_enter Try.func35, Try.ntmps35
    go_wp2
    go_ret
    exact ⟨rfl, rfl⟩
  have HJ : Hid (∃ j, n = 2 ^ j) := hj
  have h0 : ((n : Int) == 0) = false := by obtain ⟨j, rfl⟩ := hj; have := Nat.two_pow_pos j; simp only [beq_eq_false_iff_ne, ne_eq]; omega
  clear hj
  go_enter Try.func35, Try.ntmps35
  go_wp2
  go_loopw [5] (fun i wx => ∃ N : Nat, i = .int .i64 (N : Nat) ∧ N ≤ 100000000 ∧ (∃ j, N = 2 ^ j) ∧ wx = w) (fun i _ => (intOf i).toNat)
  case atStart => exact ⟨n, rfl, hnb, HJ.out, rfl⟩
  case round =>
    obtain ⟨N, rfl, hNb, hN, hwx⟩ := hrel
    subst hwx
    have HN : Hid (∃ j, N = 2 ^ j) := hN
    clear hN
    by_cases hN1 : 1 < N
    · have hev : N % 2 = 0 ∧ ∃ j, N / 2 = 2 ^ j := by
        obtain ⟨j, q2⟩ := HN.out
        cases j with
        | zero => simp at q2; omega
        | succ j =>
          rw [Nat.pow_succ] at q2
          exact ⟨by omega, j, by omega⟩
      have HE : Hid (∃ j, N / 2 = 2 ^ j) := hev.2
      have e1 : ((N : Int) % 2 == 0) = true := by simp; omega
      have e2 : (N : Int) % 2 = 0 := by omega
      have e3 : (1 : Int) < (N : Int) := by omega
      clear hev
      go_wp2
      go_roundw
      case rel => exact ⟨N / 2, by go_num, by omega, HE.out, by first | rfl | trivial⟩
      case measure => simp only [intOf]; omega
    · have e3 : ¬ ((1 : Int) < (N : Int)) := by omega
      have e4 : (N : Int) ≤ 1 := by omega
      obtain rfl : N = 1 := by obtain ⟨j, q2⟩ := HN.out; have := Nat.two_pow_pos j; omega
      clear hN1 e3 e4 HN
      have g1 : 2 * (len : Int) ≤ (n : Int) := by omega
      go_wp2
      go_ret
      exact ⟨rfl, rfl⟩

set_option maxRecDepth 100000 in
set_option maxHeartbeats 1000000 in
theorem rput_nil {w : World} {b W M : Nat} (h : RN w b W M) {v : Value} {k : List Int} (hz : ArgI w v k) (hl : k.length = W) (hM : M = 0) (x : Int) :
    Calls Try.prog 29 #[.pointer (some ⟨b, 0, none⟩), v, .int .i64 x] w fun e w' => e = .returned (.int .i64 10) ∧ Below w.heap.size w w' := by
  have HR : Hid (RN w b W M) := h
  have HZ : Hid (ArgI w v k) := hz
  obtain ⟨q, cap, rfl, hlen, _⟩ := hz.slice
  have c0 : w.cell? ⟨b, 0, none⟩ = some (.int .i64 W) := cell_row h.hb (i := 0) rfl
  have c1 : w.cell? ⟨b, 1, none⟩ = some (.int .i64 M) := cell_row h.hb (i := 1) rfl
  have c2 : w.cell? ⟨b, 2, none⟩ = some (.slice none 0 0) := cell_row h.hb (i := 2) rfl
  have c3 : w.cell? ⟨b, 3, none⟩ = some (.int .i64 0) := cell_row h.hb (i := 3) rfl
  have hbl := lt_of_heap h.hb
  clear hz h
  subst hl hM
  have e0 : ((k.length : Int) != (k.length : Int)) = false := by simp
  go_enter Try.func29, Try.ntmps29
  go_wp2_with (go_at_call 44; (with_reducible refine (rat_nil HR.out HZ.out rfl).mono ?_); rintro e w2 ⟨rfl, h2⟩; subst w2)
  refine wp_region_ext (by kernel_rfl) (by kernel_rfl) ?_
  repeat (go_big_quiet_step (first | exact rfl))
  refine wpQuiet_nil ?_
  intro w5 hw
  have B5 : Hid (Below w.heap.size w w5) := ext_of hw
  clear hw c0 c1 c2 c3
  go_wp2
  go_ret
  exact ⟨rfl, B5.out⟩

set_option maxRecDepth 100000 in
set_option maxHeartbeats 1000000 in
theorem rput_new {w : World} {b W M g : Nat} (h : RN w b W M) {k : List Int} (hk : w.heap[g]? = some (.cells (ints k).toArray 3 (0, 0))) (hl : k.length = W) (hW : W ≤ 128) (hM : 0 < M) (x : Int) :
    Calls Try.prog 29 #[.pointer (some ⟨b, 0, none⟩), .slice (some ⟨g, 0, none⟩) k.length k.length, .int .i64 x] w fun e w' => e = .returned (.int .i64 0) ∧ ∃ q c, w'.heap[b]? = some (.cells #[.int .i64 W, .int .i64 M, .slice q 1 c, .int .i64 1] 41 (0, 0)) ∧ Fr (fun j => j = b) w w' := by
  have HR : Hid (RN w b W M) := h
  have HKK : Hid (w.heap[g]? = some (.cells (ints k).toArray 3 (0, 0))) := hk
  have hkl : k.length ≤ 128 := by omega
  have HZ : Hid (ArgI w (.slice (some ⟨g, 0, none⟩) k.length k.length) k) := KeyAt.argI ⟨_, rfl, hk⟩ (by unfold maxLen; omega)
  have c0 : w.cell? ⟨b, 0, none⟩ = some (.int .i64 W) := cell_row h.hb (i := 0) rfl
  have c1 : w.cell? ⟨b, 1, none⟩ = some (.int .i64 M) := cell_row h.hb (i := 1) rfl
  have c2 : w.cell? ⟨b, 2, none⟩ = some (.slice none 0 0) := cell_row h.hb (i := 2) rfl
  have c3 : w.cell? ⟨b, 3, none⟩ = some (.int .i64 0) := cell_row h.hb (i := 3) rfl
  have hbl := lt_of_heap h.hb
  clear h hk
  subst hl
  have e0 : ((k.length : Int) != (k.length : Int)) = false := by simp
  have e1 : decide ((M : Int) ≤ 0) = false := by simp; omega
  obtain ⟨j0, hj0, hj1, hj2, hj3⟩ := info_parts size_int
  obtain ⟨i0, hi0, hi1, hi2, hi3⟩ := info_parts size_entry
  have INF : Hid (Try.prog.info? 3 = some j0 ∧ j0.zero = some (.int .i64 0) ∧ j0.size = 1 ∧ j0.bytes = 8) := ⟨hj0, hj1, hj2, hj3⟩
  have IN2 : Hid (Try.prog.info? 71 = some i0 ∧ i0.zero = some (.agg #[.slice none 0 0, .int .i64 0]) ∧ i0.size = 2 ∧ i0.bytes = 32) := ⟨hi0, hi1, hi2, hi3⟩
  clear hj0 hj1 hj2 hj3 hi0 hi1 hi2 hi3
  go_enter Try.func29, Try.ntmps29
  go_wp2_with (go_at_call 44; (with_reducible refine (rat_nil HR.out HZ.out rfl).mono ?_); rintro e w2 ⟨rfl, h2⟩; subst w2)
  refine wp_region_ext (by kernel_rfl) (by kernel_rfl) ?_
  repeat (go_big_quiet_step (first | exact rfl))
  refine wpQuiet_nil ?_
  intro w5 hw
  have B5 : Hid (Below w.heap.size w w5) := ext_of hw
  clear hw c0 c1 c2 c3
  have R5 : Hid (RN w5 b k.length M) := ⟨(B5.out.block _ (lt_of_heap HR.out.hb)).trans HR.out.hb⟩
  have K5 : Hid (w5.heap[g]? = some (.cells (ints k).toArray 3 (0, 0))) := (B5.out.block _ (lt_of_heap HKK.out)).trans HKK.out
  have c0 : w5.cell? ⟨b, 0, none⟩ = some (.int .i64 k.length) := cell_row R5.out.hb (i := 0) rfl
  have c1 : w5.cell? ⟨b, 1, none⟩ = some (.int .i64 M) := cell_row R5.out.hb (i := 1) rfl
  have c2 : w5.cell? ⟨b, 2, none⟩ = some (.slice none 0 0) := cell_row R5.out.hb (i := 2) rfl
  have c3 : w5.cell? ⟨b, 3, none⟩ = some (.int .i64 0) := cell_row R5.out.hb (i := 3) rfl
  have e2 : decide (M = 0) = false := by simp; omega
  go_upto_region 11 with fail
  clear c0 c1 c2 c3
  go_upto_region 12 with first | (at_builtin; refine wpList_append_own _ rfl _ _ 44 rfl w5.heap.size 3 j0 (.int .i64 0) 1 8 und_ints INF.out.1 INF.out.2.1 INF.out.2.2.1 INF.out.2.2.2 rfl (by decide) (.slice none 0 0) 0 [] rfl (World.ownsRow_nil _ _ _ _) ⟨g, 0, none⟩ k.length k.length (ints k) rfl (by simp [ints_length]) (cells_at K5.out) (ints_one _) (by unfold maxLen; omega) (by omega) (Nat.le_refl _) ?_; intro v' w6 hown' hgrow hnil; obtain ⟨q', c', rfl⟩ : ∃ q' c', v' = .slice q' k.length c' := (by have := ownsRow_shape hown'; rw [Nat.zero_add] at this; exact this); have G6 : Hid (Below w5.heap.size w5 w6) := grown_below hgrow; clear hown' hgrow hnil) | (at_builtin; refine wpList_append_own _ rfl _ _ 39 rfl w5.heap.size 71 i0 (.agg #[.slice none 0 0, .int .i64 0]) 2 32 und_entries IN2.out.1 IN2.out.2.1 IN2.out.2.2.1 IN2.out.2.2.2 rfl (by decide) (.slice none 0 0) 0 [] rfl (World.ownsRow_nil _ _ _ _) ⟨w6.heap.size, 0, none⟩ 1 1 [.slice q' k.length c', .int .i64 x] rfl rfl (cell_two_new _ _ _ _) (by simp [Value.oneCell']) (by unfold maxLen; omega) (by omega) (by have := G6.out.size; simp; omega) ?_; intro v'' w7 hown' hgrow hnil; obtain ⟨g7, c7, rfl⟩ : ∃ g7 c7, v'' = .slice (some ⟨g7, 0, none⟩) 1 c7 := ownsRow_some hown' (fun q => absurd (hnil.1 q).2 (by decide)); have hc7 : 1 ≤ c7 := ownsRow_cap hown'; have G7 : Hid (Below w5.heap.size w5 w7) := chain (G6.out.alloc G6.out.size _) (grown_below hgrow) (Nat.le_refl _); clear hown' hgrow hnil)
  have R7 : Hid (RN w7 b k.length M) := ⟨(G7.out.block _ (lt_of_heap R5.out.hb)).trans R5.out.hb⟩
  have c0 : w7.cell? ⟨b, 0, none⟩ = some (.int .i64 k.length) := cell_row R7.out.hb (i := 0) rfl
  have c2 : w7.cell? ⟨b, 2, none⟩ = some (.slice none 0 0) := cell_row R7.out.hb (i := 2) rfl
  have c3 : w7.cell? ⟨b, 3, none⟩ = some (.int .i64 0) := cell_row R7.out.hb (i := 3) rfl
  have f2 := frz_row R7.out.hb 2
  have f3 := frz_row R7.out.hb 3
  go_wp2
  have R8 : Hid ((w7.setCell ⟨b, 2, none⟩ (.slice (some ⟨g7, 0, none⟩) 1 c7)).heap[b]? = some (.cells #[.int .i64 k.length, .int .i64 M, .slice (some ⟨g7, 0, none⟩) 1 c7, .int .i64 0] 41 (0, 0))) := heap_set_in R7.out.hb 2 _
  have F8 : Hid (Fr (fun j => j = b) w (w7.setCell ⟨b, 2, none⟩ (.slice (some ⟨g7, 0, none⟩) 1 c7))) := ((Fr.of_below (chain B5.out G7.out (Nat.le_refl _))).setCell (S := fun j => j = b) (p := ⟨b, 2, none⟩) rfl _)
  generalize (w7.setCell ⟨b, 2, none⟩ (.slice (some ⟨g7, 0, none⟩) 1 c7)) = w8 at R8 F8 ⊢
  clear c0 c2 c3 f2 f3
  have d2 : w8.cell? ⟨b, 2, none⟩ = some (.slice (some ⟨g7, 0, none⟩) 1 c7) := cell_row R8.out (i := 2) rfl
  have d3 : w8.cell? ⟨b, 3, none⟩ = some (.int .i64 0) := cell_row R8.out (i := 3) rfl
  have f3 := frz_row R8.out 3
  go_region_with fail
  all_goals go_wp2
  all_goals go_ret
  all_goals exact ⟨rfl, _, _, heap_set_in R8.out 3 _, (F8.out.setCell (S := fun j => j = b) (p := ⟨b, 3, none⟩) rfl _).then (Below.refl _ _).drew⟩
end Go.Proofs.Ytmfljfedpdipiaa
