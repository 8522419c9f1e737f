/-
  The chapter's examples, asked ahead of each statement: true.
-/
import Derived.Test.YtcaijlmffdfhgabDoorOf
import Derived.Test.YtcaijlmffdfhgabDoorCount
import Derived.Test.YtcaijlmffdfhgabDoorRanges
namespace Go.Proofs.YtcaijlmffdfhgabDoor
open Go Go.RowKit
attribute [local go_sem] idx0 idx1 idx2 idx3 u64_signed eqg_range eqIn_range eqg_set eqIn_set

/-- An owned list's cells. -/
theorem own_cell {W : World} {base n : Nat} {v : Value} {xs : List Value} (h : W.ownsRow base 35 2 v n xs) (hn : 0 < n) :
    ∃ g cap, v = .slice (some ⟨g, 0, none⟩) n cap ∧ base ≤ g ∧ g < W.heap.size ∧ n ≤ cap ∧ cap ≤ maxLen ∧ (∀ j x, xs[j]? = some x → W.cell? ⟨g, j, none⟩ = some x) ∧ ∃ cur, W.heap[g]? = some (.cells cur 35 (0, 0)) := by
  obtain ⟨hl, h2⟩ := h
  rcases h2 with ⟨_, h0⟩ | ⟨g, cap, cur, rfl, hb, hg, hc1, hc2, hsz, ht⟩
  · omega
  · refine ⟨g, cap, rfl, hb, (Array.getElem?_eq_some_iff.1 hg).1, hc1, hc2, fun j x hx => ?_, cur, hg⟩
    have hj : j < n * 2 := by have := (List.getElem?_eq_some_iff.1 hx).1; omega
    rw [← ht, List.getElem?_take_of_lt hj] at hx
    have : cur[j]? = some x := by simpa using hx
    simp [World.cell?, hg, this]

/-- The examples' two sets, with what is asked of them. -/
theorem ex_pack : ∃ s : S, (∀ w, Calls Tryd.prog 10 #[.string ⟨#[98, 97]⟩] w fun e w' => e = .returned (.agg #[.int .u64 (wd (s) 0), .int .u64 (wd (s) 1), .int .u64 (wd (s) 2), .int .u64 (wd (s) 3)]) ∧ Below w.heap.size w w') ∧
    rngs (elems s) = [(97, 98)] ∧ shas s 97 = true ∧ shas s 99 = false :=
  ⟨sof [98, 97], fun w => of_any ⟨#[98, 97]⟩ w (by decide), by decide +kernel, by decide +kernel, by decide +kernel⟩
theorem ex_range : ∃ d : S, rangeS 48 57 = d ∧ rangeE 48 57 = 0 ∧ rangeE 5 4 = 1 ∧ (nextV d 50 = 50 ∧ nextB d 50 = true) ∧ scount d = 10 :=
  ⟨srange 48 57, rangeS_ok ⟨by decide, by decide, by decide⟩, rangeE_ok ⟨by decide, by decide, by decide⟩, rangeE_bad (by unfold rangeOk; omega), by decide +kernel, by decide +kernel⟩

set_option maxRecDepth 100000 in
set_option maxHeartbeats 1000000 in
theorem examples_any (w : World) (hT : Tab w) : Calls Tryd.prog 4 #[] w fun e w' => e = .returned (.bool true) ∧ Below w.heap.size w w' := by
  obtain ⟨s, hOf, hr, A1, A2⟩ := ex_pack
  obtain ⟨d, R1, R2, R3, ⟨N1, N2⟩, C1⟩ := ex_range
  have HO : Hid (∀ w, Calls Tryd.prog 10 #[.string ⟨#[98, 97]⟩] w fun e w' => e = .returned (.agg #[.int .u64 (wd (s) 0), .int .u64 (wd (s) 1), .int .u64 (wd (s) 2), .int .u64 (wd (s) 3)]) ∧ Below w.heap.size w w') := hOf
  have HE : Hid (rngs (elems s) = [(97, 98)]) := hr
  have HT : Hid (Tab w) := hT
  clear hOf hr hT
  go_enter Tryd.func4, Tryd.ntmps4
  go_wp2_with (first
    | (go_at_call 10; refine (HO.out _).mono ?_; rintro e w1 ⟨rfl, hb1⟩; have H1 : Hid (Below w.heap.size w w1) := hb1; clear hb1)
    | (go_at_call 11; refine (range_any _ _ _).mono ?_; rintro e w3 ⟨rfl, hb3⟩; have H3 : Hid (Below w.heap.size w w3) := chain (H2.out.alloc H2.out.size _) hb3; have S3 : Hid (SetAt w3 w1.heap.size s) := (S2.out.alloc _).below hb3 (S2.out.alloc _).lt; have D3 : Hid (SetAt w3 w2.heap.size d) := (SetAt.new w2 d).below hb3 (by simp); clear hb3; obtain ⟨d0, d1, d2, d3⟩ := D3.out.cells; have z3 := D3.out.lt)
    | (go_at_call 11; refine (range_any _ _ _).mono ?_; rw [R1, R2]; rintro e w2 ⟨rfl, hb2⟩; have H2 : Hid (Below w.heap.size w w2) := chain (H1.out.alloc H1.out.size _) hb2; have S2 : Hid (SetAt w2 w1.heap.size s) := (SetAt.new w1 s).below hb2 (by simp); clear hb2)
    | (go_at_call 12; refine (next_any _ _ _ (HT.out.below (H3.out.alloc H3.out.size _))).mono ?_; rw [N1, N2]; rintro e w4 ⟨rfl, hb4⟩; have H4 : Hid (Below w.heap.size w w4) := chain (H3.out.alloc H3.out.size _) hb4; have S4 : Hid (SetAt w4 w1.heap.size s) := (S3.out.alloc _).below hb4 (S3.out.alloc _).lt; have D4 : Hid (SetAt w4 w2.heap.size d) := (D3.out.alloc _).below hb4 (D3.out.alloc _).lt; clear hb4 d0 d1 d2 d3; obtain ⟨s0, s1, s2, s3⟩ := S4.out.cells)
    | (go_at_call 8; refine (ranges_any _ _ (HT.out.below H4.out)).mono ?_; rintro e w5 ⟨v, rfl, hown, hnil, hb5⟩; rw [HE.out] at hown; obtain ⟨g, cap, rfl, _, hg1, hcap1, hcap2, hcell, _⟩ := own_cell hown (by decide); have G5 : Hid (w5.cell? ⟨g, 0, none⟩ = some (.int .i64 97) ∧ w5.cell? ⟨g, 1, none⟩ = some (.int .i64 98) ∧ g < w5.heap.size) := ⟨hcell 0 _ rfl, hcell 1 _ rfl, hg1⟩; have H5 : Hid (Below w.heap.size w w5) := chain H4.out hb5; have S5 : Hid (SetAt w5 w1.heap.size s) := S4.out.below hb5 S4.out.lt; have D5 : Hid (SetAt w5 w2.heap.size d) := D4.out.below hb5 D4.out.lt; unfold maxLen at hcap2; clear hb5 hown hnil hcell hg1 s0 s1 s2 s3; obtain ⟨d0, d1, d2, d3⟩ := D5.out.cells)
    | (go_at_call 13; refine (count_any _ _).mono ?_; rw [C1]; rintro e w6 ⟨rfl, hb6⟩; have H6 : Hid (Below w.heap.size w w6) := chain H5.out hb6; have S6 : Hid (SetAt w6 w1.heap.size s) := S5.out.below hb6 S5.out.lt; have G6 : Hid (w6.cell? ⟨g, 0, none⟩ = some (.int .i64 97) ∧ w6.cell? ⟨g, 1, none⟩ = some (.int .i64 98) ∧ g < w6.heap.size) := ⟨(hb6.cell G5.out.2.2).trans G5.out.1, (hb6.cell G5.out.2.2).trans G5.out.2.1, Nat.lt_of_lt_of_le G5.out.2.2 hb6.size⟩; clear hb6 d0 d1 d2 d3; obtain ⟨s0, s1, s2, s3⟩ := S6.out.cells)
    | (go_at_call 14; refine (has_any _ _ _).mono ?_; rintro e w8 ⟨rfl, hb8⟩; have H8 : Hid (Below w.heap.size w w8) := chain H7.out hb8; have g0 := (hb8.cell G7.out.2.2).trans G7.out.1; have g1 := (hb8.cell G7.out.2.2).trans G7.out.2.1; clear hb8)
    | (go_at_call 14; refine (has_any _ _ _).mono ?_; rintro e w7 ⟨rfl, hb7⟩; have H7 : Hid (Below w.heap.size w w7) := chain H6.out hb7; have S7 : Hid (SetAt w7 w1.heap.size s) := S6.out.below hb7 S6.out.lt; have G7 : Hid (w7.cell? ⟨g, 0, none⟩ = some (.int .i64 97) ∧ w7.cell? ⟨g, 1, none⟩ = some (.int .i64 98) ∧ g < w7.heap.size) := ⟨(hb7.cell G6.out.2.2).trans G6.out.1, (hb7.cell G6.out.2.2).trans G6.out.2.1, Nat.lt_of_lt_of_le G6.out.2.2 hb7.size⟩; clear hb7 s0 s1 s2 s3; obtain ⟨t0, t1, t2, t3⟩ := S7.out.cells))
  go_ret
  exact ⟨rfl, H8.out⟩
end Go.Proofs.YtcaijlmffdfhgabDoor
