/-
  Parts of the proof.
-/
import Derived.Test.YtbfhahhcacnckaaGreatDoorSamesProofB21
import Derived.Test.YtbfhahhcacnckaaGreatDoorSamesProofB13
import Derived.Test.YtbfhahhcacnckaaGreatDoorSamesProofB14
import Derived.Test.YtbfhahhcacnckaaGreatDoorSamesProofB15
set_option linter.unusedSimpArgs false
namespace Go.Proofs.YtbfhahhcacnckaaGreatDoor
open Go Go.RowKit
attribute [local go_sem] Oper.semAt_some
theorem SR.split {base : Nat} {w : World} {v : Value} {xs : List (List UInt8)} (h : SR base w v xs) (hx : xs ≠ []) : ∃ g c, v = .slice (some ⟨g, 0, none⟩) xs.length c ∧ base ≤ g ∧ g < w.heap.size ∧ xs.length ≤ c ∧ ∀ (j : Nat) (y : ByteArray), (xs.map txt)[j]? = some y → w.cell? ⟨g, 0 + j, none⟩ = some (.string y) := by
  rcases h.2 with ⟨_, hz⟩ | ⟨g, cap, cur, hv, h1, h2, h3, h4, h5, h6⟩
  · exact absurd (List.eq_nil_of_length_eq_zero hz) hx
  · refine ⟨g, cap, hv, h1, lt_of_heap h2, h3, fun j y hy => ?_⟩
    have h7 : (stC xs)[j]? = some (.string y) := by
      simp only [List.getElem?_map, stC] at hy ⊢
      cases hj : xs[j]? with
      | none => rw [hj] at hy; cases hy
      | some z => rw [hj] at hy; simp at hy; simp [hy]
    have h8 := h.cells (g := g) (by rw [hv]; rfl) j _ h7
    cases j with
    | zero => simpa [Addr.add] using h8
    | succ j => simpa [Addr.add] using h8
theorem join_sr {base : Nat} {w : World} {g c n : Nat} {xs : List (List UInt8)} {sb : ByteArray} (sep r : List UInt8) (hv : SR base w (.slice (some ⟨g, 0, none⟩) n c) xs) (hnx : xs.length = n) (hsb : sb = txt sep) (hx : xs ≠ []) (hr : Lib.join xs sep = r) (hl : r.length ≤ 100000) (hn : n ≤ 100000) :
    Calls Tryz.prog 43 #[.slice (some ⟨g, 0, none⟩) n c, .string sb] w fun e w' => e = .returned (.string (txt r)) ∧ Below w.heap.size w w' := by
  subst hnx hsb
  obtain ⟨g', c', e, h1, h2, h3, h4⟩ := SR.split hv hx
  cases e
  have e1 : (xs.map txt).length = xs.length := by simp
  have e2 : (xs.map txt).map (fun y : ByteArray => y.data.toList) = xs := by rw [List.map_map]; exact (List.map_congr_left (fun z _ => rfl)).trans (List.map_id xs)
  have := Tryz.strings_Join g 0 c (xs.map txt) (txt sep) w h4 h2 (by omega) (by omega) (by rw [e2]; show (Lib.join xs sep).length ≤ _; rw [hr]; omega)
  rw [e1, e2, show (txt sep).data.toList = sep from rfl, hr] at this
  exact this
set_option maxRecDepth 100000 in
set_option maxHeartbeats 1000000 in
theorem setWord_a {w : World} (hT : z1_Tab w) : Calls Tryz.prog 47 #[.agg #[.int .u64 (z1_wd aS 0), .int .u64 (z1_wd aS 1), .int .u64 (z1_wd aS 2), .int .u64 (z1_wd aS 3)]] w fun e w' => e = .returned (.string (txt [54, 49])) ∧ Below w.heap.size w w' := by
  have B1 : Hid (Below w.heap.size w (w.alloc (.cells #[.int .u64 (z1_wd aS 0), .int .u64 (z1_wd aS 1), .int .u64 (z1_wd aS 2), .int .u64 (z1_wd aS 3)] 33))) := (Below.refl _ _).alloc (Nat.le_refl _) _
  have HC := hide (z1_ranges_any aS (w.alloc (.cells #[.int .u64 (z1_wd aS 0), .int .u64 (z1_wd aS 1), .int .u64 (z1_wd aS 2), .int .u64 (z1_wd aS 3)] 33)) (hT.below B1.out))
  rw [aS_r] at HC
  obtain ⟨t0, hi, hz0, hz1, hz2⟩ := info_parts size_str
  clear hT
  go_enter Tryz.func47, Tryz.ntmps47
  go_wp2_with (go_at_call 59; (with_reducible refine (HC.out).mono ?_))
  rintro e w2 ⟨v, rfl, hrow, -, h2⟩
  have B2 := hide (chain B1.out h2 (Nat.le_refl _))
  rcases hrow.2 with ⟨_, hz⟩ | ⟨g, cap, cur, rfl, hg1, hg2, hg3, hg4, -⟩
  · cases hz
  have r0 : w2.cell? ⟨g, 0, none⟩ = some (.int .i64 97) := hrow.cells (g := g) rfl 0 _ rfl
  have r1 : w2.cell? ⟨g, 1, none⟩ = some (.int .i64 97) := hrow.cells (g := g) rfl 1 _ rfl
  have lg := lt_of_heap hg2
  clear hrow h2 hg1 hg2 hg3 hg4 HC B1
  go_wp2
  refine wp_loop_unr 2 (unr_succ ?_)
  go_wp2_with first
    | (go_at_call 60; (with_reducible refine (rangeWord_a _).mono ?_); rintro e w3 ⟨rfl, h3⟩; have B3 := hide (chain B2.out (((Below.refl _ _).alloc (Nat.le_refl _) _).trans (h3.mono (by simp))) (Nat.le_refl _)); clear h3)
    | (at_builtin; refine wpList_append_own_at _ rfl _ _ 66 rfl w.heap.size 9 t0 (.string ⟨#[]⟩) 1 16 und_strs hi hz0 hz1 hz2 rfl (by decide) (.slice none 0 0) 0 [] rfl (World.ownsRow_nil _ _ _ _) ⟨w3.heap.size, 0, none⟩ 1 1 [.string (txt [54, 49])] rfl rfl (news1b _ _ _) (by simp [Value.oneCell']) ?c3 ?c4 ?c5 ?_)
  case c3 => unfold maxLen; omega
  case c4 => omega
  case c5 => have := B3.out.size; simp; omega
  intro v4 w4 hown hgrow _ hblk
  have B4 : Hid (Below w.heap.size w w4) := hide ((B3.out.alloc (by have := B3.out.size; omega) _).grown hgrow (by have := B3.out.size; simp; omega) (fun k hk => by cases hk))
  have O4 : Hid (SR w.heap.size w4 v4 [[54, 49]]) := hown
  obtain ⟨g4, c4, rfl, -⟩ := SR.split O4.out (by simp)
  have HJ := hide (join_sr (n := 1) (c := c4) (sb := ⟨#[44]⟩) (xs := [[54, 49]]) [44] [54, 49] O4.out rfl rfl (by simp) rfl (by decide) (by decide))
  clear hown hgrow hblk
  go_wp2
  refine unr_succ ?_
  go_wp2_with (go_at_call 43; (with_reducible refine (HJ.out).mono ?_); rintro e w5 ⟨rfl, h5⟩; have B5 := hide (chain B4.out h5 (Nat.le_refl _)); clear h5)
  go_ret
  exact ⟨rfl, B5.out⟩
end Go.Proofs.YtbfhahhcacnckaaGreatDoor
namespace Go.Proofs.YtbfhahhcacnckaaGreatDoor
open Go Go.RowKit
attribute [local go_sem] z1_idx0 z1_idx1 z1_idx2 z1_idx3 z1_u64_signed
def z1_srange (lo hi : Int) : z1_S := z1_sless (z1_sbelow (hi + 1)) (z1_sbelow lo)
def z1_rangeOk (lo hi : Int) : Prop := 0 ≤ lo ∧ lo ≤ hi ∧ hi ≤ 255
theorem z1_wd_nil0 (i : Nat) : z1_wd (0#256) i = 0 := by simp [z1_wd]
theorem z1_chain {w W W' : World} (h : Below w.heap.size w W) (hb : Below W.heap.size W W') : Below w.heap.size w W' := h.trans (hb.mono h.size)
theorem z1_set_cells {w W : World} {x0 z1_x1 z1_x2 z1_x3 : Value} {t : TypeId} (h : Below (w.alloc (.cells #[x0, z1_x1, z1_x2, z1_x3] t)).heap.size (w.alloc (.cells #[x0, z1_x1, z1_x2, z1_x3] t)) W) :
    W.cell? ⟨w.heap.size, 0, none⟩ = some x0 ∧ W.cell? ⟨w.heap.size, 1, none⟩ = some z1_x1 ∧ W.cell? ⟨w.heap.size, 2, none⟩ = some z1_x2 ∧ W.cell? ⟨w.heap.size, 3, none⟩ = some z1_x3 ∧ ∀ o, W.frozen? ⟨w.heap.size, o, none⟩ = false := by
  refine ⟨?_, ?_, ?_, ?_, fun o => ?_⟩
  · rw [h.cell (by simp)]; simp [go_sem]
  · rw [h.cell (by simp)]; simp [go_sem]
  · rw [h.cell (by simp)]; simp [go_sem]
  · rw [h.cell (by simp)]; simp [go_sem]
  · rw [h.frozen (by simp)]; simp [go_sem]
set_option maxHeartbeats 1000000 in
theorem z1_range_bad (lo hi : Int) (w : World) (h : ¬ z1_rangeOk lo hi) :
    Calls Tryz.prog 108 #[.int .i64 lo, .int .i64 hi] w fun e w' => e = .returned (.tuple #[.agg #[.int .u64 (z1_wd (0#256) 0), .int .u64 (z1_wd (0#256) 1), .int .u64 (z1_wd (0#256) 2), .int .u64 (z1_wd (0#256) 3)], .int .i64 1]) ∧ Below w.heap.size w w' := by
  unfold z1_rangeOk at h
  rw [z1_wd_nil0, z1_wd_nil0, z1_wd_nil0, z1_wd_nil0]
  have hc : lo < 0 ∨ (0 ≤ lo ∧ hi < lo) ∨ (0 ≤ lo ∧ lo ≤ hi ∧ 255 < hi) := by omega
  clear h
  rcases hc with h | ⟨h, h'⟩ | ⟨h, h', h''⟩
  all_goals
    go_enter Tryz.func108, Tryz.ntmps108
    go_wp2
    exact bodyPost_ret (v := .tuple #[.agg #[.int .u64 0, .int .u64 0, .int .u64 0, .int .u64 0], .int .i64 1]) (by simp [results, Tryz.results108, go_sem]) rfl ⟨rfl, (Below.refl _ _).alloc (Nat.le_refl _) _⟩
set_option maxHeartbeats 1000000 in
theorem z1_range_ok (lo hi : Int) (w : World) (h : z1_rangeOk lo hi) :
    Calls Tryz.prog 108 #[.int .i64 lo, .int .i64 hi] w fun e w' => e = .returned (.tuple #[.agg #[.int .u64 (z1_wd (z1_srange lo hi) 0), .int .u64 (z1_wd (z1_srange lo hi) 1), .int .u64 (z1_wd (z1_srange lo hi) 2), .int .u64 (z1_wd (z1_srange lo hi) 3)], .int .i64 0]) ∧ Below w.heap.size w w' := by
  obtain ⟨h0, h1, h2⟩ := h
  go_enter Tryz.func108, Tryz.ntmps108
  go_wp2_with (first
    | (go_at_call 115; refine (z1_below_any _ _).mono ?_; rintro e w2 ⟨rfl, hb2⟩; have HB := z1_chain HA hb2)
    | (go_at_call 115; refine (z1_below_any _ _).mono ?_; rintro e w1 ⟨rfl, HA⟩)
    | (go_at_call 114; refine (z1_less_any _ _ _).mono ?_; rintro e w3 ⟨rfl, hb3⟩; have HC := z1_chain HB hb3; obtain ⟨c0, c1, c2, c3, f0⟩ := z1_set_cells HC))
  exact bodyPost_ret (v := .tuple #[.agg #[.int .u64 (z1_wd (z1_srange lo hi) 0), .int .u64 (z1_wd (z1_srange lo hi) 1), .int .u64 (z1_wd (z1_srange lo hi) 2), .int .u64 (z1_wd (z1_srange lo hi) 3)], .int .i64 0]) (by simp [results, Tryz.results108, go_sem, z1_srange, c0, c1, c2, c3]) rfl ⟨rfl, ((((((Below.refl _ _).alloc (Nat.le_refl _) _).trans (HC.mono (by simp))).setCell (by simp) _).setCell (by simp) _).setCell (by simp) _).setCell (by simp) _⟩
open Classical in
noncomputable def z1_rangeS (lo hi : Int) : z1_S := if z1_rangeOk lo hi then z1_srange lo hi else 0#256
open Classical in
noncomputable def z1_rangeE (lo hi : Int) : Int := if z1_rangeOk lo hi then 0 else 1
theorem z1_range_any (lo hi : Int) (w : World) :
    Calls Tryz.prog 108 #[.int .i64 lo, .int .i64 hi] w fun e w' => e = .returned (.tuple #[.agg #[.int .u64 (z1_wd (z1_rangeS lo hi) 0), .int .u64 (z1_wd (z1_rangeS lo hi) 1), .int .u64 (z1_wd (z1_rangeS lo hi) 2), .int .u64 (z1_wd (z1_rangeS lo hi) 3)], .int .i64 (z1_rangeE lo hi)]) ∧ Below w.heap.size w w' := by
  unfold z1_rangeS z1_rangeE
  by_cases h : z1_rangeOk lo hi
  · rw [if_pos h, if_pos h]; exact z1_range_ok lo hi w h
  · rw [if_neg h, if_neg h]; exact z1_range_bad lo hi w h
theorem z1_rangeS_ok {lo hi : Int} (h : z1_rangeOk lo hi) : z1_rangeS lo hi = z1_srange lo hi := if_pos h
theorem z1_rangeE_ok {lo hi : Int} (h : z1_rangeOk lo hi) : z1_rangeE lo hi = 0 := if_pos h
theorem z1_rangeE_bad {lo hi : Int} (h : ¬ z1_rangeOk lo hi) : z1_rangeE lo hi = 1 := if_neg h
theorem z1_rangeS_bad {lo hi : Int} (h : ¬ z1_rangeOk lo hi) : z1_rangeS lo hi = 0#256 := if_neg h
end Go.Proofs.YtbfhahhcacnckaaGreatDoor
