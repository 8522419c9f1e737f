/-
  A key that is lent, with two marked numbers behind it; how it comes back.
-/
import Derived.Test.YtmfljfedpdipiaaPair
import Derived.Test.YtmfljfedpdipiaaRefF0
import Derived.Test.YtmfljfedpdipiaaNoPanic
import Derived.RangeFuncBox
namespace Go.Proofs.Ytmfljfedpdipiaa
open Go Go.RowKit
attribute [local go_sem] Oper.semAt_some ext_cell

theorem hide3 {P : Prop} (h : P) : Hid P := h
/-- A key that came in. -/
def ArgK (w : World) (v : Value) (k : List Int) : Prop := ArgI w v k ∧ k.length ≤ 17592186043904 ∧ ((v = .slice none 0 0 ∧ k = []) ∨ ∃ ad cap, v = .slice (some ad) k.length cap)
/-- A key that is lent: what stands behind it. -/
def LentAt (w : World) (base g cap : Nat) (k : List Int) : Prop := w.ownsRow base 3 1 (.slice (some ⟨g, 0, none⟩) (k.length + 2) cap) (k.length + 2) (ints (k ++ [71, 72]))

set_option maxHeartbeats 2000000 in
theorem lent_c {w : World} {v : Value} {k : List Int} (h : ArgK w v k) :
    Calls Try.prog 28 #[v] w fun e w' => ∃ g cap, e = .returned (.slice (some ⟨g, 0, none⟩) k.length cap) ∧ LentAt w' w.heap.size g cap k ∧ Below w.heap.size w w' := by
  obtain ⟨hz, hk, hv⟩ := h
  have HZ : Hid (ArgI w v k) := hz
  obtain ⟨j0, hj0, hj1, hj2, hj3⟩ := info_parts size_int
  have INF : Hid (Try.prog.info? 3 = some j0 ∧ j0.zero = some (.int .i64 0) ∧ j0.size = 1 ∧ j0.bytes = 8) := ⟨hj0, hj1, hj2, hj3⟩
  clear hz hj0 hj1 hj2 hj3
  rcases hv with ⟨rfl, rfl⟩ | ⟨ad, capk, rfl⟩
  · go_enter Try.func28, Try.ntmps28
    go_wp2_with (at_builtin; refine wpList_append_own _ rfl _ _ 44 rfl w.heap.size 3 j0 (.int .i64 0) 1 8 und_ints INF.out.1 INF.out.2.1 INF.out.2.2.1 INF.out.2.2.2 rfl (by decide) (.slice none 0 0) 0 [] rfl (World.ownsRow_nil _ _ _ _) ⟨w.heap.size, 0, none⟩ 2 2 [.int .i64 71, .int .i64 72] rfl rfl (cell_two_new _ _ _ _) (by simp [Value.oneCell']) (by unfold maxLen; omega) (by omega) (by simp) ?_; intro v7 w7 hown' hgrow hnil; obtain ⟨g7, c7, rfl⟩ : ∃ g7 c7, v7 = .slice (some ⟨g7, 0, none⟩) 2 c7 := ownsRow_some hown' (fun q => absurd (hnil.1 q).2 (by decide)); have hc7 : 2 ≤ c7 := ownsRow_cap hown'; have hc8 : (2 : Int) ≤ (c7 : Int) := (by omega); have G7 : Hid (Below w.heap.size w w7) := chain ((Below.refl _ _).alloc (Nat.le_refl _) _) (grown_below hgrow) (Nat.le_refl _); have N7 : Hid (w7.ownsRow w.heap.size 3 1 (.slice (some ⟨g7, 0, none⟩) 2 c7) 2 (ints ([] ++ [71, 72]))) := hown'; clear hown' hgrow hnil)
    go_ret
    exact ⟨g7, c7, rfl, N7.out, G7.out⟩
  · go_enter Try.func28, Try.ntmps28
    go_upto_region 2 with (at_builtin; refine wpList_append_own _ rfl _ _ 44 rfl w.heap.size 3 j0 (.int .i64 0) 1 8 und_ints INF.out.1 INF.out.2.1 INF.out.2.2.1 INF.out.2.2.2 rfl (by decide) (.slice none 0 0) 0 [] rfl (World.ownsRow_nil _ _ _ _) ad k.length capk (ints k) rfl (by simp [ints_length]) (arg_cells HZ.out) (ints_one _) (by unfold maxLen; omega) (by omega) (Nat.le_refl _) ?_; intro v6 w6 hown' hgrow hnil; obtain ⟨q6, c6, rfl⟩ : ∃ q6 c6, v6 = .slice q6 k.length c6 := (by have := ownsRow_shape hown'; rw [Nat.zero_add] at this; exact this); have G6 : Hid (Below w.heap.size w w6) := grown_below hgrow; have Y6 : Hid (w6.ownsRow w.heap.size 3 1 (.slice q6 k.length c6) k.length (ints k)) := (by rw [Nat.zero_add, List.nil_append] at hown'; exact hown' : _); clear hown' hgrow hnil)
    have hs6 := G6.out.size
    go_wp2_with (at_builtin; refine wpList_append_own _ rfl _ _ 44 rfl w.heap.size 3 j0 (.int .i64 0) 1 8 und_ints INF.out.1 INF.out.2.1 INF.out.2.2.1 INF.out.2.2.2 rfl (by decide) (.slice q6 k.length c6) k.length (ints k) rfl (World.ownsRow.alloc Y6.out _) ⟨w6.heap.size, 0, none⟩ 2 2 [.int .i64 71, .int .i64 72] rfl rfl (cell_two_new _ _ _ _) (by simp [Value.oneCell']) (by unfold maxLen; omega) (by omega) (by simp; omega) ?_; intro v7 w7 hown' hgrow hnil; obtain ⟨g7, c7, rfl⟩ : ∃ g7 c7, v7 = .slice (some ⟨g7, 0, none⟩) (k.length + 2) c7 := ownsRow_some hown' (fun q => absurd (hnil.1 q).2 (by decide)); have hc7 : k.length + 2 ≤ c7 := ownsRow_cap hown'; have hc8 : (k.length : Int) ≤ (c7 : Int) := (by omega); have G7 : Hid (Below w.heap.size w w7) := (G6.out.alloc hs6 _).grown hgrow (by simp; omega) (fun r hr => (World.ownsRow.lt Y6.out r hr).1); have N7 : Hid (w7.ownsRow w.heap.size 3 1 (.slice (some ⟨g7, 0, none⟩) (k.length + 2) c7) (k.length + 2) (ints (k ++ [71, 72]))) := (by rw [ints_append]; exact hown' : _); clear hown' hgrow hnil)
    go_ret
    exact ⟨g7, c7, rfl, N7.out, G7.out⟩
theorem lent_heap {w : World} {base g cap : Nat} {k : List Int} (h : LentAt w base g cap k) : base ≤ g ∧ ∃ cur : Array Value, w.heap[g]? = some (.cells cur 3 (0, 0)) ∧ k.length + 2 ≤ cur.size ∧ k.length + 2 ≤ cap ∧ cap ≤ maxLen ∧ ∀ (i : Nat) (x : Int), (k ++ [71, 72])[i]? = some x → cur[i]? = some (.int .i64 x) := by
  obtain ⟨h1, ⟨q1, q2⟩ | ⟨g', cap', cur, q1, q2, q3, q4, q5, q6, q7⟩⟩ := h
  · cases q1
  · cases q1
    refine ⟨q2, cur, q3, by rw [q6]; omega, q4, q5, fun i x hi => ?_⟩
    have hil := (List.getElem?_eq_some_iff.1 hi).1
    have e := ints_get hi
    rw [← q7, List.getElem?_take_of_lt (by simp at hil; omega)] at e
    simpa using e
theorem lent_arg {w : World} {base g cap : Nat} {k : List Int} (h : LentAt w base g cap k) : ArgI w (.slice (some ⟨g, 0, none⟩) k.length cap) k := by
  obtain ⟨_, cur, h1, h2, h3, h4, h5⟩ := lent_heap h
  refine .inr ⟨g, 0, cap, rfl, lt_of_heap h1, by omega, h4, fun i x hi => ?_⟩
  rw [Nat.zero_add]
  exact cell_row h1 (h5 i x (by rw [List.getElem?_append_left (List.getElem?_eq_some_iff.1 hi).1]; exact hi))
theorem lent_fr {S : Nat → Prop} {w w' : World} {base g cap : Nat} {k : List Int} (h : LentAt w base g cap k) (hf : Fr S w w') (hs : ∀ z cs, S z → w.heap[z]? ≠ some (.cells cs 3 (0, 0))) : LentAt w' base g cap k := ownsRow_fr h hf hs

set_option maxRecDepth 100000 in
set_option maxHeartbeats 2000000 in
theorem back_c {w : World} {base g cap : Nat} {v : Value} {k : List Int} (hl : LentAt w base g cap k) (hz : ArgI w v k) (hk : k.length ≤ 17592186043904) :
    Calls Try.prog 34 #[.slice (some ⟨g, 0, none⟩) k.length cap, v] w fun e w' => e = .returned (.bool true) ∧ Fr (fun z => z = g) w w' := by
  obtain ⟨_, cur, h1, h2, h3, h4, h5⟩ := lent_heap hl
  have SM : Hid (Calls Try.prog 26 #[.slice (some ⟨g, 0, none⟩) k.length cap, v] w fun e w' => e = .returned (.bool true) ∧ Below w.heap.size w w') := (by
    have := same_c (lent_arg hl) hz
    rwa [show decide (k = k) = true by simp] at this)
  have HG : Hid (w.heap[g]? = some (.cells cur 3 (0, 0)) ∧ k.length + 2 ≤ cur.size) := ⟨h1, h2⟩
  have HA : Hid (w.cell? ⟨g, k.length, none⟩ = some (.int .i64 71) ∧ w.cell? ⟨g, k.length + 1, none⟩ = some (.int .i64 72)) := ⟨cell_row h1 (h5 k.length 71 (by simp)), cell_row h1 (h5 (k.length + 1) 72 (by simp))⟩
  have hgl : g < w.heap.size := lt_of_heap h1
  have i0 : (0 : Int) ≤ (k.length : Int) + 2 := by omega
  have i1 : (k.length : Int) + 2 ≤ (cap : Int) := by omega
  have i2 : (k.length : Int) < (k.length : Int) + 2 := by omega
  have i3 : (k.length : Int) + 1 < (k.length : Int) + 2 := by omega
  have i4 : (0 : Int) ≤ (k.length : Int) + 1 := by omega
  have i5 : (0 : Int) ≤ (k.length : Int) := by omega
  clear hl hz h1 h2 h5
  unfold maxLen at h4
  go_enter Try.func34, Try.ntmps34
  go_upto_region 5 with (go_at_call 26; (with_reducible refine SM.out.mono ?_); rintro e w1 ⟨rfl, hb⟩; have B1 : Hid (Below w.heap.size w w1) := hb; clear hb; have a0 := (B1.out.cell (p := ⟨g, k.length, none⟩) hgl).trans HA.out.1; have a1 := (B1.out.cell (p := ⟨g, k.length + 1, none⟩) hgl).trans HA.out.2)
  have FR1 : Hid (Fr (fun z => z = g) w w1) := Fr.of_below B1.out
  go_loopw [8] (fun i wr => ∃ (j : Nat) (cu : Array Value), j ≤ k.length + 2 ∧ i = .int .i64 j ∧ wr.heap[g]? = some (.cells cu 3 (0, 0)) ∧ k.length + 2 ≤ cu.size ∧ Fr (fun z => z = g) w wr) (fun i _ => k.length + 2 - (intOf i).toNat)
  case atStart => exact ⟨0, cur, Nat.zero_le _, rfl, (B1.out.block g hgl).trans HG.out.1, HG.out.2, FR1.out⟩
  case round =>
    obtain ⟨j, cu, hj, rfl, hh, hs, hf⟩ := hrel
    have HH : Hid (wr.heap[g]? = some (.cells cu 3 (0, 0))) := hh
    have HF : Hid (Fr (fun z => z = g) w wr) := hf
    clear hh hf a0 a1
    by_cases hlt : j < k.length + 2
    · obtain ⟨u, hu⟩ : ∃ u, cu[j]? = some u := ⟨_, Array.getElem?_eq_getElem (by omega)⟩
      have cj := cell_row HH.out hu
      have fj := frz_row HH.out j
      have j0 : (0 : Int) ≤ (j : Int) := by omega
      have j1 : (j : Int) < (k.length : Int) + 2 := by omega
      go_wp2
      go_roundw
      case rel => exact ⟨j + 1, _, by omega, by go_num, heap_set_in HH.out j _, by simpa using hs, HF.out.setCell (p := ⟨g, j, none⟩) rfl _⟩
      case measure => simp only [intOf]; omega
    · have j1 : ¬ (j : Int) < (k.length : Int) + 2 := by omega
      go_wp2
      go_ret
      exact ⟨rfl, HF.out⟩
end Go.Proofs.Ytmfljfedpdipiaa
