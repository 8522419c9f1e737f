/-
  The lists that came out, as their owner left them: kept.
-/
import Derived.Test.YtofiidfnjgoenaaRef3
namespace Go.Proofs.Ytofiidfnjgoenaa
open Go Go.RowKit

theorem und_lists : Try.prog.underlying 37 = some (.slice 41) := by kernel_rfl
theorem size_list : (Try.prog.info? 41).map (fun i => (i.zero, i.size, i.bytes)) = some (some (.slice none 0 0), 1, 24) := by kernel_rfl

/-- The mark of the i-th list. -/
def marked (i n : Nat) : List Int := List.replicate n (-9 - (i : Int))
/-- The lists that came out: each written full with its own mark. -/
structure OutAt (W : World) (ov : Value) (vs : List Value) : Prop where
  row : W.ownsRow 0 41 1 ov vs.length vs
  lists : ∀ (i : Nat) (v : Value), vs[i]? = some v → ∃ n, n ≤ 200000 ∧ OwnI W 0 v (marked i n)
theorem OutAt.slice {W : World} {ov : Value} {vs : List Value} (h : OutAt W ov vs) : ∃ q cap, ov = .slice q vs.length cap := by
  rcases h.row.2 with ⟨rfl, h0⟩ | ⟨g, cap, cur, rfl, _⟩
  · rw [h0]; exact ⟨_, _, rfl⟩
  · exact ⟨_, _, rfl⟩
theorem OutAt.cell {W : World} {ov : Value} {vs : List Value} (h : OutAt W ov vs) {i : Nat} {v : Value} (hv : vs[i]? = some v) :
    ∃ g cap, ov = .slice (some ⟨g, 0, none⟩) vs.length cap ∧ W.cell? ⟨g, i, none⟩ = some v := by
  have hi : i < vs.length := (List.getElem?_eq_some_iff.1 hv).1
  rcases h.row.2 with ⟨_, h0⟩ | ⟨g, cap, cur, rfl, hb, hg, hc1, hc2, hsz, ht⟩
  · omega
  · refine ⟨g, cap, rfl, ?_⟩
    have e := hv
    rw [← ht, List.getElem?_take_of_lt (by omega)] at e
    have : cur[i]? = some v := by simpa using e
    simp [World.cell?, hg, this]

set_option maxRecDepth 100000 in
set_option maxHeartbeats 1000000 in
theorem kept_c {w : World} {wb : Nat} {m0 m1 r0 r1 a0 a1 ov : Value} {vs : List Value} (hw : w.heap[wb]? = some (.cells #[m0, m1, r0, r1, a0, a1, ov] 39 (0, 0))) (h : OutAt w ov vs) (hlen : vs.length ≤ 100000) :
    Calls Try.prog 17 #[.pointer (some ⟨wb, 0, none⟩)] w fun e w' => e = .returned (.bool true) ∧ w' = w := by
  have H : Hid (OutAt w ov vs) := h
  have c6 : w.cell? ⟨wb, 6, none⟩ = some ov := by simp [World.cell?, hw]
  obtain ⟨q, cap, rfl⟩ := h.slice
  clear h hw
  go_enter Try.func17, Try.ntmps17
  go_wp2
  go_loopw [3] (fun i wr => ∃ k : Nat, k ≤ vs.length ∧ i = .int .i64 k ∧ wr = w) (fun i _ => vs.length - (intOf i).toNat)
  case atStart => exact ⟨0, Nat.zero_le _, rfl, rfl⟩
  case round =>
    obtain ⟨k, hk, rfl, rfl⟩ := hrel
    by_cases hlt : k < vs.length
    · obtain ⟨g, c, e, hc⟩ := H.out.cell (List.getElem?_eq_getElem hlt)
      obtain ⟨n, hn, hown⟩ := H.out.lists k _ (List.getElem?_eq_getElem hlt)
      cases e
      generalize vs[k] = v at hc hown
      obtain ⟨q2, cap2, rfl⟩ := hown.slice
      have O : Hid (OwnI wr 0 (.slice q2 (marked k n).length cap2) (marked k n)) := hown
      have hml : (marked k n).length = n := by simp [marked]
      rw [hml] at hc O
      clear hown hml
      have i0 : (0 : Int) ≤ (k : Int) := by omega
      have i1 : (k : Int) < (vs.length : Int) := by omega
      go_wp2
      go_loopw [4] (fun i wx => ∃ j : Nat, j ≤ n ∧ i = .int .i64 j ∧ wx = wr) (fun i _ => n - (intOf i).toNat)
      case atStart => exact ⟨0, Nat.zero_le _, rfl, rfl⟩
      case round =>
        rename_i wr0 _
        obtain ⟨j, hj, rfl, rfl⟩ := hrel
        by_cases hjn : j < n
        · have hx : (marked k n)[j]? = some (-9 - (k : Int)) := by simp [marked, hjn]
          obtain ⟨g2, c2, e2, _, _, hc2⟩ := O.out.cell hx
          simp [marked] at e2
          obtain ⟨rfl, rfl⟩ := e2
          have j0 : (0 : Int) ≤ (j : Int) := by omega
          have j1 : (j : Int) < (n : Int) := by omega
          have hwr : IntKind.i64.wrap (-9 - (k : Int)) = -9 - (k : Int) := by rw [IntKind.wrap_i64]; omega
          go_wp2
          go_roundw
          case rel => exact ⟨j + 1, by omega, by go_num, trivial⟩
          case measure => simp [intOf]; omega
        · have j1 : ¬ ((j : Int) < (n : Int)) := by omega
          go_wp2
          go_roundw
          case rel => exact ⟨k + 1, by omega, by go_num, trivial⟩
          case measure => simp [intOf]; omega
    · have i1 : ¬ ((k : Int) < (vs.length : Int)) := by omega
      go_wp2
      go_ret
      exact ⟨rfl, rfl⟩
end Go.Proofs.Ytofiidfnjgoenaa
