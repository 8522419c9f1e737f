/-
  Parts of the proof.
-/
import Derived.Test.YtaikcnoiaaiopaaDoorPlaysProofB12
set_option linter.unusedSimpArgs false
namespace Go.Proofs.YtaikcnoiaaiopaaDoor
open Go Go.RowKit Go.Shelf
attribute [local go_sem] Oper.semAt_some
def ArgW (W : World) (v : Value) (ws : List ByteArray) : Prop :=
  (∃ p cap, v = .slice p 0 cap ∧ ws = []) ∨ ∃ g off cap, v = .slice (some ⟨g, off, none⟩) ws.length cap ∧ g < W.heap.size ∧ ws.length ≤ cap ∧ cap ≤ maxLen ∧ ∀ (i : Nat) (s : ByteArray), ws[i]? = some s → W.cell? ⟨g, off + i, none⟩ = some (.string s)
theorem ArgW.below {W W' : World} {v : Value} {ws : List ByteArray} {n : Nat} (h : ArgW W v ws) (hb : Below n W W') (hn : W.heap.size ≤ n) : ArgW W' v ws := by
  rcases h with h | ⟨g, off, cap, h1, h2, h3, h4, h5⟩
  · exact .inl h
  · exact .inr ⟨g, off, cap, h1, Nat.lt_of_lt_of_le h2 hb.size, h3, h4, fun i x hx => (hb.cell (p := ⟨g, off + i, none⟩) (by show g < n; omega)).trans (h5 i x hx)⟩
theorem ArgW.slice {W : World} {v : Value} {ws : List ByteArray} (h : ArgW W v ws) : ∃ q cap, v = .slice q ws.length cap ∧ ws.length ≤ maxLen ∧ (ws ≠ [] → ws.length ≤ cap) ∧ ∀ (i : Nat) (s : ByteArray), ws[i]? = some s → ∃ g off, q = some ⟨g, off, none⟩ ∧ g < W.heap.size ∧ W.cell? ⟨g, off + i, none⟩ = some (.string s) := by
  rcases h with ⟨p, cap, rfl, rfl⟩ | ⟨g, off, cap, rfl, hg, hl, hm, hc⟩
  · exact ⟨p, cap, rfl, Nat.zero_le _, fun h => absurd rfl h, fun i x hx => by simp at hx⟩
  · exact ⟨_, cap, rfl, Nat.le_trans hl hm, fun _ => hl, fun i x hx => ⟨g, off, rfl, hg, hc i x hx⟩⟩
def wOk (s : ByteArray) : Bool := decide (1 ≤ s.size) && decide (s.size ≤ 1000)
def mayB (ws : List ByteArray) : Bool := ws.all wOk && decide (0 < ws.length) && decide (ws.length ≤ 100)
theorem empty_iff (s : ByteArray) : (s.toList.isEmpty = true) ↔ s.size = 0 := by
  obtain ⟨a⟩ := s
  rw [ByteArray.toList_mk, List.isEmpty_iff]
  show a.toList = [] ↔ a.size = 0
  rw [← Array.length_toList]
  exact ⟨fun h => by rw [h]; rfl, List.eq_nil_of_length_eq_zero⟩
set_option maxRecDepth 100000 in
set_option maxHeartbeats 2000000 in
theorem mayBe_c {w : World} {v : Value} {ws : List ByteArray} (h : ArgW w v ws) :
    Calls Tryd.prog 22 #[v] w fun e w' => e = .returned (.bool (mayB ws)) ∧ w' = w := by
  obtain ⟨q, cap, rfl, hm, _, hc⟩ := h.slice
  have HC := hide hc
  clear h hc
  unfold maxLen at hm
  go_enter Tryd.func22, Tryd.ntmps22
  go_wp2
  go_loopw [7] (fun i wr => ∃ (k : Nat), i = .int .i64 (k : Int) ∧ k ≤ ws.length ∧ (ws.take k).all wOk = true ∧ wr = w) (fun i _ => ws.length + 1 - (intOf i).toNat)
  case atStart => exact ⟨0, rfl, by omega, by simp, rfl⟩
  case round =>
    obtain ⟨k, rfl, hk, ha, rfl⟩ := hrel
    have HA := hide ha
    clear ha
    by_cases hlt : k < ws.length
    · have i0 : (k : Int) < (ws.length : Int) := by omega
      have i00 : (0 : Int) ≤ (k : Int) := by omega
      obtain ⟨s, hs⟩ : ∃ s, ws[k]? = some s := ⟨_, List.getElem?_eq_getElem hlt⟩
      obtain ⟨g, off, rfl, hg, cx⟩ := HC.out k s hs
      have HT := hide (show ws.take (k + 1) = ws.take k ++ [s] by
        obtain ⟨h1, h2⟩ := List.getElem?_eq_some_iff.1 hs
        rw [List.take_succ_eq_append_getElem h1, h2])
      have HM := hide (List.mem_of_getElem? hs)
      have hnil : ¬ ws = [] := fun e => by rw [e] at hlt; simp at hlt
      clear hs
      have BAD := hide (show wOk s = false → mayB ws = false from fun hb => by
        have : ws.all wOk = false := by rw [Bool.eq_false_iff, ne_eq, List.all_eq_true]; intro q; rw [q s HM.out] at hb; cases hb
        simp [mayB, this])
      by_cases h0 : s.size = 0
      · have e0 : s.toList.isEmpty = true := (empty_iff s).2 h0
        have HB := hide (BAD.out (by simp [wOk, h0]))
        clear h0
        go_wp2
        go_ret
        exact ⟨by rw [HB.out]; rfl, rfl⟩
      · have e0 : s.toList.isEmpty = false := by rw [Bool.eq_false_iff]; intro q; exact h0 ((empty_iff s).1 q)
        by_cases h1 : s.size ≤ 1000
        · have i1 : ¬ (1000 : Int) < (s.size : Int) := by omega
          have HOK := hide (show wOk s = true by simp [wOk]; omega)
          clear h0
          go_wp2
          go_roundw
          case rel => exact ⟨k + 1, by go_num, by omega, by rw [HT.out, List.all_append, HA.out]; simp [HOK.out], by trivial⟩
          case measure => simp [intOf]; omega
        · have i1 : (1000 : Int) < (s.size : Int) := by omega
          have HB := hide (BAD.out (by simp [wOk]; omega))
          clear h0
          go_wp2
          go_ret
          exact ⟨by rw [HB.out]; rfl, rfl⟩
    · have i0 : ¬ (k : Int) < (ws.length : Int) := by omega
      have hke : k = ws.length := by omega
      have HALL := hide (show ws.all wOk = true by have := HA.out; rwa [List.take_of_length_le (by omega)] at this)
      by_cases h0 : 0 < ws.length
      · have j0 : (0 : Int) < (ws.length : Int) := by omega
        by_cases h1 : ws.length ≤ 100
        · have j1 : (ws.length : Int) ≤ 100 := by omega
          have HB := hide (show mayB ws = true by simp only [mayB, HALL.out, Bool.true_and]; simp; omega)
          go_wp2
          go_ret
          exact ⟨by rw [HB.out]; rfl, rfl⟩
        · have j1 : ¬ (ws.length : Int) ≤ 100 := by omega
          have HB := hide (show mayB ws = false by simp [mayB]; omega)
          go_wp2
          go_ret
          exact ⟨by rw [HB.out]; rfl, rfl⟩
      · have j0 : ¬ (0 : Int) < (ws.length : Int) := by omega
        have HB := hide (show mayB ws = false by simp [mayB]; omega)
        go_wp2
        go_ret
        exact ⟨by rw [HB.out]; rfl, rfl⟩
end Go.Proofs.YtaikcnoiaaiopaaDoor
