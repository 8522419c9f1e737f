/-
  The law TableFull, walked.
-/
import Derived.Test.YtmfljfedpdipiaaLits
namespace Go.Proofs.Ytmfljfedpdipiaa
open Go Go.RowKit

def pk (c : Int) (n : Int) : Int := (if c < 0 then -(c + 1) else c).tmod n
theorem pk_range {c : Int} {n : Nat} (hn : 0 < n) : 0 ≤ pk c n ∧ pk c n < n := by
  unfold pk
  have h0 : 0 ≤ (if c < 0 then -(c + 1) else c) := by split <;> omega
  rw [Int.tmod_eq_emod_of_nonneg h0]
  exact ⟨Int.emod_nonneg _ (by omega), Int.emod_lt_of_pos _ (by omega)⟩
theorem wf_range {x : Int} (h : (Lit.int .i64 x).wf = true) : -9223372036854775808 ≤ x ∧ x ≤ 9223372036854775807 := by
  simp [Lit.wf, IntKind.min, IntKind.max, IntKind.signed, IntKind.bits] at h
  omega
set_option maxHeartbeats 1000000 in
theorem pick_c (c : Int) (n : Nat) (hn : 0 < n) (hs : n ≤ 2000000) (hc : (Lit.int .i64 c).wf = true) (w : World) :
    Calls Try.prog 6 #[.int .i64 c, .int .i64 n] w fun e w' => e = .returned (.int .i64 (pk c n)) ∧ w' = w := by
  have hr := wf_range hc
  have hq := pk_range (c := c) hn
  have hz : ¬ ((n : Int) = 0) := by omega
  by_cases h0 : c < 0
  · have e1 : IntKind.i64.wrap (c + 1) = c + 1 := by rw [IntKind.wrap_i64]; omega
    have e2 : IntKind.i64.wrap (-(c + 1)) = -(c + 1) := by rw [IntKind.wrap_i64]; omega
    have e4 : pk c n = (-(c + 1)).tmod n := by unfold pk; rw [if_pos h0]
    have e3 : IntKind.i64.wrap ((-(c + 1)).tmod n) = (-(c + 1)).tmod n := by rw [← e4, IntKind.wrap_i64]; omega
    have HE : Hid _ := e4
    clear e4 hq
    go_enter Try.func6, Try.ntmps6
    go_wp2
    go_ret
    exact ⟨by rw [HE.out, Int.neg_tmod]; rfl, rfl⟩
  · have e4 : pk c n = c.tmod n := by unfold pk; rw [if_neg h0]
    have e3 : IntKind.i64.wrap (c.tmod n) = c.tmod n := by rw [← e4, IntKind.wrap_i64]; omega
    have HE : Hid _ := e4
    clear e4 hq
    go_enter Try.func6, Try.ntmps6
    go_wp2
    go_ret
    exact ⟨by rw [HE.out, Int.tmod_eq_emod_of_nonneg h0]; rfl, rfl⟩
theorem pick_i (c : Int) (n : Int) (hn : 0 < n) (hs : n ≤ 2000000) (hc : (Lit.int .i64 c).wf = true) (w : World) :
    Calls Try.prog 6 #[.int .i64 c, .int .i64 n] w fun e w' => e = .returned (.int .i64 (pk c n)) ∧ w' = w := by
  obtain ⟨m, rfl⟩ : ∃ m : Nat, n = m := ⟨n.toNat, by omega⟩
  exact pick_c c m (by omega) (by omega) hc w
theorem pick_nat (c : Int) (n : Int) (hn : 0 < n) : ∃ r : Nat, (r : Int) < n ∧ pk c n = r := by
  obtain ⟨m, rfl⟩ : ∃ m : Nat, n = m := ⟨n.toNat, by omega⟩
  have h := pk_range (c := c) (n := m) (by omega)
  exact ⟨(pk c m).toNat, by omega, by omega⟩

theorem TS.mono {base base' : Nat} {w : World} {b W M c n : Nat} {m : List Int → Option Int} (h : TS base w b W M c n m) (hb : base' ≤ base) : TS base' w b W M c n m := by
  obtain ⟨pb, P, h1, h2, h3, h4, h5⟩ := h.ex
  exact ⟨⟨pb, P, h1, h2, h3, Nat.le_trans hb h4, h5⟩, Nat.le_trans hb h.hb⟩

/-- What the first i keys hold. -/
def fm : Nat → List Int → Option Int
  | 0 => m0
  | i + 1 => upd (fm i) [(i : Int)] (some (-(i : Int)))
theorem fm_far : ∀ (i : Nat) (x : Int), ¬ (0 ≤ x ∧ x < i) → fm i [x] = none
  | 0, _, _ => rfl
  | i + 1, x, h => by
    show upd (fm i) [(i : Int)] (some (-(i : Int))) [x] = none
    unfold upd
    rw [if_neg (by simp; omega)]
    exact fm_far i x (by omega)
theorem fm_in : ∀ (i j : Nat), j < i → fm i [(j : Int)] = some (-(j : Int))
  | i + 1, j, h => by
    show upd (fm i) [(i : Int)] (some (-(i : Int))) [(j : Int)] = _
    unfold upd
    by_cases e : j = i
    · subst e; rw [if_pos rfl]
    · rw [if_neg (by simp; omega)]
      exact fm_in i j (by omega)
theorem upd_same (m : List Int → Option Int) (k : List Int) (x : Option Int) : upd m k x k = x := if_pos rfl
theorem upd_other {m : List Int → Option Int} {k k' : List Int} (x : Option Int) (h : k' ≠ k) : upd m k x k' = m k' := if_neg h

end Go.Proofs.Ytmfljfedpdipiaa
