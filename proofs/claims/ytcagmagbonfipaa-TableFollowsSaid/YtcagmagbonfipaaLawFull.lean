/-
  The law TableFull, walked.
-/
import Derived.Test.YtcagmagbonfipaaLits
namespace Go.Proofs.Ytcagmagbonfipaa
open Go Go.RowKit

def pk (c : Int) (n : Int) : Int := (if c < 0 then -(c + 1) else c).tmod n
theorem pk_range {c : Int} {n : Nat} (hn : 0 < n) : 0 ≤ pk c n ∧ pk c n < n := by
  unfold pk
  have h0 : 0 ≤ (if c < 0 then -(c + 1) else c) := by split <;> omega
  rw [Int.tmod_eq_emod_of_nonneg h0]
  exact ⟨Int.emod_nonneg _ (by omega), Int.emod_lt_of_pos _ (by omega)⟩
theorem wf_range {x : Int} (h : (Lit.int .i64 x).wf = true) : -9223372036854775808 ≤ x ∧ x ≤ 9223372036854775807 := by
  simp [Lit.wf, IntKind.min, IntKind.max, IntKind.signed, IntKind.bits] at h
  omega
set_option maxHeartbeats 1000000 in
theorem pick_c (c : Int) (n : Nat) (hn : 0 < n) (hs : n ≤ 2000000) (hc : (Lit.int .i64 c).wf = true) (w : World) :
    Calls Try.prog 17 #[.int .i64 c, .int .i64 n] w fun e w' => e = .returned (.int .i64 (pk c n)) ∧ w' = w := by
  have hr := wf_range hc
  have hq := pk_range (c := c) hn
  have hz : ¬ ((n : Int) = 0) := by omega
  by_cases h0 : c < 0
  · have e1 : IntKind.i64.wrap (c + 1) = c + 1 := by rw [IntKind.wrap_i64]; omega
    have e2 : IntKind.i64.wrap (-(c + 1)) = -(c + 1) := by rw [IntKind.wrap_i64]; omega
    have e4 : pk c n = (-(c + 1)).tmod n := by unfold pk; rw [if_pos h0]
    have e3 : IntKind.i64.wrap ((-(c + 1)).tmod n) = (-(c + 1)).tmod n := by rw [← e4, IntKind.wrap_i64]; omega
    have HE : Hid _ := e4
    clear e4 hq
    go_enter Try.func17, Try.ntmps17
    go_wp2
    go_ret
    exact ⟨by rw [HE.out, Int.neg_tmod]; rfl, rfl⟩
  · have e4 : pk c n = c.tmod n := by unfold pk; rw [if_neg h0]
    have e3 : IntKind.i64.wrap (c.tmod n) = c.tmod n := by rw [← e4, IntKind.wrap_i64]; omega
    have HE : Hid _ := e4
    clear e4 hq
    go_enter Try.func17, Try.ntmps17
    go_wp2
    go_ret
    exact ⟨by rw [HE.out, Int.tmod_eq_emod_of_nonneg h0]; rfl, rfl⟩
theorem pick_i (c : Int) (n : Int) (hn : 0 < n) (hs : n ≤ 2000000) (hc : (Lit.int .i64 c).wf = true) (w : World) :
    Calls Try.prog 17 #[.int .i64 c, .int .i64 n] w fun e w' => e = .returned (.int .i64 (pk c n)) ∧ w' = w := by
  obtain ⟨m, rfl⟩ : ∃ m : Nat, n = m := ⟨n.toNat, by omega⟩
  exact pick_c c m (by omega) (by omega) hc w
theorem pick_nat (c : Int) (n : Int) (hn : 0 < n) : ∃ r : Nat, (r : Int) < n ∧ pk c n = r := by
  obtain ⟨m, rfl⟩ : ∃ m : Nat, n = m := ⟨n.toNat, by omega⟩
  have h := pk_range (c := c) (n := m) (by omega)
  exact ⟨(pk c m).toNat, by omega, by omega⟩

theorem TS.mono {base base' : Nat} {w : World} {b W M c n : Nat} {m : List Int → Option Int} (h : TS base w b W M c n m) (hb : base' ≤ base) : TS base' w b W M c n m := by
  obtain ⟨pb, P, h1, h2, h3, h4, h5⟩ := h.ex
  exact ⟨⟨pb, P, h1, h2, h3, Nat.le_trans hb h4, h5⟩, Nat.le_trans hb h.hb⟩

/-- What the first i keys hold. -/
def fm : Nat → List Int → Option Int
  | 0 => m0
  | i + 1 => upd (fm i) [(i : Int)] (some (-(i : Int)))
theorem fm_far : ∀ (i : Nat) (x : Int), ¬ (0 ≤ x ∧ x < i) → fm i [x] = none
  | 0, _, _ => rfl
  | i + 1, x, h => by
    show upd (fm i) [(i : Int)] (some (-(i : Int))) [x] = none
    unfold upd
    rw [if_neg (by simp; omega)]
    exact fm_far i x (by omega)
theorem fm_in : ∀ (i j : Nat), j < i → fm i [(j : Int)] = some (-(j : Int))
  | i + 1, j, h => by
    show upd (fm i) [(i : Int)] (some (-(i : Int))) [(j : Int)] = _
    unfold upd
    by_cases e : j = i
    · subst e; rw [if_pos rfl]
    · rw [if_neg (by simp; omega)]
      exact fm_in i j (by omega)
theorem upd_same (m : List Int → Option Int) (k : List Int) (x : Option Int) : upd m k x k = x := if_pos rfl
theorem upd_other {m : List Int → Option Int} {k k' : List Int} (x : Option Int) (h : k' ≠ k) : upd m k x k' = m k' := if_neg h

set_option maxRecDepth 100000 in
set_option maxHeartbeats 4000000 in
theorem law_full (most : Int) (wf0 : (Lit.int .i64 most).wf = true) (drp : Int) (wf1 : (Lit.int .i64 drp).wf = true) (w : World) :
    Calls Try.prog 7 #[.int .i64 most, .int .i64 drp] w fun e w' => e = .returned (.bool true) ∧ Below w.heap.size w w' := by
  obtain ⟨r, hr, hpk⟩ := pick_nat most 300 (by decide)
  have HR : Hid (pk most 300 = r) := hpk
  clear hpk
  have r0 : (0 : Int) ≤ (r : Int) := by omega
  go_enter Try.func7, Try.ntmps7
  go_upto_region 7 with first | (go_at_call 9; (with_reducible refine (known_c _).mono ?_); rintro e w0 ⟨rfl, hb⟩; have B0 : Hid (Below w.heap.size w w0) := hb; clear hb) | (go_at_call 17; (with_reducible refine (pick_i most 300 (by decide) (by decide) wf0 _).mono ?_); rw [HR.out]; rintro e w5 ⟨rfl, h5⟩; subst w5) | (go_at_call 10; (with_reducible refine (new_s 1 r (by decide) (by omega) _).mono ?_); rintro e w1 ⟨b, rfl, hT, hB⟩; have T0 : Hid (TS w.heap.size w1 b 1 r 0 0 (fm 0)) := (hT.mono B0.out.size : TS w.heap.size w1 b 1 r 0 0 (fm 0)); have O0 : Hid (Below w.heap.size w w1) := chain B0.out hB (Nat.le_refl _); clear hT hB)
  go_loopw [8] (fun i wr => ∃ k n : Nat, k ≤ r ∧ i = .int .i64 k ∧ TS w.heap.size wr b 1 r k n (fm k) ∧ Below w.heap.size w wr) (fun i _ => r - (intOf i).toNat)
  case atStart => exact ⟨0, 0, Nat.zero_le _, rfl, T0.out, O0.out⟩
  case round =>
    obtain ⟨k, n, hk, rfl, hT, hB⟩ := hrel
    have T : Hid (TS w.heap.size wr b 1 r k n (fm k)) := hT
    have O : Hid (Below w.heap.size w wr) := hB
    clear hT hB T0 O0
    by_cases hlt : k < r
    · have i0 : (0 : Int) ≤ (k : Int) := by omega
      have i1 : (k : Int) < (r : Int) := by omega
      have N : Hid (fm k [(k : Int)] = none) := fm_far k k (by omega)
      have LT : Hid (k < r) := hlt
      have hne : (((k + 1 : Nat) : Int) != (k : Int) + 1) = false := by simp
      go_wp2_with first | (go_at_call 13; (with_reducible refine (putn1 T.out k (-(k : Int)) N.out LT.out).mono ?_); rintro e w2 ⟨rfl, ⟨n2, hT, _⟩, hO⟩; have T2 : Hid (TS w.heap.size w2 b 1 r (k + 1) n2 (fm (k + 1))) := hT; have O2 : Hid (Below w.heap.size w w2) := O.out.trans hO.below; clear hT hO) | (go_at_call 11; (with_reducible refine (len_s T2.out).mono ?_); rintro e w7 ⟨rfl, h7⟩; subst w7)
      go_roundw
      case rel => exact ⟨k + 1, n2, by omega, by go_num, T2.out, O2.out⟩
      case measure => simp [intOf]; omega
    · obtain rfl : k = r := by omega
      have i1 : ¬ ((k : Int) < (k : Int)) := by omega
      have N : Hid (fm k [(k : Int)] = none) := fm_far k k (by omega)
      have hne0 : ((k : Int) != (k : Int)) = false := by simp
      by_cases hz : k = 0
      · have hb0 : ((k : Int) == 0) = true := by simp [hz]
        clear hz
        go_wp2_with first | (go_at_call 13; (with_reducible refine (putf1 T.out k 1 N.out rfl).mono ?_); rintro e w2 ⟨rfl, hT, hO⟩; have T2 : Hid (TS w.heap.size w2 b 1 k k n (fm k)) := hT; have O2 : Hid (Below w.heap.size w w2) := O.out.trans hO.below; clear hT hO) | (go_at_call 11; (with_reducible refine (len_s T2.out).mono ?_); rintro e w7 ⟨rfl, h7⟩; subst w7)
        go_ret
        exact ⟨rfl, O2.out⟩
      · have hb0 : ((k : Int) == 0) = false := by simp; omega
        have hkp : (0 : Int) < (k : Int) := by omega
        obtain ⟨d, hd, hpd⟩ := pick_nat drp k hkp
        have HD : Hid (pk drp k = d) := hpd
        have hdk : d < k := by omega
        have N1 : Hid (fm k [(d : Int)] = some (-(d : Int))) := fm_in k d hdk
        have N2 : Hid (upd (fm k) [(d : Int)] (some 5) [(d : Int)] = some 5) := upd_same _ _ _
        have hkd : [(k : Int)] ≠ [(d : Int)] := by simp; omega
        have N3 : Hid (upd (upd (fm k) [(d : Int)] (some 5)) [(d : Int)] none [(k : Int)] = none) := (by rw [upd_other _ hkd, upd_other _ hkd]; exact N.out : _ = _)
        have N4 : Hid (upd (upd (upd (fm k) [(d : Int)] (some 5)) [(d : Int)] none) [(k : Int)] (some 6) [(d : Int)] = none) := (by rw [upd_other _ (Ne.symm hkd)]; exact upd_same _ _ _ : _ = _)
        have N5 : Hid (upd (upd (upd (fm k) [(d : Int)] (some 5)) [(d : Int)] none) [(k : Int)] (some 6) [(k : Int)] = some 6) := upd_same _ _ _
        have ND : Hid (dropC k (some 5) + 1 = k) := (by unfold dropC; simp; omega : _ = _)
        have NL : Hid (dropC k (some 5) < k) := (by unfold dropC; simp; omega : _ < _)
        clear hz hpd hkd hdk
        go_wp2_with first | (go_at_call 17; (with_reducible refine (pick_i drp k hkp (by omega) wf1 _).mono ?_); rw [HD.out]; rintro e w5 ⟨rfl, h5⟩; subst w5) | (go_at_call 13; (with_reducible refine (putf1 T6.out d 7 N4.out ND.out).mono ?_); rintro e w7 ⟨rfl, hT, hO⟩; have T7 : Hid (TS w.heap.size w7 b 1 k k n6 (upd (upd (upd (fm k) [(d : Int)] (some 5)) [(d : Int)] none) [(k : Int)] (some 6))) := ND.out ▸ hT; have O7 : Hid (Below w.heap.size w w7) := O6.out.trans hO.below; clear hT hO) | (go_at_call 13; (with_reducible refine (putn1 T5.out k 6 N3.out NL.out).mono ?_); rintro e w6 ⟨rfl, ⟨n6, hT, _⟩, hO⟩; have T6 : Hid (TS w.heap.size w6 b 1 k (dropC k (some 5) + 1) n6 (upd (upd (upd (fm k) [(d : Int)] (some 5)) [(d : Int)] none) [(k : Int)] (some 6))) := hT; have O6 : Hid (Below w.heap.size w w6) := O5.out.trans hO.below; clear hT hO) | (go_at_call 13; (with_reducible refine (puto1 T2.out d 5 N1.out).mono ?_); rintro e w3 ⟨rfl, hT, hO⟩; have T3 : Hid (TS w.heap.size w3 b 1 k k n (upd (fm k) [(d : Int)] (some 5))) := hT; have O3 : Hid (Below w.heap.size w w3) := O2.out.trans hO.below; clear hT hO) | (go_at_call 13; (with_reducible refine (putf1 T.out k 1 N.out rfl).mono ?_); rintro e w2 ⟨rfl, hT, hO⟩; have T2 : Hid (TS w.heap.size w2 b 1 k k n (fm k)) := hT; have O2 : Hid (Below w.heap.size w w2) := O.out.trans hO.below; clear hT hO) | (go_at_call 11; (with_reducible refine (len_s T8.out).mono ?_); rintro e w9 ⟨rfl, h9⟩; subst w9) | (go_at_call 11; (with_reducible refine (len_s T2.out).mono ?_); rintro e w9 ⟨rfl, h9⟩; subst w9) | (go_at_call 12; (with_reducible refine (get1 T7.out k).mono ?_); rw [N5.out]; rintro e w8 ⟨rfl, hB⟩; have T8 : Hid (TS w.heap.size w8 b 1 k k n6 (upd (upd (upd (fm k) [(d : Int)] (some 5)) [(d : Int)] none) [(k : Int)] (some 6))) := T7.out.kept hB; have O8 : Hid (Below w.heap.size w w8) := chain O7.out hB (Nat.le_refl _); clear hB) | (go_at_call 12; (with_reducible refine (get1 T3.out d).mono ?_); rw [N2.out]; rintro e w4 ⟨rfl, hB⟩; have T4 : Hid (TS w.heap.size w4 b 1 k k n (upd (fm k) [(d : Int)] (some 5))) := T3.out.kept hB; have O4 : Hid (Below w.heap.size w w4) := chain O3.out hB (Nat.le_refl _); clear hB) | (go_at_call 21; (with_reducible refine (drop1 T4.out d).mono ?_); rw [N2.out]; rintro e w5 ⟨rfl, hT, hO⟩; have T5 : Hid (TS w.heap.size w5 b 1 k (dropC k (some 5)) n (upd (upd (fm k) [(d : Int)] (some 5)) [(d : Int)] none)) := hT; have O5 : Hid (Below w.heap.size w w5) := O4.out.trans hO.below; clear hT hO)
        go_ret
        exact ⟨rfl, O8.out⟩
end Go.Proofs.Ytcagmagbonfipaa
