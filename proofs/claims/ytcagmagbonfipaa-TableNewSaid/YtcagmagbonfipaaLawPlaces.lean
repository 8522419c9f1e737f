/-
  The law TablePlaces, walked.
-/
import Derived.Test.YtcagmagbonfipaaLawFull
namespace Go.Proofs.Ytcagmagbonfipaa
open Go Go.RowKit

section
variable {base : Nat} {w : World} {b W M c n : Nat} {m : List Int → Option Int}
theorem puts1 (h : TS base w b 1 M c n m) (x z : Int) :
    Calls Try.prog 13 #[.pointer (some ⟨b, 0, none⟩), .slice (some ⟨w.heap.size, 0, none⟩) 1 1, .int .i64 z] (w.alloc (.cells #[.int .i64 x] 3)) fun e w' => ∃ r c' n' m', e = .returned (.int .i64 r) ∧ TS base w' b 1 M c' n' m' ∧ c ≤ c' ∧ c' ≤ c + 1 ∧ (n' = n ∨ c' = c + 1 ∧ n < 2 * (c + 1) ∧ n' = max 16 (2 * n)) ∧ Out base w w' :=
  (put_s (h.alloc _) (lay1 w x) (apart_new h.lt) z).mono fun _ _ ⟨h1, h2, h3⟩ => ⟨_, _, _, _, h1, h2, by unfold putC; split <;> omega, by unfold putC; split <;> omega, by
    unfold putN putC
    split
    · rename_i q
      rw [if_pos ⟨q.1, q.2.1⟩]
      exact .inr ⟨rfl, q.2.2, rfl⟩
    · exact .inl rfl, h3.laid h.base_le⟩
theorem drops1 (h : TS base w b 1 M c n m) (x : Int) :
    Calls Try.prog 21 #[.pointer (some ⟨b, 0, none⟩), .slice (some ⟨w.heap.size, 0, none⟩) 1 1] (w.alloc (.cells #[.int .i64 x] 3)) fun e w' => ∃ r c' m', e = .returned (.bool r) ∧ TS base w' b 1 M c' n m' ∧ c' ≤ c ∧ Out base w w' :=
  (drop1 h x).mono fun _ _ ⟨h1, h2, h3⟩ => ⟨_, _, _, h1, h2, by unfold dropC; split <;> omega, h3⟩
end

set_option maxRecDepth 100000 in
set_option maxHeartbeats 4000000 in
theorem law_places (zs : List Int) (v : Value) (at' : Int) (_ : (Lit.int .i64 at').wf = true) (w : World) (hz : ArgI w v zs) :
    Calls Try.prog 8 #[v, .int .i64 at'] w fun e w' => e = .returned (.bool true) ∧ Below w.heap.size w w' := by
  obtain ⟨q, cap, rfl, hlen, hcell⟩ := hz.slice
  have HC : Hid (∀ (i : Nat) (x : Int), zs[i]? = some x → ∃ g off, q = some ⟨g, off, none⟩ ∧ g < w.heap.size ∧ w.cell? ⟨g, off + i, none⟩ = some (.int .i64 x)) := hcell
  clear hcell hz
  unfold maxLen at hlen
  go_enter Try.func8, Try.ntmps8
  go_upto_region 7 with first | (go_at_call 9; (with_reducible refine (known_c _).mono ?_); rintro e w0 ⟨rfl, hb⟩; have B0 : Hid (Below w.heap.size w w0) := hb; clear hb) | (go_at_call 10; (with_reducible refine (new_s 1 1000000 (by decide) (by decide) _).mono ?_); rintro e w1 ⟨b, rfl, hT, hB⟩; have T0 : Hid (TS w.heap.size w1 b 1 1000000 0 0 m0) := (hT.mono B0.out.size : TS w.heap.size w1 b 1 1000000 0 0 m0); have O0 : Hid (Below w.heap.size w w1) := chain B0.out hB (Nat.le_refl _); clear hT hB)
  go_loopw [8, 9] (fun tv i wr => ∃ (k t c n : Nat) (m : List Int → Option Int), k ≤ zs.length ∧ k ≤ 800 ∧ i = .int .i64 k ∧ tv = .int .i64 t ∧ t ≤ k ∧ c ≤ t ∧ n ≤ max 16 (4 * t) ∧ TS w.heap.size wr b 1 1000000 c n m ∧ Below w.heap.size w wr) (fun _ i _ => 800 - (intOf i).toNat)
  case atStart => exact ⟨0, 0, 0, 0, m0, Nat.zero_le _, Nat.zero_le _, rfl, rfl, Nat.zero_le _, Nat.zero_le _, Nat.zero_le _, T0.out, O0.out⟩
  case round =>
    obtain ⟨k, t, c, n, m, hk, hk8, rfl, rfl, htk, hct, hnt, hT, hB⟩ := hrel
    have T : Hid (TS w.heap.size wr b 1 1000000 c n m) := hT
    have O : Hid (Below w.heap.size w wr) := hB
    clear hT hB T0 O0
    by_cases hgo : k < zs.length ∧ k < 800
    · obtain ⟨hlt, h8⟩ := hgo
      obtain ⟨g, off, rfl, hg, hc⟩ := HC.out k _ (List.getElem?_eq_getElem hlt)
      have hc' := (O.out.cell (p := ⟨g, off + k, none⟩) hg).trans hc
      generalize zs[k] = x at hc'
      clear hc
      have i0 : (0 : Int) ≤ (k : Int) := by omega
      have i1 : (k : Int) < (zs.length : Int) := by omega
      have i3 : (k : Int) < 800 := by omega
      go_upto_region 12 with first | (go_at_call 13; (with_reducible refine (puts1 T.out _ _).mono ?_); rintro e w2 ⟨r2, c2, n2, m2, rfl, hT, hc1, hc2, hn2, hO⟩; have T2 : Hid (TS w.heap.size w2 b 1 1000000 c2 n2 m2) := hT; have O2 : Hid (Below w.heap.size w w2) := O.out.trans hO.below; have R2 : Hid (c2 ≤ k + 1 ∧ c2 ≤ t + 1 ∧ n2 ≤ max 16 (4 * max t c2)) := ⟨by omega, by omega, by omega⟩; clear hT hO hc1 hc2 hn2) | (go_at_call 21; (with_reducible refine (drops1 T.out _).mono ?_); rintro e w2 ⟨r2, c2, m2, rfl, hT, hc2, hO⟩; obtain ⟨n2, hn2⟩ : ∃ n2, n = n2 := ⟨_, rfl⟩; rw [hn2] at hT; have T2 : Hid (TS w.heap.size w2 b 1 1000000 c2 n2 m2) := hT; have O2 : Hid (Below w.heap.size w w2) := O.out.trans hO.below; have R2 : Hid (c2 ≤ k + 1 ∧ c2 ≤ t + 1 ∧ n2 ≤ max 16 (4 * max t c2)) := ⟨by omega, by omega, by omega⟩; clear hT hO hc2 hn2)
      all_goals
        clear T O hct hnt hc'
        by_cases hat : (k : Int) = at'
        · have hb1 : ((k : Int) == at') = true := by simp [hat]
          clear hat
          go_upto_region 17 with first | (go_at_call 23; (with_reducible refine (clear_s T2.out).mono ?_); rintro e w4 ⟨rfl, hT, hO⟩; have T4 : Hid (TS w.heap.size w4 b 1 1000000 0 (clrN n2) m0) := hT; have O4 : Hid (Below w.heap.size w w4) := O2.out.trans hO.below; have R4 : Hid (0 ≤ k + 1 ∧ 0 ≤ 0 ∧ clrN n2 ≤ max 16 (4 * 0)) := ⟨by omega, by omega, by unfold clrN; split <;> omega⟩; clear hT hO) | (go_at_call 11; (with_reducible refine (len_s T4.out).mono ?_); rintro e w7 ⟨rfl, h7⟩; subst w7) | (go_at_call 16; (with_reducible refine (slots_s T4.out).mono ?_); rintro e w7 ⟨rfl, h7⟩; subst w7)
          generalize clrN n2 = n4 at T4 R4 ⊢
          have hpw := T4.out.pow
          have htw := T4.out.two
          have h16 : (n4 : Int) ≤ 16 + 8 * 0 := by have := R4.out; omega
          have hnb : n4 ≤ 7000 := by have := R4.out; omega
          have hct4 : 0 ≤ 0 := R4.out.2.1
          have htk4 : 0 ≤ 801 := by have := R4.out; omega
          have hc2 : 2 * 0 ≤ (n4 : Int) := by omega
          have HPW : Hid (n4 = 0 ∨ Pow2 n4) := hpw
          clear hpw
          go_wp2
          go_loopw [11] (fun i wx => ∃ N : Nat, i = .int .i64 (N : Nat) ∧ N ≤ 7000 ∧ ((n4 = 0 ∧ N = 0) ∨ (n4 ≠ 0 ∧ ∃ j, N = 2 ^ j)) ∧ wx = w4) (fun i _ => (intOf i).toNat)
          case atStart =>
            refine ⟨n4, rfl, hnb, ?_, rfl⟩
            rcases HPW.out with q | ⟨p, _, q⟩
            · exact .inl ⟨q, q⟩
            · exact .inr ⟨by rw [q]; exact Nat.ne_of_gt (Nat.two_pow_pos p), p, q⟩
          case round =>
            obtain ⟨N, rfl, hNb, hN, hwx⟩ := hrel
            subst hwx
            have HN : Hid ((n4 = 0 ∧ N = 0) ∨ (n4 ≠ 0 ∧ ∃ j, N = 2 ^ j)) := hN
            clear hN
            by_cases hN1 : 1 < N
            · have hev : N % 2 = 0 ∧ ((n4 = 0 ∧ N / 2 = 0) ∨ (n4 ≠ 0 ∧ ∃ j, N / 2 = 2 ^ j)) := by
                rcases HN.out with ⟨q1, q2⟩ | ⟨q1, j, q2⟩
                · omega
                · cases j with
                  | zero => simp at q2; omega
                  | succ j =>
                    rw [Nat.pow_succ] at q2
                    exact ⟨by omega, .inr ⟨q1, j, by omega⟩⟩
              have HE : Hid ((n4 = 0 ∧ N / 2 = 0) ∨ (n4 ≠ 0 ∧ ∃ j, N / 2 = 2 ^ j)) := hev.2
              have e1 : ((N : Int) % 2 == 0) = true := by simp; omega
              have e2 : (N : Int) % 2 = 0 := by omega
              have e3 : (1 : Int) < (N : Int) := by omega
              clear hev
              go_wp2
              go_roundw
              case rel => exact ⟨N / 2, by go_num, by omega, HE.out, by first | rfl | trivial⟩
              case measure => simp only [intOf]; omega
            · have e3 : ¬ ((1 : Int) < (N : Int)) := by omega
              have e4 : (N : Int) ≤ 1 := by omega
              have hz : (n4 = 0 ∧ N = 0) ∨ (n4 ≠ 0 ∧ N = 1) := by
                rcases HN.out with q | ⟨q1, j, q2⟩
                · exact .inl q
                · exact .inr ⟨q1, by have := Nat.two_pow_pos j; omega⟩
              rcases hz with ⟨z1, z2⟩ | ⟨z1, z2⟩
              · have f1 : ((n4 : Int) != 0) = false := by simp [z1]
                clear z1 z2 hN1
                go_wp2_with (go_at_call 11; (with_reducible refine (len_s T4.out).mono ?_); rintro e w7 ⟨rfl, h7⟩; subst w7)
                go_roundw
                case rel => exact ⟨k + 1, 0, 0, n4, m0, by omega, by omega, by go_num, rfl, R4.out.1, R4.out.2.1, R4.out.2.2, T4.out, O4.out⟩
                case measure => simp [intOf]; omega
              · have f1 : ((n4 : Int) != 0) = true := by simp; omega
                have f2 : ((N : Int) != 1) = false := by simp [z2]
                clear z1 z2 hN1
                go_wp2_with (go_at_call 11; (with_reducible refine (len_s T4.out).mono ?_); rintro e w7 ⟨rfl, h7⟩; subst w7)
                go_roundw
                case rel => exact ⟨k + 1, 0, 0, n4, m0, by omega, by omega, by go_num, rfl, R4.out.1, R4.out.2.1, R4.out.2.2, T4.out, O4.out⟩
                case measure => simp [intOf]; omega
        · have hb1 : ((k : Int) == at') = false := by simp [hat]
          clear hat
          rcases Nat.lt_or_ge t c2 with htc | htc
          · have j1 : ¬ ((c2 : Int) ≤ (t : Int)) := by omega
            have R4 : Hid (c2 ≤ k + 1 ∧ c2 ≤ c2 ∧ n2 ≤ max 16 (4 * c2)) := (by have := R2.out; omega : c2 ≤ k + 1 ∧ c2 ≤ c2 ∧ n2 ≤ max 16 (4 * c2))
            clear htc
            go_upto_region 17 with first | (go_at_call 11; (with_reducible refine (len_s T2.out).mono ?_); rintro e w7 ⟨rfl, h7⟩; subst w7) | (go_at_call 16; (with_reducible refine (slots_s T2.out).mono ?_); rintro e w7 ⟨rfl, h7⟩; subst w7)
            have hpw := T2.out.pow
            have htw := T2.out.two
            have h16 : (n2 : Int) ≤ 16 + 8 * (c2 : Int) := by have := R4.out; omega
            have hnb : n2 ≤ 7000 := by have := R4.out; omega
            have hct4 : c2 ≤ c2 := R4.out.2.1
            have htk4 : c2 ≤ 801 := by have := R4.out; omega
            have hc2 : 2 * (c2 : Int) ≤ (n2 : Int) := by omega
            have HPW : Hid (n2 = 0 ∨ Pow2 n2) := hpw
            clear hpw
            go_wp2
            go_loopw [11] (fun i wx => ∃ N : Nat, i = .int .i64 (N : Nat) ∧ N ≤ 7000 ∧ ((n2 = 0 ∧ N = 0) ∨ (n2 ≠ 0 ∧ ∃ j, N = 2 ^ j)) ∧ wx = w2) (fun i _ => (intOf i).toNat)
            case atStart =>
              refine ⟨n2, rfl, hnb, ?_, rfl⟩
              rcases HPW.out with q | ⟨p, _, q⟩
              · exact .inl ⟨q, q⟩
              · exact .inr ⟨by rw [q]; exact Nat.ne_of_gt (Nat.two_pow_pos p), p, q⟩
            case round =>
              obtain ⟨N, rfl, hNb, hN, hwx⟩ := hrel
              subst hwx
              have HN : Hid ((n2 = 0 ∧ N = 0) ∨ (n2 ≠ 0 ∧ ∃ j, N = 2 ^ j)) := hN
              clear hN
              by_cases hN1 : 1 < N
              · have hev : N % 2 = 0 ∧ ((n2 = 0 ∧ N / 2 = 0) ∨ (n2 ≠ 0 ∧ ∃ j, N / 2 = 2 ^ j)) := by
                  rcases HN.out with ⟨q1, q2⟩ | ⟨q1, j, q2⟩
                  · omega
                  · cases j with
                    | zero => simp at q2; omega
                    | succ j =>
                      rw [Nat.pow_succ] at q2
                      exact ⟨by omega, .inr ⟨q1, j, by omega⟩⟩
                have HE : Hid ((n2 = 0 ∧ N / 2 = 0) ∨ (n2 ≠ 0 ∧ ∃ j, N / 2 = 2 ^ j)) := hev.2
                have e1 : ((N : Int) % 2 == 0) = true := by simp; omega
                have e2 : (N : Int) % 2 = 0 := by omega
                have e3 : (1 : Int) < (N : Int) := by omega
                clear hev
                go_wp2
                go_roundw
                case rel => exact ⟨N / 2, by go_num, by omega, HE.out, by first | rfl | trivial⟩
                case measure => simp only [intOf]; omega
              · have e3 : ¬ ((1 : Int) < (N : Int)) := by omega
                have e4 : (N : Int) ≤ 1 := by omega
                have hz : (n2 = 0 ∧ N = 0) ∨ (n2 ≠ 0 ∧ N = 1) := by
                  rcases HN.out with q | ⟨q1, j, q2⟩
                  · exact .inl q
                  · exact .inr ⟨q1, by have := Nat.two_pow_pos j; omega⟩
                rcases hz with ⟨z1, z2⟩ | ⟨z1, z2⟩
                · have f1 : ((n2 : Int) != 0) = false := by simp [z1]
                  clear z1 z2 hN1
                  go_wp2_with (go_at_call 11; (with_reducible refine (len_s T2.out).mono ?_); rintro e w7 ⟨rfl, h7⟩; subst w7)
                  go_roundw
                  case rel => exact ⟨k + 1, c2, c2, n2, m2, by omega, by omega, by go_num, rfl, R4.out.1, R4.out.2.1, R4.out.2.2, T2.out, O2.out⟩
                  case measure => simp [intOf]; omega
                · have f1 : ((n2 : Int) != 0) = true := by simp; omega
                  have f2 : ((N : Int) != 1) = false := by simp [z2]
                  clear z1 z2 hN1
                  go_wp2_with (go_at_call 11; (with_reducible refine (len_s T2.out).mono ?_); rintro e w7 ⟨rfl, h7⟩; subst w7)
                  go_roundw
                  case rel => exact ⟨k + 1, c2, c2, n2, m2, by omega, by omega, by go_num, rfl, R4.out.1, R4.out.2.1, R4.out.2.2, T2.out, O2.out⟩
                  case measure => simp [intOf]; omega
          · have j1 : (c2 : Int) ≤ (t : Int) := by omega
            have R4 : Hid (t ≤ k + 1 ∧ c2 ≤ t ∧ n2 ≤ max 16 (4 * t)) := (by have := R2.out; omega : t ≤ k + 1 ∧ c2 ≤ t ∧ n2 ≤ max 16 (4 * t))
            clear htc
            go_upto_region 17 with first | (go_at_call 11; (with_reducible refine (len_s T2.out).mono ?_); rintro e w7 ⟨rfl, h7⟩; subst w7) | (go_at_call 16; (with_reducible refine (slots_s T2.out).mono ?_); rintro e w7 ⟨rfl, h7⟩; subst w7)
            have hpw := T2.out.pow
            have htw := T2.out.two
            have h16 : (n2 : Int) ≤ 16 + 8 * (t : Int) := by have := R4.out; omega
            have hnb : n2 ≤ 7000 := by have := R4.out; omega
            have hct4 : c2 ≤ t := R4.out.2.1
            have htk4 : t ≤ 801 := by have := R4.out; omega
            have hc2 : 2 * (c2 : Int) ≤ (n2 : Int) := by omega
            have HPW : Hid (n2 = 0 ∨ Pow2 n2) := hpw
            clear hpw
            go_wp2
            go_loopw [11] (fun i wx => ∃ N : Nat, i = .int .i64 (N : Nat) ∧ N ≤ 7000 ∧ ((n2 = 0 ∧ N = 0) ∨ (n2 ≠ 0 ∧ ∃ j, N = 2 ^ j)) ∧ wx = w2) (fun i _ => (intOf i).toNat)
            case atStart =>
              refine ⟨n2, rfl, hnb, ?_, rfl⟩
              rcases HPW.out with q | ⟨p, _, q⟩
              · exact .inl ⟨q, q⟩
              · exact .inr ⟨by rw [q]; exact Nat.ne_of_gt (Nat.two_pow_pos p), p, q⟩
            case round =>
              obtain ⟨N, rfl, hNb, hN, hwx⟩ := hrel
              subst hwx
              have HN : Hid ((n2 = 0 ∧ N = 0) ∨ (n2 ≠ 0 ∧ ∃ j, N = 2 ^ j)) := hN
              clear hN
              by_cases hN1 : 1 < N
              · have hev : N % 2 = 0 ∧ ((n2 = 0 ∧ N / 2 = 0) ∨ (n2 ≠ 0 ∧ ∃ j, N / 2 = 2 ^ j)) := by
                  rcases HN.out with ⟨q1, q2⟩ | ⟨q1, j, q2⟩
                  · omega
                  · cases j with
                    | zero => simp at q2; omega
                    | succ j =>
                      rw [Nat.pow_succ] at q2
                      exact ⟨by omega, .inr ⟨q1, j, by omega⟩⟩
                have HE : Hid ((n2 = 0 ∧ N / 2 = 0) ∨ (n2 ≠ 0 ∧ ∃ j, N / 2 = 2 ^ j)) := hev.2
                have e1 : ((N : Int) % 2 == 0) = true := by simp; omega
                have e2 : (N : Int) % 2 = 0 := by omega
                have e3 : (1 : Int) < (N : Int) := by omega
                clear hev
                go_wp2
                go_roundw
                case rel => exact ⟨N / 2, by go_num, by omega, HE.out, by first | rfl | trivial⟩
                case measure => simp only [intOf]; omega
              · have e3 : ¬ ((1 : Int) < (N : Int)) := by omega
                have e4 : (N : Int) ≤ 1 := by omega
                have hz : (n2 = 0 ∧ N = 0) ∨ (n2 ≠ 0 ∧ N = 1) := by
                  rcases HN.out with q | ⟨q1, j, q2⟩
                  · exact .inl q
                  · exact .inr ⟨q1, by have := Nat.two_pow_pos j; omega⟩
                rcases hz with ⟨z1, z2⟩ | ⟨z1, z2⟩
                · have f1 : ((n2 : Int) != 0) = false := by simp [z1]
                  clear z1 z2 hN1
                  go_wp2_with (go_at_call 11; (with_reducible refine (len_s T2.out).mono ?_); rintro e w7 ⟨rfl, h7⟩; subst w7)
                  go_roundw
                  case rel => exact ⟨k + 1, t, c2, n2, m2, by omega, by omega, by go_num, rfl, R4.out.1, R4.out.2.1, R4.out.2.2, T2.out, O2.out⟩
                  case measure => simp [intOf]; omega
                · have f1 : ((n2 : Int) != 0) = true := by simp; omega
                  have f2 : ((N : Int) != 1) = false := by simp [z2]
                  clear z1 z2 hN1
                  go_wp2_with (go_at_call 11; (with_reducible refine (len_s T2.out).mono ?_); rintro e w7 ⟨rfl, h7⟩; subst w7)
                  go_roundw
                  case rel => exact ⟨k + 1, t, c2, n2, m2, by omega, by omega, by go_num, rfl, R4.out.1, R4.out.2.1, R4.out.2.2, T2.out, O2.out⟩
                  case measure => simp [intOf]; omega
    · have hq : ((k : Int) < (zs.length : Int) ∧ ¬ (k : Int) < 800) ∨ ¬ ((k : Int) < (zs.length : Int)) := by omega
      clear hgo
      rcases hq with ⟨j1, j2⟩ | j1
      all_goals
        go_wp2
        go_ret
        exact ⟨rfl, O.out⟩
end Go.Proofs.Ytcagmagbonfipaa
