/-
  The document's Has, Count, Top; the law ClassesAsk.
-/
import Derived.Test.YtfihhliiecdnaaaLent
import Derived.Test.YtfihhliiecdnaaaExamples
namespace Go.Proofs.Ytfihhliiecdnaaa
open Go Go.RowKit
attribute [local go_sem] ext_cell

theorem rtop_c (m : Bool) (w : World) : Calls Try.prog 36 #[.bool m] w fun e w' => e = .returned (.int .i64 (top m)) ∧ w' = w := by
  cases m with
  | true =>
    go_enter Try.func36, Try.ntmps36
    go_wp2
    go_ret
    exact ⟨rfl, rfl⟩
  | false =>
    go_enter Try.func36, Try.ntmps36
    go_wp2
    go_ret
    exact ⟨rfl, rfl⟩
set_option maxRecDepth 100000 in
set_option maxHeartbeats 1000000 in
theorem rhas_c {w : World} {v : Value} {L : List (Int × Int)} {c : Int} (h : ArgR w v L) :
    Calls Try.prog 34 #[v, .int .i64 c] w fun e w' => e = .returned (.bool (hasB L c)) ∧ Below w.heap.size w w' := by
  obtain ⟨q, cap, rfl, hlen, -, hcells⟩ := h.slice
  have HC : Hid (∀ (i : Nat) (r : Int × Int), L[i]? = some r → ∃ g off, q = some ⟨g, off, none⟩ ∧ g < w.heap.size ∧ w.cell? ⟨g, off + 2 * i, none⟩ = some (.int .i64 r.1) ∧ w.cell? ⟨g, off + 2 * i + 1, none⟩ = some (.int .i64 r.2)) := hcells
  clear hcells h
  unfold maxLen at hlen
  go_enter Try.func34, Try.ntmps34
  go_wp2
  go_loopw [5] (fun i wr => ∃ k : Nat, k ≤ L.length ∧ i = .int .i64 k ∧ hasB (L.take k) c = false ∧ Below w.heap.size w wr) (fun i _ => L.length - (intOf i).toNat)
  case atStart => exact ⟨0, Nat.zero_le _, rfl, rfl, Below.refl _ _⟩
  case round =>
    obtain ⟨k, hk, rfl, hno, hbl⟩ := hrel
    have HB : Hid (Below w.heap.size w wr) := hbl
    have HN : Hid (hasB (L.take k) c = false) := hno
    clear hbl hno
    by_cases hlt : k < L.length
    · obtain ⟨r, hr⟩ : ∃ r, L[k]? = some r := ⟨_, List.getElem?_eq_getElem hlt⟩
      obtain ⟨g, off, rfl, hg, x1, x2⟩ := HC.out k r hr
      have d1 := (HB.out.cell (p := ⟨g, off + 2 * k, none⟩) hg).trans x1
      have d2 := (HB.out.cell (p := ⟨g, off + 2 * k + 1, none⟩) hg).trans x2
      rw [Nat.mul_comm] at d1 d2
      have HR : Hid (L[k]? = some r) := hr
      have i0 : (0 : Int) ≤ (k : Int) := by omega
      have i1 : (k : Int) < (L.length : Int) := by omega
      clear x1 x2 hr
      obtain ⟨lo, hi⟩ := r
      dsimp only at d1 d2
      by_cases h1 : lo ≤ c
      · by_cases h2 : c ≤ hi
        · have F : Hid (hasB L c = true) := hasB_found HR.out h1 h2
          have e1 : decide (lo ≤ c) = true := decide_eq_true h1
          have e2 : decide (c ≤ hi) = true := decide_eq_true h2
          go_wp2
          go_ret
          exact ⟨by rw [F.out]; rfl, HB.out⟩
        · have E : Hid ((decide (lo ≤ c) && decide (c ≤ hi)) = false) := hide (by simp [h2])
          have e1 : decide (lo ≤ c) = true := decide_eq_true h1
          have e2 : decide (c ≤ hi) = false := decide_eq_false h2
          go_wp2
          go_roundw
          case rel => exact ⟨k + 1, by omega, by go_num, by rw [hasB_next HR.out, HN.out]; exact E.out, HB.out⟩
          case measure => simp [intOf]; omega
      · have E : Hid ((decide (lo ≤ c) && decide (c ≤ hi)) = false) := hide (by simp [h1])
        have e1 : decide (lo ≤ c) = false := decide_eq_false h1
        go_wp2
        go_roundw
        case rel => exact ⟨k + 1, by omega, by go_num, by rw [hasB_next HR.out, HN.out]; exact E.out, HB.out⟩
        case measure => simp [intOf]; omega
    · have i1 : ¬ (k : Int) < (L.length : Int) := by omega
      have E : Hid (hasB L c = false) := hide (by have := HN.out; rwa [List.take_of_length_le (by omega)] at this)
      go_wp2
      go_ret
      exact ⟨by rw [E.out]; rfl, HB.out⟩

set_option maxRecDepth 100000 in
set_option maxHeartbeats 1000000 in
theorem rcount_c {w : World} {v : Value} {L : List (Int × Int)} (h : ArgR w v L) (hF : Fit L) (hl : L.length + 1 ≤ 8796093022208) :
    Calls Try.prog 35 #[v] w fun e w' => ∃ C, IsC C (In L) ∧ e = .returned (.int .i64 (cntM C)) ∧ Below w.heap.size w w' := by
  have H : Hid (ArgR w v L ∧ Fit L) := ⟨h, hF⟩
  clear h hF
  go_enter Try.func35, Try.ntmps35
  go_wp2_with (go_at_call 48; refine (rclass_c H.out.1 H.out.2 hl).mono ?_; rintro e w5 ⟨v5, C, rfl, h1, h2, h3, h4⟩; obtain ⟨q, cap, rfl⟩ := h1.shape; have X5 : Hid (RR w.heap.size w5 (.slice q C.length cap) C ∧ IsC C (In L) ∧ C.length ≤ L.length ∧ Below w.heap.size w w5) := ⟨h1, h2, h3, h4⟩; clear h1 h2 h3 h4)
  rename World => W1
  have hcl := X5.out.2.2.1
  have HC : Hid (∀ (i : Nat) (r : Int × Int), C[i]? = some r → ∃ g off, q = some ⟨g, off, none⟩ ∧ g < W1.heap.size ∧ W1.cell? ⟨g, off + 2 * i, none⟩ = some (.int .i64 r.1) ∧ W1.cell? ⟨g, off + 2 * i + 1, none⟩ = some (.int .i64 r.2)) := by
    obtain ⟨q', cap', e, -, -, hc⟩ := X5.out.1.arg.slice
    cases e
    exact hc
  go_loopw [4, 5] (fun n i wr => ∃ k : Nat, k ≤ C.length ∧ i = .int .i64 k ∧ n = .int .i64 (cntR (C.take k)) ∧ cntR (C.take k) ≤ 4611686018427387903 ∧ Below W1.heap.size W1 wr) (fun _ i _ => C.length - (intOf i).toNat)
  case atStart => exact ⟨0, Nat.zero_le _, rfl, rfl, by simp [cntR], Below.refl _ _⟩
  case round =>
    obtain ⟨k, hk, rfl, rfl, hle, hb⟩ := hrel
    have B : Hid (Below W1.heap.size W1 wr) := hb
    clear hb
    have h0 := (cntR_take X5.out.2.1.cls k).1
    by_cases hlt : k < C.length
    · obtain ⟨r, hr⟩ : ∃ r, C[k]? = some r := ⟨_, List.getElem?_eq_getElem hlt⟩
      obtain ⟨g, off, rfl, hg, x1, x2⟩ := HC.out k _ hr
      have d1 := (B.out.cell (p := ⟨g, off + 2 * k, none⟩) hg).trans x1
      have d2 := (B.out.cell (p := ⟨g, off + 2 * k + 1, none⟩) hg).trans x2
      rw [Nat.mul_comm] at d1 d2
      have sg : g < wr.heap.size := Nat.lt_of_lt_of_le hg B.out.size
      have NX : Hid (cntR (C.take (k + 1)) = cntR (C.take k) + (r.2 - r.1 + 1)) := cntR_next hr
      have LE : Hid (cntR (C.take (k + 1)) ≤ cntR C) := (cntR_take X5.out.2.1.cls (k + 1)).2
      have hrm := List.mem_of_getElem? hr
      have hs := X5.out.2.1.cls.some r hrm
      have hf := X5.out.2.1.fit r hrm
      obtain ⟨lo, hi⟩ := r
      dsimp only at d1 d2 hs hf NX
      clear x1 x2 hr hrm
      generalize cntR (C.take k) = N at *
      obtain ⟨M, hM⟩ : ∃ M, hi - lo = M := ⟨_, rfl⟩
      have hM0 : 0 ≤ M ∧ M ≤ 18446744073709551615 := by omega
      obtain ⟨U1, hU1⟩ : ∃ U1, IntKind.wrap .u64 hi = U1 := ⟨_, rfl⟩
      obtain ⟨U2, hU2⟩ : ∃ U2, IntKind.wrap .u64 lo = U2 := ⟨_, rfl⟩
      have wsub : IntKind.wrap .u64 (U1 - U2) = M := by rw [← hU1, ← hU2, wrap_u, wrap_u, wrap_u, ← hM]; omega
      have i0 : (0 : Int) ≤ (k : Int) := by omega
      have i1 : (k : Int) < (C.length : Int) := by omega
      have NX1 : Hid (cntR (C.take (k + 1)) = N + (M + 1)) := hide (by rw [NX.out]; omega)
      by_cases hbig : 4611686018427387903 ≤ M
      · have R : Hid (cntM C = 4611686018427387903) := hide (by unfold cntM; have := LE.out; rw [NX1.out] at this; omega)
        have e1 : decide (4611686018427387903 ≤ M) = true := decide_eq_true hbig
        clear hM hf hs
        go_wp2
        refine wp_region_ext (by kernel_rfl) (by kernel_rfl) ?_
        repeat (go_big_quiet_step (first | exact rfl))
        refine wpQuiet_nil ?_
        intro w7 hw7
        have B7 : Hid (Below W1.heap.size W1 w7) := chain B.out (ext_of hw7) (Nat.le_refl _)
        clear hw7
        go_wp2
        go_ret
        exact ⟨C, X5.out.2.1, by rw [R.out]; rfl, chain X5.out.2.2.2 B7.out (Nat.le_refl _)⟩
      · have e1 : decide (4611686018427387903 ≤ M) = false := decide_eq_false hbig
        have wm : IntKind.wrap .i64 M = M := by rw [IntKind.wrap_i64]; omega
        have ws1 : IntKind.wrap .i64 (4611686018427387903 - M) = 4611686018427387903 - M := by rw [IntKind.wrap_i64]; omega
        have ws2 : IntKind.wrap .i64 (4611686018427387903 - M - 1) = 4611686018427387903 - M - 1 := by rw [IntKind.wrap_i64]; omega
        by_cases hq : 4611686018427387903 - M - 1 < N
        · have R : Hid (cntM C = 4611686018427387903) := hide (by unfold cntM; have := LE.out; rw [NX1.out] at this; omega)
          have e2 : decide (4611686018427387903 - M - 1 < N) = true := decide_eq_true hq
          clear hM hf hs
          go_wp2
          refine wp_region_ext (by kernel_rfl) (by kernel_rfl) ?_
          repeat (go_big_quiet_step (first | exact rfl))
          refine wpQuiet_nil ?_
          intro w7 hw7
          have B7 : Hid (Below W1.heap.size W1 w7) := chain B.out (ext_of hw7) (Nat.le_refl _)
          clear hw7
          go_wp2
          go_ret
          exact ⟨C, X5.out.2.1, by rw [R.out]; rfl, chain X5.out.2.2.2 B7.out (Nat.le_refl _)⟩
        · have e2 : decide (4611686018427387903 - M - 1 < N) = false := decide_eq_false hq
          have wa : IntKind.wrap .i64 (N + M) = N + M := by rw [IntKind.wrap_i64]; omega
          have wb : IntKind.wrap .i64 (N + M + 1) = N + M + 1 := by rw [IntKind.wrap_i64]; omega
          clear hM hf hs
          go_wp2
          refine wp_region_ext (by kernel_rfl) (by kernel_rfl) ?_
          repeat (go_big_quiet_step (first | exact rfl))
          refine wpQuiet_nil ?_
          intro w7 hw7
          have B7 : Hid (Below W1.heap.size W1 w7) := chain B.out (ext_of hw7) (Nat.le_refl _)
          clear hw7
          go_wp2
          go_roundw
          case rel => exact ⟨k + 1, by omega, by go_num, by rw [NX1.out, ← Int.add_assoc], by rw [NX1.out]; omega, B7.out⟩
          case measure => simp [intOf]; omega
    · have i1 : ¬ (k : Int) < (C.length : Int) := by omega
      have E : Hid (C.take k = C) := hide (List.take_of_length_le (by omega))
      rw [E.out] at hle h0 ⊢
      have R : Hid (cntM C = cntR C) := hide (by unfold cntM; omega)
      generalize cntR C = N at *
      go_wp2
      go_ret
      exact ⟨C, X5.out.2.1, by rw [R.out]; rfl, chain X5.out.2.2.2 B.out (Nat.le_refl _)⟩

set_option maxRecDepth 100000 in
set_option maxHeartbeats 2000000 in
theorem law_ask {w : World} {v : Value} {L : List (Int × Int)} {c : Int} {m : Bool} (h : ArgR w v L) (hF : Fit L) (hl : L.length ≤ 8796093021952) :
    Calls Try.prog 8 #[v, .int .i64 c, .bool m] w fun e w' => e = .returned (.bool true) ∧ Below w.heap.size w w' := by
  obtain ⟨q, cap, e, -, -, -⟩ := h.slice
  subst e
  have H : Hid (ArgR w (.slice q L.length cap) L ∧ Fit L) := ⟨h, hF⟩
  clear h hF
  have i0 : (0 : Int) ≤ (L.length : Int) := by omega
  have i2 : (L.length : Int) ≤ (L.length : Int) + 1 := by omega
  have hm : L.length + 1 ≤ maxLen := by unfold maxLen; omega
  have HM : Hid (L.length + 1 ≤ maxLen) := hm
  clear hm
  obtain ⟨x, hx⟩ : ∃ x, hasB L c = x := ⟨_, rfl⟩
  have HX : Hid (hasB L c = x) := hx
  obtain ⟨t, ht⟩ : ∃ t, top m = t := ⟨_, rfl⟩
  have HT : Hid (top m = t) := ht
  clear hx ht
  have bx : (x == x) = true := by simp
  go_enter Try.func8, Try.ntmps8
  go_wp2_with first
    | (go_at_call 9; refine (examples_c _).mono ?_; rintro e w1 ⟨rfl, hB⟩; have B1 : Hid (Below w.heap.size w w1) := hB; clear hB)
    | (go_at_call 22; refine (lent_c (H.out.1.kept B1.out) hl).mono ?_; rintro e w2 ⟨rfl, h1, hB⟩; have X2 : Hid (XAt w2 w1.heap.size L) := h1; have B2 : Hid (Below w1.heap.size w1 w2) := hB; clear h1 hB)
    | (go_at_call 10; refine (has_c (X2.out.arg HM.out)).mono ?_; rw [HX.out]; rintro e w3 ⟨rfl, hB⟩; have B3 : Hid (Below w2.heap.size w2 w3) := hB; clear hB)
    | (go_at_call 21; refine (count_c ((X2.out.kept B3.out).arg HM.out) H.out.2 (by omega)).mono ?_; rintro e w4 ⟨C, h1, rfl, hB⟩; obtain ⟨n, hn⟩ : ∃ n, cntM C = n := ⟨_, rfl⟩; have XC : Hid (IsC C (In L) ∧ cntM C = n) := ⟨h1, hn⟩; rw [hn]; have B4 : Hid (Below w3.heap.size w3 w4) := hB; clear h1 hn hB)
    | (go_at_call 29; refine (still_c ((X2.out.kept B3.out).kept B4.out) ((((H.out.1.kept B1.out).kept B2.out).kept B3.out).kept B4.out) hl).mono ?_; rintro e w5 ⟨rfl, hB⟩; have B5 : Hid (Below w4.heap.size w4 w5) := hB; clear hB)
    | (go_at_call 34; refine (rhas_c (((((H.out.1.kept B1.out).kept B2.out).kept B3.out).kept B4.out).kept B5.out)).mono ?_; rw [HX.out]; rintro e w6 ⟨rfl, hB⟩; have B6 : Hid (Below w5.heap.size w5 w6) := hB; clear hB)
    | (go_at_call 35; refine (rcount_c ((((((H.out.1.kept B1.out).kept B2.out).kept B3.out).kept B4.out).kept B5.out).kept B6.out) H.out.2 (by omega)).mono ?_; rintro e w7 ⟨C', h1, h2, hB⟩; have eC : C' = C := h1.one XC.out.1 (fun _ => Iff.rfl); rw [eC, XC.out.2] at h2; subst h2; have B7 : Hid (Below w6.heap.size w6 w7) := hB; clear h1 eC hB)
    | (go_at_call 11; refine (top_c _ _).mono ?_; rw [HT.out]; rintro e w9 ⟨rfl, h9⟩; subst w9)
    | (go_at_call 36; refine (rtop_c _ _).mono ?_; rw [HT.out]; rintro e w9 ⟨rfl, h9⟩; subst w9)
  go_ret
  refine ⟨?_, chain (chain (chain (chain (chain (chain B1.out B2.out (Nat.le_refl _)) B3.out (Nat.le_refl _)) B4.out (Nat.le_refl _)) B5.out (Nat.le_refl _)) B6.out (Nat.le_refl _)) B7.out (Nat.le_refl _)⟩
  first | rfl | simp
end Go.Proofs.Ytfihhliiecdnaaa
