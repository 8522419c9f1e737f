/-
  Count: how many numbers there are.
-/
import Derived.Test.YtfihhliiecdnaabFold
namespace Go.Proofs.Ytfihhliiecdnaab
open Go Go.RowKit

def cntR (C : List (Int × Int)) : Int := (C.map fun r => r.2 - r.1 + 1).sum
/-- As many as can be told. -/
def cntM (C : List (Int × Int)) : Int := min (cntR C) 4611686018427387903
theorem cntR_append (A B : List (Int × Int)) : cntR (A ++ B) = cntR A + cntR B := by simp [cntR]
theorem cntR_nonneg {C : List (Int × Int)} (h : ∀ r ∈ C, r.1 ≤ r.2) : 0 ≤ cntR C := by
  induction C with
  | nil => simp [cntR]
  | cons r C ih =>
    have := ih fun x hx => h x (List.mem_cons_of_mem _ hx)
    have := h r List.mem_cons_self
    simp only [cntR, List.map_cons, List.sum_cons] at *
    omega
theorem cntR_next {C : List (Int × Int)} {k : Nat} {r : Int × Int} (h : C[k]? = some r) : cntR (C.take (k + 1)) = cntR (C.take k) + (r.2 - r.1 + 1) := by
  obtain ⟨hk, rfl⟩ := List.getElem?_eq_some_iff.1 h
  rw [take_next C k hk, cntR_append]
  simp [cntR]
theorem cntR_take {C : List (Int × Int)} (hC : Cls C) (k : Nat) : 0 ≤ cntR (C.take k) ∧ cntR (C.take k) ≤ cntR C := by
  have e : cntR C = cntR (C.take k) + cntR (C.drop k) := by rw [← cntR_append, List.take_append_drop]
  have h1 := cntR_nonneg (C := C.take k) fun r hr => hC.some r (List.mem_of_mem_take hr)
  have h2 := cntR_nonneg (C := C.drop k) fun r hr => hC.some r (List.mem_of_mem_drop hr)
  omega

theorem wrap_u (x : Int) : IntKind.wrap .u64 x = x % 18446744073709551616 := by
  simp [IntKind.wrap, IntKind.bits, IntKind.signed]

set_option maxRecDepth 100000 in
set_option maxHeartbeats 1000000 in
theorem count_c {w : World} {v : Value} {L : List (Int × Int)} (h : ArgR w v L) (hF : Fit L) (hl : L.length ≤ 8796093022208) :
    Calls Try.prog 14 #[v] w fun e w' => ∃ C, IsC C (In L) ∧ e = .returned (.int .i64 (cntM C)) ∧ Below w.heap.size w w' := by
  have H : Hid (ArgR w v L ∧ Fit L) := ⟨h, hF⟩
  clear h hF
  go_enter Try.func14, Try.ntmps14
  go_wp2_with (go_at_call 18; refine (classOf_c H.out.1 H.out.2 hl).mono ?_; rintro e w5 ⟨v5, C, rfl, h1, h2, h3, h4⟩; obtain ⟨q, cap, rfl⟩ := h1.shape; have X5 : Hid (RR w.heap.size w5 (.slice q C.length cap) C ∧ IsC C (In L) ∧ C.length ≤ L.length ∧ Below w.heap.size w w5) := ⟨h1, h2, h3, h4⟩; clear h1 h2 h3 h4)
  rename World => W1
  have hcl := X5.out.2.2.1
  have HC : Hid (∀ (i : Nat) (r : Int × Int), C[i]? = some r → ∃ g off, q = some ⟨g, off, none⟩ ∧ g < W1.heap.size ∧ W1.cell? ⟨g, off + 2 * i, none⟩ = some (.int .i64 r.1) ∧ W1.cell? ⟨g, off + 2 * i + 1, none⟩ = some (.int .i64 r.2)) := by
    obtain ⟨q', cap', e, -, -, hc⟩ := X5.out.1.arg.slice
    cases e
    exact hc
  go_loopw [3, 10] (fun n i wr => ∃ k : Nat, k ≤ C.length ∧ i = .int .i64 k ∧ n = .int .u64 (cntR (C.take k)) ∧ cntR (C.take k) ≤ 4611686018427387903 ∧ Below W1.heap.size W1 wr) (fun _ i _ => C.length - (intOf i).toNat)
  case atStart => exact ⟨0, Nat.zero_le _, rfl, rfl, by simp [cntR], Below.refl _ _⟩
  case round =>
    obtain ⟨k, hk, rfl, rfl, hle, hb⟩ := hrel
    have B : Hid (Below W1.heap.size W1 wr) := hb
    clear hb
    have h0 := (cntR_take X5.out.2.1.cls k).1
    by_cases hlt : k < C.length
    · obtain ⟨r, hr⟩ : ∃ r, C[k]? = some r := ⟨_, List.getElem?_eq_getElem hlt⟩
      obtain ⟨g, off, rfl, hg, x1, x2⟩ := HC.out k _ hr
      have d1 := (B.out.cell (p := ⟨g, off + 2 * k, none⟩) hg).trans x1
      have d2 := (B.out.cell (p := ⟨g, off + 2 * k + 1, none⟩) hg).trans x2
      rw [Nat.mul_comm] at d1 d2
      have NX : Hid (cntR (C.take (k + 1)) = cntR (C.take k) + (r.2 - r.1 + 1)) := cntR_next hr
      have LE : Hid (cntR (C.take (k + 1)) ≤ cntR C) := (cntR_take X5.out.2.1.cls (k + 1)).2
      have hrm := List.mem_of_getElem? hr
      have hs := X5.out.2.1.cls.some r hrm
      have hf := X5.out.2.1.fit r hrm
      obtain ⟨lo, hi⟩ := r
      dsimp only at d1 d2 hs hf NX
      have BA : Hid (Below W1.heap.size W1 (wr.alloc (.cells #[.int .i64 lo, .int .i64 hi] 33))) := B.out.alloc B.out.size _
      clear x1 x2 hr hrm
      generalize cntR (C.take k) = N at *
      obtain ⟨M, hM⟩ : ∃ M, hi - lo = M := ⟨_, rfl⟩
      have HM : Hid (hi - lo = M) := hM
      have hM0 : 0 ≤ M ∧ M ≤ 18446744073709551615 := by omega
      obtain ⟨U1, hU1⟩ : ∃ U1, IntKind.wrap .u64 hi = U1 := ⟨_, rfl⟩
      obtain ⟨U2, hU2⟩ : ∃ U2, IntKind.wrap .u64 lo = U2 := ⟨_, rfl⟩
      have wsub : IntKind.wrap .u64 (U1 - U2) = M := by rw [← hU1, ← hU2, wrap_u, wrap_u, wrap_u, ← hM]; omega
      have wmx : IntKind.wrap .u64 (4611686018427387903 - N) = 4611686018427387903 - N := by rw [wrap_u]; omega
      have i0 : (0 : Int) ≤ (k : Int) := by omega
      have i1 : (k : Int) < (C.length : Int) := by omega
      by_cases hbig : 4611686018427387903 - N ≤ M
      · have R : Hid (cntM C = 4611686018427387903) := hide (by unfold cntM; have := LE.out; rw [NX.out] at this; omega)
        clear hM hf hs
        go_wp2
        go_ret
        exact ⟨C, X5.out.2.1, by rw [R.out]; rfl, chain X5.out.2.2.2 BA.out (Nat.le_refl _)⟩
      · have wm1 : IntKind.wrap .u64 (M + 1) = M + 1 := by rw [wrap_u]; omega
        have wnn : IntKind.wrap .u64 (N + (M + 1)) = N + (M + 1) := by rw [wrap_u]; omega
        have NX2 : Hid (cntR (C.take (k + 1)) = N + (M + 1)) := hide (by rw [NX.out]; omega)
        clear hM hf hs
        go_wp2
        go_roundw
        case rel => exact ⟨k + 1, by omega, by go_num, by rw [NX2.out], by rw [NX2.out]; omega, BA.out⟩
        case measure => simp [intOf]; omega
    · have i1 : ¬ (k : Int) < (C.length : Int) := by omega
      have E : Hid (C.take k = C) := hide (List.take_of_length_le (by omega))
      rw [E.out] at hle h0 ⊢
      have R : Hid (cntM C = cntR C) := hide (by unfold cntM; omega)
      generalize cntR C = N at *
      have wn : IntKind.wrap .i64 N = N := by rw [IntKind.wrap_i64]; omega
      go_wp2
      go_ret
      exact ⟨C, X5.out.2.1, by rw [R.out]; rfl, chain X5.out.2.2.2 B.out (Nat.le_refl _)⟩
end Go.Proofs.Ytfihhliiecdnaab
