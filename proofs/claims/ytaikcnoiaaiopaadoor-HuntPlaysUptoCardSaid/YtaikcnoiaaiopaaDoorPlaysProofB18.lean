/-
  Parts of the proof.
-/
import Derived.Test.YtaikcnoiaaiopaaDoorPlaysProofB4
import Derived.Test.YtaikcnoiaaiopaaDoorPlaysProofB5
import Derived.Test.YtaikcnoiaaiopaaDoorPlaysProofB14
set_option linter.unusedSimpArgs false
namespace Go.Proofs.YtaikcnoiaaiopaaDoor
open Go Go.RowKit
attribute [local go_sem] z1_idx0 z1_idx1 z1_idx2 z1_idx3 z1_u64_signed z1_ext_cell
def z1_snext (s : z1_S) (f : Int) : Option Nat := (List.range 256).find? fun n => decide (f ≤ (n : Int)) && s.getLsbD n
def z1_nextV (s : z1_S) (f : Int) : Int := match z1_snext s f with | some n => (n : Int) | none => 0
def z1_nextB (s : z1_S) (f : Int) : Bool := (z1_snext s f).isSome
theorem z1_bit_less (a b : z1_S) (n : Nat) : (z1_sless a b).getLsbD n = (a.getLsbD n && !b.getLsbD n) := by
  unfold z1_sless
  by_cases h : n < 256
  · simp [h]
  · have : a.getLsbD n = false := BitVec.getLsbD_of_ge _ _ (by omega)
    simp [this]
theorem z1_bit_word (s : z1_S) (i n : Nat) (hn : n < 64) : (s.extractLsb' (64 * i) 64).getLsbD n = s.getLsbD (64 * i + n) := by
  rw [BitVec.getLsbD_extractLsb']; simp [hn]
theorem z1_find_least {p : Nat → Bool} {N k : Nat} (hk : k < N) (hp : p k = true) (hl : ∀ j, j < k → p j = false) : (List.range N).find? p = some k := by
  rw [List.find?_range_eq_some]
  exact ⟨hp, by simpa using hk, fun j hj => by simp [hl j hj]⟩
theorem z1_word_zero (s : z1_S) (i : Nat) (h : z1_wd s i = 0) (n : Nat) (hn : n < 64) : s.getLsbD (64 * i + n) = false := by
  rw [← z1_bit_word s i n hn]
  have e : s.extractLsb' (64 * i) 64 = 0#64 := BitVec.eq_of_toNat_eq (by unfold z1_wd at h; rw [BitVec.toNat_ofNat]; omega)
  rw [e]; simp
theorem z1_next_hit (s : z1_S) (f : Int) (i : Nat) (hi : i < 4) (h0 : ∀ j, j < i → z1_wd (z1_sless s (z1_sbelow f)) j = 0) (h1 : z1_wd (z1_sless s (z1_sbelow f)) i ≠ 0) :
    z1_snext s f = some (64 * i + Lib.ctz 64 (z1_wd (z1_sless s (z1_sbelow f)) i).toNat) := by
  obtain ⟨t, ht⟩ : ∃ t, t = z1_sless s (z1_sbelow f) := ⟨_, rfl⟩
  rw [← ht] at h0 h1 ⊢
  have hx : (z1_wd t i).toNat = (t.extractLsb' (64 * i) 64).toNat := by unfold z1_wd; simp only [Int.toNat_natCast]
  rw [hx]
  have hne : (t.extractLsb' (64 * i) 64).toNat ≠ 0 := fun h => h1 (by unfold z1_wd; omega)
  obtain ⟨z1_b1, z1_b2⟩ := z1_tz_bits _ hne
  have hk : Lib.ctz 64 (t.extractLsb' (64 * i) 64).toNat < 64 := (Lib.lowest_bit 64 _ hne (BitVec.isLt _)).2
  generalize Lib.ctz 64 (t.extractLsb' (64 * i) 64).toNat = k at *
  have tb : ∀ n : Nat, n < 256 → (decide (f ≤ (n : Int)) && s.getLsbD n) = t.getLsbD n := fun n hn => by
    rw [ht, z1_bit_less, z1_bit_below]; by_cases h : f ≤ (n : Int) <;> simp [h, hn] <;> omega
  refine z1_find_least (by omega) ?_ ?_
  · rw [tb _ (by omega), ← z1_bit_word t i k hk]; exact z1_b1
  · intro j hj
    rw [tb j (by omega)]
    by_cases hji : j / 64 = i
    · have : j = 64 * i + j % 64 := by omega
      rw [this, ← z1_bit_word t i _ (by omega)]
      exact z1_b2 _ (by omega)
    · have : j = 64 * (j / 64) + j % 64 := by omega
      rw [this]
      exact z1_word_zero t _ (h0 _ (by omega)) _ (by omega)
theorem z1_next_miss (s : z1_S) (f : Int) (h0 : ∀ j, j < 4 → z1_wd (z1_sless s (z1_sbelow f)) j = 0) : z1_snext s f = none := by
  unfold z1_snext
  rw [List.find?_eq_none]
  intro n hn
  have hn' : n < 256 := by simpa using hn
  have : (decide (f ≤ (n : Int)) && s.getLsbD n) = (z1_sless s (z1_sbelow f)).getLsbD n := by
    rw [z1_bit_less, z1_bit_below]; by_cases h : f ≤ (n : Int) <;> simp [h, hn'] <;> omega
  rw [this, show n = 64 * (n / 64) + n % 64 by omega, z1_word_zero _ _ (h0 _ (by omega)) _ (by omega)]
  simp
theorem z1_next_hitV (s : z1_S) (f : Int) (i : Nat) (hi : i < 4) (h0 : ∀ j, j < i → z1_wd (z1_sless s (z1_sbelow f)) j = 0) (h1 : z1_wd (z1_sless s (z1_sbelow f)) i ≠ 0) :
    z1_nextV s f = 64 * (i : Int) + z1_tzI (z1_wd (z1_sless s (z1_sbelow f)) i) ∧ z1_nextB s f = true := by
  unfold z1_nextV z1_nextB z1_tzI
  rw [z1_next_hit s f i hi h0 h1]
  simp
set_option maxHeartbeats 2000000 in
theorem z1_next_any (s : z1_S) (f : Int) (w : World) (hT : z1_Tab w) :
    Calls Tryd.prog 42 #[.agg #[.int .u64 (z1_wd (s) 0), .int .u64 (z1_wd (s) 1), .int .u64 (z1_wd (s) 2), .int .u64 (z1_wd (s) 3)], .int .i64 f] w fun e w' => e = .returned (.tuple #[.int .i64 (z1_nextV s f), .bool (z1_nextB s f)]) ∧ Below w.heap.size w w' := by
  have HT : Hid (z1_Tab w) := hT
  clear hT
  go_enter Tryd.func42, Tryd.ntmps42
  go_wp2
  refine z1_wp_region_ext (by kernel_rfl) (by kernel_rfl) ?_
  repeat (go_big_quiet_step (first | exact rfl | (go_at_call 51; exact z1_ext_call (z1_below_any _ _)) | (go_at_call 50; exact z1_ext_call (z1_less_any _ _ _))))
  refine wpQuiet_nil ?_
  rintro _ ⟨x, rfl⟩
  have hb : Below w.heap.size w x.val := ((Below.refl _ _).alloc (Nat.le_refl _) _).trans (x.2.mono (by simp))
  obtain ⟨w1, hw1⟩ : ∃ w1, x.val = w1 := ⟨_, rfl⟩
  rw [hw1] at hb ⊢
  have HB : Hid (Below w.heap.size w w1) := hb
  have H1 : Hid (z1_Tab w1) := HT.out.below hb
  clear hb hw1 x HT
  obtain ⟨T, hT'⟩ : ∃ T, z1_sless s (z1_sbelow f) = T := ⟨_, rfl⟩
  have HE : Hid (z1_sless s (z1_sbelow f) = T) := hT'
  simp only [hT']
  clear hT'
  have hz : ∀ i, z1_wd T i = 0 → (z1_wd T i != 0) = false := fun i h => by simp [h]
  have hn : ∀ i, ¬ z1_wd T i = 0 → (z1_wd T i != 0) = true ∧ (0 ≤ z1_wd T i ∧ z1_wd T i < 18446744073709551616) ∧ 0 ≤ z1_tzI (z1_wd T i) ∧ z1_tzI (z1_wd T i) < 64 := fun i h => ⟨by simp [h], z1_wd_range T i, z1_tzI_range _ h (z1_wd_range T i).1 (z1_wd_range T i).2⟩
  have HZ : Hid (∀ i, z1_wd T i = 0 → (z1_wd T i != 0) = false) := hz
  have HN : Hid (∀ i, ¬ z1_wd T i = 0 → (z1_wd T i != 0) = true ∧ (0 ≤ z1_wd T i ∧ z1_wd T i < 18446744073709551616) ∧ 0 ≤ z1_tzI (z1_wd T i) ∧ z1_tzI (z1_wd T i) < 64) := hn
  clear hz hn
  by_cases g0 : z1_wd T 0 = 0
  case neg =>
    obtain ⟨k0, ⟨p0, q0⟩, t0, u0⟩ := HN.out 0 g0
    have G0 : Hid (¬ z1_wd T 0 = 0) := g0
    clear g0
    go_wp2
    refine z1_wp_loop_unr 5 ?_
    refine z1_unr_succ ?_
    go_wp2_with (go_at_call 52; refine (z1_tz_any _ _ k0 p0 q0 H1.out).mono ?_; rintro e w' ⟨rfl, rfl⟩)
    go_ret2
    have hh := z1_next_hitV s f 0 (by decide) (fun j hj => by omega) (by rw [HE.out]; exact G0.out)
    rw [HE.out] at hh
    rw [hh.1, hh.2]
    exact ⟨by simp, HB.out⟩
  have k0 := HZ.out 0 g0
  have G0 : Hid (z1_wd T 0 = 0) := g0
  clear g0
  by_cases g1 : z1_wd T 1 = 0
  case neg =>
    obtain ⟨k1, ⟨p0, q0⟩, t0, u0⟩ := HN.out 1 g1
    have G1 : Hid (¬ z1_wd T 1 = 0) := g1
    clear g1
    go_wp2
    refine z1_wp_loop_unr 5 ?_
    refine z1_unr_succ ?_
    go_wp2
    refine z1_unr_succ ?_
    go_wp2_with (go_at_call 52; refine (z1_tz_any _ _ k1 p0 q0 H1.out).mono ?_; rintro e w' ⟨rfl, rfl⟩)
    go_ret2
    have hh := z1_next_hitV s f 1 (by decide) (fun j hj => by rw [HE.out]; obtain rfl : j = 0 := (by omega); exact G0.out) (by rw [HE.out]; exact G1.out)
    rw [HE.out] at hh
    rw [hh.1, hh.2]
    exact ⟨by simp, HB.out⟩
  have k1 := HZ.out 1 g1
  have G1 : Hid (z1_wd T 1 = 0) := g1
  clear g1
  by_cases g2 : z1_wd T 2 = 0
  case neg =>
    obtain ⟨k2, ⟨p0, q0⟩, t0, u0⟩ := HN.out 2 g2
    have G2 : Hid (¬ z1_wd T 2 = 0) := g2
    clear g2
    go_wp2
    refine z1_wp_loop_unr 5 ?_
    refine z1_unr_succ ?_
    go_wp2
    refine z1_unr_succ ?_
    go_wp2
    refine z1_unr_succ ?_
    go_wp2_with (go_at_call 52; refine (z1_tz_any _ _ k2 p0 q0 H1.out).mono ?_; rintro e w' ⟨rfl, rfl⟩)
    go_ret2
    have hh := z1_next_hitV s f 2 (by decide) (fun j hj => by
      rw [HE.out]
      match j, hj with
      | 0, _ => exact G0.out
      | 1, _ => exact G1.out) (by rw [HE.out]; exact G2.out)
    rw [HE.out] at hh
    rw [hh.1, hh.2]
    exact ⟨by simp, HB.out⟩
  have k2 := HZ.out 2 g2
  have G2 : Hid (z1_wd T 2 = 0) := g2
  clear g2
  by_cases g3 : z1_wd T 3 = 0
  case neg =>
    obtain ⟨k3, ⟨p0, q0⟩, t0, u0⟩ := HN.out 3 g3
    have G3 : Hid (¬ z1_wd T 3 = 0) := g3
    clear g3
    go_wp2
    refine z1_wp_loop_unr 5 ?_
    refine z1_unr_succ ?_
    go_wp2
    refine z1_unr_succ ?_
    go_wp2
    refine z1_unr_succ ?_
    go_wp2
    refine z1_unr_succ ?_
    go_wp2_with (go_at_call 52; refine (z1_tz_any _ _ k3 p0 q0 H1.out).mono ?_; rintro e w' ⟨rfl, rfl⟩)
    go_ret2
    have hh := z1_next_hitV s f 3 (by decide) (fun j hj => by
      rw [HE.out]
      match j, hj with
      | 0, _ => exact G0.out
      | 1, _ => exact G1.out
      | 2, _ => exact G2.out) (by rw [HE.out]; exact G3.out)
    rw [HE.out] at hh
    rw [hh.1, hh.2]
    exact ⟨by simp, HB.out⟩
  have k3 := HZ.out 3 g3
  have G3 : Hid (z1_wd T 3 = 0) := g3
  clear g3
  go_wp2
  refine z1_wp_loop_unr 5 ?_
  refine z1_unr_succ ?_
  go_wp2
  refine z1_unr_succ ?_
  go_wp2
  refine z1_unr_succ ?_
  go_wp2
  refine z1_unr_succ ?_
  go_wp2
  refine z1_unr_succ ?_
  go_wp2
  go_ret2
  have hh := z1_next_miss s f (fun j hj => by
    rw [HE.out]
    match j, hj with
    | 0, _ => exact G0.out
    | 1, _ => exact G1.out
    | 2, _ => exact G2.out
    | 3, _ => exact G3.out)
  exact ⟨by simp [z1_nextV, z1_nextB, hh], HB.out⟩
end Go.Proofs.YtaikcnoiaaiopaaDoor
namespace Go.Proofs.YtaikcnoiaaiopaaDoor
open Go Go.RowKit
abbrev z1_B8 := { x : Int // 0 ≤ x ∧ x ≤ 255 }
theorem z1_b8_of {n : Nat} (h : n < 256) : 0 ≤ (n : Int) ∧ (n : Int) ≤ 255 := by omega
def z1_elems (s : z1_S) : List z1_B8 := (List.range 256).filterMap fun n => if h : n < 256 ∧ s.getLsbD n = true then some ⟨(n : Int), z1_b8_of h.1⟩ else none
def z1_fr (pre : List z1_B8) : Int := match pre.getLast? with | none => 0 | some b => b.1 + 1
theorem z1_mem_elems (s : z1_S) (x : z1_B8) : x ∈ z1_elems s ↔ s.getLsbD x.1.toNat = true := by
  unfold z1_elems
  rw [List.mem_filterMap]
  constructor
  · rintro ⟨n, hn, h⟩
    split at h
    · rename_i g
      cases h
      simpa using g.2
    · cases h
  · intro h
    obtain ⟨v, h0, h1⟩ := x
    refine ⟨v.toNat, by simp; omega, ?_⟩
    rw [dif_pos ⟨by omega, h⟩]
    simp only [Option.some.injEq, Subtype.mk.injEq]
    omega
theorem z1_elems_sorted (s : z1_S) : (z1_elems s).Pairwise (fun a b => a.1 < b.1) := by
  unfold z1_elems
  refine List.Pairwise.filterMap _ ?_ List.pairwise_lt_range
  intro a a' hlt b hb b' hb'
  split at hb
  · cases hb
    split at hb'
    · cases hb'; show (a : Int) < (a' : Int); omega
    · cases hb'
  · cases hb
theorem z1_fr_nil : z1_fr [] = 0 := rfl
theorem z1_fr_snoc (pre : List z1_B8) (x : z1_B8) : z1_fr (pre ++ [x]) = x.1 + 1 := by simp [z1_fr]
theorem z1_lt_fr {pre : List z1_B8} (hs : pre.Pairwise (fun a b => a.1 < b.1)) {y : z1_B8} (hy : y ∈ pre) : y.1 < z1_fr pre := by
  rcases List.eq_nil_or_concat pre with rfl | ⟨l, b, rfl⟩
  · cases hy
  · rw [List.concat_eq_append] at *
    rw [z1_fr_snoc]
    rw [List.pairwise_append] at hs
    rcases List.mem_append.1 hy with h | h
    · have := hs.2.2 y h b (by simp); omega
    · have : y = b := by simpa using h
      subst this; omega
theorem z1_fr_bounds (pre : List z1_B8) : 0 ≤ z1_fr pre ∧ z1_fr pre ≤ 256 := by
  rcases List.eq_nil_or_concat pre with rfl | ⟨l, b, rfl⟩
  · simp [z1_fr_nil]
  · rw [List.concat_eq_append, z1_fr_snoc]; have := b.2; omega
theorem z1_elems_next (s : z1_S) (pre : List z1_B8) (x : z1_B8) (rest : List z1_B8) (h : z1_elems s = pre ++ x :: rest) : z1_snext s (z1_fr pre) = some x.1.toNat := by
  have hso := z1_elems_sorted s
  rw [h, List.pairwise_append, List.pairwise_cons] at hso
  obtain ⟨h1, ⟨h2, _⟩, h3⟩ := hso
  have hx := x.2
  refine z1_find_least (by omega) ?_ ?_
  · have hm : s.getLsbD x.1.toNat = true := (z1_mem_elems s x).1 (by rw [h]; simp)
    rw [hm, Bool.and_true, decide_eq_true_eq]
    rcases List.eq_nil_or_concat pre with rfl | ⟨l, b, rfl⟩
    · rw [z1_fr_nil]; omega
    · rw [List.concat_eq_append, z1_fr_snoc]
      have := h3 b (by simp) x (by simp)
      omega
  · intro j hj
    rw [Bool.and_eq_false_iff]
    by_cases hf : z1_fr pre ≤ (j : Int)
    · right
      rw [Bool.eq_false_iff]
      intro hb
      have hm : (⟨(j : Int), z1_b8_of (by omega)⟩ : z1_B8) ∈ z1_elems s := (z1_mem_elems s _).2 (by simpa using hb)
      rw [h] at hm
      rcases List.mem_append.1 hm with hm | hm
      · have := z1_lt_fr h1 hm; simp at this; omega
      · rcases List.mem_cons.1 hm with hm | hm
        · have := congrArg Subtype.val hm; simp at this; omega
        · have := h2 _ hm; simp at this; omega
    · left; simpa using hf
theorem z1_elems_done (s : z1_S) : z1_snext s (z1_fr (z1_elems s)) = none := by
  unfold z1_snext
  rw [List.find?_eq_none]
  intro n hn hb
  have hn' : n < 256 := by simpa using hn
  simp at hb
  have hm : (⟨(n : Int), z1_b8_of hn'⟩ : z1_B8) ∈ z1_elems s := (z1_mem_elems s _).2 (by simpa using hb.2)
  have := z1_lt_fr (z1_elems_sorted s) hm
  simp at this
  omega
theorem z1_next_some (s : z1_S) (pre : List z1_B8) (x : z1_B8) (rest : List z1_B8) (h : z1_elems s = pre ++ x :: rest) : z1_nextV s (z1_fr pre) = x.1 ∧ z1_nextB s (z1_fr pre) = true := by
  have hx := x.2
  unfold z1_nextV z1_nextB
  rw [z1_elems_next s pre x rest h]
  refine ⟨?_, rfl⟩
  show ((x.1.toNat : Nat) : Int) = x.1
  omega
theorem z1_next_none (s : z1_S) : z1_nextV s (z1_fr (z1_elems s)) = 0 ∧ z1_nextB s (z1_fr (z1_elems s)) = false := by
  unfold z1_nextV z1_nextB
  rw [z1_elems_done s]
  exact ⟨rfl, rfl⟩
theorem z1_elems_length (s : z1_S) : (z1_elems s).length ≤ 256 := by
  unfold z1_elems
  refine Nat.le_trans (List.length_filterMap_le _ _) ?_
  simp
end Go.Proofs.YtaikcnoiaaiopaaDoor
