/-
  Parts of the proof.
-/
import Derived.Test.YtaikcnoiaaiopaaDoorPlaysProofB6
import Derived.Laws.Bits64b
import Derived.Test.YtaikcnoiaaiopaaDoorPlaysProofB18
set_option linter.unusedSimpArgs false
namespace Go.Proofs.YtaikcnoiaaiopaaDoor
def z1_pcN : Nat → Nat → Nat
  | 0, _ => 0
  | k + 1, n => n % 2 + z1_pcN k (n / 2)
theorem z1_pcN_add : ∀ (m k n : Nat), z1_pcN (m + k) n = z1_pcN m (n % 2 ^ m) + z1_pcN k (n / 2 ^ m)
  | 0, k, n => by simp [z1_pcN]
  | m + 1, k, n => by
    have e : m + 1 + k = (m + k) + 1 := by omega
    rw [e, z1_pcN, z1_pcN_add m k (n / 2), z1_pcN]
    have h1 : n % 2 ^ (m + 1) % 2 = n % 2 := by
      rw [Nat.pow_succ]; exact Nat.mod_mul_left_mod n (2 ^ m) 2
    have h2 : n % 2 ^ (m + 1) / 2 = n / 2 % 2 ^ m := by
      rw [Nat.pow_succ, Nat.mul_comm (2 ^ m) 2]; exact Nat.mod_mul_right_div_self n 2 (2 ^ m)
    have h3 : n / 2 ^ (m + 1) = n / 2 / 2 ^ m := by
      rw [Nat.pow_succ, Nat.mul_comm (2 ^ m) 2, Nat.div_div_eq_div_mul]
    rw [h1, h2, h3]; omega
theorem z1_pcN_count : ∀ (k n : Nat), z1_pcN k n = ((List.range k).filter fun i => n.testBit i).length
  | 0, n => by simp [z1_pcN]
  | k + 1, n => by
    rw [z1_pcN, z1_pcN_count k (n / 2), List.range_succ_eq_map, List.filter_cons, List.filter_map]
    have e : (fun i => n.testBit i) ∘ Nat.succ = fun i => (n / 2).testBit i := by
      funext i; simp [Nat.testBit_succ]
    rw [e]
    have h0 : n.testBit 0 = decide (n % 2 = 1) := Nat.testBit_zero n
    by_cases h : n % 2 = 1
    · simp [h0, h]; omega
    · have : n % 2 = 0 := by omega
      simp [h0, this]
theorem z1_and_split (k a c n p : Nat) (ha : a < 2 ^ k) (hc : c < 2 ^ k) : (a + 2 ^ k * n) &&& (c + 2 ^ k * p) = (a &&& c) + 2 ^ k * (n &&& p) := by
  have hac : a &&& c < 2 ^ k := Nat.and_lt_two_pow _ hc
  apply Nat.eq_of_testBit_eq
  intro i
  rw [Nat.testBit_and, Nat.add_comm a, Nat.add_comm c, Nat.add_comm (a &&& c), Nat.testBit_two_pow_mul_add _ ha, Nat.testBit_two_pow_mul_add _ hc, Nat.testBit_two_pow_mul_add _ hac]
  split
  · rw [Nat.testBit_and]
  · rw [Nat.testBit_and]
theorem z1_and_split8 (a c n p : Nat) (ha : a < 256) (hc : c < 256) : (a + 256 * n) &&& (c + 256 * p) = (a &&& c) + 256 * (n &&& p) := z1_and_split 8 a c n p ha hc
def z1_val (bs : List Nat) : Nat := bs.foldr (fun b acc => b + 256 * acc) 0
theorem z1_val_cons (b : Nat) (bs : List Nat) : z1_val (b :: bs) = b + 256 * z1_val bs := rfl
def z1_s1 (b : Nat) : Nat := (b / 2 &&& 85) + (b &&& 85)
def z1_s2 (b : Nat) : Nat := (b / 4 &&& 51) + (b &&& 51)
def z1_s3 (b : Nat) : Nat := (b / 16 + b) &&& 15
theorem z1_low1 : ∀ b, b < 256 → ∀ t, t < 2 → (b / 2 + 128 * t) &&& 85 = b / 2 &&& 85 := by decide +kernel
theorem z1_low2 : ∀ b, b < 256 → ∀ t, t < 4 → (b / 4 + 64 * t) &&& 51 = b / 4 &&& 51 := by decide +kernel
theorem z1_low3 : ∀ b, b < 69 → ∀ t, t < 5 → (b / 16 + b + 16 * t) &&& 15 = z1_s3 b := by decide +kernel
theorem z1_b1 : ∀ b, b < 256 → z1_s1 b < 256 := by decide +kernel
theorem z1_b2 : ∀ b, b < 256 → z1_s2 (z1_s1 b) < 69 ∧ z1_s2 (z1_s1 b) % 16 < 5 := by decide +kernel
theorem z1_b3 : ∀ b, b < 256 → z1_s3 (z1_s2 (z1_s1 b)) = z1_pcN 8 b ∧ z1_pcN 8 b ≤ 8 := by decide +kernel
theorem z1_step1 : ∀ bs : List Nat, (∀ b ∈ bs, b < 256) → (z1_val bs / 2 &&& z1_val (List.replicate bs.length 85)) + (z1_val bs &&& z1_val (List.replicate bs.length 85)) = z1_val (bs.map z1_s1)
  | [], _ => by simp [z1_val]
  | b :: bs, h => by
    have hb := h b (by simp)
    have ih := z1_step1 bs (fun c hc => h c (by simp [hc]))
    rw [List.length_cons, List.replicate_succ, List.map_cons, z1_val_cons, z1_val_cons, z1_val_cons, ← ih]
    have e : (b + 256 * z1_val bs) / 2 = (b / 2 + 128 * (z1_val bs % 2)) + 256 * (z1_val bs / 2) := by omega
    rw [e, z1_and_split8 _ 85 _ _ (by omega) (by decide), z1_and_split8 _ 85 _ _ hb (by decide), z1_low1 b hb _ (Nat.mod_lt _ (by decide))]
    unfold z1_s1; omega
theorem z1_step2 : ∀ bs : List Nat, (∀ b ∈ bs, b < 256) → (z1_val bs / 4 &&& z1_val (List.replicate bs.length 51)) + (z1_val bs &&& z1_val (List.replicate bs.length 51)) = z1_val (bs.map z1_s2)
  | [], _ => by simp [z1_val]
  | b :: bs, h => by
    have hb := h b (by simp)
    have ih := z1_step2 bs (fun c hc => h c (by simp [hc]))
    rw [List.length_cons, List.replicate_succ, List.map_cons, z1_val_cons, z1_val_cons, z1_val_cons, ← ih]
    have e : (b + 256 * z1_val bs) / 4 = (b / 4 + 64 * (z1_val bs % 4)) + 256 * (z1_val bs / 4) := by omega
    rw [e, z1_and_split8 _ 51 _ _ (by omega) (by decide), z1_and_split8 _ 51 _ _ hb (by decide), z1_low2 b hb _ (Nat.mod_lt _ (by decide))]
    unfold z1_s2; omega
theorem z1_step3 : ∀ bs : List Nat, (∀ b ∈ bs, b < 69 ∧ b % 16 < 5) → (z1_val bs / 16 + z1_val bs) &&& z1_val (List.replicate bs.length 15) = z1_val (bs.map z1_s3)
  | [], _ => by simp [z1_val]
  | b :: bs, h => by
    have hb := (h b (by simp)).1
    have ih := z1_step3 bs (fun c hc => h c (by simp [hc]))
    rw [List.length_cons, List.replicate_succ, List.map_cons, z1_val_cons, z1_val_cons, z1_val_cons, ← ih]
    have ht : z1_val bs % 16 < 5 := by
      match bs, h with
      | [], _ => simp [z1_val]
      | c :: cs, h => rw [z1_val_cons]; have := (h c (by simp)).2; omega
    have e : (b + 256 * z1_val bs) / 16 + (b + 256 * z1_val bs) = (b / 16 + b + 16 * (z1_val bs % 16)) + 256 * (z1_val bs / 16 + z1_val bs) := by omega
    rw [e, z1_and_split8 _ 15 _ _ (by omega) (by decide), z1_low3 b hb _ ht]
def z1_bytesOf (x : Nat) : List Nat := [x % 256, x / 256 % 256, x / 65536 % 256, x / 16777216 % 256, x / 4294967296 % 256, x / 1099511627776 % 256, x / 281474976710656 % 256, x / 72057594037927936 % 256]
theorem z1_val_bytes (x : Nat) (h : x < 18446744073709551616) : z1_val (z1_bytesOf x) = x := by
  simp only [z1_bytesOf, z1_val, List.foldr]; omega
theorem z1_bytes_lt (x : Nat) : ∀ b ∈ z1_bytesOf x, b < 256 := by
  intro b hb
  simp only [z1_bytesOf, List.mem_cons, List.not_mem_nil, or_false] at hb
  omega
def z1_x1 (x : Nat) : Nat := (x / 2 &&& 6148914691236517205) + (x &&& 6148914691236517205)
def z1_x2 (x : Nat) : Nat := (x / 4 &&& 3689348814741910323) + (x &&& 3689348814741910323)
def z1_x3 (x : Nat) : Nat := (x / 16 + x) &&& 1085102592571150095
theorem z1_m1 : (6148914691236517205 : Nat) = z1_val (List.replicate 8 85) := by decide
theorem z1_m2 : (3689348814741910323 : Nat) = z1_val (List.replicate 8 51) := by decide
theorem z1_m3 : (1085102592571150095 : Nat) = z1_val (List.replicate 8 15) := by decide
theorem z1_x1_eq (x : Nat) (h : x < 18446744073709551616) : z1_x1 x = z1_val ((z1_bytesOf x).map z1_s1) := by
  have := z1_step1 (z1_bytesOf x) (z1_bytes_lt x)
  rw [z1_val_bytes x h] at this
  unfold z1_x1; rw [z1_m1]; exact this
theorem z1_x2_eq (x : Nat) : z1_x2 (z1_val ((z1_bytesOf x).map z1_s1)) = z1_val (((z1_bytesOf x).map z1_s1).map z1_s2) := by
  have := z1_step2 ((z1_bytesOf x).map z1_s1) (by
    intro b hb; rw [List.mem_map] at hb; obtain ⟨c, hc, rfl⟩ := hb; exact z1_b1 c (z1_bytes_lt x c hc))
  unfold z1_x2; rw [z1_m2]; exact this
theorem z1_x3_eq (x : Nat) : z1_x3 (z1_val (((z1_bytesOf x).map z1_s1).map z1_s2)) = z1_val ((((z1_bytesOf x).map z1_s1).map z1_s2).map z1_s3) := by
  have := z1_step3 (((z1_bytesOf x).map z1_s1).map z1_s2) (by
    intro b hb; rw [List.mem_map] at hb; obtain ⟨c, hc, rfl⟩ := hb
    rw [List.mem_map] at hc; obtain ⟨d, hd, rfl⟩ := hc; exact z1_b2 d (z1_bytes_lt x d hd))
  unfold z1_x3; rw [z1_m3]; exact this
theorem z1_s3_pc (x : Nat) : (((z1_bytesOf x).map z1_s1).map z1_s2).map z1_s3 = (z1_bytesOf x).map (z1_pcN 8) := by
  rw [List.map_map, List.map_map]
  refine List.map_congr_left fun b hb => ?_
  exact (z1_b3 b (z1_bytes_lt x b hb)).1
theorem z1_pc_bytes (x : Nat) : z1_pcN 64 x = ((z1_bytesOf x).map (z1_pcN 8)).sum := by
  have a : ∀ k n, z1_pcN (8 + k) n = z1_pcN 8 (n % 256) + z1_pcN k (n / 256) := fun k n => z1_pcN_add 8 k n
  rw [show (64 : Nat) = 8 + (8 + (8 + (8 + (8 + (8 + (8 + (8 + 0))))))) from rfl, a, a, a, a, a, a, a, a]
  simp only [Nat.div_div_eq_div_mul, z1_bytesOf, List.map, List.sum, List.foldr, z1_pcN, Nat.reduceMul]
theorem z1_val_lt : ∀ bs : List Nat, (∀ b ∈ bs, b < 256) → z1_val bs < 256 ^ bs.length
  | [], _ => by simp [z1_val]
  | b :: bs, h => by
    have h1 := z1_val_lt bs (fun c hc => h c (by simp [hc]))
    have h2 := h b (by simp)
    rw [z1_val_cons, List.length_cons, Nat.pow_succ]
    generalize 256 ^ bs.length = m at *
    omega
theorem z1_val_div (a : Nat) (bs : List Nat) (h : a < 256) : z1_val (a :: bs) / 256 = z1_val bs := by
  rw [z1_val_cons]
  generalize z1_val bs = m
  omega
theorem z1_val_div2 (a b : Nat) (bs : List Nat) (h : a < 256) (h' : b < 256) : z1_val (a :: b :: bs) / 65536 = z1_val bs := by
  rw [show (65536 : Nat) = 256 * 256 from rfl, ← Nat.div_div_eq_div_mul, z1_val_div _ _ h, z1_val_div _ _ h']
theorem z1_val_div4 (a b c d : Nat) (bs : List Nat) (h : a < 256) (h' : b < 256) (h2 : c < 256) (h3 : d < 256) : z1_val (a :: b :: c :: d :: bs) / 4294967296 = z1_val bs := by
  rw [show (4294967296 : Nat) = 65536 * 65536 from rfl, ← Nat.div_div_eq_div_mul, z1_val_div2 _ _ _ h h', z1_val_div2 _ _ _ h2 h3]
theorem z1_val_add : ∀ as1 bs : List Nat, as1.length = bs.length → z1_val as1 + z1_val bs = z1_val (List.zipWith (· + ·) as1 bs)
  | [], [], _ => rfl
  | a :: as1, b :: bs, h => by
    have ih := z1_val_add as1 bs (by simpa using h)
    rw [List.zipWith_cons_cons, z1_val_cons, z1_val_cons, z1_val_cons, ← ih]; omega
theorem z1_val_snoc0 : ∀ bs : List Nat, z1_val (bs ++ [0]) = z1_val bs
  | [] => rfl
  | b :: bs => by rw [List.cons_append, z1_val_cons, z1_val_snoc0 bs, ← z1_val_cons]
theorem z1_val_mod (a : Nat) (bs : List Nat) : z1_val (a :: bs) % 128 = a % 128 := by
  rw [z1_val_cons]
  generalize z1_val bs = m
  omega
theorem z1_sum8 (a b c d e f g i : Nat) (ha : a ≤ 8) (hb : b ≤ 8) (hc : c ≤ 8) (hd : d ≤ 8) (he : e ≤ 8) (hf : f ≤ 8) (hg : g ≤ 8) (hi : i ≤ 8) (y4 y5 y6 : Nat)
    (h4 : y4 = z1_val [a, b, c, d, e, f, g, i] + z1_val [a, b, c, d, e, f, g, i] / 256) (h5 : y5 = y4 + y4 / 65536) (h6 : y6 = y5 + y5 / 4294967296) :
    y4 < 18446744073709551616 ∧ y5 < 18446744073709551616 ∧ y6 < 18446744073709551616 ∧ y6 % 128 = a + b + c + d + e + f + g + i := by
  have k4 : y4 = z1_val [a + b, b + c, c + d, d + e, e + f, f + g, g + i, i] := by
    rw [h4, z1_val_div _ _ (by omega), ← z1_val_snoc0 [b, c, d, e, f, g, i], z1_val_add _ _ (by simp)]; rfl
  have k5 : y5 = z1_val [a + b + (c + d), b + c + (d + e), c + d + (e + f), d + e + (f + g), e + f + (g + i), f + g + i, g + i, i] := by
    rw [h5, k4, z1_val_div2 _ _ _ (by omega) (by omega), ← z1_val_snoc0 [c + d, d + e, e + f, f + g, g + i, i], ← z1_val_snoc0 ([c + d, d + e, e + f, f + g, g + i, i] ++ [0]), z1_val_add _ _ (by simp)]; rfl
  have k6 : y6 = z1_val [a + b + (c + d) + (e + f + (g + i)), b + c + (d + e) + (f + g + i), c + d + (e + f) + (g + i), d + e + (f + g) + i, e + f + (g + i), f + g + i, g + i, i] := by
    rw [h6, k5, z1_val_div4 _ _ _ _ _ (by omega) (by omega) (by omega) (by omega), ← z1_val_snoc0 [e + f + (g + i), f + g + i, g + i, i], ← z1_val_snoc0 ([e + f + (g + i), f + g + i, g + i, i] ++ [0]), ← z1_val_snoc0 (([e + f + (g + i), f + g + i, g + i, i] ++ [0]) ++ [0]), ← z1_val_snoc0 ((([e + f + (g + i), f + g + i, g + i, i] ++ [0]) ++ [0]) ++ [0]), z1_val_add _ _ (by simp)]; rfl
  have c8 : (256 : Nat) ^ 8 = 18446744073709551616 := by decide
  refine ⟨?_, ?_, ?_, ?_⟩
  · rw [k4, ← c8]; refine z1_val_lt [_, _, _, _, _, _, _, _] ?_; intro x hx; simp only [List.mem_cons, List.not_mem_nil, or_false] at hx; omega
  · rw [k5, ← c8]; refine z1_val_lt [_, _, _, _, _, _, _, _] ?_; intro x hx; simp only [List.mem_cons, List.not_mem_nil, or_false] at hx; omega
  · rw [k6, ← c8]; refine z1_val_lt [_, _, _, _, _, _, _, _] ?_; intro x hx; simp only [List.mem_cons, List.not_mem_nil, or_false] at hx; omega
  · rw [k6, z1_val_mod]; omega
theorem z1_last8 (x : Nat) (y4 y5 y6 : Nat) (h4 : y4 = z1_val ((z1_bytesOf x).map (z1_pcN 8)) + z1_val ((z1_bytesOf x).map (z1_pcN 8)) / 256) (h5 : y5 = y4 + y4 / 65536) (h6 : y6 = y5 + y5 / 4294967296) :
    y4 < 18446744073709551616 ∧ y5 < 18446744073709551616 ∧ y6 < 18446744073709551616 ∧ y6 % 128 = z1_pcN 64 x := by
  have hb := fun b hb => (z1_b3 b (z1_bytes_lt x b hb)).2
  rw [z1_pc_bytes x]
  obtain ⟨g4, g5, g6, g7⟩ := z1_sum8 _ _ _ _ _ _ _ _ (hb _ (by simp [z1_bytesOf])) (hb (x / 256 % 256) (by simp [z1_bytesOf])) (hb (x / 65536 % 256) (by simp [z1_bytesOf])) (hb (x / 16777216 % 256) (by simp [z1_bytesOf]))
    (hb (x / 4294967296 % 256) (by simp [z1_bytesOf])) (hb (x / 1099511627776 % 256) (by simp [z1_bytesOf])) (hb (x / 281474976710656 % 256) (by simp [z1_bytesOf])) (hb (x / 72057594037927936 % 256) (by simp [z1_bytesOf])) y4 y5 y6 h4 h5 h6
  refine ⟨g4, g5, g6, ?_⟩
  rw [g7]
  simp only [z1_bytesOf, List.map, List.sum, List.foldr]
  omega
theorem z1_val_bound : ∀ bs : List Nat, (∀ b ∈ bs, b ≤ 68) → 255 * z1_val bs + 68 ≤ 68 * 256 ^ bs.length
  | [], _ => by simp [z1_val]
  | b :: bs, h => by
    have h1 := z1_val_bound bs (fun c hc => h c (by simp [hc]))
    have h2 := h b (by simp)
    rw [z1_val_cons, List.length_cons, Nat.pow_succ]
    generalize 256 ^ bs.length = m at *
    generalize z1_val bs = v at *
    omega
theorem z1_x1_lt (x : Nat) (hx : x < 18446744073709551616) : z1_x1 x < 18446744073709551616 := by
  rw [z1_x1_eq x hx]
  have := z1_val_lt ((z1_bytesOf x).map z1_s1) (by intro b hb; rw [List.mem_map] at hb; obtain ⟨c, hc, rfl⟩ := hb; exact z1_b1 c (z1_bytes_lt x c hc))
  rw [List.length_map, show (z1_bytesOf x).length = 8 from rfl, show (256 : Nat) ^ 8 = 18446744073709551616 by decide] at this
  exact this
theorem z1_x2_val (x : Nat) (hx : x < 18446744073709551616) : z1_x2 (z1_x1 x) = z1_val (((z1_bytesOf x).map z1_s1).map z1_s2) := by rw [z1_x1_eq x hx, z1_x2_eq]
theorem z1_x2_lt (x : Nat) (hx : x < 18446744073709551616) : 255 * z1_x2 (z1_x1 x) + 68 ≤ 1254378597012249509888 := by
  rw [z1_x2_val x hx]
  have := z1_val_bound (((z1_bytesOf x).map z1_s1).map z1_s2) (by
    intro b hb; rw [List.mem_map] at hb; obtain ⟨c, hc, rfl⟩ := hb
    rw [List.mem_map] at hc; obtain ⟨d, hd, rfl⟩ := hc; have := (z1_b2 d (z1_bytes_lt x d hd)).1; omega)
  rw [List.length_map, List.length_map, show (z1_bytesOf x).length = 8 from rfl, show (256 : Nat) ^ 8 = 18446744073709551616 by decide] at this
  exact this
theorem z1_x3_val (x : Nat) (hx : x < 18446744073709551616) : z1_x3 (z1_x2 (z1_x1 x)) = z1_val ((z1_bytesOf x).map (z1_pcN 8)) := by rw [z1_x2_val x hx, z1_x3_eq, z1_s3_pc]
theorem z1_pcN_le : ∀ k n, z1_pcN k n ≤ k
  | 0, _ => Nat.le_refl _
  | k + 1, n => by rw [z1_pcN]; have := z1_pcN_le k (n / 2); omega
end Go.Proofs.YtaikcnoiaaiopaaDoor
namespace Go.Proofs.YtaikcnoiaaiopaaDoor
open Go Go.RowKit
theorem z1_one_e1 (x : Nat) (hx : x < 18446744073709551616) : IntKind.u64.wrap (bits .and .u64 ((x : Int) / 2) 6148914691236517205 + bits .and .u64 (x : Int) 6148914691236517205) = (z1_x1 x : Nat) := by
  have h1 := bits_and_u64_nat (x / 2) 6148914691236517205 (by omega) (by decide)
  have h2 := bits_and_u64_nat x 6148914691236517205 hx (by decide)
  have h3 := z1_x1_lt x hx
  have h4 : (x / 2 &&& 6148914691236517205) + (x &&& 6148914691236517205) = z1_x1 x := rfl
  have h5 : ((x / 2 : Nat) : Int) = (x : Int) / 2 := by omega
  rw [h5] at h1
  rw [IntKind.wrap_u64]
  generalize z1_x1 x = X at *
  generalize (x / 2 &&& 6148914691236517205) = a at *
  generalize (x &&& 6148914691236517205) = b at *
  rw [show bits .and .u64 ((x : Int) / 2) 6148914691236517205 = (a : Int) from h1, show bits .and .u64 (x : Int) 6148914691236517205 = (b : Int) from h2]
  omega
theorem z1_one_e2 (x : Nat) (hx : x < 18446744073709551616) (hy : z1_x2 x < 18446744073709551616) : IntKind.u64.wrap (bits .and .u64 ((x : Int) / 4) 3689348814741910323 + bits .and .u64 (x : Int) 3689348814741910323) = (z1_x2 x : Nat) := by
  have h1 := bits_and_u64_nat (x / 4) 3689348814741910323 (by omega) (by decide)
  have h2 := bits_and_u64_nat x 3689348814741910323 hx (by decide)
  have h4 : (x / 4 &&& 3689348814741910323) + (x &&& 3689348814741910323) = z1_x2 x := rfl
  have h5 : ((x / 4 : Nat) : Int) = (x : Int) / 4 := by omega
  rw [h5] at h1
  rw [IntKind.wrap_u64]
  generalize z1_x2 x = X at *
  generalize (x / 4 &&& 3689348814741910323) = a at *
  generalize (x &&& 3689348814741910323) = b at *
  rw [show bits .and .u64 ((x : Int) / 4) 3689348814741910323 = (a : Int) from h1, show bits .and .u64 (x : Int) 3689348814741910323 = (b : Int) from h2]
  omega
theorem z1_one_e3 (x : Nat) (hx : x / 16 + x < 18446744073709551616) : bits .and .u64 (IntKind.u64.wrap ((x : Int) / 16 + (x : Int))) 1085102592571150095 = (z1_x3 x : Nat) := by
  have h1 := bits_and_u64_nat (x / 16 + x) 1085102592571150095 hx (by decide)
  have h5 : IntKind.u64.wrap ((x : Int) / 16 + (x : Int)) = ((x / 16 + x : Nat) : Int) := by rw [IntKind.wrap_u64]; omega
  rw [h5]
  exact h1
theorem z1_one_e7 (y p : Nat) (hy : y < 18446744073709551616) (hp : y % 128 = p) : bits .and .i64 (wrap64 (y : Int)) 127 = (p : Int) := by
  show IntKind.i64.wrap ((BitVec.ofInt 64 (wrap64 y) &&& BitVec.ofInt 64 127).toNat : Int) = _
  have e : BitVec.ofInt 64 (wrap64 (y : Int)) = BitVec.ofNat 64 y := by
    apply BitVec.eq_of_toNat_eq
    rw [BitVec.toNat_ofInt, BitVec.toNat_ofNat]
    have : wrap64 (y : Int) % 18446744073709551616 = y := by unfold wrap64; omega
    omega
  rw [e]
  have t : (BitVec.ofNat 64 y &&& BitVec.ofInt 64 127).toNat = y % 128 := by
    rw [BitVec.toNat_and, BitVec.toNat_ofNat, show (BitVec.ofInt 64 127).toNat = 2 ^ 7 - 1 from rfl, Nat.and_two_pow_sub_one_eq_mod]
    omega
  rw [t, hp, IntKind.wrap_i64]
  omega
end Go.Proofs.YtaikcnoiaaiopaaDoor
namespace Go.Proofs.YtaikcnoiaaiopaaDoor
open Go Go.RowKit
attribute [local go_sem] z1_idx0 z1_idx1 z1_idx2 z1_idx3 z1_u64_signed z1_ext_cell
def z1_scount (s : z1_S) : Int := ((z1_elems s).length : Int)
def z1_wcount (s : z1_S) (i : Nat) : Int := (z1_pcN 64 (z1_wd s i).toNat : Nat)
theorem z1_filterMap_length {α β : Type} (f : α → Option β) (p : α → Bool) (h : ∀ a, (f a).isSome = p a) : ∀ l : List α, (l.filterMap f).length = (l.filter p).length
  | [] => rfl
  | a :: l => by
    have := h a
    have ih := z1_filterMap_length f p h l
    rw [List.filterMap_cons, List.filter_cons]
    cases hf : f a with
    | none => rw [hf] at this; simp at this; rw [if_neg (by simp [this])]; exact ih
    | some b => rw [hf] at this; simp at this; rw [if_pos this]; simp [ih]
theorem z1_elems_count (s : z1_S) : (z1_elems s).length = ((List.range 256).filter fun n => s.getLsbD n).length := by
  unfold z1_elems
  refine z1_filterMap_length _ _ ?_ _
  intro n
  split
  · rename_i h; simp [h.2]
  · rename_i h
    by_cases hn : n < 256
    · have : ¬ s.getLsbD n = true := fun g => h ⟨hn, g⟩
      simpa using this
    · have : s.getLsbD n = false := BitVec.getLsbD_of_ge _ _ (by omega)
      simp [this]
theorem z1_filter_shift (p : Nat → Bool) (a b : Nat) : ((List.range (a + b)).filter p).length = ((List.range a).filter p).length + ((List.range b).filter fun i => p (a + i)).length := by
  rw [List.range_add, List.filter_append, List.length_append, List.filter_map, List.length_map]
  rfl
theorem z1_word_count (s : z1_S) (i : Nat) : (z1_pcN 64 (z1_wd s i).toNat) = ((List.range 64).filter fun n => s.getLsbD (64 * i + n)).length := by
  rw [z1_pcN_count]
  have e : (z1_wd s i).toNat = (s.extractLsb' (64 * i) 64).toNat := by unfold z1_wd; simp only [Int.toNat_natCast]
  rw [e]
  congr 1
  refine List.filter_congr fun n hn => ?_
  have hn' : n < 64 := by simpa using hn
  rw [← z1_bit_word s i n hn']
  rfl
theorem z1_scount_words (s : z1_S) : z1_scount s = z1_wcount s 0 + z1_wcount s 1 + z1_wcount s 2 + z1_wcount s 3 := by
  unfold z1_scount z1_wcount
  have e : ((List.range 256).filter fun n => s.getLsbD n).length = ((List.range (64 + (64 + (64 + 64)))).filter fun n => s.getLsbD n).length := rfl
  rw [z1_elems_count, e, z1_filter_shift, z1_filter_shift, z1_filter_shift, z1_word_count, z1_word_count, z1_word_count, z1_word_count]
  simp only [Nat.mul_zero, Nat.zero_add, Nat.mul_one, Nat.reduceMul, ← Nat.add_assoc, Nat.reduceAdd]
  omega
theorem z1_wcount_range (s : z1_S) (i : Nat) : 0 ≤ z1_wcount s i ∧ z1_wcount s i ≤ 64 := by
  unfold z1_wcount
  have := z1_pcN_le 64 (z1_wd s i).toNat
  omega
end Go.Proofs.YtaikcnoiaaiopaaDoor
