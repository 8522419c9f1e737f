/-
  How many bits are set in a word, reckoned byte by byte: plain mathematics.
-/
namespace Go.Proofs.YtcaijlmffdfhgabDoor

/-- How many of the first k bits are set. -/
def pcN : Nat → Nat → Nat
  | 0, _ => 0
  | k + 1, n => n % 2 + pcN k (n / 2)

theorem pcN_add : ∀ (m k n : Nat), pcN (m + k) n = pcN m (n % 2 ^ m) + pcN k (n / 2 ^ m)
  | 0, k, n => by simp [pcN]
  | m + 1, k, n => by
    have e : m + 1 + k = (m + k) + 1 := by omega
    rw [e, pcN, pcN_add m k (n / 2), pcN]
    have h1 : n % 2 ^ (m + 1) % 2 = n % 2 := by
      rw [Nat.pow_succ]; exact Nat.mod_mul_left_mod n (2 ^ m) 2
    have h2 : n % 2 ^ (m + 1) / 2 = n / 2 % 2 ^ m := by
      rw [Nat.pow_succ, Nat.mul_comm (2 ^ m) 2]; exact Nat.mod_mul_right_div_self n 2 (2 ^ m)
    have h3 : n / 2 ^ (m + 1) = n / 2 / 2 ^ m := by
      rw [Nat.pow_succ, Nat.mul_comm (2 ^ m) 2, Nat.div_div_eq_div_mul]
    rw [h1, h2, h3]; omega

theorem pcN_count : ∀ (k n : Nat), pcN k n = ((List.range k).filter fun i => n.testBit i).length
  | 0, n => by simp [pcN]
  | k + 1, n => by
    rw [pcN, pcN_count k (n / 2), List.range_succ_eq_map, List.filter_cons, List.filter_map]
    have e : (fun i => n.testBit i) ∘ Nat.succ = fun i => (n / 2).testBit i := by
      funext i; simp [Nat.testBit_succ]
    rw [e]
    have h0 : n.testBit 0 = decide (n % 2 = 1) := Nat.testBit_zero n
    by_cases h : n % 2 = 1
    · simp [h0, h]; omega
    · have : n % 2 = 0 := by omega
      simp [h0, this]

theorem and_split (k a c n p : Nat) (ha : a < 2 ^ k) (hc : c < 2 ^ k) : (a + 2 ^ k * n) &&& (c + 2 ^ k * p) = (a &&& c) + 2 ^ k * (n &&& p) := by
  have hac : a &&& c < 2 ^ k := Nat.and_lt_two_pow _ hc
  apply Nat.eq_of_testBit_eq
  intro i
  rw [Nat.testBit_and, Nat.add_comm a, Nat.add_comm c, Nat.add_comm (a &&& c), Nat.testBit_two_pow_mul_add _ ha, Nat.testBit_two_pow_mul_add _ hc, Nat.testBit_two_pow_mul_add _ hac]
  split
  · rw [Nat.testBit_and]
  · rw [Nat.testBit_and]
theorem and_split8 (a c n p : Nat) (ha : a < 256) (hc : c < 256) : (a + 256 * n) &&& (c + 256 * p) = (a &&& c) + 256 * (n &&& p) := and_split 8 a c n p ha hc

def val (bs : List Nat) : Nat := bs.foldr (fun b acc => b + 256 * acc) 0
theorem val_cons (b : Nat) (bs : List Nat) : val (b :: bs) = b + 256 * val bs := rfl
def s1 (b : Nat) : Nat := (b / 2 &&& 85) + (b &&& 85)
def s2 (b : Nat) : Nat := (b / 4 &&& 51) + (b &&& 51)
def s3 (b : Nat) : Nat := (b / 16 + b) &&& 15

theorem low1 : ∀ b, b < 256 → ∀ t, t < 2 → (b / 2 + 128 * t) &&& 85 = b / 2 &&& 85 := by decide +kernel
theorem low2 : ∀ b, b < 256 → ∀ t, t < 4 → (b / 4 + 64 * t) &&& 51 = b / 4 &&& 51 := by decide +kernel
theorem low3 : ∀ b, b < 69 → ∀ t, t < 5 → (b / 16 + b + 16 * t) &&& 15 = s3 b := by decide +kernel
theorem b1 : ∀ b, b < 256 → s1 b < 256 := by decide +kernel
theorem b2 : ∀ b, b < 256 → s2 (s1 b) < 69 ∧ s2 (s1 b) % 16 < 5 := by decide +kernel
theorem b3 : ∀ b, b < 256 → s3 (s2 (s1 b)) = pcN 8 b ∧ pcN 8 b ≤ 8 := by decide +kernel

theorem step1 : ∀ bs : List Nat, (∀ b ∈ bs, b < 256) → (val bs / 2 &&& val (List.replicate bs.length 85)) + (val bs &&& val (List.replicate bs.length 85)) = val (bs.map s1)
  | [], _ => by simp [val]
  | b :: bs, h => by
    have hb := h b (by simp)
    have ih := step1 bs (fun c hc => h c (by simp [hc]))
    rw [List.length_cons, List.replicate_succ, List.map_cons, val_cons, val_cons, val_cons, ← ih]
    have e : (b + 256 * val bs) / 2 = (b / 2 + 128 * (val bs % 2)) + 256 * (val bs / 2) := by omega
    rw [e, and_split8 _ 85 _ _ (by omega) (by decide), and_split8 _ 85 _ _ hb (by decide), low1 b hb _ (Nat.mod_lt _ (by decide))]
    unfold s1; omega
theorem step2 : ∀ bs : List Nat, (∀ b ∈ bs, b < 256) → (val bs / 4 &&& val (List.replicate bs.length 51)) + (val bs &&& val (List.replicate bs.length 51)) = val (bs.map s2)
  | [], _ => by simp [val]
  | b :: bs, h => by
    have hb := h b (by simp)
    have ih := step2 bs (fun c hc => h c (by simp [hc]))
    rw [List.length_cons, List.replicate_succ, List.map_cons, val_cons, val_cons, val_cons, ← ih]
    have e : (b + 256 * val bs) / 4 = (b / 4 + 64 * (val bs % 4)) + 256 * (val bs / 4) := by omega
    rw [e, and_split8 _ 51 _ _ (by omega) (by decide), and_split8 _ 51 _ _ hb (by decide), low2 b hb _ (Nat.mod_lt _ (by decide))]
    unfold s2; omega
theorem step3 : ∀ bs : List Nat, (∀ b ∈ bs, b < 69 ∧ b % 16 < 5) → (val bs / 16 + val bs) &&& val (List.replicate bs.length 15) = val (bs.map s3)
  | [], _ => by simp [val]
  | b :: bs, h => by
    have hb := (h b (by simp)).1
    have ih := step3 bs (fun c hc => h c (by simp [hc]))
    rw [List.length_cons, List.replicate_succ, List.map_cons, val_cons, val_cons, val_cons, ← ih]
    have ht : val bs % 16 < 5 := by
      match bs, h with
      | [], _ => simp [val]
      | c :: cs, h => rw [val_cons]; have := (h c (by simp)).2; omega
    have e : (b + 256 * val bs) / 16 + (b + 256 * val bs) = (b / 16 + b + 16 * (val bs % 16)) + 256 * (val bs / 16 + val bs) := by omega
    rw [e, and_split8 _ 15 _ _ (by omega) (by decide), low3 b hb _ ht]

/-- The bytes of a word. -/
def bytesOf (x : Nat) : List Nat := [x % 256, x / 256 % 256, x / 65536 % 256, x / 16777216 % 256, x / 4294967296 % 256, x / 1099511627776 % 256, x / 281474976710656 % 256, x / 72057594037927936 % 256]
theorem val_bytes (x : Nat) (h : x < 18446744073709551616) : val (bytesOf x) = x := by
  simp only [bytesOf, val, List.foldr]; omega
theorem bytes_lt (x : Nat) : ∀ b ∈ bytesOf x, b < 256 := by
  intro b hb
  simp only [bytesOf, List.mem_cons, List.not_mem_nil, or_false] at hb
  omega

def x1 (x : Nat) : Nat := (x / 2 &&& 6148914691236517205) + (x &&& 6148914691236517205)
def x2 (x : Nat) : Nat := (x / 4 &&& 3689348814741910323) + (x &&& 3689348814741910323)
def x3 (x : Nat) : Nat := (x / 16 + x) &&& 1085102592571150095
theorem m1 : (6148914691236517205 : Nat) = val (List.replicate 8 85) := by decide
theorem m2 : (3689348814741910323 : Nat) = val (List.replicate 8 51) := by decide
theorem m3 : (1085102592571150095 : Nat) = val (List.replicate 8 15) := by decide

theorem x1_eq (x : Nat) (h : x < 18446744073709551616) : x1 x = val ((bytesOf x).map s1) := by
  have := step1 (bytesOf x) (bytes_lt x)
  rw [val_bytes x h] at this
  unfold x1; rw [m1]; exact this
theorem x2_eq (x : Nat) : x2 (val ((bytesOf x).map s1)) = val (((bytesOf x).map s1).map s2) := by
  have := step2 ((bytesOf x).map s1) (by
    intro b hb; rw [List.mem_map] at hb; obtain ⟨c, hc, rfl⟩ := hb; exact b1 c (bytes_lt x c hc))
  unfold x2; rw [m2]; exact this
theorem x3_eq (x : Nat) : x3 (val (((bytesOf x).map s1).map s2)) = val ((((bytesOf x).map s1).map s2).map s3) := by
  have := step3 (((bytesOf x).map s1).map s2) (by
    intro b hb; rw [List.mem_map] at hb; obtain ⟨c, hc, rfl⟩ := hb
    rw [List.mem_map] at hc; obtain ⟨d, hd, rfl⟩ := hc; exact b2 d (bytes_lt x d hd))
  unfold x3; rw [m3]; exact this
theorem s3_pc (x : Nat) : (((bytesOf x).map s1).map s2).map s3 = (bytesOf x).map (pcN 8) := by
  rw [List.map_map, List.map_map]
  refine List.map_congr_left fun b hb => ?_
  exact (b3 b (bytes_lt x b hb)).1
theorem pc_bytes (x : Nat) : pcN 64 x = ((bytesOf x).map (pcN 8)).sum := by
  have a : ∀ k n, pcN (8 + k) n = pcN 8 (n % 256) + pcN k (n / 256) := fun k n => pcN_add 8 k n
  rw [show (64 : Nat) = 8 + (8 + (8 + (8 + (8 + (8 + (8 + (8 + 0))))))) from rfl, a, a, a, a, a, a, a, a]
  simp only [Nat.div_div_eq_div_mul, bytesOf, List.map, List.sum, List.foldr, pcN, Nat.reduceMul]

theorem val_lt : ∀ bs : List Nat, (∀ b ∈ bs, b < 256) → val bs < 256 ^ bs.length
  | [], _ => by simp [val]
  | b :: bs, h => by
    have h1 := val_lt bs (fun c hc => h c (by simp [hc]))
    have h2 := h b (by simp)
    rw [val_cons, List.length_cons, Nat.pow_succ]
    generalize 256 ^ bs.length = m at *
    omega
theorem val_div (a : Nat) (bs : List Nat) (h : a < 256) : val (a :: bs) / 256 = val bs := by
  rw [val_cons]
  generalize val bs = m
  omega
theorem val_div2 (a b : Nat) (bs : List Nat) (h : a < 256) (h' : b < 256) : val (a :: b :: bs) / 65536 = val bs := by
  rw [show (65536 : Nat) = 256 * 256 from rfl, ← Nat.div_div_eq_div_mul, val_div _ _ h, val_div _ _ h']
theorem val_div4 (a b c d : Nat) (bs : List Nat) (h : a < 256) (h' : b < 256) (h2 : c < 256) (h3 : d < 256) : val (a :: b :: c :: d :: bs) / 4294967296 = val bs := by
  rw [show (4294967296 : Nat) = 65536 * 65536 from rfl, ← Nat.div_div_eq_div_mul, val_div2 _ _ _ h h', val_div2 _ _ _ h2 h3]
theorem val_add : ∀ as bs : List Nat, as.length = bs.length → val as + val bs = val (List.zipWith (· + ·) as bs)
  | [], [], _ => rfl
  | a :: as, b :: bs, h => by
    have ih := val_add as bs (by simpa using h)
    rw [List.zipWith_cons_cons, val_cons, val_cons, val_cons, ← ih]; omega
theorem val_snoc0 : ∀ bs : List Nat, val (bs ++ [0]) = val bs
  | [] => rfl
  | b :: bs => by rw [List.cons_append, val_cons, val_snoc0 bs, ← val_cons]
theorem val_mod (a : Nat) (bs : List Nat) : val (a :: bs) % 128 = a % 128 := by
  rw [val_cons]
  generalize val bs = m
  omega

theorem sum8 (a b c d e f g i : Nat) (ha : a ≤ 8) (hb : b ≤ 8) (hc : c ≤ 8) (hd : d ≤ 8) (he : e ≤ 8) (hf : f ≤ 8) (hg : g ≤ 8) (hi : i ≤ 8) (y4 y5 y6 : Nat)
    (h4 : y4 = val [a, b, c, d, e, f, g, i] + val [a, b, c, d, e, f, g, i] / 256) (h5 : y5 = y4 + y4 / 65536) (h6 : y6 = y5 + y5 / 4294967296) :
    y4 < 18446744073709551616 ∧ y5 < 18446744073709551616 ∧ y6 < 18446744073709551616 ∧ y6 % 128 = a + b + c + d + e + f + g + i := by
  have k4 : y4 = val [a + b, b + c, c + d, d + e, e + f, f + g, g + i, i] := by
    rw [h4, val_div _ _ (by omega), ← val_snoc0 [b, c, d, e, f, g, i], val_add _ _ (by simp)]; rfl
  have k5 : y5 = val [a + b + (c + d), b + c + (d + e), c + d + (e + f), d + e + (f + g), e + f + (g + i), f + g + i, g + i, i] := by
    rw [h5, k4, val_div2 _ _ _ (by omega) (by omega), ← val_snoc0 [c + d, d + e, e + f, f + g, g + i, i], ← val_snoc0 ([c + d, d + e, e + f, f + g, g + i, i] ++ [0]), val_add _ _ (by simp)]; rfl
  have k6 : y6 = val [a + b + (c + d) + (e + f + (g + i)), b + c + (d + e) + (f + g + i), c + d + (e + f) + (g + i), d + e + (f + g) + i, e + f + (g + i), f + g + i, g + i, i] := by
    rw [h6, k5, val_div4 _ _ _ _ _ (by omega) (by omega) (by omega) (by omega), ← val_snoc0 [e + f + (g + i), f + g + i, g + i, i], ← val_snoc0 ([e + f + (g + i), f + g + i, g + i, i] ++ [0]), ← val_snoc0 (([e + f + (g + i), f + g + i, g + i, i] ++ [0]) ++ [0]), ← val_snoc0 ((([e + f + (g + i), f + g + i, g + i, i] ++ [0]) ++ [0]) ++ [0]), val_add _ _ (by simp)]; rfl
  have c8 : (256 : Nat) ^ 8 = 18446744073709551616 := by decide
  refine ⟨?_, ?_, ?_, ?_⟩
  · rw [k4, ← c8]; refine val_lt [_, _, _, _, _, _, _, _] ?_; intro x hx; simp only [List.mem_cons, List.not_mem_nil, or_false] at hx; omega
  · rw [k5, ← c8]; refine val_lt [_, _, _, _, _, _, _, _] ?_; intro x hx; simp only [List.mem_cons, List.not_mem_nil, or_false] at hx; omega
  · rw [k6, ← c8]; refine val_lt [_, _, _, _, _, _, _, _] ?_; intro x hx; simp only [List.mem_cons, List.not_mem_nil, or_false] at hx; omega
  · rw [k6, val_mod]; omega

theorem last8 (x : Nat) (y4 y5 y6 : Nat) (h4 : y4 = val ((bytesOf x).map (pcN 8)) + val ((bytesOf x).map (pcN 8)) / 256) (h5 : y5 = y4 + y4 / 65536) (h6 : y6 = y5 + y5 / 4294967296) :
    y4 < 18446744073709551616 ∧ y5 < 18446744073709551616 ∧ y6 < 18446744073709551616 ∧ y6 % 128 = pcN 64 x := by
  have hb := fun b hb => (b3 b (bytes_lt x b hb)).2
  rw [pc_bytes x]
  obtain ⟨g4, g5, g6, g7⟩ := sum8 _ _ _ _ _ _ _ _ (hb _ (by simp [bytesOf])) (hb (x / 256 % 256) (by simp [bytesOf])) (hb (x / 65536 % 256) (by simp [bytesOf])) (hb (x / 16777216 % 256) (by simp [bytesOf]))
    (hb (x / 4294967296 % 256) (by simp [bytesOf])) (hb (x / 1099511627776 % 256) (by simp [bytesOf])) (hb (x / 281474976710656 % 256) (by simp [bytesOf])) (hb (x / 72057594037927936 % 256) (by simp [bytesOf])) y4 y5 y6 h4 h5 h6
  refine ⟨g4, g5, g6, ?_⟩
  rw [g7]
  simp only [bytesOf, List.map, List.sum, List.foldr]
  omega
theorem val_bound : ∀ bs : List Nat, (∀ b ∈ bs, b ≤ 68) → 255 * val bs + 68 ≤ 68 * 256 ^ bs.length
  | [], _ => by simp [val]
  | b :: bs, h => by
    have h1 := val_bound bs (fun c hc => h c (by simp [hc]))
    have h2 := h b (by simp)
    rw [val_cons, List.length_cons, Nat.pow_succ]
    generalize 256 ^ bs.length = m at *
    generalize val bs = v at *
    omega
theorem x1_lt (x : Nat) (hx : x < 18446744073709551616) : x1 x < 18446744073709551616 := by
  rw [x1_eq x hx]
  have := val_lt ((bytesOf x).map s1) (by intro b hb; rw [List.mem_map] at hb; obtain ⟨c, hc, rfl⟩ := hb; exact b1 c (bytes_lt x c hc))
  rw [List.length_map, show (bytesOf x).length = 8 from rfl, show (256 : Nat) ^ 8 = 18446744073709551616 by decide] at this
  exact this
theorem x2_val (x : Nat) (hx : x < 18446744073709551616) : x2 (x1 x) = val (((bytesOf x).map s1).map s2) := by rw [x1_eq x hx, x2_eq]
theorem x2_lt (x : Nat) (hx : x < 18446744073709551616) : 255 * x2 (x1 x) + 68 ≤ 1254378597012249509888 := by
  rw [x2_val x hx]
  have := val_bound (((bytesOf x).map s1).map s2) (by
    intro b hb; rw [List.mem_map] at hb; obtain ⟨c, hc, rfl⟩ := hb
    rw [List.mem_map] at hc; obtain ⟨d, hd, rfl⟩ := hc; have := (b2 d (bytes_lt x d hd)).1; omega)
  rw [List.length_map, List.length_map, show (bytesOf x).length = 8 from rfl, show (256 : Nat) ^ 8 = 18446744073709551616 by decide] at this
  exact this
theorem x3_val (x : Nat) (hx : x < 18446744073709551616) : x3 (x2 (x1 x)) = val ((bytesOf x).map (pcN 8)) := by rw [x2_val x hx, x3_eq, s3_pc]
theorem pcN_le : ∀ k n, pcN k n ≤ k
  | 0, _ => Nat.le_refl _
  | k + 1, n => by rw [pcN]; have := pcN_le k (n / 2); omega
end Go.Proofs.YtcaijlmffdfhgabDoor
