/-
  Intervals of two numbers: mathematics.
-/
import Derived.Test.YtloeajhmmjdlgaaDoorC17
import Derived.Test.YtloeajhmmjdlgaaDoorC18
namespace Go.Proofs.YtloeajhmmjdlgaaDoor
open Go

/-- A number's digits. -/
def natD (n : Nat) : List UInt8 := if h : n < 10 then [UInt8.ofNat (48 + n)] else natD (n / 10) ++ [UInt8.ofNat (48 + n % 10)]
termination_by n
decreasing_by omega
theorem natD_small {n : Nat} (h : n < 10) : natD n = [UInt8.ofNat (48 + n)] := by rw [natD]; simp [h]
theorem natD_big {n : Nat} (h : ¬ n < 10) : natD n = natD (n / 10) ++ [UInt8.ofNat (48 + n % 10)] := by rw [natD]; simp [h]
def intD (z : Int) : List UInt8 := if z < 0 then 45 :: natD (-(z + 1)).toNat else natD z.toNat
theorem dig_of {r : Nat} (h : r < 10) : dig (UInt8.ofNat (48 + r)) = true ∧ (UInt8.ofNat (48 + r)).toNat - 48 = r := by
  have : ∀ r : Fin 10, dig (UInt8.ofNat (48 + r.1)) = true ∧ (UInt8.ofNat (48 + r.1)).toNat - 48 = r.1 := by decide
  exact this ⟨r, h⟩
theorem natD_dig : ∀ (k n : Nat), n ≤ k → ∀ x ∈ natD n, dig x = true
  | k, n, hk, x, hx => by
    by_cases h : n < 10
    · rw [natD_small h] at hx; rw [List.mem_singleton.1 hx]; exact (dig_of h).1
    · rw [natD_big h] at hx
      rcases List.mem_append.1 hx with hx | hx
      · cases k with
        | zero => omega
        | succ k => exact natD_dig k (n / 10) (by omega) x hx
      · rw [List.mem_singleton.1 hx]; exact (dig_of (by omega)).1
theorem natD_pos (n : Nat) : 0 < (natD n).length := by
  by_cases h : n < 10
  · rw [natD_small h]; simp
  · rw [natD_big h]; simp
theorem natD_len : ∀ (k n : Nat), n < 10 ^ k → 1 ≤ k → (natD n).length ≤ k
  | 0, n, h, h1 => by omega
  | k + 1, n, h, _ => by
    by_cases h10 : n < 10
    · rw [natD_small h10]; simp
    · rw [natD_big h10, List.length_append, List.length_singleton]
      have h2 : n / 10 < 10 ^ k := by rw [Nat.pow_succ] at h; omega
      cases k with
      | zero => simp at h2; omega
      | succ k => have := natD_len (k + 1) (n / 10) h2 (by omega); omega
theorem natD_num : ∀ (k n : Nat), n ≤ k → numL (natD n) = min n 256
  | k, n, hk => by
    by_cases h : n < 10
    · rw [natD_small h]
      have := numL_snoc [] (UInt8.ofNat (48 + n))
      rw [List.nil_append] at this
      rw [this, (dig_of h).2]
      simp [numL]
    · rw [natD_big h, numL_snoc, (dig_of (by omega)).2]
      cases k with
      | zero => omega
      | succ k => rw [natD_num k (n / 10) (by omega)]; omega
theorem numL_zeros (z : Nat) (l : List UInt8) : numL (List.replicate z 48 ++ l) = numL l := by
  induction z with
  | zero => rfl
  | succ z ih =>
    rw [List.replicate_succ, List.cons_append]
    have : numL (48 :: (List.replicate z 48 ++ l)) = numL (List.replicate z 48 ++ l) := rfl
    rw [this, ih]
theorem takeWhile_all {p : UInt8 → Bool} (x : UInt8) (hx : p x = false) (r : List UInt8) : ∀ l : List UInt8, (∀ y ∈ l, p y = true) → (l ++ x :: r).takeWhile p = l
  | [], _ => by simp [hx]
  | a :: l, h => by
    rw [List.cons_append, List.takeWhile_cons, if_pos (h a (by simp)), takeWhile_all x hx r l fun y hy => h y (by simp [hy])]
/-- The pattern. -/
def numT (Z M N : List UInt8) : List UInt8 := [97, 92, 123] ++ Z ++ M ++ [44] ++ N ++ [92, 125]
theorem sees_at {s : ByteArray} {A B : List UInt8} (h : s.data.toList = A ++ B) (t : List UInt8) : sees s A.length t = t.isPrefixOf B := by
  unfold sees Lib.hasPrefix
  rw [h, List.drop_left]
theorem digs_at {s : ByteArray} {A B : List UInt8} (h : s.data.toList = A ++ B) : digs s A.length = B.takeWhile dig := by
  unfold digs
  rw [h, List.drop_left]
theorem zeros_dig (z : Nat) : ∀ x ∈ List.replicate z (48 : UInt8), dig x = true := fun x hx => by rw [List.eq_of_mem_replicate hx]; rfl
section
variable {s : ByteArray} {z : Nat}
theorem first_tok {Z M N : List UInt8} (h : s.data.toList = numT Z M N) (hs : s.size ≤ 2000) : lexM ⟨false, false⟩ s = (match intv s 1 with
    | .error e => .error e
    | .ok (t, q) => lx ⟨false, false⟩ s (s.size - 1) q [(setT ⟨false, false⟩ [(97, 97)] false, 0, 1), (t, 1, q)]) := by
  have hsz : 3 ≤ s.size := by rw [← size_list, h]; simp [numT]
  have b0 : bt s 0 = 97 := (bt_at.1 (show s.data.toList[0]? = some 97 by rw [h]; rfl)).2
  have b1 : bt s 1 = 92 := (bt_at.1 (show s.data.toList[1]? = some 92 by rw [h]; rfl)).2
  have b2 : bt s 2 = 123 := (bt_at.1 (show s.data.toList[2]? = some 123 by rw [h]; rfl)).2
  unfold lexM
  rw [if_neg (by omega), lx, if_pos (by omega)]
  have t0 : tok ⟨false, false⟩ s 0 (lastK []) = .ok (setT ⟨false, false⟩ [(97, 97)] false, 1) := by
    have sd : ∀ c : UInt8, sees s 0 [c] = decide (97 = c.toNat) := fun c => by rw [sees_dec (by omega), b0]
    unfold tok
    rw [sd 92, sd 42, sd 94, sd 36, sd 46, sd 91, chr_ascii _ (by omega), b0]
    rfl
  rw [t0]
  simp only [List.nil_append]
  obtain ⟨k, hk⟩ : ∃ k, s.size = k + 1 := ⟨s.size - 1, by omega⟩
  have t1 : tok ⟨false, false⟩ s 1 (lastK [(setT ⟨false, false⟩ [(97, 97)] false, 0, 1)]) = intv s 1 := by
    unfold tok
    rw [if_pos (sees_one.2 ⟨by omega, b1⟩)]
    unfold esc
    rw [if_neg (by omega), show 1 + 1 = 2 from rfl, b2]
    rfl
  rw [hk, lx, if_pos (by omega), t1]
  rfl
theorem iv_neg {M N : List UInt8} {M' : List UInt8} (h : s.data.toList = numT (List.replicate z 48) M N) (hM : M = 45 :: M') : intv s 1 = .error (36, 1) := by
  have e1 : s.data.toList = [97, 92, 123] ++ (List.replicate z 48 ++ 45 :: (M' ++ [44] ++ N ++ [92, 125])) := by rw [h, hM]; simp [numT]
  have d1 : digs s 3 = List.replicate z 48 := by
    rw [show 3 = ([97, 92, 123] : List UInt8).length from rfl, digs_at e1]
    exact takeWhile_all 45 rfl _ _ (zeros_dig z)
  have e2 : s.data.toList = ([97, 92, 123] ++ List.replicate z 48) ++ 45 :: (M' ++ [44] ++ N ++ [92, 125]) := by rw [e1]; simp
  have hQ : ivQ s 1 = ([97, 92, 123] ++ List.replicate z (48 : UInt8)).length := by unfold ivQ; rw [show 1 + 2 = 3 from rfl, d1]; simp; omega
  have s1 : sees s (ivQ s 1) [44] = false := by rw [hQ, sees_at e2]; rfl
  have s2 : sees s (ivQ s 1) [92, 125] = false := by rw [hQ, sees_at e2]; rfl
  have hR : ivR s 1 = ivQ s 1 := by unfold ivR; rw [s1]; rfl
  unfold intv
  rw [hR, if_pos (.inr s2)]
theorem iv_pos {a : Nat} {N : List UInt8} (h : s.data.toList = numT (List.replicate z 48) (natD a) N) : digs s 3 = List.replicate z 48 ++ natD a ∧ ivQ s 1 = 3 + z + (natD a).length ∧ sees s (ivQ s 1) [44] = true ∧ s.data.toList = ([97, 92, 123] ++ List.replicate z 48 ++ natD a ++ [44]) ++ (N ++ [92, 125]) ∧ ivQ s 1 + 1 = ([97, 92, 123] ++ List.replicate z (48 : UInt8) ++ natD a ++ [44]).length := by
  have e1 : s.data.toList = [97, 92, 123] ++ ((List.replicate z 48 ++ natD a) ++ 44 :: (N ++ [92, 125])) := by rw [h]; simp [numT]
  have d1 : digs s 3 = List.replicate z 48 ++ natD a := by
    rw [show 3 = ([97, 92, 123] : List UInt8).length from rfl, digs_at e1]
    refine takeWhile_all 44 rfl _ _ fun y hy => ?_
    rcases List.mem_append.1 hy with hy | hy
    · exact zeros_dig z y hy
    · exact natD_dig a a (Nat.le_refl _) y hy
  have e2 : s.data.toList = ([97, 92, 123] ++ List.replicate z 48 ++ natD a) ++ 44 :: (N ++ [92, 125]) := by rw [e1]; simp
  have hQ : ivQ s 1 = ([97, 92, 123] ++ List.replicate z (48 : UInt8) ++ natD a).length := by unfold ivQ; rw [show 1 + 2 = 3 from rfl, d1]; simp; omega
  refine ⟨d1, by rw [hQ]; simp; omega, by rw [hQ, sees_at e2]; rfl, by rw [e2]; simp, by rw [hQ]; simp; omega⟩
theorem iv_neg2 {a : Nat} {N N' : List UInt8} (h : s.data.toList = numT (List.replicate z 48) (natD a) N) (hN : N = 45 :: N') : intv s 1 = .error (36, 1) := by
  obtain ⟨d1, hQ, s1, e3, hl⟩ := iv_pos h
  have d2 : digs s (ivQ s 1 + 1) = [] := by rw [hl, digs_at e3, hN]; rfl
  have hR : ivR s 1 = ivQ s 1 + 1 := by unfold ivR; rw [s1, d2]; rfl
  have s2 : sees s (ivQ s 1 + 1) [92, 125] = false := by rw [hl, sees_at e3, hN]; rfl
  unfold intv
  rw [hR, if_pos (.inr s2)]
theorem iv_both {a b : Nat} (h : s.data.toList = numT (List.replicate z 48) (natD a) (natD b)) : intv s 1 = if 255 < a ∨ 255 < b ∨ b < a then .error (37, 1) else .ok (repT a b, s.size) := by
  obtain ⟨d1, hQ, s1, e3, hl⟩ := iv_pos h
  have d2 : digs s (ivQ s 1 + 1) = natD b := by
    rw [hl, digs_at e3]
    exact takeWhile_all 92 rfl _ _ (natD_dig b b (Nat.le_refl _))
  have hR : ivR s 1 = ivQ s 1 + 1 + (natD b).length := by unfold ivR; rw [s1, d2]; rfl
  have hB : ivB s 1 = (min b 256 : Nat) := by
    unfold ivB
    rw [s1, d2, if_pos rfl, if_neg (by have := natD_pos b; omega), natD_num b b (Nat.le_refl _)]
  have e4 : s.data.toList = ([97, 92, 123] ++ List.replicate z 48 ++ natD a ++ [44] ++ natD b) ++ [92, 125] := by rw [e3]; simp
  have hl2 : ivR s 1 = ([97, 92, 123] ++ List.replicate z (48 : UInt8) ++ natD a ++ [44] ++ natD b).length := by rw [hR, hl]; simp; omega
  have s2 : sees s (ivR s 1) [92, 125] = true := by rw [hl2, sees_at e4]; rfl
  have hsz : s.size = ivR s 1 + 2 := by rw [← size_list, e4, hl2]; simp; omega
  have hn : numL (digs s (1 + 2)) = min a 256 := by rw [show 1 + 2 = 3 from rfl, d1, numL_zeros, natD_num a a (Nat.le_refl _)]
  have hp : ¬ (digs s (1 + 2)).length = 0 := by rw [show 1 + 2 = 3 from rfl, d1, List.length_append]; have := natD_pos a; omega
  unfold intv
  rw [if_neg (by rw [s2]; simp; simpa using hp), hn, hB, ← hsz]
  by_cases hc : 255 < a ∨ 255 < b ∨ b < a
  · rw [if_pos hc, if_pos (by omega)]
  · rw [if_neg hc, if_neg (by omega), show min a 256 = a by omega, show min b 256 = b by omega]
end
end Go.Proofs.YtloeajhmmjdlgaaDoor
