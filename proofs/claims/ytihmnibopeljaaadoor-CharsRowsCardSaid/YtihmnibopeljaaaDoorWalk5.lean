/-
  Units of a text, walked: mathematics; pick.
-/
import Derived.Test.YtihmnibopeljaaaDoorLawDec
namespace Go.Proofs.YtihmnibopeljaaaDoor
open Go Go.RowKit
attribute [local go_sem] ext_cell

set_option maxHeartbeats 1000000 in
theorem pick_c (c : Int) (n : Nat) (hn : 0 < n) (hs : n ≤ 100000000) (hc : (Lit.int .i64 c).wf = true) (w : World) :
    Calls Tryd.prog 13 #[.int .i64 c, .int .i64 n] w fun e w' => e = .returned (.int .i64 (pk c n)) ∧ w' = w := by
  have hr := wf_range hc
  have hq := pk_range (c := c) hn
  have hz : ¬ ((n : Int) = 0) := by omega
  by_cases h0 : c < 0
  · have e1 : IntKind.i64.wrap (c + 1) = c + 1 := by rw [IntKind.wrap_i64]; omega
    have e2 : IntKind.i64.wrap (-(c + 1)) = -(c + 1) := by rw [IntKind.wrap_i64]; omega
    have e4 : pk c n = (-(c + 1)).tmod n := by unfold pk; rw [if_pos h0]
    have e3 : IntKind.i64.wrap ((-(c + 1)).tmod n) = (-(c + 1)).tmod n := by rw [← e4, IntKind.wrap_i64]; omega
    have HE : Hid _ := e4
    clear e4 hq
    go_enter Tryd.func13, Tryd.ntmps13
    go_wp2
    go_ret
    exact ⟨by rw [HE.out, Int.neg_tmod]; rfl, rfl⟩
  · have e4 : pk c n = c.tmod n := by unfold pk; rw [if_neg h0]
    have e3 : IntKind.i64.wrap (c.tmod n) = c.tmod n := by rw [← e4, IntKind.wrap_i64]; omega
    have HE : Hid _ := e4
    clear e4 hq
    go_enter Tryd.func13, Tryd.ntmps13
    go_wp2
    go_ret
    exact ⟨by rw [HE.out, Int.tmod_eq_emod_of_nonneg h0]; rfl, rfl⟩


theorem ch_tail (s : ByteArray) (q p : Nat) : ch (s.extract q s.size) p = ch s (q + p) ∧ wd (s.extract q s.size) p = wd s (q + p) := by
  unfold ch wd bad
  rw [Lib.tail_decode]
  exact ⟨rfl, rfl⟩
theorem size_tail (s : ByteArray) (q : Nat) : (s.extract q s.size).size = s.size - q := by rw [ByteArray.size_extract]; omega
theorem uFrom_tail (s : ByteArray) (q : Nat) : ∀ f p, uFrom s f (q + p) = (uFrom (s.extract q s.size) f p).map fun u => (q + u.1, u.2)
  | 0, p => by simp [uFrom]
  | f + 1, p => by
    have hz := size_tail s q
    by_cases hp : q + p < s.size
    · rw [uFrom_more s f (q + p) hp, uFrom_more _ f p (by rw [hz]; omega), (ch_tail s q p).1, (ch_tail s q p).2, List.map_cons, ← uFrom_tail s q f (p + wd s (q + p)), Nat.add_assoc]
    · rw [uFrom_end s _ _ hp, uFrom_end _ _ _ (by rw [hz]; omega)]
      rfl
theorem uFrom_fuel (s : ByteArray) : ∀ f f' p, s.size ≤ p + f → s.size ≤ p + f' → uFrom s f p = uFrom s f' p
  | 0, f', p, h, _ => by rw [uFrom_end s 0 p (by omega), uFrom_end s f' p (by omega)]
  | f + 1, 0, p, _, h => by rw [uFrom_end s 0 p (by omega), uFrom_end s _ p (by omega)]
  | f + 1, f' + 1, p, h1, h2 => by
    by_cases hp : p < s.size
    · have := wd_pos s p
      rw [uFrom_more s f p hp, uFrom_more s f' p hp, uFrom_fuel s f f' (p + wd s p) (by omega) (by omega)]
    · rw [uFrom_end s _ _ hp, uFrom_end s _ _ hp]
/-- Behind a place. -/
theorem drop_at (s : ByteArray) : ∀ f p k, p ≤ s.size → s.size ≤ p + f → k ≤ (uFrom s f p).length → ∃ q, q ≤ s.size ∧ (plc (uFrom s f p) ++ [(s.size : Int)])[k]? = some (q : Int) ∧ (uFrom s f p).drop k = uFrom s (s.size - q) q
  | f, p, 0, h1, h2, _ => by
    refine ⟨p, h1, ?_, by rw [List.drop_zero]; exact uFrom_fuel s _ _ p h2 (by omega)⟩
    by_cases hp : p < s.size
    · obtain ⟨g, rfl⟩ : ∃ g, f = g + 1 := ⟨f - 1, by omega⟩
      rw [uFrom_more s g p hp]
      simp [plc]
    · obtain rfl : p = s.size := by omega
      rw [uFrom_end s _ _ hp]
      simp [plc]
  | 0, p, k + 1, h1, h2, h3 => by simp [uFrom] at h3
  | f + 1, p, k + 1, h1, h2, h3 => by
    by_cases hp : p < s.size
    · rw [uFrom_more s f p hp] at h3 ⊢
      have := wd_pos s p
      obtain ⟨q, q1, q2, q3⟩ := drop_at s f (p + wd s p) k (wd_le s p hp).2 (by omega) (by simpa using h3)
      exact ⟨q, q1, by simpa [plc] using q2, by simpa using q3⟩
    · rw [uFrom_end s _ _ hp] at h3; simp at h3
/-- The places of what stands behind one. -/
theorem places_behind (s : ByteArray) (k : Nat) (hk : k ≤ (us s).length) : ∃ q : Nat, q ≤ s.size ∧ (plc (us s) ++ [(s.size : Int)])[k]? = some (q : Int) ∧
    (plc (us (s.extract q s.size)) ++ [((s.extract q s.size).size : Int)]).map (fun x => x + (q : Int)) = (plc (us s) ++ [(s.size : Int)]).drop k := by
  obtain ⟨q, q1, q2, q3⟩ := drop_at s s.size 0 k (Nat.zero_le _) (by omega) hk
  refine ⟨q, q1, q2, ?_⟩
  have hz := size_tail s q
  have e1 : us (s.extract q s.size) = uFrom (s.extract q s.size) (s.size - q) 0 := by unfold us; rw [hz]
  have e2 := uFrom_tail s q (s.size - q) 0
  have e3 : (us s).drop k = uFrom s (s.size - q) q := q3
  rw [Nat.add_zero] at e2
  have e4 : (plc (us s) ++ [(s.size : Int)]).drop k = plc ((us s).drop k) ++ [(s.size : Int)] := by
    rw [List.drop_append_of_le_length (by rw [plc_len]; exact hk)]
    simp [plc, List.map_drop]
  rw [e4, e3, e2, ← e1, hz, List.map_append]
  simp only [plc, List.map_map, List.map_cons, List.map_nil]
  congr 1
  · apply List.map_congr_left
    intro u _
    simp only [Function.comp]
    omega
  · congr 1
    omega

theorem colOf_app (x : Int) : ∀ (l r : List (Nat × Int)), (∀ u ∈ l, (u.1 : Int) < x) → colOf x (l ++ r) = l.length + colOf x r
  | [], r, _ => by simp
  | (p, c) :: t, r, h => by
    have h0 := h (p, c) (List.mem_cons_self ..)
    simp only at h0
    rw [List.cons_append, colOf, if_neg (by omega), colOf_app x t r (fun u hu => h u (List.mem_cons_of_mem _ hu)), List.length_cons]
    omega
theorem colOf_here (s : ByteArray) (f p : Nat) : colOf (p : Int) (uFrom s f p) = 0 := by
  cases f with
  | zero => rfl
  | succ f =>
    unfold uFrom
    split
    · rw [colOf, if_pos (Int.le_refl _)]
    · rfl
theorem valid_snoc (n : Nat) (p : Nat) (c : Int) : ∀ (l : List (Nat × Int)), (∀ u ∈ l, u.1 < n) → validOf n (l ++ [(p, c)]) = if validOf n l = n ∧ c < 0 then p else validOf n l
  | [], _ => by simp [validOf]
  | (q, d) :: t, h => by
    have h0 := h (q, d) (List.mem_cons_self ..)
    have ih := valid_snoc n p c t (fun u hu => h u (List.mem_cons_of_mem _ hu))
    simp only at h0
    rw [List.cons_append, validOf, validOf]
    by_cases hd : d < 0
    · rw [if_pos hd, if_pos hd, if_neg (by omega)]
    · rw [if_neg hd, if_neg hd, ih]
end Go.Proofs.YtihmnibopeljaaaDoor
