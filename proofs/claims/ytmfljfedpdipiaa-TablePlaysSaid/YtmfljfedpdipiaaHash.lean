/-
  The hash of a key, its home, a place of the ring.
-/
import Derived.Test.YtmfljfedpdipiaaFrame
import Derived.Test.YtmfljfedpdipiaaExt
import Derived.Test.YtmfljfedpdipiaaProbe
import Derived.Laws.BitsLemmas
namespace Go.Proofs.Ytmfljfedpdipiaa
open Go Go.RowKit
attribute [local go_sem] ext_cell

theorem ArgI.slice {W : World} {v : Value} {zs : List Int} (h : ArgI W v zs) : ∃ q cap, v = .slice q zs.length cap ∧ zs.length ≤ maxLen ∧
    (∀ (i : Nat) (x : Int), zs[i]? = some x → ∃ g off, q = some ⟨g, off, none⟩ ∧ g < W.heap.size ∧ W.cell? ⟨g, off + i, none⟩ = some (.int .i64 x)) := by
  rcases h with ⟨p, cap, rfl, rfl⟩ | ⟨g, off, cap, rfl, h2, h3, h4, h5⟩
  · exact ⟨p, cap, rfl, Nat.zero_le _, fun i x hx => by simp at hx⟩
  · exact ⟨_, cap, rfl, Nat.le_trans h3 h4, fun i x hx => ⟨g, off, rfl, h2, h5 i x hx⟩⟩
theorem ArgI.kept {W W' : World} {v : Value} {zs : List Int} (h : ArgI W v zs) (hb : Below W.heap.size W W') : ArgI W' v zs := h.below hb rfl

/-- One number is stirred in. -/
def hmix (x y : Int) : Int :=
  let a := IntKind.u64.wrap (bits BinOp.xor IntKind.u64 x (IntKind.u64.wrap y) * 11400714819323198485)
  let c := IntKind.u64.wrap (bits BinOp.xor IntKind.u64 a (a / 4294967296) * 15485907386658061715)
  bits BinOp.xor IntKind.u64 c (c / 4294967296)
def hashF (l : List Int) : Int := l.foldl hmix 11400714819323198485
theorem hashF_snoc (l : List Int) (x : Int) : hashF (l ++ [x]) = hmix (hashF l) x := by simp [hashF]

set_option maxRecDepth 100000 in
set_option maxHeartbeats 1000000 in
theorem hash_c {w : World} {v : Value} {zs : List Int} (hz : ArgI w v zs) : Calls Try.prog 45 #[v] w fun e w' => e = .returned (.int .u64 (hashF zs)) ∧ w' = w := by
  obtain ⟨q, cap, rfl, hlen, hcell⟩ := hz.slice
  have HC : Hid (∀ (i : Nat) (x : Int), zs[i]? = some x → ∃ g off, q = some ⟨g, off, none⟩ ∧ g < w.heap.size ∧ w.cell? ⟨g, off + i, none⟩ = some (.int .i64 x)) := hcell
  clear hcell hz
  unfold maxLen at hlen
  go_enter Try.func45, Try.ntmps45
  go_wp2
  go_loopw [3, 8] (fun h i wr => ∃ (k : Nat) (x : Int), k ≤ zs.length ∧ i = .int .i64 k ∧ h = .int .u64 x ∧ hashF (zs.take k) = x ∧ wr = w) (fun _ i _ => zs.length - (intOf i).toNat)
  case atStart => exact ⟨0, _, Nat.zero_le _, rfl, rfl, rfl, rfl⟩
  case round =>
    obtain ⟨k, x, hk, rfl, rfl, hx, rfl⟩ := hrel
    have HX : Hid (hashF (zs.take k) = x) := hx
    clear hx
    by_cases hlt : k < zs.length
    · have HT : Hid (zs.take (k + 1) = zs.take k ++ [zs[k]]) := take_next zs k hlt
      obtain ⟨g, off, rfl, hg, hc⟩ := HC.out k _ (List.getElem?_eq_getElem hlt)
      generalize zs[k] = y at hc HT
      have i0 : (0 : Int) ≤ (k : Int) := by omega
      have i1 : (k : Int) < (zs.length : Int) := by omega
      go_wp2
      exact ⟨⟨k + 1, _, by omega, by go_num, rfl, by rw [HT.out, hashF_snoc, HX.out]; rfl, by first | rfl | trivial⟩, by simp [intOf]; omega⟩
    · have i1 : ¬ ((k : Int) < (zs.length : Int)) := by omega
      go_wp2
      go_ret
      have hx := HX.out
      rw [List.take_of_length_le (by omega)] at hx
      exact ⟨by rw [hx]; rfl, rfl⟩

/-! ### A mask is a rest -/
theorem mask_nat (x : Int) (p : Nat) (hp : p ≤ 40) : (BitVec.ofInt 64 x &&& BitVec.ofInt 64 ((2 ^ p - 1 : Nat) : Int)).toNat = (x % ((2 ^ 64 : Nat) : Int)).toNat % 2 ^ p := by
  have h1 : 2 ^ p ≤ 2 ^ 40 := Nat.pow_le_pow_right (by decide) hp
  have h2 : (2 : Nat) ^ 40 = 1099511627776 := by decide
  have hm : (BitVec.ofInt 64 ((2 ^ p - 1 : Nat) : Int)).toNat = 2 ^ p - 1 := by
    rw [BitVec.ofInt_natCast, BitVec.toNat_ofNat, Nat.mod_eq_of_lt (by omega)]
  rw [BitVec.toNat_and, BitVec.toNat_ofInt, hm, Nat.and_two_pow_sub_one_eq_mod]
theorem mod_pow (x : Int) (p : Nat) (hp : p ≤ 40) : (((x % ((2 ^ 64 : Nat) : Int)).toNat % 2 ^ p : Nat) : Int) = x % ((2 ^ p : Nat) : Int) := by
  have h0 : 0 ≤ x % ((2 ^ 64 : Nat) : Int) := Int.emod_nonneg _ (by decide)
  have hd : ((2 ^ p : Nat) : Int) ∣ ((2 ^ 64 : Nat) : Int) := Int.natCast_dvd_natCast.2 (Nat.pow_dvd_pow 2 (by omega))
  rw [Int.natCast_emod, Int.toNat_of_nonneg h0, Int.emod_emod_of_dvd _ hd]
theorem pow_small {p : Nat} (hp : p ≤ 40) : ((2 ^ p : Nat) : Int) ≤ 1099511627776 ∧ 0 < ((2 ^ p : Nat) : Int) := by
  have h1 : 2 ^ p ≤ 2 ^ 40 := Nat.pow_le_pow_right (by decide) hp
  have h2 : (2 : Nat) ^ 40 = 1099511627776 := by decide
  have h3 : 0 < 2 ^ p := Nat.two_pow_pos p
  omega
theorem i64_mask (x : Int) (p : Nat) (hp : p ≤ 40) : bits .and .i64 x ((2 ^ p - 1 : Nat) : Int) = x % ((2 ^ p : Nat) : Int) := by
  have h := pow_small hp
  show IntKind.i64.wrap ((BitVec.ofInt 64 x &&& BitVec.ofInt 64 ((2 ^ p - 1 : Nat) : Int)).toNat : Nat) = _
  rw [mask_nat x p hp, mod_pow x p hp, IntKind.wrap_i64]
  have a := Int.emod_nonneg x (show ((2 ^ p : Nat) : Int) ≠ 0 by omega)
  have b := Int.emod_lt_of_pos x h.2
  omega
theorem u64_mask (x : Int) (p : Nat) (hp : p ≤ 40) : bits .and .u64 x ((2 ^ p - 1 : Nat) : Int) = x % ((2 ^ p : Nat) : Int) := by
  have h := pow_small hp
  show IntKind.u64.wrap ((BitVec.ofInt 64 x &&& BitVec.ofInt 64 ((2 ^ p - 1 : Nat) : Int)).toNat : Nat) = _
  rw [mask_nat x p hp, mod_pow x p hp]
  have a := Int.emod_nonneg x (show ((2 ^ p : Nat) : Int) ≠ 0 by omega)
  have b := Int.emod_lt_of_pos x h.2
  generalize x % ((2 ^ p : Nat) : Int) = y at a b ⊢
  generalize ((2 ^ p : Nat) : Int) = z at h b
  simp [IntKind.wrap, IntKind.bits, IntKind.signed]
  omega

/-- A power of two. -/
def Pow2 (n : Nat) : Prop := ∃ p, p ≤ 40 ∧ n = 2 ^ p
/-- The place where a key stands, if nobody else does. -/
def hmN (n : Nat) (k : List Int) : Nat := (hashF k % (n : Int)).toNat
theorem hmN_lt {n : Nat} (hn : 0 < n) (k : List Int) : hmN n k < n := by
  have a := Int.emod_nonneg (hashF k) (show (n : Int) ≠ 0 by omega)
  have b := Int.emod_lt_of_pos (hashF k) (show 0 < (n : Int) by omega)
  unfold hmN
  omega
theorem hmN_cast {n : Nat} (hn : 0 < n) (k : List Int) : ((hmN n k : Nat) : Int) = hashF k % (n : Int) := by
  have a := Int.emod_nonneg (hashF k) (show (n : Int) ≠ 0 by omega)
  unfold hmN
  omega
theorem emod_nxt {n a : Nat} (ha : a < n) : ((a : Int) + 1) % (n : Int) = (nxt n a : Nat) := by
  rcases nxt_is n a with ⟨h1, h2⟩ | ⟨h1, h2⟩
  · rw [h2, Int.emod_eq_of_lt (by omega) (by omega)]; omega
  · rw [h2, show (a : Int) + 1 = (n : Int) by omega, Int.emod_self]; rfl
theorem emod_dist {n a b : Nat} (ha : a < n) (hb : b < n) : ((b : Int) - (a : Int)) % (n : Int) = (dist n a b : Nat) := by
  rcases dist_is n a b with ⟨h1, h2⟩ | ⟨h1, h2⟩
  · rw [h2, Int.emod_eq_of_lt (by omega) (by omega)]; omega
  · rw [h2, ← Int.add_emod_right, Int.emod_eq_of_lt (by omega) (by omega)]; omega

set_option maxHeartbeats 1000000 in
theorem round_c {w : World} {b n cap : Nat} {q : Option Addr} (c3 : w.cell? ⟨b, 3, none⟩ = some (.slice q n cap)) (hn : Pow2 n) (x : Int) :
    Calls Try.prog 39 #[.pointer (some ⟨b, 0, none⟩), .int .i64 x] w fun e w' => e = .returned (.int .i64 (x % (n : Int))) ∧ w' = w := by
  obtain ⟨p, hp, rfl⟩ := hn
  have h := pow_small hp
  have e1 : IntKind.i64.wrap (((2 ^ p : Nat) : Int) - 1) = ((2 ^ p - 1 : Nat) : Int) := by rw [IntKind.wrap_i64]; omega
  have HM : Hid (bits .and .i64 x ((2 ^ p - 1 : Nat) : Int) = x % ((2 ^ p : Nat) : Int)) := i64_mask x p hp
  generalize hN : 2 ^ p = N at *
  generalize hN1 : N - 1 = N1 at *
  clear hN hN1 h
  go_enter Try.func39, Try.ntmps39
  go_wp2
  go_ret
  exact ⟨by rw [HM.out]; rfl, rfl⟩

set_option maxHeartbeats 1000000 in
theorem home_c {w : World} {b n cap : Nat} {q : Option Addr} {v : Value} {k : List Int} (c3 : w.cell? ⟨b, 3, none⟩ = some (.slice q n cap)) (hb : b < w.heap.size) (hn : Pow2 n) (hz : ArgI w v k) :
    Calls Try.prog 37 #[.pointer (some ⟨b, 0, none⟩), v] w fun e w' => e = .returned (.int .i64 (hmN n k : Nat)) ∧ Below w.heap.size w w' := by
  obtain ⟨p, hp, rfl⟩ := hn
  have h := pow_small hp
  have e1 : IntKind.i64.wrap (((2 ^ p : Nat) : Int) - 1) = ((2 ^ p - 1 : Nat) : Int) := by rw [IntKind.wrap_i64]; omega
  have e2 : IntKind.u64.wrap ((2 ^ p - 1 : Nat) : Int) = ((2 ^ p - 1 : Nat) : Int) := by simp [IntKind.wrap, IntKind.bits, IntKind.signed]; omega
  have hM : bits .and .u64 (hashF k) ((2 ^ p - 1 : Nat) : Int) = (hmN (2 ^ p) k : Nat) := by rw [u64_mask (hashF k) p hp, hmN_cast (by omega)]
  have hlt := hmN_lt (n := 2 ^ p) (by omega) k
  have e3 : IntKind.i64.wrap ((hmN (2 ^ p) k : Nat) : Int) = (hmN (2 ^ p) k : Nat) := by rw [IntKind.wrap_i64]; omega
  have HZ : Hid (ArgI w v k) := hz
  generalize hmN (2 ^ p) k = r at *
  generalize hN : 2 ^ p = N at *
  generalize hN1 : N - 1 = N1 at *
  clear hN hN1 h hlt hz
  go_enter Try.func37, Try.ntmps37
  go_wp2
  refine wp_region_ext (by kernel_rfl) (by kernel_rfl) ?_
  repeat (go_big_quiet_step (first | exact rfl | (go_at_call 45; with_reducible exact ext_call_same (hash_c (HZ.out.kept (ext_below _))))))
  refine wpQuiet_nil ?_
  intro w5 hw
  have hb5 := ext_of hw
  clear hw
  go_wp2
  go_ret
  exact ⟨rfl, hb5⟩
end Go.Proofs.Ytmfljfedpdipiaa
