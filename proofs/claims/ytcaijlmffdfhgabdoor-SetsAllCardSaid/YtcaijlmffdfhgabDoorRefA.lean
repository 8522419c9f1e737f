/-
  What the document's own answer to chapter 1 leans on: in, Bytes.
-/
import Derived.Test.YtcaijlmffdfhgabDoorFold
import Derived.Deep.MidRow
namespace Go.Proofs.YtcaijlmffdfhgabDoor
open Go Go.RowKit
attribute [local go_sem] idx0 idx1 idx2 idx3 u64_signed

/-- Is byte n in the set? -/
def sbit (s : S) (n : Nat) : Bool := s.getLsbD n

theorem in_bit (s : S) (i k : Nat) (hk : k < 64) : (bits .and .u64 (wd s i / 2 ^ k) 1 == 1) = s.getLsbD (64 * i + k) := by
  have r := wd_range s i
  have e1 : wd s i / 2 ^ k = (((s.extractLsb' (64 * i) 64) >>> k).toNat : Int) := by
    unfold wd
    rw [BitVec.toNat_ushiftRight, Nat.shiftRight_eq_div_pow]
    simp only [Int.natCast_ediv, Int.natCast_pow, Int.cast_ofNat_Int]
  have e2 : bits .and .u64 (wd s i / 2 ^ k) 1 = ((((s.extractLsb' (64 * i) 64) >>> k) &&& 1#64).toNat : Int) := by
    show IntKind.u64.wrap ((BitVec.ofInt 64 (wd s i / 2 ^ k) &&& BitVec.ofInt 64 1).toNat : Int) = _
    rw [e1, BitVec.ofInt_natCast, BitVec.ofNat_toNat, BitVec.setWidth_eq, wrap_toNat]
    rfl
  rw [e2, ← bit_word s i k hk]
  have e3 : (s.extractLsb' (64 * i) 64).getLsbD k = ((s.extractLsb' (64 * i) 64) >>> k).getLsbD 0 := by simp
  rw [e3]
  generalize (s.extractLsb' (64 * i) 64) >>> k = y
  have e4 : (y &&& 1#64).toNat = y.toNat % 2 := by
    rw [BitVec.toNat_and]; exact Nat.and_one_is_mod _
  rw [e4]
  have e5 : y.getLsbD 0 = decide (y.toNat % 2 = 1) := by
    rw [BitVec.getLsbD]; exact Nat.testBit_zero _
  rw [e5, Bool.eq_iff_iff]
  simp
  omega

theorem in_div (s : S) (i : Nat) (b : Int) (h0 : 64 * i ≤ b) (h1 : b < 64 * i + 64) : (bits .and .u64 (wd s i / 2 ^ (b % 64).toNat) 1 == 1) = sbit s b.toNat := by
  rw [in_bit s i _ (by omega)]
  unfold sbit
  congr 1
  omega

set_option maxHeartbeats 1000000 in
theorem in_any (s : S) (b : Int) (w : World) (h0 : 0 ≤ b) (h1 : b < 256) :
    Calls Tryd.prog 15 #[.agg #[.int .u64 (wd (s) 0), .int .u64 (wd (s) 1), .int .u64 (wd (s) 2), .int .u64 (wd (s) 3)], .int .i64 b] w fun e w' => e = .returned (.bool (sbit s b.toNat)) ∧ Below w.heap.size w w' := by
  have HB : Hid (∀ c : Array Value, Below w.heap.size w (w.alloc (.cells c 24))) := fun c => (Below.refl _ _).alloc (Nat.le_refl _) _
  have hq : b / 64 = 0 ∨ b / 64 = 1 ∨ b / 64 = 2 ∨ b / 64 = 3 := by omega
  rcases hq with hq | hq | hq | hq
  · have E := in_div s 0 b (by omega) (by omega)
    go_enter Tryd.func15, Tryd.ntmps15
    go_wp2
    go_ret
    exact ⟨rfl, HB.out _⟩
  · have E := in_div s 1 b (by omega) (by omega)
    go_enter Tryd.func15, Tryd.ntmps15
    go_wp2
    go_ret
    exact ⟨rfl, HB.out _⟩
  · have E := in_div s 2 b (by omega) (by omega)
    go_enter Tryd.func15, Tryd.ntmps15
    go_wp2
    go_ret
    exact ⟨rfl, HB.out _⟩
  · have E := in_div s 3 b (by omega) (by omega)
    go_enter Tryd.func15, Tryd.ntmps15
    go_wp2
    go_ret
    exact ⟨rfl, HB.out _⟩

/-- 256 bools, as the cells of an array. -/
def bA (f : Nat → Bool) : Array Value := ((List.range 256).map fun i => Value.bool (f i)).toArray
def upd (f : Nat → Bool) (i : Nat) (v : Bool) : Nat → Bool := fun j => if j = i then v else f j
theorem bA_get (f : Nat → Bool) (i : Nat) (h : i < 256) : (bA f)[i]? = some (.bool (f i)) := by simp [bA, h]
theorem bA_size (f : Nat → Bool) : (bA f).size = 256 := by simp [bA]
theorem bA_set (f : Nat → Bool) (i : Nat) (v : Bool) : (bA f).setIfInBounds i (.bool v) = bA (upd f i v) := by
  apply Array.ext_getElem?
  intro j
  by_cases hj : j < 256
  · by_cases e : i = j
    · subst e
      rw [Array.getElem?_setIfInBounds_self_of_lt (by rw [bA_size]; exact hj), bA_get _ _ hj]
      simp [upd]
    · rw [Array.getElem?_setIfInBounds_ne e, bA_get _ _ hj, bA_get _ _ hj]
      have : ¬ j = i := fun h => e h.symm
      simp [upd, this]
  · rw [Array.getElem?_eq_none (by rw [Array.size_setIfInBounds, bA_size]; omega), Array.getElem?_eq_none (by rw [bA_size]; omega)]
/-- A whole array, stored. -/
def putA (W : World) (B : Nat) (f : Nat → Bool) : World := W.setCells B 0 (bA f).toList
theorem below_setCells {n : Nat} {a : World} (b : Nat) (hb : n ≤ b) : ∀ (vs : List Value) (o : Nat) (w : World), Below n a w → Below n a (w.setCells b o vs)
  | [], _, _, h => h
  | v :: vs, o, _, h => below_setCells b hb vs (o + 1) _ (h.setCell (p := ⟨b, o, none⟩) hb v)
theorem putA_below {n : Nat} {a w : World} {B : Nat} {f : Nat → Bool} (h : Below n a w) (hb : n ≤ B) : Below n a (putA w B f) := below_setCells B hb _ _ _ h
def setL (cur : Array Value) : Nat → List Value → Array Value
  | _, [] => cur
  | o, v :: r => setL (cur.setIfInBounds o v) (o + 1) r
theorem heap_setCells {t : TypeId} (b : Nat) : ∀ (vs : List Value) (o : Nat) (w : World) (cur : Array Value), w.heap[b]? = some (.cells cur t (0, 0)) → (w.setCells b o vs).heap[b]? = some (.cells (setL cur o vs) t (0, 0))
  | [], _, _, _, h => h
  | v :: vs, o, _, _, h => heap_setCells b vs (o + 1) _ _ (heap_set_in h o v)
theorem setL_size : ∀ (vs : List Value) (o : Nat) (cur : Array Value), (setL cur o vs).size = cur.size
  | [], _, _ => rfl
  | v :: vs, o, cur => by rw [setL, setL_size vs]; simp
theorem setL_low : ∀ (vs : List Value) (o : Nat) (cur : Array Value) (j : Nat), j < o → (setL cur o vs)[j]? = cur[j]?
  | [], _, _, _, _ => rfl
  | v :: vs, o, cur, j, h => by
    rw [setL, setL_low vs (o + 1) _ j (by omega), Array.getElem?_setIfInBounds_ne (by omega)]
theorem setL_get : ∀ (vs : List Value) (o : Nat) (cur : Array Value) (j : Nat), j < vs.length → o + vs.length ≤ cur.size → (setL cur o vs)[o + j]? = vs[j]?
  | v :: vs, o, cur, 0, _, hs => by
    show (setL (cur.setIfInBounds o v) (o + 1) vs)[o]? = _
    rw [setL_low vs (o + 1) _ o (by omega), Array.getElem?_setIfInBounds_self_of_lt (by simp at hs; omega)]; rfl
  | v :: vs, o, cur, j + 1, hj, hs => by
    have := setL_get vs (o + 1) (cur.setIfInBounds o v) j (by simpa using hj) (by simp at hs ⊢; omega)
    rw [setL, show o + (j + 1) = o + 1 + j by omega, this]; rfl
theorem bits_succ (s : S) (k : Nat) : upd (fun j => decide (j < k) && sbit s j) k (sbit s k) = fun j => decide (j < k + 1) && sbit s j := by
  funext j
  unfold upd
  by_cases h : j = k
  · subst h; simp
  · rw [if_neg h]
    by_cases h2 : j < k
    · simp [h2, Nat.lt_succ_of_lt h2]
    · have : ¬ j < k + 1 := by omega
      simp [h2, this]
theorem bits_all (s : S) : (fun j => decide (j < 256) && sbit s j) = fun j => sbit s j := by
  funext j
  by_cases h : j < 256
  · simp [h]
  · unfold sbit; rw [BitVec.getLsbD_of_ge _ _ (by omega)]; simp

end Go.Proofs.YtcaijlmffdfhgabDoor
