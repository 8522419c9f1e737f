/-
  What the document's own answer to chapter 1 leans on: in, Bytes.
-/
import Derived.Test.YtcaijlmffdfhgaaDoorFold
import Derived.Deep.MidRow
namespace Go.Proofs.YtcaijlmffdfhgaaDoor
open Go Go.RowKit
attribute [local go_sem] idx0 idx1 idx2 idx3 u64_signed

/-- Is byte n in the set? -/
def sbit (s : S) (n : Nat) : Bool := s.getLsbD n

theorem in_bit (s : S) (i k : Nat) (hk : k < 64) : (bits .and .u64 (wd s i / 2 ^ k) 1 == 1) = s.getLsbD (64 * i + k) := by
  have r := wd_range s i
  have e1 : wd s i / 2 ^ k = (((s.extractLsb' (64 * i) 64) >>> k).toNat : Int) := by
    unfold wd
    rw [BitVec.toNat_ushiftRight, Nat.shiftRight_eq_div_pow]
    simp only [Int.natCast_ediv, Int.natCast_pow, Int.cast_ofNat_Int]
  have e2 : bits .and .u64 (wd s i / 2 ^ k) 1 = ((((s.extractLsb' (64 * i) 64) >>> k) &&& 1#64).toNat : Int) := by
    show IntKind.u64.wrap ((BitVec.ofInt 64 (wd s i / 2 ^ k) &&& BitVec.ofInt 64 1).toNat : Int) = _
    rw [e1, BitVec.ofInt_natCast, BitVec.ofNat_toNat, BitVec.setWidth_eq, wrap_toNat]
    rfl
  rw [e2, ← bit_word s i k hk]
  have e3 : (s.extractLsb' (64 * i) 64).getLsbD k = ((s.extractLsb' (64 * i) 64) >>> k).getLsbD 0 := by simp
  rw [e3]
  generalize (s.extractLsb' (64 * i) 64) >>> k = y
  have e4 : (y &&& 1#64).toNat = y.toNat % 2 := by
    rw [BitVec.toNat_and]; exact Nat.and_one_is_mod _
  rw [e4]
  have e5 : y.getLsbD 0 = decide (y.toNat % 2 = 1) := by
    rw [BitVec.getLsbD]; exact Nat.testBit_zero _
  rw [e5, Bool.eq_iff_iff]
  simp
  omega

theorem in_div (s : S) (i : Nat) (b : Int) (h0 : 64 * i ≤ b) (h1 : b < 64 * i + 64) : (bits .and .u64 (wd s i / 2 ^ (b % 64).toNat) 1 == 1) = sbit s b.toNat := by
  rw [in_bit s i _ (by omega)]
  unfold sbit
  congr 1
  omega

set_option maxHeartbeats 1000000 in
theorem in_any (s : S) (b : Int) (w : World) (h0 : 0 ≤ b) (h1 : b < 256) :
    Calls Tryd.prog 46 #[.agg #[.int .u64 (wd (s) 0), .int .u64 (wd (s) 1), .int .u64 (wd (s) 2), .int .u64 (wd (s) 3)], .int .i64 b] w fun e w' => e = .returned (.bool (sbit s b.toNat)) ∧ Below w.heap.size w w' := by
  have HB : Hid (∀ c : Array Value, Below w.heap.size w (w.alloc (.cells c 24))) := fun c => (Below.refl _ _).alloc (Nat.le_refl _) _
  have hq : b / 64 = 0 ∨ b / 64 = 1 ∨ b / 64 = 2 ∨ b / 64 = 3 := by omega
  rcases hq with hq | hq | hq | hq
  · have E := in_div s 0 b (by omega) (by omega)
    go_enter Tryd.func46, Tryd.ntmps46
    go_wp2
    go_ret
    exact ⟨rfl, HB.out _⟩
  · have E := in_div s 1 b (by omega) (by omega)
    go_enter Tryd.func46, Tryd.ntmps46
    go_wp2
    go_ret
    exact ⟨rfl, HB.out _⟩
  · have E := in_div s 2 b (by omega) (by omega)
    go_enter Tryd.func46, Tryd.ntmps46
    go_wp2
    go_ret
    exact ⟨rfl, HB.out _⟩
  · have E := in_div s 3 b (by omega) (by omega)
    go_enter Tryd.func46, Tryd.ntmps46
    go_wp2
    go_ret
    exact ⟨rfl, HB.out _⟩

/-- 256 bools, as the cells of an array. -/
def bA (f : Nat → Bool) : Array Value := ((List.range 256).map fun i => Value.bool (f i)).toArray
def upd (f : Nat → Bool) (i : Nat) (v : Bool) : Nat → Bool := fun j => if j = i then v else f j
theorem bA_get (f : Nat → Bool) (i : Nat) (h : i < 256) : (bA f)[i]? = some (.bool (f i)) := by simp [bA, h]
theorem bA_size (f : Nat → Bool) : (bA f).size = 256 := by simp [bA]
theorem bA_set (f : Nat → Bool) (i : Nat) (v : Bool) : (bA f).setIfInBounds i (.bool v) = bA (upd f i v) := by
  apply Array.ext_getElem?
  intro j
  by_cases hj : j < 256
  · by_cases e : i = j
    · subst e
      rw [Array.getElem?_setIfInBounds_self_of_lt (by rw [bA_size]; exact hj), bA_get _ _ hj]
      simp [upd]
    · rw [Array.getElem?_setIfInBounds_ne e, bA_get _ _ hj, bA_get _ _ hj]
      have : ¬ j = i := fun h => e h.symm
      simp [upd, this]
  · rw [Array.getElem?_eq_none (by rw [Array.size_setIfInBounds, bA_size]; omega), Array.getElem?_eq_none (by rw [bA_size]; omega)]
theorem zero_arr (w : World) : (zeroValue 57).run Tryd.prog w = .ok (.agg (bA fun _ => false)) w := by kernel_rfl
attribute [local go_sem] zero_arr

/-- 256 bools lie in a box. -/
def ArrAt (W : World) (B : Nat) (f : Nat → Bool) : Prop := W.heap[B]? = some (.cells (bA f) 57 (0, 0))
theorem ArrAt.lt {W : World} {B : Nat} {f : Nat → Bool} (h : ArrAt W B f) : B < W.heap.size := (Array.getElem?_eq_some_iff.1 h).1
theorem ArrAt.cell {W : World} {B : Nat} {f : Nat → Bool} (h : ArrAt W B f) (i : Nat) (hi : i < 256) : W.cell? ⟨B, i, none⟩ = some (.bool (f i)) := by
  simp [World.cell?, show W.heap[B]? = _ from h, bA_get f i hi]
theorem ArrAt.frozen {W : World} {B : Nat} {f : Nat → Bool} (h : ArrAt W B f) (i : Nat) : W.frozen? ⟨B, i, none⟩ = false := by simp [World.frozen?, show W.heap[B]? = _ from h]
theorem ArrAt.below {W W' : World} {B n₀ : Nat} {f : Nat → Bool} (h : ArrAt W B f) (hb : Below n₀ W W') (hB : B < n₀) : ArrAt W' B f := (hb.block B hB).trans h
theorem ArrAt.new (W : World) (f : Nat → Bool) : ArrAt (W.alloc (.cells (bA f) 57)) W.heap.size f := World.alloc_heap_new W _
theorem ArrAt.alloc {W : World} {B : Nat} {f : Nat → Bool} (h : ArrAt W B f) (o : Obj) : ArrAt (W.alloc o) B f := (Below.heap_alloc W o B h.lt).trans h
theorem ArrAt.store {W : World} {B : Nat} {f : Nat → Bool} (h : ArrAt W B f) (i : Nat) (v : Bool) : ArrAt (W.setCell ⟨B, i, none⟩ (.bool v)) B (upd f i v) :=
  (heap_set_in h i _).trans (by rw [bA_set])

theorem und_arr : Tryd.prog.underlying 57 = some (.array 256 4) := by kernel_rfl
theorem inf_arr : (Tryd.prog.info? 57).map (·.size) = some 256 := by kernel_rfl
theorem ArrAt.range {W : World} {B : Nat} {f : Nat → Bool} (h : ArrAt W B f) : W.rangeAt B 0 (bA f).toList := fun j v hv => by
  have hj : j < 256 := by have := (List.getElem?_eq_some_iff.1 hv).1; rw [Array.length_toList, bA_size] at this; exact this
  have e := bA_get f j hj
  rw [Nat.zero_add, h.cell j hj, ← e]
  simpa using hv
theorem ArrAt.loadVar {W : World} {B : Nat} {f : Nat → Bool} (h : ArrAt W B f) : (loadVar 57 ⟨B, 0, none⟩).run Tryd.prog W = .ok (.agg (bA f)) W := by
  have := run_loadVar_mid (P := Tryd.prog) W B 0 57 (bA f).toList _ h.range und_arr rfl (by rw [inf_arr, Array.length_toList, bA_size])
  simpa using this
theorem ArrAt.loadAt {W : World} {B : Nat} {f : Nat → Bool} (h : ArrAt W B f) : (Instr.loadAt 57 (.pointer (some ⟨B, 0, none⟩))).run Tryd.prog W = .ok (.agg (bA f)) W := by
  have := run_loadAt_mid (P := Tryd.prog) W B 0 57 (bA f).toList _ h.range und_arr rfl (by rw [inf_arr, Array.length_toList, bA_size])
  simpa using this
/-- A whole array, stored. -/
def putA (W : World) (B : Nat) (f : Nat → Bool) : World := W.setCells B 0 (bA f).toList
theorem ArrAt.storeAt {W : World} {B : Nat} {g : Nat → Bool} (h : ArrAt W B g) (f : Nat → Bool) : (Instr.storeAt 57 (.pointer (some ⟨B, 0, none⟩)) (.agg (bA f))).run Tryd.prog W = .ok () (putA W B f) := by
  refine run_storeAt_mid (P := Tryd.prog) W B 0 57 (bA f) (fun j hj => ?_) (by rw [inf_arr, bA_size]) ?_
  · rw [bA_size] at hj
    rw [Nat.zero_add, h.cell j hj]
    exact ⟨rfl, h.frozen j⟩
  · rw [Array.all_eq_true_iff_forall_mem]
    intro v hv
    simp only [bA, List.mem_toArray, List.mem_map] at hv
    obtain ⟨i, _, rfl⟩ := hv
    rfl
theorem below_setCells {n : Nat} {a : World} (b : Nat) (hb : n ≤ b) : ∀ (vs : List Value) (o : Nat) (w : World), Below n a w → Below n a (w.setCells b o vs)
  | [], _, _, h => h
  | v :: vs, o, _, h => below_setCells b hb vs (o + 1) _ (h.setCell (p := ⟨b, o, none⟩) hb v)
theorem putA_below {n : Nat} {a w : World} {B : Nat} {f : Nat → Bool} (h : Below n a w) (hb : n ≤ B) : Below n a (putA w B f) := below_setCells B hb _ _ _ h
def setL (cur : Array Value) : Nat → List Value → Array Value
  | _, [] => cur
  | o, v :: r => setL (cur.setIfInBounds o v) (o + 1) r
theorem heap_setCells {t : TypeId} (b : Nat) : ∀ (vs : List Value) (o : Nat) (w : World) (cur : Array Value), w.heap[b]? = some (.cells cur t (0, 0)) → (w.setCells b o vs).heap[b]? = some (.cells (setL cur o vs) t (0, 0))
  | [], _, _, _, h => h
  | v :: vs, o, _, _, h => heap_setCells b vs (o + 1) _ _ (heap_set_in h o v)
theorem setL_size : ∀ (vs : List Value) (o : Nat) (cur : Array Value), (setL cur o vs).size = cur.size
  | [], _, _ => rfl
  | v :: vs, o, cur => by rw [setL, setL_size vs]; simp
theorem setL_low : ∀ (vs : List Value) (o : Nat) (cur : Array Value) (j : Nat), j < o → (setL cur o vs)[j]? = cur[j]?
  | [], _, _, _, _ => rfl
  | v :: vs, o, cur, j, h => by
    rw [setL, setL_low vs (o + 1) _ j (by omega), Array.getElem?_setIfInBounds_ne (by omega)]
theorem setL_get : ∀ (vs : List Value) (o : Nat) (cur : Array Value) (j : Nat), j < vs.length → o + vs.length ≤ cur.size → (setL cur o vs)[o + j]? = vs[j]?
  | v :: vs, o, cur, 0, _, hs => by
    show (setL (cur.setIfInBounds o v) (o + 1) vs)[o]? = _
    rw [setL_low vs (o + 1) _ o (by omega), Array.getElem?_setIfInBounds_self_of_lt (by simp at hs; omega)]; rfl
  | v :: vs, o, cur, j + 1, hj, hs => by
    have := setL_get vs (o + 1) (cur.setIfInBounds o v) j (by simpa using hj) (by simp at hs ⊢; omega)
    rw [setL, show o + (j + 1) = o + 1 + j by omega, this]; rfl
theorem ArrAt.put {W : World} {B : Nat} {g : Nat → Bool} (h : ArrAt W B g) (f : Nat → Bool) : ArrAt (putA W B f) B f := by
  refine (heap_setCells B _ 0 W _ h).trans ?_
  have hl : (bA f).toList.length = 256 := by rw [Array.length_toList, bA_size]
  have e : setL (bA g) 0 (bA f).toList = bA f := by
    apply Array.ext_getElem?
    intro j
    by_cases hj : j < 256
    · have := setL_get (bA f).toList 0 (bA g) j (by omega) (by rw [bA_size]; omega)
      rw [Nat.zero_add] at this
      rw [this]; simp
    · rw [Array.getElem?_eq_none (by rw [setL_size, bA_size]; omega), Array.getElem?_eq_none (by rw [bA_size]; omega)]
  rw [e]

theorem wpList_load_arr {ops : Array Oper} {rest : List Oper} {op : Oper} {a : Act} {w : World} {Q : Exit → Act → World → Prop} (hgd : op.guard = none) (x : Operand) (ho : op.op = .load 57 x)
    (B : Nat) (f : Nat → Bool) (hx : a.eval x = .pointer (some ⟨B, 0, none⟩)) (h : ArrAt w B f) (k : wpList Tryd.prog ops Q rest (a.put op.dst (.agg (bA f))) w) : wpList Tryd.prog ops Q (op :: rest) a w := by
  refine wpList_load_mid hgd _ x ho B 0 hx (bA f).toList _ h.range und_arr rfl (by rw [inf_arr, Array.length_toList, bA_size]) ?_
  simpa using k
theorem wpList_store_arr {ops : Array Oper} {rest : List Oper} {op : Oper} {a : Act} {w : World} {Q : Exit → Act → World → Prop} (hgd : op.guard = none) (x y : Operand) (ho : op.op = .store 57 x y)
    (B : Nat) (f g : Nat → Bool) (hx : a.eval x = .pointer (some ⟨B, 0, none⟩)) (hy : a.eval y = .agg (bA f)) (h : ArrAt w B g) (k : wpList Tryd.prog ops Q rest (a.put op.dst undef) (putA w B f)) : wpList Tryd.prog ops Q (op :: rest) a w := by
  refine wpList_store_mid hgd _ x y ho B 0 (bA f) hx hy (fun j hj => ?_) (by rw [inf_arr, bA_size]) ?_ k
  · rw [bA_size] at hj
    rw [Nat.zero_add, h.cell j hj]
    exact ⟨rfl, h.frozen j⟩
  · rw [Array.all_eq_true_iff_forall_mem]
    intro v hv
    simp only [bA, List.mem_toArray, List.mem_map] at hv
    obtain ⟨i, _, rfl⟩ := hv
    rfl

theorem bits_succ (s : S) (k : Nat) : upd (fun j => decide (j < k) && sbit s j) k (sbit s k) = fun j => decide (j < k + 1) && sbit s j := by
  funext j
  unfold upd
  by_cases h : j = k
  · subst h; simp
  · rw [if_neg h]
    by_cases h2 : j < k
    · simp [h2, Nat.lt_succ_of_lt h2]
    · have : ¬ j < k + 1 := by omega
      simp [h2, this]
theorem bits_all (s : S) : (fun j => decide (j < 256) && sbit s j) = fun j => sbit s j := by
  funext j
  by_cases h : j < 256
  · simp [h]
  · unfold sbit; rw [BitVec.getLsbD_of_ge _ _ (by omega)]; simp

set_option maxRecDepth 100000 in
set_option maxHeartbeats 1000000 in
theorem bytes_any (s : S) (w : World) :
    Calls Tryd.prog 50 #[.agg #[.int .u64 (wd (s) 0), .int .u64 (wd (s) 1), .int .u64 (wd (s) 2), .int .u64 (wd (s) 3)]] w fun e w' => e = .returned (.agg (bA fun j => sbit s j)) ∧ Below w.heap.size w w' := by
  go_enter Tryd.func50, Tryd.ntmps50
  go_wp2
  go_loopw [4] (fun i wr => ∃ k : Nat, k ≤ 256 ∧ i = .int .i64 k ∧ ArrAt wr (w.heap.size + 1 + 1) (fun j => decide (j < k) && sbit s j) ∧ Below (w.heap.size + 1 + 1) ((w.alloc (.cells #[.int .u64 (wd (s) 0), .int .u64 (wd (s) 1), .int .u64 (wd (s) 2), .int .u64 (wd (s) 3)] 24)).alloc (.cells (bA fun _ => false) 57)) wr) (fun i _ => 256 - (intOf i).toNat)
  case atStart =>
    refine ⟨0, by omega, rfl, ?_, (Below.refl _ _).alloc (by simp) _⟩
    have := ArrAt.new ((w.alloc (.cells #[.int .u64 (wd (s) 0), .int .u64 (wd (s) 1), .int .u64 (wd (s) 2), .int .u64 (wd (s) 3)] 24)).alloc (.cells (bA fun _ => false) 57)) (fun _ => false)
    simpa using this
  case round =>
    obtain ⟨k, hk, rfl, harr, hb⟩ := hrel
    have HA : Hid (ArrAt wr (w.heap.size + 1 + 1) (fun j => decide (j < k) && sbit s j)) := harr
    have HB : Hid (Below (w.heap.size + 1 + 1) ((w.alloc (.cells #[.int .u64 (wd (s) 0), .int .u64 (wd (s) 1), .int .u64 (wd (s) 2), .int .u64 (wd (s) 3)] 24)).alloc (.cells (bA fun _ => false) 57)) wr) := hb
    have sS : SetAt wr w.heap.size s := ((SetAt.new w s).alloc _).below hb (by omega)
    have aR : Hid (ArrAt wr (w.heap.size + 1) (fun _ => false)) := (by have h := ArrAt.new (w.alloc (.cells #[.int .u64 (wd (s) 0), .int .u64 (wd (s) 1), .int .u64 (wd (s) 2), .int .u64 (wd (s) 3)] 24)) (fun _ => false); rw [World.size_alloc] at h; exact h.below hb (by omega))
    obtain ⟨a0, a1, a2, a3⟩ := sS.cells
    clear harr hb
    by_cases hlt : k < 256
    · have i0 : (0 : Int) ≤ (k : Int) := by omega
      have i1 : (k : Int) < 256 := by omega
      go_wp2_with (go_at_call 46; refine (in_any _ _ _ i0 i1).mono ?_; rintro e w2 ⟨rfl, hb2⟩; have A2 : Hid (ArrAt w2 (w.heap.size + 1 + 1) (fun j => decide (j < k) && sbit s j)) := HA.out.below hb2 HA.out.lt; have c2 := A2.out.cell k hlt; have f2 := A2.out.frozen k)
      go_roundw
      case rel =>
        refine ⟨k + 1, by omega, by go_num, ?_, (HB.out.trans (hb2.mono (Nat.le_of_lt HA.out.lt))).setCell (by simp) _⟩
        rw [← bits_succ]
        exact A2.out.store k _
      case measure => simp [intOf]; omega
    · obtain rfl : k = 256 := by omega
      rw [bits_all] at HA
      go_wp2_with (first | (refine wpList_load_arr rfl _ rfl (w.heap.size + 1 + 1) _ rfl HA.out ?_) | (refine wpList_store_arr rfl _ _ rfl (w.heap.size + 1) (fun j => sbit s j) _ rfl rfl aR.out ?_))
      have lv := (aR.out.put (fun j => sbit s j)).loadVar
      exact bodyPost_ret (v := .agg (bA fun j => sbit s j)) (by simp [results, Tryd.results50, asAddr, Act.put, lv]) rfl ⟨rfl, putA_below (((((Below.refl _ _).alloc (Nat.le_refl _) _).alloc (by simp) _)).trans (HB.out.mono (by omega))) (by omega)⟩
end Go.Proofs.YtcaijlmffdfhgaaDoor
