/-
  The document's own answer: Of.
-/
import Derived.Test.YtcaijlmffdfhgaaDoorRefH
namespace Go.Proofs.YtcaijlmffdfhgaaDoor
open Go Go.RowKit
attribute [local go_sem] u64_signed ext_cell zero_arr

def ofF (l : List UInt8) : Nat → Bool := fun j => l.any fun c => c.toNat == j
theorem ofF_snoc (l : List UInt8) (c : UInt8) : ofF (l ++ [c]) = upd (ofF l) c.toNat true := by
  funext j
  unfold ofF upd
  rw [List.any_append]
  by_cases h : j = c.toNat
  · simp [h]
  · have : ¬ c.toNat = j := fun e => h e.symm
    simp [h, this]
theorem bit_sof (l : List UInt8) (n : Nat) (hn : n < 256) : (sof l).getLsbD n = ofF l n := by
  refine snoc_ind (p := fun l => (sof l).getLsbD n = ofF l n) ?_ ?_ _ l rfl
  · simp [sof, ofF]
  · intro l c h
    rw [sof_snoc, bit_or, h, bit_only, ofF_snoc]
    unfold upd
    by_cases e : n = c.toNat
    · rw [if_pos e, decide_eq_true (by omega)]; simp
    · rw [if_neg e, decide_eq_false (by omega)]; simp
theorem ofF_lai (l : List UInt8) : lai (ofF l) 256 = sof l := lai_eq _ _ fun n hn => (bit_sof l n hn).symm

set_option maxRecDepth 100000 in
set_option maxHeartbeats 1000000 in
theorem rOf_any (s : ByteArray) (w : World) (hs : s.size ≤ maxLen) :
    Calls Tryd.prog 28 #[.string s] w fun e w' => e = .returned (.agg #[.int .u64 (wd (sof s.data.toList) 0), .int .u64 (wd (sof s.data.toList) 1), .int .u64 (wd (sof s.data.toList) 2), .int .u64 (wd (sof s.data.toList) 3)]) ∧ Below w.heap.size w w' := by
  unfold maxLen at hs
  have HB0 : Hid (Below w.heap.size w (w.alloc (.cells #[.int .u64 0, .int .u64 0, .int .u64 0, .int .u64 0] 24))) := (Below.refl _ _).alloc (Nat.le_refl _) _
  go_enter Tryd.func28, Tryd.ntmps28
  go_wp2
  go_loopw [4] (fun i wr => ∃ k : Nat, k ≤ s.size ∧ i = .int .i64 k ∧ ArrAt wr (w.heap.size + 1) (ofF (s.data.toList.take k)) ∧ Below (w.heap.size + 1) (w.alloc (.cells #[.int .u64 0, .int .u64 0, .int .u64 0, .int .u64 0] 24)) wr) (fun i _ => s.size - (intOf i).toNat)
  case atStart =>
    refine ⟨0, by omega, rfl, ?_, (Below.refl _ _).alloc (by simp) _⟩
    have := ArrAt.new (w.alloc (.cells #[.int .u64 0, .int .u64 0, .int .u64 0, .int .u64 0] 24)) (fun _ => false)
    rw [World.size_alloc] at this
    exact this
  case round =>
    obtain ⟨k, hk, rfl, harr, hb⟩ := hrel
    have HA : Hid (ArrAt wr (w.heap.size + 1) (ofF (s.data.toList.take k))) := harr
    have HB : Hid (Below (w.heap.size + 1) (w.alloc (.cells #[.int .u64 0, .int .u64 0, .int .u64 0, .int .u64 0] 24)) wr) := hb
    have XR : Hid (SetAt wr w.heap.size (0#256)) := (SetAt.new0 w).below hb (by omega)
    have HW : Hid (Below w.heap.size w wr) := HB0.out.trans (hb.mono (by omega))
    clear harr hb
    by_cases hlt : k < s.size
    · have i0 : (0 : Int) ≤ (k : Int) := by omega
      have i1 : (k : Int) < (s.size : Int) := by omega
      have HT : Hid (s.data.toList.take (k + 1) = s.data.toList.take k ++ [s[k]]) := take_snoc s k hlt
      have hc : s[k].toNat < 256 := s[k].toNat_lt
      have cz := HA.out.cell s[k].toNat hc
      have fz := HA.out.frozen s[k].toNat
      go_wp2
      go_roundw
      case rel =>
        refine ⟨k + 1, by omega, by go_num, ?_, HB.out.setCell (by simp) _⟩
        rw [HT.out, ofF_snoc]
        exact HA.out.store _ _
      case measure => simp [intOf]; omega
    · have hke : s.data.toList.take k = s.data.toList := List.take_of_length_le (by simp; omega)
      rw [hke] at HA
      clear hke
      go_wp2_with first | (refine wpList_load_arr rfl _ rfl (w.heap.size + 1) _ rfl HA.out ?_) | (go_at_call 45; refine (laid_any _ _).mono ?_; rw [ofF_lai]; rintro e w6 ⟨rfl, hb6⟩; have H6 : Hid (Below w.heap.size w w6) := chain HW.out hb6; have R6 : Hid (SetAt w6 w.heap.size (0#256)) := XR.out.below hb6 XR.out.lt; clear hb6; obtain ⟨e0, e1, e2, e3⟩ := R6.out.cells; have fz := R6.out.frozen)
      exact bodyPost_ret (v := .agg #[.int .u64 (wd (sof s.data.toList) 0), .int .u64 (wd (sof s.data.toList) 1), .int .u64 (wd (sof s.data.toList) 2), .int .u64 (wd (sof s.data.toList) 3)]) (by simp [results, Tryd.results28, go_sem, e0, e1, e2, e3]) rfl ⟨rfl, (((H6.out.setCell (by simp) _).setCell (by simp) _).setCell (by simp) _).setCell (by simp) _⟩
end Go.Proofs.YtcaijlmffdfhgaaDoor
