/-
  What sets.Of answers, of any text.
-/
import Derived.Test.YtcaijlmffdfhgabDoorHas
import Derived.Test.YtcaijlmffdfhgabDoorAll
import Derived.Test.YtcaijlmffdfhgabDoorRange
import Derived.Test.YtcaijlmffdfhgabDoorLast
namespace Go.Proofs.YtcaijlmffdfhgabDoor
open Go Go.RowKit
attribute [local go_sem] idx0 idx1 idx2 idx3 u64_signed ext_cell

/-- The set of some bytes. -/
def sof (l : List UInt8) : S := l.foldl (fun s c => sor s (sonly (c.toNat : Int))) 0#256
theorem sof_snoc (l : List UInt8) (c : UInt8) : sof (l ++ [c]) = sor (sof l) (sonly (c.toNat : Int)) := by simp [sof]
theorem take_snoc (s : ByteArray) (k : Nat) (h : k < s.size) : s.data.toList.take (k + 1) = s.data.toList.take k ++ [s[k]] := by
  rw [List.take_succ_eq_append_getElem (by simpa using h)]; rfl

theorem heap_set_in {W : World} {g : Nat} {cur : Array Value} {t : TypeId} (hg : W.heap[g]? = some (.cells cur t (0, 0))) (o : Nat) (v : Value) : (W.setCell ⟨g, o, none⟩ v).heap[g]? = some (.cells (cur.setIfInBounds o v) t (0, 0)) := by
  unfold World.setCell
  dsimp only
  rw [Array.getElem?_modify, if_pos rfl, hg]
  rfl
theorem SetAt.store {W : World} {B : Nat} {s : S} (h : SetAt W B s) (t : S) :
    SetAt ((((W.setCell ⟨B, 0, none⟩ (.int .u64 (wd t 0))).setCell ⟨B, 1, none⟩ (.int .u64 (wd t 1))).setCell ⟨B, 2, none⟩ (.int .u64 (wd t 2))).setCell ⟨B, 3, none⟩ (.int .u64 (wd t 3))) B t :=
  (heap_set_in (heap_set_in (heap_set_in (heap_set_in h 0 _) 1 _) 2 _) 3 _).trans (by rfl)
theorem SetAt.frozen {W : World} {B : Nat} {s : S} (h : SetAt W B s) (o : Nat) : W.frozen? ⟨B, o, none⟩ = false := by simp [World.frozen?, show W.heap[B]? = _ from h]

theorem wrap_byte (c : UInt8) : wrap64 (c.toNat : Int) = (c.toNat : Int) := by
  have := c.toNat_lt
  unfold wrap64; omega

set_option maxHeartbeats 1000000 in
theorem of_any (s : ByteArray) (w : World) (hs : s.size ≤ maxLen) :
    Calls Tryd.prog 10 #[.string s] w fun e w' => e = .returned (.agg #[.int .u64 (wd (sof s.data.toList) 0), .int .u64 (wd (sof s.data.toList) 1), .int .u64 (wd (sof s.data.toList) 2), .int .u64 (wd (sof s.data.toList) 3)]) ∧ Below w.heap.size w w' := by
  unfold maxLen at hs
  go_enter Tryd.func10, Tryd.ntmps10
  go_wp2
  go_loopw [7] (fun i wr => ∃ k : Nat, k ≤ s.size ∧ i = .int .i64 k ∧ SetAt wr (w.heap.size + 1) (sof (s.data.toList.take k)) ∧ Below (w.heap.size + 1) (w.alloc (.cells #[.int .u64 0, .int .u64 0, .int .u64 0, .int .u64 0] 24)) wr) (fun i _ => s.size - (intOf i).toNat)
  case atStart =>
    refine ⟨0, Nat.zero_le _, rfl, ?_, (Below.refl _ _).alloc (by simp) _⟩
    have := SetAt.new (w.alloc (.cells #[.int .u64 0, .int .u64 0, .int .u64 0, .int .u64 0] 24)) (0#256)
    simpa [wd_nil0, sof] using this
  case round =>
    obtain ⟨k, hk, rfl, hset, hb⟩ := hrel
    have hc0 := hset.cell0
    have hc1 := hset.cell1
    have hc2 := hset.cell2
    have hc3 := hset.cell3
    have HS : Hid (SetAt wr (w.heap.size + 1) (sof (s.data.toList.take k))) := hset
    have HB : Hid (Below (w.heap.size + 1) (w.alloc (.cells #[.int .u64 0, .int .u64 0, .int .u64 0, .int .u64 0] 24)) wr) := hb
    clear hset hb
    have hlt0 : w.heap.size + 1 < wr.heap.size := HS.out.lt
    by_cases hlt : k < s.size
    · have HT : Hid (s.data.toList.take (k + 1) = s.data.toList.take k ++ [s[k]]) := take_snoc s k hlt
      obtain ⟨S0, hS0⟩ : ∃ S0, sof (s.data.toList.take k) = S0 := ⟨_, rfl⟩
      rw [hS0] at hc0 hc1 hc2 hc3 HS
      have HE : Hid (sof (s.data.toList.take k) = S0) := hS0
      clear hS0
      have i0 : (0 : Int) ≤ (k : Int) := by omega
      have i1 : (k : Int) < (s.size : Int) := by omega
      go_wp2
      refine wp_region_last_lit (List.cons_ne_nil _ _) (by kernel_rfl) (by kernel_rfl) (by kernel_rfl) ?_
      dsimp only [List.dropLast, List.getLast]
      repeat (go_big_quiet_step (first | exact rfl | (go_at_call 17; exact ext_call (with_any _ _ _))))
      refine wpQuiet_nil ?_
      intro w1 hw
      have hb1 := ext_of hw
      clear hw
      have hs1 := HS.out.below hb1 HS.out.lt
      have d0 := hs1.cell0
      have d1 := hs1.cell1
      have d2 := hs1.cell2
      have d3 := hs1.cell3
      have f1 := hs1.frozen
      have HS1 : Hid (SetAt w1 (w.heap.size + 1) S0) := hs1
      clear hs1
      go_wp2
      go_roundw
      case rel =>
        refine ⟨k + 1, by omega, by go_num, ?_, ((((HB.out.trans (hb1.mono (by omega))).setCell (by simp) _).setCell (by simp) _).setCell (by simp) _).setCell (by simp) _⟩
        rw [HT.out, sof_snoc, HE.out, wrap_byte]
        exact HS1.out.store _
      case measure => simp [intOf]; omega
    · have hke : s.data.toList.take k = s.data.toList := List.take_of_length_le (by simp; omega)
      rw [hke] at hc0 hc1 hc2 hc3
      obtain ⟨e0, e1, e2, e3, fz⟩ := set_cells (w := w) (W := wr) (by simpa using HB.out)
      clear hke
      go_wp2
      exact bodyPost_ret (v := .agg #[.int .u64 (wd (sof s.data.toList) 0), .int .u64 (wd (sof s.data.toList) 1), .int .u64 (wd (sof s.data.toList) 2), .int .u64 (wd (sof s.data.toList) 3)]) (by simp [results, Tryd.results10, go_sem, e0, e1, e2, e3]) rfl ⟨rfl, ((((((Below.refl _ _).alloc (Nat.le_refl _) _).trans (HB.out.mono (by simp))).setCell (by simp) _).setCell (by simp) _).setCell (by simp) _).setCell (by simp) _⟩
end Go.Proofs.YtcaijlmffdfhgabDoor
