/-
  The law CharsEncode, walked: Encode of any numbers, which stay as they were, is the document's own answer.
-/
import Derived.Test.YtihmnibopeljaaaDoorRefE
namespace Go.Proofs.YtihmnibopeljaaaDoor
open Go Go.RowKit
attribute [local go_sem] ext_cell

theorem make_ints (n : Nat) (h : n * 8 ≤ 281474976710656) (w : World) :
    (Instr.makeSlice 22 (.int .i64 (n : Int)) (.int .i64 (n : Int))).run Tryd.prog w = .ok (.slice (some ⟨w.heap.size, 0, none⟩) n n) (w.alloc (.cells (madeCells #[.int .i64 0] n) 3)) := by
  obtain ⟨i0, hi, hz0, hz1, hz2⟩ := info_parts size_int
  have := run_make (P := Tryd.prog) w 22 3 i0 (.int .i64 0) und_ints hi hz0 .i64 .i64 (n : Int) (n : Int) (by omega) (by omega) (by rw [hz2]; omega) (by omega)
  rw [hz1] at this
  simpa [Value.cells] using this
theorem ArgI.src {W : World} {q : Option Addr} {zs : List Int} {cap : Nat} (h : ArgI W (.slice q zs.length cap) zs) (hp : 0 < (ints zs).length) : ∃ ad, q = some ad ∧ ∀ j v, (ints zs)[j]? = some v → W.cell? (ad.add j) = some v := by
  rw [ints_length] at hp
  rcases h with ⟨p, c, h1, h2⟩ | ⟨g, off, c, h1, h2, h3, h4, h5⟩
  · subst h2; simp at hp
  · injection h1 with e1 _ e2
    refine ⟨_, e1, fun j v hj => ?_⟩
    have hj' : j < zs.length := by have := (List.getElem?_eq_some_iff.1 hj).1; rwa [ints_length] at this
    have e : (⟨g, off, none⟩ : Addr).add j = ⟨g, off + j, none⟩ := by unfold Addr.add; split <;> simp_all
    rw [e, h5 j zs[j] (List.getElem?_eq_getElem hj')]
    rw [ints_get (List.getElem?_eq_getElem hj')] at hj
    exact hj
/-- The first numbers of a block. -/
theorem pre_arg {W : World} {g : Nat} {V : List Int} {x : Int} (h : W.heap[g]? = some (.cells (ints (V ++ [x])).toArray 3 (0, 0))) (hl : V.length + 1 ≤ maxLen) : ArgI W (.slice (some ⟨g, 0, none⟩) V.length (V.length + 1)) V :=
  .inr ⟨g, 0, V.length + 1, rfl, lt_of_heap h, by omega, hl, fun i y hy => by
    rw [Nat.zero_add]
    refine cell_row h ?_
    have hi := (List.getElem?_eq_some_iff.1 hy).1
    have : (ints (V ++ [x]))[i]? = some (.int .i64 y) := by rw [ints_append, List.getElem?_append_left (by rw [ints_length]; exact hi)]; exact ints_get hy
    simpa using this⟩
theorem last_cell {W : World} {g : Nat} {V : List Int} {x : Int} (h : W.heap[g]? = some (.cells (ints (V ++ [x])).toArray 3 (0, 0))) : W.cell? ⟨g, V.length, none⟩ = some (.int .i64 x) :=
  cell_row h (by simp [ints])

theorem splice_end {Z : List Value} {zs : List Int} (hZ : Z.length = zs.length + 1) : ∃ u, splice Z 0 (ints zs) = ints zs ++ [u] := by
  unfold splice
  rw [List.take_zero, List.nil_append, Nat.zero_add]
  obtain ⟨u, hu⟩ := List.length_eq_one_iff.1 (show (Z.drop (ints zs).length).length = 1 by rw [List.length_drop, ints_length]; omega)
  exact ⟨u, by rw [hu]⟩
theorem put_end {W : World} {g : Nat} {zs : List Int} {u : Value} (h : W.heap[g]? = some (.cells (ints zs ++ [u]).toArray 3 (0, 0))) (x : Int) : (W.setCell ⟨g, zs.length, none⟩ (.int .i64 x)).heap[g]? = some (.cells (ints (zs ++ [x])).toArray 3 (0, 0)) := by
  refine (heap_set_in h _ _).trans ?_
  congr 2
  apply Array.ext'
  rw [Array.toList_setIfInBounds, ints_append]
  show (ints zs ++ [u]).set zs.length _ = _
  rw [List.set_append_right _ _ (by rw [ints_length]; exact Nat.le_refl _), ints_length]
  simp [ints]

set_option maxHeartbeats 8000000 in
set_option maxRecDepth 1000000 in
theorem law_encode {w : World} {v : Value} {zs : List Int} (hG : Glob w) (h : ArgI w v zs) (hl : zs.length ≤ 17592186044416) :
    Calls Tryd.prog 8 #[v] w fun e w' => e = .returned (.bool true) ∧ Below w.heap.size w w' := by
  have G : Hid (Glob w) := hG
  have A : Hid (ArgI w v zs) := h
  obtain ⟨q, cap, rfl, hlen, _⟩ := h.slice
  clear h hG
  unfold maxLen at hlen
  have hmk := make_ints (zs.length + 1) (by omega)
  have hc : ((zs.length + 1 : Nat) : Int) = (zs.length : Int) + 1 := by omega
  rw [hc] at hmk
  have hwr : IntKind.wrap .i64 ((zs.length : Int) + 1) = (zs.length : Int) + 1 := wrap_small _ (by omega) (by omega)
  obtain ⟨Z, hZ⟩ : ∃ Z, Z = (madeCells #[.int .i64 0] (zs.length + 1)).toList := ⟨_, rfl⟩
  have hZl : Z.length = zs.length + 1 := by rw [hZ, Array.length_toList, size_madeCells]
  have hZa : madeCells #[.int .i64 0] (zs.length + 1) = Z.toArray := by rw [hZ]
  rw [hZa] at hmk
  have HZ : Hid (Z.length = zs.length + 1) := hZl
  clear hZ hZa hZl
  have hm : zs.length + 1 ≤ maxLen := by unfold maxLen; omega
  have HM : Hid (zs.length + 1 ≤ maxLen) := hm
  clear hm
  have i0 : (0 : Int) ≤ (zs.length : Int) := by omega
  have i1 : (zs.length : Int) < (zs.length : Int) + 1 := by omega
  have i2 : (zs.length : Int) ≤ (zs.length : Int) + 1 := by omega
  go_enter Tryd.func8, Tryd.ntmps8
  go_upto_region 3 with (go_at_call 9; (with_reducible refine (examples_c _ G.out).mono ?_); rintro e w1 ⟨rfl, h1⟩; have B1 : Hid (Below w.heap.size w w1) := h1; have z1 := h1.size; clear h1)
  go_upto_region 4 with (refine wpList_copy_splice rfl _ _ 22 22 rfl 3 und_ints size_one (some ⟨w1.heap.size, 0, none⟩) q (zs.length + 1) (zs.length + 1) zs.length cap rfl rfl w1.heap.size 0 Z 3 (alloc_new w1 _) (ints zs) (by rw [ints_length]; exact (Nat.min_eq_left (by omega)).symm) (fun hp => ⟨rfl, ((A.out.kept B1.out).kept ((Below.refl _ w1).alloc (Nat.le_refl _) _)).src hp⟩) (by rw [ints_length, HZ.out]; omega) (ints_one zs) w.heap.size w ((B1.out).alloc z1 _) z1 ?_; intro w4 hg4 hb4; obtain ⟨u4, hu4⟩ := splice_end (Z := Z) (zs := zs) HZ.out; have X4 : Hid (w4.heap[w1.heap.size]? = some (.cells (ints zs ++ [u4]).toArray 3 (0, 0))) := (by rw [← hu4]; exact hg4.out); have B4 : Hid (Below w.heap.size w w4) := hb4; have c4 : w4.cell? ⟨w1.heap.size, zs.length, none⟩ = some u4 := cell_row X4.out (by simp [ints]); have f4 := frz_row X4.out zs.length; have X5 : Hid ((w4.setCell ⟨w1.heap.size, zs.length, none⟩ (.int .i64 77)).heap[w1.heap.size]? = some (.cells (ints (zs ++ [77])).toArray 3 (0, 0))) := put_end X4.out 77; have B5 : Hid (Below w.heap.size w (w4.setCell ⟨w1.heap.size, zs.length, none⟩ (.int .i64 77))) := ((Fr.of_below (S := fun _ => False) B4.out).setNew (p := ⟨w1.heap.size, zs.length, none⟩) z1 _).below (Nat.le_refl _) (fun _ q => q.elim); clear hg4 hb4 hu4)
  go_upto_region 5 with fail
  obtain ⟨w5, hw5⟩ : ∃ W, w4.setCell ⟨w1.heap.size, zs.length, none⟩ (.int .i64 77) = W := ⟨_, rfl⟩
  rw [hw5] at X5 B5 ⊢
  have z5 : w1.heap.size < w5.heap.size := lt_of_heap X5.out
  clear hw5 c4 f4 X4 B4 hmk
  have P5 : Hid (ArgI w5 (.slice (some ⟨w1.heap.size, 0, none⟩) zs.length (zs.length + 1)) zs) := pre_arg X5.out HM.out
  go_upto_region 6 with (go_at_call 15; (refine (encode_c P5.out (by omega)).mono ?_); rintro e w6 ⟨rfl, h6⟩; have B6 : Hid (Below w.heap.size w w6) := chain B5.out h6 (Nat.le_refl _); have X6 : Hid (w6.heap[w1.heap.size]? = some (.cells (ints (zs ++ [77])).toArray 3 (0, 0))) := (h6.block _ z5).trans X5.out; clear h6)
  have z6 : w1.heap.size < w6.heap.size := lt_of_heap X6.out
  have A6 : Hid (ArgI w6 (.slice q zs.length cap) zs) := A.out.below B6.out rfl
  go_upto_region 7 with (go_at_call 30; (refine (rEncode_c A6.out (by omega)).mono ?_); rintro e w7 ⟨rfl, h7⟩; have B7 : Hid (Below w.heap.size w w7) := chain B6.out h7 (Nat.le_refl _); have X7 : Hid (w7.heap[w1.heap.size]? = some (.cells (ints (zs ++ [77])).toArray 3 (0, 0))) := (h7.block _ z6).trans X6.out; clear h7)
  have z7 : w1.heap.size < w7.heap.size := lt_of_heap X7.out
  have A7 : Hid (ArgI w7 (.slice q zs.length cap) zs) := A.out.below B7.out rfl
  have P7 : Hid (ArgI w7 (.slice (some ⟨w1.heap.size, 0, none⟩) zs.length (zs.length + 1)) zs) := pre_arg X7.out HM.out
  go_upto_region 8 with (go_at_call 18; (refine (same_same P7.out A7.out).mono ?_); rintro e w8 ⟨rfl, h8⟩; have B8 : Hid (Below w.heap.size w w8) := chain B7.out h8 (Nat.le_refl _); have X8 : Hid (w8.heap[w1.heap.size]? = some (.cells (ints (zs ++ [77])).toArray 3 (0, 0))) := (h8.block _ z7).trans X7.out; clear h8)
  have c8 := last_cell X8.out
  have z8 : w1.heap.size < w8.heap.size := lt_of_heap X8.out
  rcases ha : allC zs with _ | _
  · have e1 : eErr zs = 20 := by rw [eErr, ha]; rfl
    go_wp2
    go_ret
    exact ⟨by first | rfl | (simp; done), B8.out⟩
  · have e1 : eErr zs = 0 := by rw [eErr, ha]; rfl
    go_wp2
    go_ret
    exact ⟨by first | rfl | (simp; done), B8.out⟩
end Go.Proofs.YtihmnibopeljaaaDoor
