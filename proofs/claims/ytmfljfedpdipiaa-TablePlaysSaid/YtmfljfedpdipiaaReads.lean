/-
  A key copied; what New, Len, Slots, Get answer.
-/
import Derived.Test.YtmfljfedpdipiaaFind
import Derived.OwnWalk
import Derived.RangeFuncRecord
import Derived.Deep.RegionWith
import Derived.Deep.DeepCutAuto
namespace Go.Proofs.Ytmfljfedpdipiaa
open Go Go.RowKit
attribute [local go_sem] ext_cell

theorem size_int : (Try.prog.info? 3).map (fun i => (i.zero, i.size, i.bytes)) = some (some (.int .i64 0), 1, 8) := by kernel_rfl
theorem size_one : (Try.prog.info? 3).map (·.size) = some 1 := by kernel_rfl
theorem und_ints : Try.prog.underlying 44 = some (.slice 3) := by kernel_rfl
theorem info_parts {P : Program} {t : TypeId} {z : Value} {s b : Nat} (h : (P.info? t).map (fun i => (i.zero, i.size, i.bytes)) = some (some z, s, b)) : ∃ i, P.info? t = some i ∧ i.zero = some z ∧ i.size = s ∧ i.bytes = b := by
  cases hi : P.info? t with
  | none => rw [hi] at h; cases h
  | some i =>
    rw [hi] at h
    simp at h
    exact ⟨i, rfl, h.1, h.2.1, h.2.2⟩
theorem make_ints (c : Nat) (n : Nat) (hn : n ≤ c) (h : c ≤ 1000000) (w : World) :
    (Instr.makeSlice 44 (.int .i64 (n : Int)) (.int .i64 (c : Int))).run Try.prog w = .ok (.slice (some ⟨w.heap.size, 0, none⟩) n c) (w.alloc (.cells (madeCells #[.int .i64 0] c) 3)) := by
  obtain ⟨i0, hi, hz0, hz1, hz2⟩ := info_parts size_int
  have := run_make (P := Try.prog) w 44 3 i0 (.int .i64 0) und_ints hi hz0 .i64 .i64 (n : Int) (c : Int) (by omega) (by omega) (by rw [hz2]; omega) (by omega)
  rw [hz1] at this
  simpa [Value.cells] using this
theorem made_zero (n : Nat) : madeCells #[.int .i64 0] n = (ints (List.replicate n 0)).toArray := by
  apply Array.ext
  · simp [madeCells, ints]
  intro i h1 h2
  simp [madeCells, ints, Nat.mod_one]

theorem splice_all {α : Type} (a b : List α) (h : a.length = b.length) : splice a 0 b = b := by
  simp [splice, ← h]

set_option maxRecDepth 100000 in
set_option maxHeartbeats 2000000 in
theorem copied_c {w : World} {v : Value} {k : List Int} (hz : ArgI w v k) (hl : k.length ≤ 1000000) :
    Calls Try.prog 17 #[v] w fun e w' => e = .returned (.slice (some ⟨w.heap.size, 0, none⟩) k.length k.length) ∧ w'.heap[w.heap.size]? = some (.cells (ints k).toArray 3 (0, 0)) ∧ Below w.heap.size w w' := by
  have HZ : Hid (ArgI w v k) := hz
  obtain ⟨q, cap, rfl, -, hcell⟩ := hz.slice
  have HC : Hid (∀ (i : Nat) (x : Int), k[i]? = some x → ∃ g off, q = some ⟨g, off, none⟩ ∧ g < w.heap.size ∧ w.cell? ⟨g, off + i, none⟩ = some (.int .i64 x)) := hcell
  clear hcell hz
  have m0 := make_ints k.length k.length (Nat.le_refl _) hl
  have hnew : (w.alloc (.cells (madeCells #[.int .i64 0] k.length) 3)).heap[w.heap.size]? = some (.cells (ints (List.replicate k.length 0)).toArray 3 (0, 0)) := by rw [← made_zero]; exact World.alloc_heap_new w _
  have HN : Hid _ := hnew
  have BL : Hid (Below w.heap.size w (w.alloc (.cells (madeCells #[.int .i64 0] k.length) 3))) := (Below.refl _ _).alloc (Nat.le_refl _) _
  clear hnew
  have HS : Hid (0 < (ints k).length → some (⟨w.heap.size, 0, none⟩ : Addr) = some ⟨w.heap.size, 0, none⟩ ∧ ∃ ad, q = some ad ∧ ∀ j v, (ints k)[j]? = some v → (w.alloc (.cells (madeCells #[.int .i64 0] k.length) 3)).cell? (ad.add j) = some v) := fun h0 => by
    rw [ints_length] at h0
    obtain ⟨g, off, rfl, hg, -⟩ := HC.out 0 _ (List.getElem?_eq_getElem h0)
    refine ⟨rfl, _, rfl, fun j v hv => ?_⟩
    have hj : j < k.length := by have := (List.getElem?_eq_some_iff.1 hv).1; rwa [ints_length] at this
    rw [ints_get (List.getElem?_eq_getElem hj)] at hv
    cases hv
    obtain ⟨g', off', e, hg', hc⟩ := HC.out j _ (List.getElem?_eq_getElem hj)
    cases e
    rw [Addr.add_lit]
    exact (BL.out.cell (p := ⟨g, off + j, none⟩) hg).trans hc
  go_enter Try.func17, Try.ntmps17
  go_upto_region 2 with fail
  go_upto_region 3 with (refine wpList_copy_splice rfl _ _ 44 44 rfl 3 und_ints size_one (some ⟨w.heap.size, 0, none⟩) q k.length k.length k.length cap rfl rfl w.heap.size 0 _ _ HN.out (ints k) (by rw [ints_length]; exact (Nat.min_self _).symm) HS.out (by simp [ints_length]) (ints_one k) w.heap.size w BL.out (Nat.le_refl _) ?_; intro w4 hg4 hb4; have B4 : Hid (Below w.heap.size w w4) := hb4; clear hb4)
  go_wp2
  go_ret
  refine ⟨rfl, ?_, B4.out⟩
  have := hg4.out
  rw [splice_all _ _ (by simp [ints_length])] at this
  exact this

set_option maxHeartbeats 1000000 in
theorem len_c {w : World} {b pb W M c : Nat} {P : Pl} (h : TB w b pb W M c P) :
    Calls Try.prog 12 #[.pointer (some ⟨b, 0, none⟩)] w fun e w' => e = .returned (.int .i64 c) ∧ w' = w := by
  have c2 := h.c2
  clear h
  go_enter Try.func12, Try.ntmps12
  go_wp2
  go_ret
  exact ⟨rfl, rfl⟩
set_option maxHeartbeats 1000000 in
theorem slots_c {w : World} {b pb W M c : Nat} {P : Pl} (h : TB w b pb W M c P) :
    Calls Try.prog 36 #[.pointer (some ⟨b, 0, none⟩)] w fun e w' => e = .returned (.int .i64 P.length) ∧ w' = w := by
  obtain ⟨q, cap, c3⟩ : ∃ q cap, w.cell? ⟨b, 3, none⟩ = some (.slice q P.length cap) := by
    by_cases hP : P = []
    · exact ⟨none, 0, by rw [h.c3, hP]; rfl⟩
    · exact ⟨_, _, h.c3p hP⟩
  clear h
  go_enter Try.func36, Try.ntmps36
  go_wp2
  go_ret
  exact ⟨rfl, rfl⟩

/-- What Get answers. -/
def getV (x : Option Int) : Int := x.getD 0
theorem Found.gone {P : Pl} {W a : Nat} {k : List Int} {m : List Int → Option Int} (h : Found P W k a false) (hm : Maps P m) (hk : ∀ (i : Nat) (e : Ent), P[i]? = some (some e) → e.key.length = W) : m k = none := by
  cases h with
  | nowhere h =>
    refine hm.gone fun i e hi q => ?_
    rcases h with h | h
    · exact h (by rw [← q]; exact hk i e hi)
    · rw [h] at hi; simp at hi
  | gap d hl hd hdl hf hn => exact hm.gone hn
theorem Found.here {P : Pl} {W a : Nat} {k : List Int} {m : List Int → Option Int} (h : Found P W k a true) (hm : Maps P m) : ∃ e, P[a]? = some (some e) ∧ e.key = k ∧ m k = .some e.val := by
  cases h with
  | there _ e ha hk => exact ⟨e, ha, hk, by rw [← hk]; exact hm.there ha⟩

set_option maxRecDepth 100000 in
set_option maxHeartbeats 2000000 in
theorem get_p {w : World} {b pb W M c : Nat} {P : Pl} (h : TB w b pb W M c P) (hp : P ≠ [] → Probe (hmN P.length) P) {m : List Int → Option Int} (hm : Maps P m) {v : Value} {k : List Int} (hz : ArgI w v k) :
    Calls Try.prog 13 #[.pointer (some ⟨b, 0, none⟩), v] w fun e w' => e = .returned (.tuple #[.int .i64 (getV (m k)), .bool (m k).isSome]) ∧ Below w.heap.size w w' := by
  have H : Hid (TB w b pb W M c P) := h
  have HM : Hid (Maps P m) := hm
  have HC : Hid (Calls Try.prog 20 #[.pointer (some ⟨b, 0, none⟩), v] w fun e w' => ∃ a th, e = .returned (.tuple #[.int .i64 (a : Nat), .bool th]) ∧ Found P W k a th ∧ Below w.heap.size w w') := find_c h hp hz
  clear h hz hp hm
  go_enter Try.func13, Try.ntmps13
  go_upto_region 2 with (go_at_call 20; refine HC.out.mono ?_; rintro e w1 ⟨a, th, rfl, hf, hb⟩; have B1 : Hid (Below w.heap.size w w1) := hb; clear hb; have HF : Hid (Found P W k a th) := hf; clear hf)
  cases th
  · have HN : Hid (m k = none) := HF.out.gone HM.out (fun i e hi => (H.out.hk i e hi).2)
    go_wp2
    go_ret2
    exact ⟨by rw [HN.out]; rfl, B1.out⟩
  · obtain ⟨e, he, hk, hmk⟩ := HF.out.here HM.out
    have HN : Hid (m k = some e.val) := hmk
    have T : Hid (TB w1 b pb W M c P) := H.out.kept B1.out
    have hal := get_lt he
    have hpow := T.out.pow (ne_nil_get he)
    have c3 := T.out.c3p (ne_nil_get he)
    have c1 := T.out.pc1 he
    clear hmk hk he
    have i0 : (0 : Int) ≤ (a : Int) := by omega
    have i1 : (a : Int) < (P.length : Int) := by omega
    go_wp2
    go_ret2
    exact ⟨by rw [HN.out]; rfl, B1.out⟩

set_option maxRecDepth 100000 in
set_option maxHeartbeats 2000000 in
theorem new_c (W M : Nat) (hW : W ≤ 128) (hM : M ≤ 1000000) (w : World) :
    Calls Try.prog 7 #[.int .i64 W, .int .i64 M] w fun e w' => e = .returned (.tuple #[.pointer (some ⟨w.heap.size, 0, none⟩), .int .i64 0]) ∧ TB w' w.heap.size w.heap.size W M 0 [] ∧ Below w.heap.size w w' := by
  have h0 : (0 : Int) ≤ (W : Int) := by omega
  have h1 : (W : Int) ≤ 128 := by omega
  have h2 : (0 : Int) ≤ (M : Int) := by omega
  have h3 : (M : Int) ≤ 1000000 := by omega
  go_enter Try.func7, Try.ntmps7
  go_wp2
  go_ret2
  refine ⟨rfl, ⟨?_, fun q => absurd rfl q, fun i e hi => by simp at hi, fun q => absurd rfl q, hW, hM⟩, (Below.refl _ _).alloc (Nat.le_refl _) _⟩
  exact World.alloc_heap_new w _
set_option maxRecDepth 100000 in
set_option maxHeartbeats 2000000 in
theorem new_bad (W M : Int) (h : W < 0 ∨ 128 < W ∨ M < 0 ∨ 1000000 < M) (w : World) :
    Calls Try.prog 7 #[.int .i64 W, .int .i64 M] w fun e w' => e = .returned (.tuple #[.pointer none, .int .i64 1]) ∧ w' = w := by
  by_cases h1 : W < 0
  · go_enter Try.func7, Try.ntmps7
    go_wp2
    go_ret2
    exact ⟨rfl, rfl⟩
  · have h1' : 0 ≤ W := by omega
    by_cases h2 : 128 < W
    · clear h
      go_enter Try.func7, Try.ntmps7
      go_wp2
      go_ret2
      exact ⟨rfl, rfl⟩
    · have h2' : W ≤ 128 := by omega
      by_cases h3 : M < 0
      · clear h
        go_enter Try.func7, Try.ntmps7
        go_wp2
        go_ret2
        exact ⟨rfl, rfl⟩
      · have h3' : 0 ≤ M := by omega
        have h4 : 1000000 < M := by omega
        clear h
        go_enter Try.func7, Try.ntmps7
        go_wp2
        go_ret2
        exact ⟨rfl, rfl⟩
end Go.Proofs.Ytmfljfedpdipiaa
