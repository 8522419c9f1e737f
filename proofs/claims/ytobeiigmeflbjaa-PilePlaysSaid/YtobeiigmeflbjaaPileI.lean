/-
  A pile of numbers: each of its calls.
-/
import Derived.Test.YtobeiigmeflbjaaRows4
namespace Go.Proofs.Ytobeiigmeflbjaa
open Go Go.RowKit

/-- A pile of numbers in memory: its struct in block b, its list v. -/
structure PI (base : Nat) (w : World) (b : Nat) (v : Value) (L : List Int) : Prop where
  hb : w.heap[b]? = some (.cells #[v] 93 (0, 0))
  lo : base ≤ b
  own : w.ownsRow base 3 1 v L.length (ints L)
theorem PI.not {base : Nat} {w : World} {b : Nat} {v : Value} {L : List Int} (h : PI base w b v L) : v.ownBlock ≠ some b := ownsRow_not h.own h.hb (by decide)
theorem PI.foot {base : Nat} {w : World} {b : Nat} {v : Value} {L : List Int} (h : PI base w b v L) : ∀ k, foot b v k → base ≤ k := foot_lo h.own h.lo
theorem PI.lt {base : Nat} {w : World} {b : Nat} {v : Value} {L : List Int} (h : PI base w b v L) : ∀ k, Go.Proofs.Ytobeiigmeflbjaa.foot b v k → k < w.heap.size := fun k hk => by
  rcases hk with rfl | q
  · exact lt_of_heap h.hb
  · exact (ownsRow_at h.own q).2.1
theorem PI.fr {base : Nat} {w w' : World} {b : Nat} {v : Value} {L : List Int} {S : Nat → Prop} (h : PI base w b v L) (hf : Fr S w w') (hs : ∀ k, Go.Proofs.Ytobeiigmeflbjaa.foot b v k → ¬ S k) : PI base w' b v L :=
  ⟨(hf.block b (lt_of_heap h.hb) (hs b (.inl rfl))).trans h.hb, h.lo, ownsRow_fr h.own hf (fun k q => hs k (.inr q))⟩
theorem PI.kept {base : Nat} {w w' : World} {b : Nat} {v : Value} {L : List Int} (h : PI base w b v L) (hb : Below w.heap.size w w') : PI base w' b v L := h.fr (S := fun _ => False) (Fr.of_below hb) (fun _ _ q => q)

set_option maxRecDepth 100000 in
set_option maxHeartbeats 400000 in
theorem newI (w : World) : Calls Try.prog 31 #[] w fun e w' => e = .returned (.pointer (some ⟨w.heap.size, 0, none⟩)) ∧ PI w.heap.size w' w.heap.size (.slice none 0 0) [] ∧ Below w.heap.size w w' ∧ w'.heap.size = w.heap.size + 1 := by
  go_enter Try.func31, Try.ntmps31
  go_wp2
  go_ret
  exact ⟨rfl, ⟨alloc_new _ _, Nat.le_refl _, World.ownsRow_nil _ _ _ _⟩, (Below.refl _ _).alloc (Nat.le_refl _) _, by simp⟩

set_option maxRecDepth 100000 in
set_option maxHeartbeats 400000 in
theorem lenI {base : Nat} {w : World} {b : Nat} {v : Value} {L : List Int} (h : PI base w b v L) :
    Calls Try.prog 34 #[.pointer (some ⟨b, 0, none⟩)] w fun e w' => e = .returned (.int .i64 L.length) ∧ w' = w := by
  obtain ⟨q, c, rfl⟩ := ownsRow_shape h.own
  have c0 : w.cell? ⟨b, 0, none⟩ = some (.slice q L.length c) := cell_row h.hb (i := 0) rfl
  clear h
  go_enter Try.func34, Try.ntmps34
  go_wp2
  go_ret
  exact ⟨rfl, rfl⟩

set_option maxRecDepth 100000 in
set_option maxHeartbeats 1000000 in
theorem pushI {base : Nat} {w : World} {b : Nat} {v : Value} {L : List Int} (h : PI base w b v L) (hbase : base ≤ w.heap.size) (hl : L.length ≤ 1000000) (x : Int) :
    Calls Try.prog 32 #[.pointer (some ⟨b, 0, none⟩), .int .i64 x] w fun e w' => e = .returned (.tuple #[]) ∧ ∃ v', PI base w' b v' (L ++ [x]) ∧ moved v v' w.heap.size ∧ Fr (foot b v) w w' := by
  obtain ⟨q, c, rfl⟩ := ownsRow_shape h.own
  have c0 : w.cell? ⟨b, 0, none⟩ = some (.slice q L.length c) := cell_row h.hb (i := 0) rfl
  have lb := lt_of_heap h.hb
  have H : Hid (PI base w b (.slice q L.length c) L) := h
  obtain ⟨t0, hi, hz0, hz1, hz2⟩ := info_parts size_int
  clear h
  go_enter Try.func32, Try.ntmps32
  go_wp2_with (at_builtin; (refine wpList_append_own_at _ rfl _ _ 60 rfl base 3 t0 (.int .i64 0) 1 8 und_ints hi hz0 hz1 hz2 rfl (by decide) (.slice q L.length c) L.length (ints L) rfl (World.ownsRow.alloc H.out.own (.cells #[.int .i64 x] 3)) ⟨w.heap.size, 0, none⟩ 1 1 [.int .i64 x] rfl rfl (cell_one_new _ _ _) (by simp [Value.oneCell']) (by unfold maxLen; omega) (by omega) (by simp; omega) ?_; intro v' w6 hown' hgrow _ hblk; obtain ⟨g6, cap6, rfl⟩ := ownsRow_some hown' (Nat.succ_pos _); have hrb : w6.heap[b]? = some (.cells #[.slice q L.length c] 93 (0, 0)) := (hgrow.block b (by simp; omega) (Ne.symm H.out.not)).trans ((Below.heap_alloc _ _ _ lb).trans H.out.hb); have HRB : Hid (w6.heap[b]? = some (.cells #[.slice q L.length c] 93 (0, 0))) := hrb; have OWN : Hid (w6.ownsRow base 3 1 (.slice (some ⟨g6, 0, none⟩) (L.length + 1) cap6) (L.length + 1) (ints L ++ [.int .i64 x])) := hown'; have FR : Hid (Fr (foot b (.slice q L.length c)) w w6) := ((Fr.refl _ w).alloc _).grown hgrow (fun k hk => .inr hk); have BLK : Hid ((Value.slice (some ⟨g6, 0, none⟩) (L.length + 1) cap6).ownBlock = (Value.slice q L.length c).ownBlock ∨ (Value.slice (some ⟨g6, 0, none⟩) (L.length + 1) cap6).ownBlock = some (w.heap.size + 1)) := hblk.imp id (fun q => q.trans (by simp)); have c6 : w6.cell? ⟨b, 0, none⟩ = some (.slice q L.length c) := cell_row hrb (i := 0) rfl; have f6 := frz_row hrb 0; clear hown' hgrow hblk hrb c0))
  go_end0
  have hne : (Value.slice (some ⟨g6, 0, none⟩) (L.length + 1) cap6).ownBlock ≠ some b := ownsRow_not OWN.out HRB.out (by decide)
  refine ⟨rfl, _, ⟨heap_set_in HRB.out 0 _, H.out.lo, ?_⟩, ?_, FR.out.setCell (p := ⟨b, 0, none⟩) (.inl rfl) _⟩
  · rw [List.length_append, List.length_singleton, ints_append]
    exact ownsRow_fr OWN.out ((Fr.refl (fun k => k = b) w6).setCell (p := ⟨b, 0, none⟩) rfl _) (fun k hk e => hne (e ▸ hk))
  · rcases BLK.out with q | q
    · exact .inl q
    · exact .inr (.inr ⟨_, by omega, q⟩)

set_option maxRecDepth 100000 in
set_option maxHeartbeats 1000000 in
theorem cutI_bad {base : Nat} {w : World} {b : Nat} {v : Value} {L : List Int} (h : PI base w b v L) {n : Int} (hn : n < 0 ∨ (L.length : Int) < n) :
    Calls Try.prog 33 #[.pointer (some ⟨b, 0, none⟩), .int .i64 n] w fun e w' => e = .returned (.int .i64 1) ∧ w' = w := by
  have H : Hid (PI base w b v L) := h
  clear h
  rcases hn with hn | hn
  · go_enter Try.func33, Try.ntmps33
    go_wp2
    go_ret
    exact ⟨rfl, rfl⟩
  · have n0 : ¬ n < 0 := by omega
    go_enter Try.func33, Try.ntmps33
    go_wp2_with (go_at_call 34; (with_reducible refine (lenI H.out).mono ?_); rintro e w5 ⟨rfl, h5⟩; subst w5)
    go_ret
    exact ⟨rfl, rfl⟩

theorem zero_ints (n : Nat) : (Builtin.zeroCells (Value.int .i64 0).cells n).size = n * 1 ∧ ∀ u ∈ (Builtin.zeroCells (Value.int .i64 0).cells n).toList, u.oneCell' = true := by
  constructor
  · simp [Builtin.zeroCells, Value.cells]
  · intro u hu
    simp [Builtin.zeroCells, Value.cells] at hu
    obtain ⟨i, _, rfl⟩ := hu
    simp [Nat.mod_one, Value.oneCell']

set_option maxRecDepth 100000 in
set_option maxHeartbeats 1000000 in
theorem cutI {base : Nat} {w : World} {b : Nat} {v : Value} {L : List Int} (h : PI base w b v L) {n : Nat} (hn : n ≤ L.length) :
    Calls Try.prog 33 #[.pointer (some ⟨b, 0, none⟩), .int .i64 n] w fun e w' => e = .returned (.int .i64 0) ∧ ∃ v', PI base w' b v' (L.take n) ∧ v'.ownBlock = v.ownBlock ∧ Fr (foot b v) w w' := by
  have H : Hid (PI base w b v L) := h
  have n0 : ¬ (n : Int) < 0 := by omega
  have n1 : ¬ (L.length : Int) < (n : Int) := by omega
  have hll : (L.take n).length = n := by simp; omega
  rcases h.own.2 with ⟨rfl, hl0⟩ | ⟨g, cap, cur, rfl, hlo, hg, hcap, hmx, hsz, htk⟩
  · obtain rfl : n = 0 := by omega
    have c0 : w.cell? ⟨b, 0, none⟩ = some (.slice none 0 0) := cell_row h.hb (i := 0) rfl
    have f0 := frz_row h.hb 0
    have hcl := fun ty W => run_clear_none Try.prog 60 ty 3 none 0 W und_ints
    clear h
    go_enter Try.func33, Try.ntmps33
    go_wp2_with (go_at_call 34; (with_reducible refine (lenI H.out).mono ?_); rintro e w5 ⟨rfl, h5⟩; subst w5)
    go_ret
    exact ⟨rfl, _, ⟨heap_set_in H.out.hb 0 _, H.out.lo, World.ownsRow_nil _ _ _ _⟩, rfl, (Fr.refl _ w).setCell (p := ⟨b, 0, none⟩) (.inl rfl) _⟩
  · have c0 : w.cell? ⟨b, 0, none⟩ = some (.slice (some ⟨g, 0, none⟩) L.length cap) := cell_row h.hb (i := 0) rfl
    have f0 := frz_row h.hb 0
    have i1 : (n : Int) ≤ (cap : Int) := by omega
    have i2 : (n : Int) ≤ (L.length : Int) := by omega
    have i3 : (L.length : Int) ≤ (cap : Int) := by omega
    have i4 : (0 : Int) ≤ (n : Int) := by omega
    have lb := lt_of_heap h.hb
    have HX : Hid (w.heap[g]? = some (.cells cur 3 (0, 0)) ∧ cur.size = cap * 1) := ⟨hg, hsz⟩
    clear h hg hsz htk hlo
    by_cases hnl : n = L.length
    · have HN : Hid (n = L.length) := hnl
      have z1 : L.length - n = 0 := by omega
      have hcl := fun ty q c W => run_clear_none Try.prog 60 ty 3 q c W und_ints
      clear hnl
      have HO : Hid ((w.setCell ⟨b, 0, none⟩ (.slice (some ⟨g, 0, none⟩) n cap)).ownsRow base 3 1 (.slice (some ⟨g, 0, none⟩) n cap) n (ints (L.take n))) := by
        rw [HN.out, List.take_length]
        exact ownsRow_fr H.out.own ((Fr.refl (fun k => k = b) w).setCell (p := ⟨b, 0, none⟩) rfl _) (fun k hk e => H.out.not (e ▸ hk))
      by_cases hcn : cap = n
      · have z2 : cap - n = 0 := by omega
        have z3 : cap ≤ n := by omega
        clear hcn
        go_enter Try.func33, Try.ntmps33
        go_wp2_with (go_at_call 34; (with_reducible refine (lenI H.out).mono ?_); rintro e w5 ⟨rfl, h5⟩; subst w5)
        go_ret
        exact ⟨rfl, _, ⟨heap_set_in H.out.hb 0 _, H.out.lo, by rw [hll]; exact HO.out⟩, rfl, (Fr.refl _ w).setCell (p := ⟨b, 0, none⟩) (.inl rfl) _⟩
      · have z2 : ¬ (cap - n = 0) := by omega
        have z3 : ¬ (cap ≤ n) := by omega
        go_enter Try.func33, Try.ntmps33
        go_wp2_with (go_at_call 34; (with_reducible refine (lenI H.out).mono ?_); rintro e w5 ⟨rfl, h5⟩; subst w5)
        go_ret
        exact ⟨rfl, _, ⟨heap_set_in H.out.hb 0 _, H.out.lo, by rw [hll]; exact HO.out⟩, rfl, (Fr.refl _ w).setCell (p := ⟨b, 0, none⟩) (.inl rfl) _⟩
    · have z2 : ¬ (cap - n = 0) := by omega
      have z3 : ¬ (cap ≤ n) := by omega
      obtain ⟨t0, hi, hz0, hz1, hz2⟩ := info_parts size_int
      obtain ⟨zs1, zs2⟩ := zero_ints (L.length - n)
      have hcl := fun ty c => run_clear_own Try.prog 60 ty 3 t0 (.int .i64 0) w g n (L.length - n) c cur und_ints hi hz0 HX.out.1 (by rw [zs1, HX.out.2]; omega) zs2 (by omega)
      obtain ⟨cs, hcs⟩ : ∃ cs, (cur.toList.take n ++ (Builtin.zeroCells (Value.int .i64 0).cells (L.length - n)).toList ++ cur.toList.drop (n + (Builtin.zeroCells (Value.int .i64 0).cells (L.length - n)).size)).toArray = cs := ⟨_, rfl⟩
      have HCS : Hid (cs.size = cur.size ∧ cs.toList.take (n * 1) = cur.toList.take (n * 1)) := by
        subst hcs
        have := HX.out.2
        constructor
        · simp [zs1]; omega
        · rw [List.toList_toArray, List.append_assoc, List.take_append_of_le_length (by simp; omega), List.take_take]
          simp
      rw [hcs] at hcl
      have OW : Hid ((w.setRow g cs).ownsRow base 3 1 (.slice (some ⟨g, 0, none⟩) n cap) n (ints (L.take n))) := by
        have := ownsRow_cut H.out.own hn (cs := cs) (fun cur' h' => by rw [HX.out.1] at h'; cases h'; exact HCS.out)
        rw [Nat.mul_one] at this
        rw [show ints (L.take n) = (ints L).take n by simp [ints, List.map_take]]
        exact this
      have hgb : g ≠ b := fun e => H.out.not (by rw [e]; rfl)
      have RB : Hid ((w.setRow g cs).heap[b]? = some (.cells #[.slice (some ⟨g, 0, none⟩) L.length cap] 93 (0, 0))) := (setRow_other _ _ _ _ hgb.symm).trans H.out.hb
      have FR : Hid (Fr (foot b (.slice (some ⟨g, 0, none⟩) L.length cap)) w (w.setRow g cs)) := (Fr.refl _ w).setRow (.inr rfl) _
      have c1 : (w.setRow g cs).cell? ⟨b, 0, none⟩ = some (.slice (some ⟨g, 0, none⟩) L.length cap) := cell_row RB.out (i := 0) rfl
      have f1 := frz_row RB.out 0
      generalize w.setRow g cs = w1 at hcl OW RB FR c1 f1
      clear hcs hgb zs1 zs2 hnl
      go_enter Try.func33, Try.ntmps33
      go_wp2_with (go_at_call 34; (with_reducible refine (lenI H.out).mono ?_); rintro e w5 ⟨rfl, h5⟩; subst w5)
      go_ret
      have hne : (Value.slice (some ⟨g, 0, none⟩) n cap).ownBlock ≠ some b := ownsRow_not OW.out RB.out (by decide)
      exact ⟨rfl, _, ⟨heap_set_in RB.out 0 _, H.out.lo, by rw [hll]; exact ownsRow_fr OW.out ((Fr.refl (fun k => k = b) w1).setCell (p := ⟨b, 0, none⟩) rfl _) (fun k hk e => hne (e ▸ hk))⟩, rfl, FR.out.setCell (p := ⟨b, 0, none⟩) (.inl rfl) _⟩
end Go.Proofs.Ytobeiigmeflbjaa
