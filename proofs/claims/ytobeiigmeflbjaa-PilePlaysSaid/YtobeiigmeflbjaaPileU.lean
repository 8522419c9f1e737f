/-
  A pile of structs of two cells (pile.undo): New, Len, Push, Cut.
-/
import Derived.Test.YtobeiigmeflbjaaPileI
namespace Go.Proofs.Ytobeiigmeflbjaa
open Go Go.RowKit

/-- Things as cells. -/
def cellsU : List (Int × Int) → List Value
  | [] => []
  | x :: L => .int .i64 x.1 :: .int .i64 x.2 :: cellsU L
theorem cellsU_length (L : List (Int × Int)) : (cellsU L).length = L.length * 2 := by
  induction L with
  | nil => rfl
  | cons x L ih => simp [cellsU, ih]; omega
theorem cellsU_append (L M : List (Int × Int)) : cellsU (L ++ M) = cellsU L ++ cellsU M := by
  induction L with
  | nil => rfl
  | cons x L ih => simp [cellsU, ih]
theorem cellsU_take : ∀ (L : List (Int × Int)) (n : Nat), cellsU (L.take n) = (cellsU L).take (n * 2)
  | [], n => by simp [cellsU]
  | x :: L, 0 => by simp [cellsU]
  | x :: L, n + 1 => by
    rw [show (n + 1) * 2 = n * 2 + 1 + 1 by omega]
    simp [cellsU, cellsU_take L n]
theorem cellsU_get : ∀ {L : List (Int × Int)} {k : Nat} {x : (Int × Int)}, L[k]? = some x → (cellsU L)[k * 2]? = some (.int .i64 x.1) ∧ (cellsU L)[k * 2 + 1]? = some (.int .i64 x.2)
  | [], k, x, h => by simp at h
  | y :: L, 0, x, h => by simp at h; subst h; simp [cellsU]
  | y :: L, k + 1, x, h => by
    rw [show (k + 1) * 2 = k * 2 + 1 + 1 by omega]
    simpa [cellsU] using cellsU_get (L := L) (k := k) (x := x) (by simpa using h)
theorem size_U : (Try.prog.info? 84).map (fun i => (i.zero, i.size, i.bytes)) = some (some (.agg #[.int .i64 0, .int .i64 0]), 2, 16) := by kernel_rfl
theorem und_U : Try.prog.underlying 95 = some (.slice 84) := by kernel_rfl

/-- A pile in memory: its struct in block b, its list v. -/
structure PU (base : Nat) (w : World) (b : Nat) (v : Value) (L : List (Int × Int)) : Prop where
  hb : w.heap[b]? = some (.cells #[v] 97 (0, 0))
  lo : base ≤ b
  own : w.ownsRow base 84 2 v L.length (cellsU L)
theorem PU.not {base : Nat} {w : World} {b : Nat} {v : Value} {L : List (Int × Int)} (h : PU base w b v L) : v.ownBlock ≠ some b := ownsRow_not h.own h.hb (by decide)
theorem PU.foot {base : Nat} {w : World} {b : Nat} {v : Value} {L : List (Int × Int)} (h : PU base w b v L) : ∀ k, foot b v k → base ≤ k := foot_lo h.own h.lo
theorem PU.lt {base : Nat} {w : World} {b : Nat} {v : Value} {L : List (Int × Int)} (h : PU base w b v L) : ∀ k, Go.Proofs.Ytobeiigmeflbjaa.foot b v k → k < w.heap.size := fun k hk => by
  rcases hk with rfl | q
  · exact lt_of_heap h.hb
  · exact (ownsRow_at h.own q).2.1
theorem PU.fr {base : Nat} {w w' : World} {b : Nat} {v : Value} {L : List (Int × Int)} {S : Nat → Prop} (h : PU base w b v L) (hf : Fr S w w') (hs : ∀ k, Go.Proofs.Ytobeiigmeflbjaa.foot b v k → ¬ S k) : PU base w' b v L :=
  ⟨(hf.block b (lt_of_heap h.hb) (hs b (.inl rfl))).trans h.hb, h.lo, ownsRow_fr h.own hf (fun k q => hs k (.inr q))⟩
theorem PU.kept {base : Nat} {w w' : World} {b : Nat} {v : Value} {L : List (Int × Int)} (h : PU base w b v L) (hb : Below w.heap.size w w') : PU base w' b v L := h.fr (S := fun _ => False) (Fr.of_below hb) (fun _ _ q => q)

set_option maxRecDepth 100000 in
set_option maxHeartbeats 400000 in
theorem newU (w : World) : Calls Try.prog 43 #[] w fun e w' => e = .returned (.pointer (some ⟨w.heap.size, 0, none⟩)) ∧ PU w.heap.size w' w.heap.size (.slice none 0 0) [] ∧ Below w.heap.size w w' ∧ w'.heap.size = w.heap.size + 1 := by
  go_enter Try.func43, Try.ntmps43
  go_wp2
  go_ret
  exact ⟨rfl, ⟨alloc_new _ _, Nat.le_refl _, World.ownsRow_nil _ _ _ _⟩, (Below.refl _ _).alloc (Nat.le_refl _) _, by simp⟩

set_option maxRecDepth 100000 in
set_option maxHeartbeats 400000 in
theorem lenU {base : Nat} {w : World} {b : Nat} {v : Value} {L : List (Int × Int)} (h : PU base w b v L) :
    Calls Try.prog 47 #[.pointer (some ⟨b, 0, none⟩)] w fun e w' => e = .returned (.int .i64 L.length) ∧ w' = w := by
  obtain ⟨q, c, rfl⟩ := ownsRow_shape h.own
  have c0 : w.cell? ⟨b, 0, none⟩ = some (.slice q L.length c) := cell_row h.hb (i := 0) rfl
  clear h
  go_enter Try.func47, Try.ntmps47
  go_wp2
  go_ret
  exact ⟨rfl, rfl⟩

theorem pushU_end {base : Nat} {w w1 w6 : World} {b : Nat} {q : Option Addr} {c g6 cap6 : Nat} {L : List (Int × Int)} {x : (Int × Int)} (H : PU base w1 b (.slice q L.length c) L) (B1 : Below w.heap.size w w1) (Z1 : w1.heap.size = w.heap.size + 1) (HRB : w6.heap[b]? = some (.cells #[.slice q L.length c] 97 (0, 0)))
    (OWN : w6.ownsRow base 84 2 (.slice (some ⟨g6, 0, none⟩) (L.length + 1) cap6) (L.length + 1) (cellsU L ++ [.int .i64 x.1, .int .i64 x.2])) (FR : Fr (foot b (.slice q L.length c)) w1 w6)
    (BLK : (Value.slice (some ⟨g6, 0, none⟩) (L.length + 1) cap6).ownBlock = (Value.slice q L.length c).ownBlock ∨ (Value.slice (some ⟨g6, 0, none⟩) (L.length + 1) cap6).ownBlock = some (w1.heap.size + 1)) :
    Ending.returned (.tuple #[]) = Ending.returned (.tuple #[]) ∧ ∃ v', PU base (w6.setCell ⟨b, 0, none⟩ (.slice (some ⟨g6, 0, none⟩) (L.length + 1) cap6)) b v' (L ++ [x]) ∧ moved (.slice q L.length c) v' w.heap.size ∧ Fr (foot b (.slice q L.length c)) w (w6.setCell ⟨b, 0, none⟩ (.slice (some ⟨g6, 0, none⟩) (L.length + 1) cap6)) := by
  have hne : (Value.slice (some ⟨g6, 0, none⟩) (L.length + 1) cap6).ownBlock ≠ some b := ownsRow_not OWN HRB (by decide)
  refine ⟨rfl, _, ⟨heap_set_in HRB 0 _, H.lo, ?_⟩, ?_, (Fr.of_below B1).trans (FR.setCell (p := ⟨b, 0, none⟩) (.inl rfl) _)⟩
  · rw [List.length_append, List.length_singleton, cellsU_append]
    exact ownsRow_fr OWN ((Fr.refl (fun k => k = b) w6).setCell (p := ⟨b, 0, none⟩) rfl _) (fun k hk e => hne (e ▸ hk))
  · rcases BLK with q | q
    · exact .inl q
    · exact .inr (.inr ⟨_, by omega, q⟩)

set_option maxRecDepth 100000 in
set_option maxHeartbeats 4000000 in
theorem pushU {base : Nat} {w : World} {b : Nat} {v : Value} {L : List (Int × Int)} (h : PU base w b v L) (hbase : base ≤ w.heap.size) (hl : L.length ≤ 1000000) (x : (Int × Int)) :
    Calls Try.prog 45 #[.pointer (some ⟨b, 0, none⟩), .agg #[.int .i64 x.1, .int .i64 x.2]] w fun e w' => e = .returned (.tuple #[]) ∧ ∃ v', PU base w' b v' (L ++ [x]) ∧ moved v v' w.heap.size ∧ Fr (foot b v) w w' := by
  obtain ⟨q, c, rfl⟩ := ownsRow_shape h.own
  have lb0 := lt_of_heap h.hb
  have H0 : Hid (PU base w b (.slice q L.length c) L) := h
  obtain ⟨t0, hi, hz0, hz1, hz2⟩ := info_parts size_U
  clear h
  go_enter Try.func45, Try.ntmps45
  go_upto_region 1 with fail
  have B1 : Hid (Below w.heap.size w (w.alloc (.cells #[.int .i64 x.1, .int .i64 x.2] 84))) := (Below.refl _ _).alloc (Nat.le_refl _) _
  have N1 := alloc_new w (.cells #[.int .i64 x.1, .int .i64 x.2] 84)
  have H : Hid (PU base (w.alloc (.cells #[.int .i64 x.1, .int .i64 x.2] 84)) b (.slice q L.length c) L) := H0.out.kept B1.out
  have Z1 : (w.alloc (.cells #[.int .i64 x.1, .int .i64 x.2] 84)).heap.size = w.heap.size + 1 := by simp
  generalize (w.alloc (.cells #[.int .i64 x.1, .int .i64 x.2] 84)) = w1 at B1 N1 H Z1 ⊢
  have m0 : w1.cell? ⟨w.heap.size, 0, none⟩ = some (.int .i64 x.1) := cell_row N1 (i := 0) rfl
  have m1 : w1.cell? ⟨w.heap.size, 1, none⟩ = some (.int .i64 x.2) := cell_row N1 (i := 1) rfl
  have lw : w.heap.size < w1.heap.size := by omega
  have lb : b < w1.heap.size := by omega
  have c0 : w1.cell? ⟨b, 0, none⟩ = some (.slice q L.length c) := cell_row H.out.hb (i := 0) rfl
  have hb1 : base ≤ w1.heap.size := by omega
  have HZ1 : Hid (w1.heap.size = w.heap.size + 1) := Z1
  clear N1 Z1
  go_region_law (refine step_append_at rfl _ _ 95 rfl base 84 t0 (.agg #[.int .i64 0, .int .i64 0]) 2 16 und_U hi hz0 hz1 hz2 rfl (by decide) (.slice q L.length c) L.length (cellsU L) (by simp [Act.eval]) (World.ownsRow.alloc H.out.own (.cells #[.int .i64 x.1, .int .i64 x.2] 84)).drew ⟨w1.heap.size, 0, none⟩ 1 1 [.int .i64 x.1, .int .i64 x.2] (by simp [Act.eval]) rfl (news2 _ _ _ _) (by simp [Value.oneCell']) (by unfold maxLen; omega) (by omega) (by simp; omega) ?_; intro v' w6 hown' hgrow hblk; obtain ⟨g6, cap6, rfl⟩ := ownsRow_some hown' (Nat.succ_pos _); have hrb : w6.heap[b]? = some (.cells #[.slice q L.length c] 97 (0, 0)) := (hgrow.block b (by simp; omega) (Ne.symm H.out.not)).trans ((Below.heap_alloc _ _ _ lb).trans H.out.hb); have HRB : Hid (w6.heap[b]? = some (.cells #[.slice q L.length c] 97 (0, 0))) := hrb; have OWN : Hid (w6.ownsRow base 84 2 (.slice (some ⟨g6, 0, none⟩) (L.length + 1) cap6) (L.length + 1) (cellsU L ++ [.int .i64 x.1, .int .i64 x.2])) := hown'; have FR : Hid (Fr (foot b (.slice q L.length c)) w1 w6) := (((Fr.refl _ w1).alloc _).drew).grown hgrow (fun k hk => .inr hk); have BLK : Hid ((Value.slice (some ⟨g6, 0, none⟩) (L.length + 1) cap6).ownBlock = (Value.slice q L.length c).ownBlock ∨ (Value.slice (some ⟨g6, 0, none⟩) (L.length + 1) cap6).ownBlock = some (w1.heap.size + 1)) := hblk.imp id (fun q => q.trans (by simp)); have c6 : w6.cell? ⟨b, 0, none⟩ = some (.slice q L.length c) := cell_row hrb (i := 0) rfl; have f6 := frz_row hrb 0; clear hown' hgrow hblk hrb c0)
  all_goals go_wp2
  all_goals go_end0
  all_goals exact pushU_end H.out B1.out HZ1.out HRB.out OWN.out FR.out BLK.out

set_option maxRecDepth 100000 in
set_option maxHeartbeats 1000000 in
theorem cutU_bad {base : Nat} {w : World} {b : Nat} {v : Value} {L : List (Int × Int)} (h : PU base w b v L) {n : Int} (hn : n < 0 ∨ (L.length : Int) < n) :
    Calls Try.prog 50 #[.pointer (some ⟨b, 0, none⟩), .int .i64 n] w fun e w' => e = .returned (.int .i64 1) ∧ w' = w := by
  have H : Hid (PU base w b v L) := h
  clear h
  rcases hn with hn | hn
  · go_enter Try.func50, Try.ntmps50
    go_wp2
    go_ret
    exact ⟨rfl, rfl⟩
  · have n0 : ¬ n < 0 := by omega
    go_enter Try.func50, Try.ntmps50
    go_wp2_with (go_at_call 47; (with_reducible refine (lenU H.out).mono ?_); rintro e w5 ⟨rfl, h5⟩; subst w5)
    go_ret
    exact ⟨rfl, rfl⟩

theorem zero_U (n : Nat) : (Builtin.zeroCells (Value.agg #[.int .i64 0, .int .i64 0]).cells n).size = n * 2 ∧ ∀ u ∈ (Builtin.zeroCells (Value.agg #[.int .i64 0, .int .i64 0]).cells n).toList, u.oneCell' = true := by
  have hc : (Value.agg #[.int .i64 0, .int .i64 0]).cells = #[.int .i64 0, .int .i64 0] := rfl
  rw [hc]
  constructor
  · simp [Builtin.zeroCells]
  · intro u hu
    simp [Builtin.zeroCells] at hu
    obtain ⟨i, _, rfl⟩ := hu
    have h2 : i % 2 < 2 := Nat.mod_lt _ (by decide)
    generalize i % 2 = j at h2
    match j, h2 with
    | 0, _ => rfl
    | 1, _ => rfl

set_option maxRecDepth 100000 in
set_option maxHeartbeats 1000000 in
theorem cutU {base : Nat} {w : World} {b : Nat} {v : Value} {L : List (Int × Int)} (h : PU base w b v L) {n : Nat} (hn : n ≤ L.length) :
    Calls Try.prog 50 #[.pointer (some ⟨b, 0, none⟩), .int .i64 n] w fun e w' => e = .returned (.int .i64 0) ∧ ∃ v', PU base w' b v' (L.take n) ∧ v'.ownBlock = v.ownBlock ∧ Fr (foot b v) w w' := by
  have H : Hid (PU base w b v L) := h
  have n0 : ¬ (n : Int) < 0 := by omega
  have n1 : ¬ (L.length : Int) < (n : Int) := by omega
  have hll : (L.take n).length = n := by simp; omega
  rcases h.own.2 with ⟨rfl, hl0⟩ | ⟨g, cap, cur, rfl, hlo, hg, hcap, hmx, hsz, htk⟩
  · obtain rfl : n = 0 := by omega
    have c0 : w.cell? ⟨b, 0, none⟩ = some (.slice none 0 0) := cell_row h.hb (i := 0) rfl
    have f0 := frz_row h.hb 0
    have hcl := fun ty W => run_clear_none Try.prog 95 ty 84 none 0 W und_U
    clear h
    go_enter Try.func50, Try.ntmps50
    go_wp2_with (go_at_call 47; (with_reducible refine (lenU H.out).mono ?_); rintro e w5 ⟨rfl, h5⟩; subst w5)
    go_ret
    exact ⟨rfl, _, ⟨heap_set_in H.out.hb 0 _, H.out.lo, World.ownsRow_nil _ _ _ _⟩, rfl, (Fr.refl _ w).setCell (p := ⟨b, 0, none⟩) (.inl rfl) _⟩
  · have c0 : w.cell? ⟨b, 0, none⟩ = some (.slice (some ⟨g, 0, none⟩) L.length cap) := cell_row h.hb (i := 0) rfl
    have f0 := frz_row h.hb 0
    have i1 : (n : Int) ≤ (cap : Int) := by omega
    have i2 : (n : Int) ≤ (L.length : Int) := by omega
    have i3 : (L.length : Int) ≤ (cap : Int) := by omega
    have i4 : (0 : Int) ≤ (n : Int) := by omega
    have lb := lt_of_heap h.hb
    have HX : Hid (w.heap[g]? = some (.cells cur 84 (0, 0)) ∧ cur.size = cap * 2) := ⟨hg, hsz⟩
    clear h hg hsz htk hlo
    by_cases hnl : n = L.length
    · have HN : Hid (n = L.length) := hnl
      have z1 : L.length - n = 0 := by omega
      have hcl := fun ty q c W => run_clear_none Try.prog 95 ty 84 q c W und_U
      clear hnl
      have HO : Hid ((w.setCell ⟨b, 0, none⟩ (.slice (some ⟨g, 0, none⟩) n cap)).ownsRow base 84 2 (.slice (some ⟨g, 0, none⟩) n cap) n (cellsU (L.take n))) := by
        rw [HN.out, List.take_length]
        exact ownsRow_fr H.out.own ((Fr.refl (fun k => k = b) w).setCell (p := ⟨b, 0, none⟩) rfl _) (fun k hk e => H.out.not (e ▸ hk))
      by_cases hcn : cap = n
      · have z2 : cap - n = 0 := by omega
        have z3 : cap ≤ n := by omega
        clear hcn
        go_enter Try.func50, Try.ntmps50
        go_wp2_with (go_at_call 47; (with_reducible refine (lenU H.out).mono ?_); rintro e w5 ⟨rfl, h5⟩; subst w5)
        go_ret
        exact ⟨rfl, _, ⟨heap_set_in H.out.hb 0 _, H.out.lo, by rw [hll]; exact HO.out⟩, rfl, (Fr.refl _ w).setCell (p := ⟨b, 0, none⟩) (.inl rfl) _⟩
      · have z2 : ¬ (cap - n = 0) := by omega
        have z3 : ¬ (cap ≤ n) := by omega
        go_enter Try.func50, Try.ntmps50
        go_wp2_with (go_at_call 47; (with_reducible refine (lenU H.out).mono ?_); rintro e w5 ⟨rfl, h5⟩; subst w5)
        go_ret
        exact ⟨rfl, _, ⟨heap_set_in H.out.hb 0 _, H.out.lo, by rw [hll]; exact HO.out⟩, rfl, (Fr.refl _ w).setCell (p := ⟨b, 0, none⟩) (.inl rfl) _⟩
    · have z2 : ¬ (cap - n = 0) := by omega
      have z3 : ¬ (cap ≤ n) := by omega
      obtain ⟨t0, hi, hz0, hz1, hz2⟩ := info_parts size_U
      obtain ⟨zs1, zs2⟩ := zero_U (L.length - n)
      have hcl := fun ty c => run_clear_own Try.prog 95 ty 84 t0 (.agg #[.int .i64 0, .int .i64 0]) w g (n * 2) (L.length - n) c cur und_U hi hz0 HX.out.1 (by rw [zs1, HX.out.2]; omega) zs2 (by omega)
      obtain ⟨cs, hcs⟩ : ∃ cs, (cur.toList.take (n * 2) ++ (Builtin.zeroCells (Value.agg #[.int .i64 0, .int .i64 0]).cells (L.length - n)).toList ++ cur.toList.drop (n * 2 + (Builtin.zeroCells (Value.agg #[.int .i64 0, .int .i64 0]).cells (L.length - n)).size)).toArray = cs := ⟨_, rfl⟩
      have HCS : Hid (cs.size = cur.size ∧ cs.toList.take (n * 2) = cur.toList.take (n * 2)) := by
        subst hcs
        have := HX.out.2
        constructor
        · simp [zs1]; omega
        · rw [List.toList_toArray, List.append_assoc, List.take_append_of_le_length (by simp; omega), List.take_take]
          simp
      rw [hcs] at hcl
      have OW : Hid ((w.setRow g cs).ownsRow base 84 2 (.slice (some ⟨g, 0, none⟩) n cap) n (cellsU (L.take n))) := by
        have := ownsRow_cut H.out.own hn (cs := cs) (fun cur' h' => by rw [HX.out.1] at h'; cases h'; exact HCS.out)
        rw [cellsU_take]
        exact this
      have hgb : g ≠ b := fun e => H.out.not (by rw [e]; rfl)
      have RB : Hid ((w.setRow g cs).heap[b]? = some (.cells #[.slice (some ⟨g, 0, none⟩) L.length cap] 97 (0, 0))) := (setRow_other _ _ _ _ hgb.symm).trans H.out.hb
      have FR : Hid (Fr (foot b (.slice (some ⟨g, 0, none⟩) L.length cap)) w (w.setRow g cs)) := (Fr.refl _ w).setRow (.inr rfl) _
      have c1 : (w.setRow g cs).cell? ⟨b, 0, none⟩ = some (.slice (some ⟨g, 0, none⟩) L.length cap) := cell_row RB.out (i := 0) rfl
      have f1 := frz_row RB.out 0
      generalize w.setRow g cs = w1 at hcl OW RB FR c1 f1
      clear hcs hgb zs1 zs2 hnl
      go_enter Try.func50, Try.ntmps50
      go_wp2_with (go_at_call 47; (with_reducible refine (lenU H.out).mono ?_); rintro e w5 ⟨rfl, h5⟩; subst w5)
      go_ret
      have hne : (Value.slice (some ⟨g, 0, none⟩) n cap).ownBlock ≠ some b := ownsRow_not OW.out RB.out (by decide)
      exact ⟨rfl, _, ⟨heap_set_in RB.out 0 _, H.out.lo, by rw [hll]; exact ownsRow_fr OW.out ((Fr.refl (fun k => k = b) w1).setCell (p := ⟨b, 0, none⟩) rfl _) (fun k hk e => hne (e ▸ hk))⟩, rfl, FR.out.setCell (p := ⟨b, 0, none⟩) (.inl rfl) _⟩
end Go.Proofs.Ytobeiigmeflbjaa
