/-
  A pile of structs of two cells (dredgelaw04.Thing): New, Len, Push, Cut.
-/
import Derived.Test.YtobeiigmeflbjaaPileI
namespace Go.Proofs.Ytobeiigmeflbjaa
open Go Go.RowKit

/-- Things as cells. -/
def cellsT : List (Int × ByteArray) → List Value
  | [] => []
  | x :: L => .int .i64 x.1 :: .string x.2 :: cellsT L
theorem cellsT_length (L : List (Int × ByteArray)) : (cellsT L).length = L.length * 2 := by
  induction L with
  | nil => rfl
  | cons x L ih => simp [cellsT, ih]; omega
theorem cellsT_append (L M : List (Int × ByteArray)) : cellsT (L ++ M) = cellsT L ++ cellsT M := by
  induction L with
  | nil => rfl
  | cons x L ih => simp [cellsT, ih]
theorem cellsT_take : ∀ (L : List (Int × ByteArray)) (n : Nat), cellsT (L.take n) = (cellsT L).take (n * 2)
  | [], n => by simp [cellsT]
  | x :: L, 0 => by simp [cellsT]
  | x :: L, n + 1 => by
    rw [show (n + 1) * 2 = n * 2 + 1 + 1 by omega]
    simp [cellsT, cellsT_take L n]
theorem cellsT_get : ∀ {L : List (Int × ByteArray)} {k : Nat} {x : (Int × ByteArray)}, L[k]? = some x → (cellsT L)[k * 2]? = some (.int .i64 x.1) ∧ (cellsT L)[k * 2 + 1]? = some (.string x.2)
  | [], k, x, h => by simp at h
  | y :: L, 0, x, h => by simp at h; subst h; simp [cellsT]
  | y :: L, k + 1, x, h => by
    rw [show (k + 1) * 2 = k * 2 + 1 + 1 by omega]
    simpa [cellsT] using cellsT_get (L := L) (k := k) (x := x) (by simpa using h)
theorem size_T : (Try.prog.info? 28).map (fun i => (i.zero, i.size, i.bytes)) = some (some (.agg #[.int .i64 0, .string ⟨#[]⟩]), 2, 24) := by kernel_rfl
theorem und_T : Try.prog.underlying 29 = some (.slice 28) := by kernel_rfl

/-- A pile in memory: its struct in block b, its list v. -/
structure PT (base : Nat) (w : World) (b : Nat) (v : Value) (L : List (Int × ByteArray)) : Prop where
  hb : w.heap[b]? = some (.cells #[v] 75 (0, 0))
  lo : base ≤ b
  own : w.ownsRow base 28 2 v L.length (cellsT L)
theorem PT.not {base : Nat} {w : World} {b : Nat} {v : Value} {L : List (Int × ByteArray)} (h : PT base w b v L) : v.ownBlock ≠ some b := ownsRow_not h.own h.hb (by decide)
theorem PT.foot {base : Nat} {w : World} {b : Nat} {v : Value} {L : List (Int × ByteArray)} (h : PT base w b v L) : ∀ k, foot b v k → base ≤ k := foot_lo h.own h.lo
theorem PT.lt {base : Nat} {w : World} {b : Nat} {v : Value} {L : List (Int × ByteArray)} (h : PT base w b v L) : ∀ k, Go.Proofs.Ytobeiigmeflbjaa.foot b v k → k < w.heap.size := fun k hk => by
  rcases hk with rfl | q
  · exact lt_of_heap h.hb
  · exact (ownsRow_at h.own q).2.1
theorem PT.fr {base : Nat} {w w' : World} {b : Nat} {v : Value} {L : List (Int × ByteArray)} {S : Nat → Prop} (h : PT base w b v L) (hf : Fr S w w') (hs : ∀ k, Go.Proofs.Ytobeiigmeflbjaa.foot b v k → ¬ S k) : PT base w' b v L :=
  ⟨(hf.block b (lt_of_heap h.hb) (hs b (.inl rfl))).trans h.hb, h.lo, ownsRow_fr h.own hf (fun k q => hs k (.inr q))⟩
theorem PT.kept {base : Nat} {w w' : World} {b : Nat} {v : Value} {L : List (Int × ByteArray)} (h : PT base w b v L) (hb : Below w.heap.size w w') : PT base w' b v L := h.fr (S := fun _ => False) (Fr.of_below hb) (fun _ _ q => q)

set_option maxRecDepth 100000 in
set_option maxHeartbeats 400000 in
theorem newT (w : World) : Calls Try.prog 10 #[] w fun e w' => e = .returned (.pointer (some ⟨w.heap.size, 0, none⟩)) ∧ PT w.heap.size w' w.heap.size (.slice none 0 0) [] ∧ Below w.heap.size w w' ∧ w'.heap.size = w.heap.size + 1 := by
  go_enter Try.func10, Try.ntmps10
  go_wp2
  go_ret
  exact ⟨rfl, ⟨alloc_new _ _, Nat.le_refl _, World.ownsRow_nil _ _ _ _⟩, (Below.refl _ _).alloc (Nat.le_refl _) _, by simp⟩

set_option maxRecDepth 100000 in
set_option maxHeartbeats 400000 in
theorem lenT {base : Nat} {w : World} {b : Nat} {v : Value} {L : List (Int × ByteArray)} (h : PT base w b v L) :
    Calls Try.prog 15 #[.pointer (some ⟨b, 0, none⟩)] w fun e w' => e = .returned (.int .i64 L.length) ∧ w' = w := by
  obtain ⟨q, c, rfl⟩ := ownsRow_shape h.own
  have c0 : w.cell? ⟨b, 0, none⟩ = some (.slice q L.length c) := cell_row h.hb (i := 0) rfl
  clear h
  go_enter Try.func15, Try.ntmps15
  go_wp2
  go_ret
  exact ⟨rfl, rfl⟩

theorem pushT_end {base : Nat} {w w1 w6 : World} {b : Nat} {q : Option Addr} {c g6 cap6 : Nat} {L : List (Int × ByteArray)} {x : (Int × ByteArray)} (H : PT base w1 b (.slice q L.length c) L) (B1 : Below w.heap.size w w1) (Z1 : w1.heap.size = w.heap.size + 1) (HRB : w6.heap[b]? = some (.cells #[.slice q L.length c] 75 (0, 0)))
    (OWN : w6.ownsRow base 28 2 (.slice (some ⟨g6, 0, none⟩) (L.length + 1) cap6) (L.length + 1) (cellsT L ++ [.int .i64 x.1, .string x.2])) (FR : Fr (foot b (.slice q L.length c)) w1 w6)
    (BLK : (Value.slice (some ⟨g6, 0, none⟩) (L.length + 1) cap6).ownBlock = (Value.slice q L.length c).ownBlock ∨ (Value.slice (some ⟨g6, 0, none⟩) (L.length + 1) cap6).ownBlock = some (w1.heap.size + 1)) :
    Ending.returned (.tuple #[]) = Ending.returned (.tuple #[]) ∧ ∃ v', PT base (w6.setCell ⟨b, 0, none⟩ (.slice (some ⟨g6, 0, none⟩) (L.length + 1) cap6)) b v' (L ++ [x]) ∧ moved (.slice q L.length c) v' w.heap.size ∧ Fr (foot b (.slice q L.length c)) w (w6.setCell ⟨b, 0, none⟩ (.slice (some ⟨g6, 0, none⟩) (L.length + 1) cap6)) := by
  have hne : (Value.slice (some ⟨g6, 0, none⟩) (L.length + 1) cap6).ownBlock ≠ some b := ownsRow_not OWN HRB (by decide)
  refine ⟨rfl, _, ⟨heap_set_in HRB 0 _, H.lo, ?_⟩, ?_, (Fr.of_below B1).trans (FR.setCell (p := ⟨b, 0, none⟩) (.inl rfl) _)⟩
  · rw [List.length_append, List.length_singleton, cellsT_append]
    exact ownsRow_fr OWN ((Fr.refl (fun k => k = b) w6).setCell (p := ⟨b, 0, none⟩) rfl _) (fun k hk e => hne (e ▸ hk))
  · rcases BLK with q | q
    · exact .inl q
    · exact .inr (.inr ⟨_, by omega, q⟩)

set_option maxRecDepth 100000 in
set_option maxHeartbeats 4000000 in
theorem pushT {base : Nat} {w : World} {b : Nat} {v : Value} {L : List (Int × ByteArray)} (h : PT base w b v L) (hbase : base ≤ w.heap.size) (hl : L.length ≤ 1000000) (x : (Int × ByteArray)) :
    Calls Try.prog 14 #[.pointer (some ⟨b, 0, none⟩), .agg #[.int .i64 x.1, .string x.2]] w fun e w' => e = .returned (.tuple #[]) ∧ ∃ v', PT base w' b v' (L ++ [x]) ∧ moved v v' w.heap.size ∧ Fr (foot b v) w w' := by
  obtain ⟨q, c, rfl⟩ := ownsRow_shape h.own
  have lb0 := lt_of_heap h.hb
  have H0 : Hid (PT base w b (.slice q L.length c) L) := h
  obtain ⟨t0, hi, hz0, hz1, hz2⟩ := info_parts size_T
  clear h
  go_enter Try.func14, Try.ntmps14
  go_upto_region 1 with fail
  have B1 : Hid (Below w.heap.size w (w.alloc (.cells #[.int .i64 x.1, .string x.2] 28))) := (Below.refl _ _).alloc (Nat.le_refl _) _
  have N1 := alloc_new w (.cells #[.int .i64 x.1, .string x.2] 28)
  have H : Hid (PT base (w.alloc (.cells #[.int .i64 x.1, .string x.2] 28)) b (.slice q L.length c) L) := H0.out.kept B1.out
  have Z1 : (w.alloc (.cells #[.int .i64 x.1, .string x.2] 28)).heap.size = w.heap.size + 1 := by simp
  generalize (w.alloc (.cells #[.int .i64 x.1, .string x.2] 28)) = w1 at B1 N1 H Z1 ⊢
  have m0 : w1.cell? ⟨w.heap.size, 0, none⟩ = some (.int .i64 x.1) := cell_row N1 (i := 0) rfl
  have m1 : w1.cell? ⟨w.heap.size, 1, none⟩ = some (.string x.2) := cell_row N1 (i := 1) rfl
  have lw : w.heap.size < w1.heap.size := by omega
  have lb : b < w1.heap.size := by omega
  have c0 : w1.cell? ⟨b, 0, none⟩ = some (.slice q L.length c) := cell_row H.out.hb (i := 0) rfl
  have hb1 : base ≤ w1.heap.size := by omega
  have HZ1 : Hid (w1.heap.size = w.heap.size + 1) := Z1
  clear N1 Z1
  go_region_law (refine step_append_at rfl _ _ 29 rfl base 28 t0 (.agg #[.int .i64 0, .string ⟨#[]⟩]) 2 24 und_T hi hz0 hz1 hz2 rfl (by decide) (.slice q L.length c) L.length (cellsT L) (by simp [Act.eval]) (World.ownsRow.alloc H.out.own (.cells #[.int .i64 x.1, .string x.2] 28)).drew ⟨w1.heap.size, 0, none⟩ 1 1 [.int .i64 x.1, .string x.2] (by simp [Act.eval]) rfl (news2 _ _ _ _) (by simp [Value.oneCell']) (by unfold maxLen; omega) (by omega) (by simp; omega) ?_; intro v' w6 hown' hgrow hblk; obtain ⟨g6, cap6, rfl⟩ := ownsRow_some hown' (Nat.succ_pos _); have hrb : w6.heap[b]? = some (.cells #[.slice q L.length c] 75 (0, 0)) := (hgrow.block b (by simp; omega) (Ne.symm H.out.not)).trans ((Below.heap_alloc _ _ _ lb).trans H.out.hb); have HRB : Hid (w6.heap[b]? = some (.cells #[.slice q L.length c] 75 (0, 0))) := hrb; have OWN : Hid (w6.ownsRow base 28 2 (.slice (some ⟨g6, 0, none⟩) (L.length + 1) cap6) (L.length + 1) (cellsT L ++ [.int .i64 x.1, .string x.2])) := hown'; have FR : Hid (Fr (foot b (.slice q L.length c)) w1 w6) := (((Fr.refl _ w1).alloc _).drew).grown hgrow (fun k hk => .inr hk); have BLK : Hid ((Value.slice (some ⟨g6, 0, none⟩) (L.length + 1) cap6).ownBlock = (Value.slice q L.length c).ownBlock ∨ (Value.slice (some ⟨g6, 0, none⟩) (L.length + 1) cap6).ownBlock = some (w1.heap.size + 1)) := hblk.imp id (fun q => q.trans (by simp)); have c6 : w6.cell? ⟨b, 0, none⟩ = some (.slice q L.length c) := cell_row hrb (i := 0) rfl; have f6 := frz_row hrb 0; clear hown' hgrow hblk hrb c0)
  all_goals go_wp2
  all_goals go_end0
  all_goals exact pushT_end H.out B1.out HZ1.out HRB.out OWN.out FR.out BLK.out

set_option maxRecDepth 100000 in
set_option maxHeartbeats 1000000 in
theorem cutT_bad {base : Nat} {w : World} {b : Nat} {v : Value} {L : List (Int × ByteArray)} (h : PT base w b v L) {n : Int} (hn : n < 0 ∨ (L.length : Int) < n) :
    Calls Try.prog 30 #[.pointer (some ⟨b, 0, none⟩), .int .i64 n] w fun e w' => e = .returned (.int .i64 1) ∧ w' = w := by
  have H : Hid (PT base w b v L) := h
  clear h
  rcases hn with hn | hn
  · go_enter Try.func30, Try.ntmps30
    go_wp2
    go_ret
    exact ⟨rfl, rfl⟩
  · have n0 : ¬ n < 0 := by omega
    go_enter Try.func30, Try.ntmps30
    go_wp2_with (go_at_call 15; (with_reducible refine (lenT H.out).mono ?_); rintro e w5 ⟨rfl, h5⟩; subst w5)
    go_ret
    exact ⟨rfl, rfl⟩

theorem zero_T (n : Nat) : (Builtin.zeroCells (Value.agg #[.int .i64 0, .string ⟨#[]⟩]).cells n).size = n * 2 ∧ ∀ u ∈ (Builtin.zeroCells (Value.agg #[.int .i64 0, .string ⟨#[]⟩]).cells n).toList, u.oneCell' = true := by
  have hc : (Value.agg #[.int .i64 0, .string ⟨#[]⟩]).cells = #[.int .i64 0, .string ⟨#[]⟩] := rfl
  rw [hc]
  constructor
  · simp [Builtin.zeroCells]
  · intro u hu
    simp [Builtin.zeroCells] at hu
    obtain ⟨i, _, rfl⟩ := hu
    have h2 : i % 2 < 2 := Nat.mod_lt _ (by decide)
    generalize i % 2 = j at h2
    match j, h2 with
    | 0, _ => rfl
    | 1, _ => rfl

set_option maxRecDepth 100000 in
set_option maxHeartbeats 1000000 in
theorem cutT {base : Nat} {w : World} {b : Nat} {v : Value} {L : List (Int × ByteArray)} (h : PT base w b v L) {n : Nat} (hn : n ≤ L.length) :
    Calls Try.prog 30 #[.pointer (some ⟨b, 0, none⟩), .int .i64 n] w fun e w' => e = .returned (.int .i64 0) ∧ ∃ v', PT base w' b v' (L.take n) ∧ v'.ownBlock = v.ownBlock ∧ Fr (foot b v) w w' := by
  have H : Hid (PT base w b v L) := h
  have n0 : ¬ (n : Int) < 0 := by omega
  have n1 : ¬ (L.length : Int) < (n : Int) := by omega
  have hll : (L.take n).length = n := by simp; omega
  rcases h.own.2 with ⟨rfl, hl0⟩ | ⟨g, cap, cur, rfl, hlo, hg, hcap, hmx, hsz, htk⟩
  · obtain rfl : n = 0 := by omega
    have c0 : w.cell? ⟨b, 0, none⟩ = some (.slice none 0 0) := cell_row h.hb (i := 0) rfl
    have f0 := frz_row h.hb 0
    have hcl := fun ty W => run_clear_none Try.prog 29 ty 28 none 0 W und_T
    clear h
    go_enter Try.func30, Try.ntmps30
    go_wp2_with (go_at_call 15; (with_reducible refine (lenT H.out).mono ?_); rintro e w5 ⟨rfl, h5⟩; subst w5)
    go_ret
    exact ⟨rfl, _, ⟨heap_set_in H.out.hb 0 _, H.out.lo, World.ownsRow_nil _ _ _ _⟩, rfl, (Fr.refl _ w).setCell (p := ⟨b, 0, none⟩) (.inl rfl) _⟩
  · have c0 : w.cell? ⟨b, 0, none⟩ = some (.slice (some ⟨g, 0, none⟩) L.length cap) := cell_row h.hb (i := 0) rfl
    have f0 := frz_row h.hb 0
    have i1 : (n : Int) ≤ (cap : Int) := by omega
    have i2 : (n : Int) ≤ (L.length : Int) := by omega
    have i3 : (L.length : Int) ≤ (cap : Int) := by omega
    have i4 : (0 : Int) ≤ (n : Int) := by omega
    have lb := lt_of_heap h.hb
    have HX : Hid (w.heap[g]? = some (.cells cur 28 (0, 0)) ∧ cur.size = cap * 2) := ⟨hg, hsz⟩
    clear h hg hsz htk hlo
    by_cases hnl : n = L.length
    · have HN : Hid (n = L.length) := hnl
      have z1 : L.length - n = 0 := by omega
      have hcl := fun ty q c W => run_clear_none Try.prog 29 ty 28 q c W und_T
      clear hnl
      have HO : Hid ((w.setCell ⟨b, 0, none⟩ (.slice (some ⟨g, 0, none⟩) n cap)).ownsRow base 28 2 (.slice (some ⟨g, 0, none⟩) n cap) n (cellsT (L.take n))) := by
        rw [HN.out, List.take_length]
        exact ownsRow_fr H.out.own ((Fr.refl (fun k => k = b) w).setCell (p := ⟨b, 0, none⟩) rfl _) (fun k hk e => H.out.not (e ▸ hk))
      by_cases hcn : cap = n
      · have z2 : cap - n = 0 := by omega
        have z3 : cap ≤ n := by omega
        clear hcn
        go_enter Try.func30, Try.ntmps30
        go_wp2_with (go_at_call 15; (with_reducible refine (lenT H.out).mono ?_); rintro e w5 ⟨rfl, h5⟩; subst w5)
        go_ret
        exact ⟨rfl, _, ⟨heap_set_in H.out.hb 0 _, H.out.lo, by rw [hll]; exact HO.out⟩, rfl, (Fr.refl _ w).setCell (p := ⟨b, 0, none⟩) (.inl rfl) _⟩
      · have z2 : ¬ (cap - n = 0) := by omega
        have z3 : ¬ (cap ≤ n) := by omega
        go_enter Try.func30, Try.ntmps30
        go_wp2_with (go_at_call 15; (with_reducible refine (lenT H.out).mono ?_); rintro e w5 ⟨rfl, h5⟩; subst w5)
        go_ret
        exact ⟨rfl, _, ⟨heap_set_in H.out.hb 0 _, H.out.lo, by rw [hll]; exact HO.out⟩, rfl, (Fr.refl _ w).setCell (p := ⟨b, 0, none⟩) (.inl rfl) _⟩
    · have z2 : ¬ (cap - n = 0) := by omega
      have z3 : ¬ (cap ≤ n) := by omega
      obtain ⟨t0, hi, hz0, hz1, hz2⟩ := info_parts size_T
      obtain ⟨zs1, zs2⟩ := zero_T (L.length - n)
      have hcl := fun ty c => run_clear_own Try.prog 29 ty 28 t0 (.agg #[.int .i64 0, .string ⟨#[]⟩]) w g (n * 2) (L.length - n) c cur und_T hi hz0 HX.out.1 (by rw [zs1, HX.out.2]; omega) zs2 (by omega)
      obtain ⟨cs, hcs⟩ : ∃ cs, (cur.toList.take (n * 2) ++ (Builtin.zeroCells (Value.agg #[.int .i64 0, .string ⟨#[]⟩]).cells (L.length - n)).toList ++ cur.toList.drop (n * 2 + (Builtin.zeroCells (Value.agg #[.int .i64 0, .string ⟨#[]⟩]).cells (L.length - n)).size)).toArray = cs := ⟨_, rfl⟩
      have HCS : Hid (cs.size = cur.size ∧ cs.toList.take (n * 2) = cur.toList.take (n * 2)) := by
        subst hcs
        have := HX.out.2
        constructor
        · simp [zs1]; omega
        · rw [List.toList_toArray, List.append_assoc, List.take_append_of_le_length (by simp; omega), List.take_take]
          simp
      rw [hcs] at hcl
      have OW : Hid ((w.setRow g cs).ownsRow base 28 2 (.slice (some ⟨g, 0, none⟩) n cap) n (cellsT (L.take n))) := by
        have := ownsRow_cut H.out.own hn (cs := cs) (fun cur' h' => by rw [HX.out.1] at h'; cases h'; exact HCS.out)
        rw [cellsT_take]
        exact this
      have hgb : g ≠ b := fun e => H.out.not (by rw [e]; rfl)
      have RB : Hid ((w.setRow g cs).heap[b]? = some (.cells #[.slice (some ⟨g, 0, none⟩) L.length cap] 75 (0, 0))) := (setRow_other _ _ _ _ hgb.symm).trans H.out.hb
      have FR : Hid (Fr (foot b (.slice (some ⟨g, 0, none⟩) L.length cap)) w (w.setRow g cs)) := (Fr.refl _ w).setRow (.inr rfl) _
      have c1 : (w.setRow g cs).cell? ⟨b, 0, none⟩ = some (.slice (some ⟨g, 0, none⟩) L.length cap) := cell_row RB.out (i := 0) rfl
      have f1 := frz_row RB.out 0
      generalize w.setRow g cs = w1 at hcl OW RB FR c1 f1
      clear hcs hgb zs1 zs2 hnl
      go_enter Try.func30, Try.ntmps30
      go_wp2_with (go_at_call 15; (with_reducible refine (lenT H.out).mono ?_); rintro e w5 ⟨rfl, h5⟩; subst w5)
      go_ret
      have hne : (Value.slice (some ⟨g, 0, none⟩) n cap).ownBlock ≠ some b := ownsRow_not OW.out RB.out (by decide)
      exact ⟨rfl, _, ⟨heap_set_in RB.out 0 _, H.out.lo, by rw [hll]; exact ownsRow_fr OW.out ((Fr.refl (fun k => k = b) w1).setCell (p := ⟨b, 0, none⟩) rfl _) (fun k hk e => hne (e ▸ hk))⟩, rfl, FR.out.setCell (p := ⟨b, 0, none⟩) (.inl rfl) _⟩
end Go.Proofs.Ytobeiigmeflbjaa
