/-
  The document's own cells: how they lie in memory; Set, Get, Back.
-/
import Derived.Test.YtobeiigmeflbjaaArgL
namespace Go.Proofs.Ytobeiigmeflbjaa
open Go Go.RowKit

theorem size_lay : (Try.prog.info? 88).map (fun i => (i.zero, i.size, i.bytes)) = some (some (.agg #[.int .i64 0, .int .i64 0]), 2, 16) := by kernel_rfl
theorem und_rlay : Try.prog.underlying 48 = some (.slice 88) := by kernel_rfl
theorem cellsU_one (L : List (Int × Int)) : ∀ u ∈ cellsU L, u.oneCell' = true := by
  induction L with
  | nil => intro u hu; cases hu
  | cons p L ih =>
    intro u hu
    simp only [cellsU, List.mem_cons] at hu
    rcases hu with rfl | rfl | hu
    · rfl
    · rfl
    · exact ih u hu

/-- The Sets that stand, done one after the other. -/
def setsV (N : Nat) (L : List (Int × Int)) : List Int := L.foldl (fun A p => A.set p.1.toNat p.2) (List.replicate N (-1))
theorem setsV_length (N : Nat) (L : List (Int × Int)) : (setsV N L).length = N := by
  unfold setsV
  suffices h : ∀ A : List Int, (L.foldl (fun A p => A.set p.1.toNat p.2) A).length = A.length by rw [h]; simp
  induction L with
  | nil => intro A; rfl
  | cons p L ih => intro A; rw [List.foldl_cons, ih]; simp
theorem setsV_snoc (N : Nat) (L : List (Int × Int)) (p : Int × Int) : setsV N (L ++ [p]) = (setsV N L).set p.1.toNat p.2 := by simp [setsV]
theorem setsV_none {N : Nat} {L : List (Int × Int)} {i : Nat} (hi : i < N) (h : ∀ p ∈ L, p.1.toNat ≠ i) : (setsV N L)[i]? = some (-1) := by
  unfold setsV
  suffices k : ∀ A : List Int, A[i]? = some (-1) → (L.foldl (fun A p => A.set p.1.toNat p.2) A)[i]? = some (-1) from k _ (by simp [hi])
  induction L with
  | nil => intro A hA; exact hA
  | cons p L ih =>
    intro A hA
    rw [List.foldl_cons]
    exact ih (fun q hq => h q (List.mem_cons_of_mem _ hq)) _ (by rw [List.getElem?_set_ne (h p (List.mem_cons_self ..))]; exact hA)
theorem setsV_last {N : Nat} {L : List (Int × Int)} {i k : Nat} {x : Int} (hi : i < N) (hk : L[k]? = some ((i : Int), x)) (h : ∀ p ∈ L.drop (k + 1), p.1.toNat ≠ i) : (setsV N L)[i]? = some x := by
  have e : L = L.take (k + 1) ++ L.drop (k + 1) := (List.take_append_drop _ _).symm
  rw [take_last hk] at e
  have hA : (setsV N (L.take k ++ [((i : Int), x)]))[i]? = some x := by
    rw [setsV_snoc]
    simp [setsV_length, hi]
  have hl : ∀ (M : List (Int × Int)) (A : List Int), (∀ p ∈ M, p.1.toNat ≠ i) → A[i]? = some x → (M.foldl (fun A p => A.set p.1.toNat p.2) A)[i]? = some x := by
    intro M
    induction M with
    | nil => intro A _ hA; exact hA
    | cons p M ih =>
      intro A hM hA
      rw [List.foldl_cons]
      exact ih _ (fun q hq => hM q (List.mem_cons_of_mem _ hq)) (by rw [List.getElem?_set_ne (hM p (List.mem_cons_self ..))]; exact hA)
  rw [e]
  unfold setsV
  rw [List.foldl_append]
  exact hl _ _ h hA

/-- The document's cells in memory: their struct in block r, their Sets' list v. -/
structure RC (base : Nat) (w : World) (r : Nat) (v : Value) (N : Nat) (L : List (Int × Int)) : Prop where
  hb : w.heap[r]? = some (.cells #[.int .i64 N, v] 50 (0, 0))
  lo : base ≤ r
  own : w.ownsRow base 88 2 v L.length (cellsU L)
section
variable {base : Nat} {w w' : World} {r : Nat} {v : Value} {N : Nat} {L : List (Int × Int)}
theorem RC.not (h : RC base w r v N L) : v.ownBlock ≠ some r := ownsRow_not h.own h.hb (by decide)
theorem RC.low (h : RC base w r v N L) : ∀ k, foot r v k → base ≤ k := foot_lo h.own h.lo
theorem RC.fr {S : Nat → Prop} (h : RC base w r v N L) (hf : Fr S w w') (hs : ∀ k, foot r v k → ¬ S k) : RC base w' r v N L :=
  ⟨(hf.block r (lt_of_heap h.hb) (hs r (.inl rfl))).trans h.hb, h.lo, ownsRow_fr h.own hf (fun k q => hs k (.inr q))⟩
theorem RC.kept (h : RC base w r v N L) (hb : Below w.heap.size w w') : RC base w' r v N L := h.fr (S := fun _ => False) (Fr.of_below hb) (fun _ _ q => q)
theorem RC.c0 (h : RC base w r v N L) : w.cell? ⟨r, 0, none⟩ = some (.int .i64 N) := cell_row h.hb (i := 0) rfl
theorem RC.c1 (h : RC base w r v N L) : w.cell? ⟨r, 1, none⟩ = some v := cell_row h.hb (i := 1) rfl
end

set_option maxRecDepth 100000 in
set_option maxHeartbeats 1000000 in
theorem rset_out {base : Nat} {w : World} {r : Nat} {v : Value} {N : Nat} {L : List (Int × Int)} (h : RC base w r v N L) {i : Int} (hi : i < 0 ∨ (N : Int) ≤ i) (x : Int) :
    Calls Try.prog 18 #[.pointer (some ⟨r, 0, none⟩), .int .i64 i, .int .i64 x] w fun e w' => e = .returned (.bool false) ∧ w' = w := by
  have c0 := h.c0
  clear h
  rcases hi with hi | hi
  · go_enter Try.func18, Try.ntmps18
    go_wp2
    go_ret
    exact ⟨rfl, rfl⟩
  · have n0 : ¬ i < 0 := by omega
    go_enter Try.func18, Try.ntmps18
    go_wp2
    go_ret
    exact ⟨rfl, rfl⟩

set_option maxRecDepth 100000 in
set_option maxHeartbeats 1000000 in
theorem rset_in {base : Nat} {w : World} {r : Nat} {v : Value} {N : Nat} {L : List (Int × Int)} (h : RC base w r v N L) (hbase : base ≤ w.heap.size) (hl : L.length ≤ 1000000) {i : Nat} (hi : i < N) (x : Int) :
    Calls Try.prog 18 #[.pointer (some ⟨r, 0, none⟩), .int .i64 (i : Int), .int .i64 x] w fun e w' => e = .returned (.bool true) ∧ ∃ v', RC base w' r v' N (L ++ [((i : Int), x)]) ∧ Fr (foot r v) w w' := by
  obtain ⟨q, c, rfl⟩ := ownsRow_shape h.own
  have c0 := h.c0
  have c1 := h.c1
  have lb := lt_of_heap h.hb
  have H : Hid (RC base w r (.slice q L.length c) N L) := h
  have n0 : ¬ (i : Int) < 0 := by omega
  have n1 : ¬ (N : Int) ≤ (i : Int) := by omega
  obtain ⟨t0, hi0, hz0, hz1, hz2⟩ := info_parts size_lay
  clear h
  go_enter Try.func18, Try.ntmps18
  go_wp2_with (at_builtin; refine wpList_append_own_at _ rfl _ _ 48 rfl base 88 t0 (.agg #[.int .i64 0, .int .i64 0]) 2 16 und_rlay hi0 hz0 hz1 hz2 rfl (by decide) (.slice q L.length c) L.length (cellsU L) rfl (World.ownsRow.alloc H.out.own (.cells #[.int .i64 (i : Int), .int .i64 x] 88)) ⟨w.heap.size, 0, none⟩ 1 1 [.int .i64 (i : Int), .int .i64 x] rfl rfl (news2 _ _ _ _) (by simp [Value.oneCell']) (by unfold maxLen; omega) (by omega) (by simp; omega) ?_; intro v' w6 hown' hgrow _ hblk; obtain ⟨g6, cap6, rfl⟩ := ownsRow_some hown' (Nat.succ_pos _); have hrb : w6.heap[r]? = some (.cells #[.int .i64 N, .slice q L.length c] 50 (0, 0)) := (hgrow.block r (by simp; omega) (Ne.symm H.out.not)).trans ((Below.heap_alloc _ _ _ lb).trans H.out.hb); have HRB : Hid (w6.heap[r]? = some (.cells #[.int .i64 N, .slice q L.length c] 50 (0, 0))) := hrb; have OWN : Hid (w6.ownsRow base 88 2 (.slice (some ⟨g6, 0, none⟩) (L.length + 1) cap6) (L.length + 1) (cellsU L ++ [.int .i64 (i : Int), .int .i64 x])) := hown'; have FR : Hid (Fr (foot r (.slice q L.length c)) w w6) := ((Fr.refl _ w).alloc _).grown hgrow (fun k hk => .inr hk); have c6 : w6.cell? ⟨r, 1, none⟩ = some (.slice q L.length c) := cell_row hrb (i := 1) rfl; have f6 := frz_row hrb 1; clear hown' hgrow hblk hrb c0 c1)
  go_ret
  have hne : (Value.slice (some ⟨g6, 0, none⟩) (L.length + 1) cap6).ownBlock ≠ some r := ownsRow_not OWN.out HRB.out (by decide)
  refine ⟨rfl, ⟨_, heap_set_in HRB.out 1 _, H.out.lo, ?_⟩, FR.out.setCell (p := ⟨r, 1, none⟩) (.inl rfl) _⟩
  rw [List.length_append, List.length_singleton, cellsU_append]
  exact ownsRow_fr OWN.out ((Fr.refl (fun k => k = r) w6).setCell (p := ⟨r, 1, none⟩) rfl _) (fun k hk e => hne (e ▸ hk))

set_option maxRecDepth 100000 in
set_option maxHeartbeats 1000000 in
theorem rget_out {base : Nat} {w : World} {r : Nat} {v : Value} {N : Nat} {L : List (Int × Int)} (h : RC base w r v N L) {i : Int} (hi : i < 0 ∨ (N : Int) ≤ i) :
    Calls Try.prog 20 #[.pointer (some ⟨r, 0, none⟩), .int .i64 i] w fun e w' => e = .returned (.tuple #[.int .i64 0, .bool false]) ∧ w' = w := by
  have c0 := h.c0
  clear h
  rcases hi with hi | hi
  · go_enter Try.func20, Try.ntmps20
    go_wp2
    go_ret2
    exact ⟨rfl, rfl⟩
  · have n0 : ¬ i < 0 := by omega
    go_enter Try.func20, Try.ntmps20
    go_wp2
    go_ret2
    exact ⟨rfl, rfl⟩

set_option maxRecDepth 100000 in
set_option maxHeartbeats 1000000 in
theorem rget_in {base : Nat} {w : World} {r : Nat} {v : Value} {N : Nat} {L : List (Int × Int)} (h : RC base w r v N L) (hL : ∀ p ∈ L, 0 ≤ p.1) (hl : L.length ≤ 1000000) {i : Nat} {x : Int} (hi : (setsV N L)[i]? = some x) :
    Calls Try.prog 20 #[.pointer (some ⟨r, 0, none⟩), .int .i64 (i : Int)] w fun e w' => e = .returned (.tuple #[.int .i64 x, .bool true]) ∧ w' = w := by
  have hiN : i < N := by have := (List.getElem?_eq_some_iff.1 hi).1; rwa [setsV_length] at this
  obtain ⟨q, c, rfl⟩ := ownsRow_shape h.own
  have H : Hid (RC base w r (.slice q L.length c) N L) := h
  have HI : Hid ((setsV N L)[i]? = some x) := hi
  have HL : Hid (∀ p ∈ L, 0 ≤ p.1) := hL
  have c0 := h.c0
  have c1 := h.c1
  have n0 : ¬ (i : Int) < 0 := by omega
  have n1 : ¬ (N : Int) ≤ (i : Int) := by omega
  have d1 : decide (N ≤ i) = false := by simp; omega
  clear h hi hL
  go_enter Try.func20, Try.ntmps20
  go_wp2
  go_loopw [6] (fun t wr => ∃ k : Nat, t = .int .i64 ((k : Int) - 1) ∧ k ≤ L.length ∧ (∀ p ∈ L.drop k, p.1.toNat ≠ i) ∧ wr = w) (fun t _ => (intOf t + 1).toNat)
  case atStart => exact ⟨L.length, rfl, Nat.le_refl _, by simp, rfl⟩
  case round =>
    obtain ⟨k, rfl, hk, hd, hw⟩ := hrel
    subst hw
    have HD : Hid (∀ p ∈ L.drop k, p.1.toNat ≠ i) := hd
    clear hd
    cases k with
    | zero =>
      obtain rfl : x = -1 := by
        have := setsV_none (L := L) hiN (by simpa using HD.out)
        rw [HI.out] at this
        exact Option.some.inj this
      have e0 : ¬ (0 : Int) ≤ ((0 : Nat) : Int) - 1 := by omega
      go_wp2
      go_ret2
      exact ⟨rfl, rfl⟩
    | succ j =>
      obtain ⟨p, hp⟩ : ∃ p, L[j]? = some p := ⟨_, List.getElem?_eq_getElem (by omega)⟩
      have HP : Hid (L[j]? = some p) := hp
      have hp0 := HL.out p (List.mem_of_getElem? hp)
      obtain ⟨g, cc, hq⟩ := ownsRow_some H.out.own (by omega)
      injection hq with hq1 _ hq2
      subst hq1 hq2
      have k0 := ownsRow_cell H.out.own (cellsU_get hp).1
      have k1 := ownsRow_cell H.out.own (cellsU_get hp).2
      obtain ⟨p1, p2⟩ := p
      simp only at k0 k1 hp0
      have e1 : ((j + 1 : Nat) : Int) - 1 = (j : Int) := by omega
      have e2 : (0 : Int) ≤ (j : Int) := by omega
      have e3 : (j : Int) < (L.length : Int) := by omega
      rw [e1]
      clear hp e1
      by_cases hpi : p1 = (i : Int)
      · subst hpi
        obtain rfl : p2 = x := by
          have := setsV_last hiN HP.out HD.out
          rw [HI.out] at this
          exact (Option.some.inj this).symm
        have e4 : ((i : Int) == (i : Int)) = true := by simp
        go_wp2
        go_ret2
        exact ⟨rfl, rfl⟩
      · have e4 : (p1 == (i : Int)) = false := by simpa using hpi
        have HN : Hid (∀ p ∈ L.drop j, p.1.toNat ≠ i) := fun p hp => by
          rw [List.drop_eq_getElem_cons (by omega)] at hp
          rcases List.mem_cons.1 hp with rfl | hp
          · have := (List.getElem?_eq_some_iff.1 HP.out).2
            rw [this]
            simp only
            omega
          · exact HD.out p hp
        clear hpi
        go_wp2
        go_roundw
        case rel => exact ⟨j, by go_num, by omega, HN.out, by first | rfl | trivial⟩
        case measure => simp only [intOf]; omega
end Go.Proofs.Ytobeiigmeflbjaa
