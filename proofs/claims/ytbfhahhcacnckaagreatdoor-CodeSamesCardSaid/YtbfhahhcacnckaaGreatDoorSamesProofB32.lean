/-
  Parts of the proof.
-/
import Derived.Test.YtbfhahhcacnckaaGreatDoorSamesProofB31
set_option linter.unusedSimpArgs false
namespace Go.Proofs.YtbfhahhcacnckaaGreatDoor
open Go Go.RowKit
attribute [local go_sem] Oper.semAt_some
theorem pre_len : ∀ j, j ≤ 4 → (hd0 ++ (smL.take j).flatMap lnI).length ≤ 100 := by decide +kernel
theorem wds_join : ∀ i ∈ smL, wds i ≠ [] ∧ (wds i).length ≤ 100 ∧ (Lib.join (wds i) [32]).length ≤ 100 := by decide +kernel
theorem tx4 : hd0 ++ (smL.take 4).flatMap lnI = tx0 := by kernel_rfl
theorem tx_end {j : Nat} (h : ¬ j < 4) (hj : j ≤ 4) : hd0 ++ (smL.take j).flatMap lnI = tx0 := by
  have e : j = 4 := by omega
  rw [e]
  exact tx4
set_option maxRecDepth 100000 in
set_option maxHeartbeats 4000000 in
theorem text_small {w : World} {p : Pg} (h : PgI w p) (hT : z1_Tab w) (hL : p.L = smL) (hg : p.g = 0) (hk : p.k = 0) (hf : p.f = false) :
    Calls Tryz.prog 15 #[.agg #[.slice p.q p.L.length p.c, .int .i64 p.g, .int .i64 p.k, .bool p.f]] w fun e w' => e = .returned (.tuple #[.string (txt tx0), .int .i64 0]) ∧ Below w.heap.size w w' := by
  obtain ⟨pq, pL, pc, pg, pk, pf⟩ := p
  simp only at hL hg hk hf
  subst hL hg hk hf
  show Calls Tryz.prog 15 #[.agg #[.slice pq 4 pc, .int .i64 0, .int .i64 0, .bool false]] w _
  have B1 : Hid (Below w.heap.size w (w.alloc (.cells #[.slice pq 4 pc, .int .i64 0, .int .i64 0, .bool false] 24))) := (Below.refl _ _).alloc (Nat.le_refl _) _
  have X1 : Hid ((w.alloc (.cells #[.slice pq 4 pc, .int .i64 0, .int .i64 0, .bool false] 24)).heap[w.heap.size]? = some (.cells #[.slice pq 4 pc, .int .i64 0, .int .i64 0, .bool false] 24 (0, 0))) := alloc_new w _
  have HC : Hid (Calls Tryz.prog 14 #[.agg #[.slice pq 4 pc, .int .i64 0, .int .i64 0, .bool false]] (w.alloc (.cells #[.slice pq 4 pc, .int .i64 0, .int .i64 0, .bool false] 24)) (RtP ⟨pq, smL, pc, 0, 0, false⟩ (w.alloc (.cells #[.slice pq 4 pc, .int .i64 0, .int .i64 0, .bool false] 24)))) := right_c (h.kept B1.out)
  have H := hide h
  have HT := hide hT
  unfold RtP at HC
  rw [rt_small] at HC
  clear h hT
  go_enter Tryz.func15, Tryz.ntmps15
  go_upto_region 1 with fail
  generalize (w.alloc (.cells #[.slice pq 4 pc, .int .i64 0, .int .i64 0, .bool false] 24)) = w1 at B1 X1 HC ⊢
  have l1 := lt_of_heap X1.out
  have p0 : w1.cell? ⟨w.heap.size, 0, none⟩ = some (.slice pq 4 pc) := cell_row X1.out (i := 0) rfl
  have p1 : w1.cell? ⟨w.heap.size, 1, none⟩ = some (.int .i64 0) := cell_row X1.out (i := 1) rfl
  have p2 : w1.cell? ⟨w.heap.size, 2, none⟩ = some (.int .i64 0) := cell_row X1.out (i := 2) rfl
  have p3 : w1.cell? ⟨w.heap.size, 3, none⟩ = some (.bool false) := cell_row X1.out (i := 3) rfl
  go_upto_region 5 with (go_at_call 14; (with_reducible refine (HC.out).mono ?_); rintro e w2 ⟨rfl, h2⟩; have B2 := hide (chain B1.out h2 (Nat.le_refl _)); have X2 := hide ((h2.block _ l1).trans X1.out); clear h2)
  clear p0 p1 p2 p3
  have l2 := lt_of_heap X2.out
  have L3 : Hid (BL 64 w2.heap.size (w2.alloc (.cells #[.pointer none, .slice none 0 0] 64)) w2.heap.size [] []) := ⟨_, _, alloc_new w2 _, .inl rfl, World.ownsRow_nil _ _ _ _, fun _ => rfl, Nat.le_refl _⟩
  have B3 : Hid (Below w.heap.size w (w2.alloc (.cells #[.pointer none, .slice none 0 0] 64))) := chain B2.out ((Below.refl _ _).alloc (Nat.le_refl _) _) (Nat.le_refl _)
  have X3 : Hid ((w2.alloc (.cells #[.pointer none, .slice none 0 0] 64)).heap[w.heap.size]? = some (.cells #[.slice pq 4 pc, .int .i64 0, .int .i64 0, .bool false] 24 (0, 0))) := (Below.heap_alloc _ _ _ l2).trans X2.out
  have s3 : (w2.alloc (.cells #[.pointer none, .slice none 0 0] 64)).heap.size = w2.heap.size + 1 := by simp
  generalize (w2.alloc (.cells #[.pointer none, .slice none 0 0] 64)) = w3 at B3 X3 L3 s3 ⊢
  have p0 : w3.cell? ⟨w.heap.size, 0, none⟩ = some (.slice pq 4 pc) := cell_row X3.out (i := 0) rfl
  have p1 : w3.cell? ⟨w.heap.size, 1, none⟩ = some (.int .i64 0) := cell_row X3.out (i := 1) rfl
  have p2 : w3.cell? ⟨w.heap.size, 2, none⟩ = some (.int .i64 0) := cell_row X3.out (i := 2) rfl
  have p3 : w3.cell? ⟨w.heap.size, 3, none⟩ = some (.bool false) := cell_row X3.out (i := 3) rfl
  go_upto_region 6 with first
    | (go_at_call 25; (with_reducible refine (head_0 pq 4 pc).mono ?_); rintro e w4 ⟨v4, rfl, h41, h42⟩; obtain ⟨g4, c4, rfl, -⟩ := SR.split h41 (by simp); have L4 := hide (L3.out.keptB h42); have B4 := hide h42; have AL := hide (addLine_c (n := 3) (r := [112, 114, 111, 103, 114, 97, 109, 32, 48, 32, 48]) L4.out h41 rfl (by simp) rfl (by decide) (by decide) (by have := h42.size; omega)); clear h41 h42)
    | (go_at_call 24; (with_reducible refine (AL.out).mono ?_); rintro e w5 ⟨rfl, h51, h52, h53⟩; have L5 := hide h51; have B5 := hide h52; clear h51 h52 h53)
  have B6 : Hid (Below w2.heap.size w3 w5) := hide ((B4.out.mono (by omega)).trans B5.out)
  have X6 := hide ((B6.out.block _ l2).trans X3.out)
  clear p0 p1 p2 p3 B4 B5 L4 AL
  have p0 : w5.cell? ⟨w.heap.size, 0, none⟩ = some (.slice pq 4 pc) := cell_row X6.out (i := 0) rfl
  go_wp2
  have LL : Hid (BL 64 w2.heap.size w5 w2.heap.size [] hd0) := L5.out
  have BA : Hid (Below w.heap.size w w5) := hide (B3.out.trans (B6.out.mono (by have := B2.out.size; omega)))
  have SL : Hid (smL.length = 4) := rfl
  clear p0 L5
  go_loopw [23] (fun i wr => ∃ j : Nat, j ≤ 4 ∧ i = .int .i64 (j : Int) ∧ BL 64 w2.heap.size wr w2.heap.size [] (hd0 ++ (smL.take j).flatMap lnI) ∧ Below w2.heap.size w5 wr) (fun i _ => 4 - (intOf i).toNat)
  case atStart => exact ⟨0, by omega, rfl, by rw [List.take_zero, List.flatMap_nil, List.append_nil]; exact LL.out, Below.refl _ _⟩
  case round =>
    obtain ⟨j, hj, rfl, hbl, hbe⟩ := hrel
    have L7 := hide hbl
    have B7 := hide hbe
    have BW : Hid (Below w.heap.size w wr) := hide (BA.out.trans (hbe.mono (by have := B2.out.size; omega)))
    have sz : w2.heap.size + 1 ≤ wr.heap.size := by have h1 := B6.out.size; have h2 := hbe.size; omega
    clear hbl hbe
    by_cases hjl : j < 4
    · have i0 : (j : Int) < 4 := by omega
      obtain ⟨i, hi⟩ : ∃ i, smL[j]? = some i := ⟨_, List.getElem?_eq_getElem (by have := SL.out; omega)⟩
      obtain ⟨g1, o1, hq1, hl1, c0, c1, c2, c3, c4, c5, c6, c7, c8, c9⟩ := (H.out.kept BW.out).li.ten hi
      simp only at hq1
      have hm := List.mem_of_getElem? hi
      have TK : Hid (hd0 ++ (smL.take (j + 1)).flatMap lnI = hd0 ++ (smL.take j).flatMap lnI ++ Lib.join (wds i) [32] ++ [10]) := hide (by rw [List.take_add_one, hi, List.flatMap_append]; simp [lnI])
      have PL := hide (pre_len j (by omega))
      obtain ⟨wd1, wd2, wd3⟩ := wds_join i hm
      have WD := hide (And.intro wd1 (And.intro wd2 wd3))
      have BX : Below wr.heap.size wr (wr.alloc (.cells #[.int .i64 i.op, .int .i64 i.x, .int .i64 i.y, .int .i64 i.n, .int .i64 i.mn, .int .i64 i.mx, .int .u64 (z1_wd i.s 0), .int .u64 (z1_wd i.s 1), .int .u64 (z1_wd i.s 2), .int .u64 (z1_wd i.s 3)] 35)) := (Below.refl _ _).alloc (Nat.le_refl _) _
      have IW := hide (words_c ((HT.out.below BW.out).below BX) hm)
      have L8 := hide (L7.out.keptB BX)
      clear wd1 wd2 wd3 hm BX
      rw [hq1]
      clear hi
      go_wp2_with first
        | (go_at_call 26; (with_reducible refine (IW.out).mono ?_); rintro e w6 ⟨v6, rfl, h61, h62⟩; obtain ⟨g6, c6', rfl, -⟩ := SR.split h61 WD.out.1; have L9 := hide (L8.out.keptB h62); have B9 : Hid (Below wr.heap.size wr w6) := hide (chain ((Below.refl _ _).alloc (Nat.le_refl _) _) h62 (Nat.le_refl _)); have AL := hide (addLine_c L9.out h61 rfl WD.out.1 rfl (by have := PL.out; have := WD.out.2.2; omega) (by have := WD.out.2.1; omega) (by have := B9.out.size; omega)); clear h61 h62)
        | (go_at_call 24; (with_reducible refine (AL.out).mono ?_); rintro e w7 ⟨rfl, h71, h72, h73⟩; have LA := hide h71; have BB := hide h72; clear h71 h72 h73)
      go_roundw
      case rel => exact ⟨j + 1, by omega, by go_num, by rw [TK.out]; exact LA.out, B7.out.trans ((B9.out.mono (by omega)).trans BB.out)⟩
      case measure => simp only [intOf]; omega
    · have i0 : ¬ (j : Int) < 4 := by omega
      have TX : Hid (BL 64 w2.heap.size wr w2.heap.size [] tx0) := hide (by have h1 := L7.out; rw [tx_end hjl hj] at h1; exact h1)
      have ST : Hid (Calls Tryz.prog 27 #[.pointer (some ⟨w2.heap.size, 0, none⟩)] wr fun e w' => e = .returned (.string (txt tx0)) ∧ Below w2.heap.size wr w' ∧ Oth w2.heap.size wr w') := string_c (pre := []) (l := tx0) TX.out
      go_wp2_with (go_at_call 27; (with_reducible refine (ST.out).mono ?_); rintro e w8 ⟨rfl, h8, -⟩; have B8 := hide h8; clear h8)
      go_ret2
      exact ⟨rfl, BW.out.trans (B8.out.mono (by have := B2.out.size; omega))⟩
end Go.Proofs.YtbfhahhcacnckaaGreatDoor
