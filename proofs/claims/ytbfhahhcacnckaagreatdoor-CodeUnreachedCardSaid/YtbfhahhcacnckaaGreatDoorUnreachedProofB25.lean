/-
  Parts of the proof.
-/
import Derived.Test.YtbfhahhcacnckaaGreatDoorUnreachedProofB24
import Derived.Test.YtbfhahhcacnckaaGreatDoorUnreachedProofB8
import Derived.Test.YtbfhahhcacnckaaGreatDoorUnreachedProofB22
import Derived.Test.YtbfhahhcacnckaaGreatDoorUnreachedProofB23
set_option linter.unusedSimpArgs false
namespace Go.Proofs.YtbfhahhcacnckaaGreatDoor
open Go Go.RowKit
attribute [local go_sem] Oper.semAt_some
theorem BL.keptB {T : TypeId} {base : Nat} {w w' : World} {b : Nat} {l : List UInt8} (h : BL T base w b [] l) (hb : Below w.heap.size w w') : BL T base w' b [] l := by
  obtain ⟨p, v, h1, h2, h3, h4, h5⟩ := h
  exact ⟨p, v, (hb.block _ (lt_of_heap h1)).trans h1, h2, ownsRow_fr h3 (Fr.of_below (S := fun _ => False) hb) (fun _ _ q => q), h4, h5⟩
set_option maxRecDepth 100000 in
set_option maxHeartbeats 2000000 in
theorem head_0 {w : World} (q : Option Addr) (n c : Nat) : Calls Tryz.prog 25 #[.agg #[.slice q n c, .int .i64 0, .int .i64 0, .bool false]] w (SRR w [[112, 114, 111, 103, 114, 97, 109], [48], [48]]) := by
  have B1 : Hid (Below w.heap.size w (w.alloc (.cells #[.slice q n c, .int .i64 0, .int .i64 0, .bool false] 24))) := (Below.refl _ _).alloc (Nat.le_refl _) _
  have IT := fun W => (show Calls Tryz.prog 45 #[.int .i64 0] W fun e w' => e = .returned (.string (txt [48])) ∧ w' = W from itoa_s 0 (by decide) [48] (by decide +kernel) W)
  go_enter Tryz.func25, Tryz.ntmps25
  go_wp2
  go_region_with (go_at_call 45; (with_reducible refine (IT _).mono ?_); rintro e w5 ⟨rfl, rfl⟩)
  all_goals go_wp2
  all_goals go_ret
  all_goals
    refine ⟨_, rfl, ⟨rfl, .inr ⟨w.heap.size + 1, 3, #[.string (txt [112, 114, 111, 103, 114, 97, 109]), .string (txt [48]), .string (txt [48])], rfl, by omega, ?_, Nat.le_refl _, by unfold maxLen; omega, rfl, rfl⟩⟩, ((((Below.refl _ _).alloc (Nat.le_refl _) _).alloc (by simp) _).drew)⟩
    have := alloc_new (w.alloc (.cells #[.slice q n c, .int .i64 0, .int .i64 0, .bool false] 24)) (.cells #[.string (txt [112, 114, 111, 103, 114, 97, 109]), .string (txt [48]), .string (txt [48])] 9)
    rw [World.size_alloc] at this
    exact this
set_option maxRecDepth 100000 in
set_option maxHeartbeats 2000000 in
theorem addLine_c {base base' : Nat} {w : World} {b g c n : Nat} {l r : List UInt8} {xs : List (List UInt8)} (h : BL 64 base w b [] l) (hv : SR base' w (.slice (some ⟨g, 0, none⟩) n c) xs) (hn : xs.length = n) (hx : xs ≠ []) (hr : Lib.join xs [32] = r) (hl : l.length + r.length ≤ 100000) (hn2 : n ≤ 100000) (hb : base ≤ w.heap.size) :
    Calls Tryz.prog 24 #[.pointer (some ⟨b, 0, none⟩), .slice (some ⟨g, 0, none⟩) n c] w fun e w' => e = .returned (.tuple #[]) ∧ BL 64 base w' b [] (l ++ r ++ [10]) ∧ Below base w w' ∧ Oth b w w' := by
  have HJ := hide (join_sr (sb := ⟨#[32]⟩) [32] r hv hn rfl hx hr (by omega) hn2)
  have H := hide h
  clear h hv
  go_enter Tryz.func24, Tryz.ntmps24
  go_wp2_with first
    | (go_at_call 43; (with_reducible refine (HJ.out).mono ?_); rintro e w1 ⟨rfl, h1⟩; have B1 := hide h1; have HS : Hid (Calls Tryz.prog 42 #[.pointer (some ⟨b, 0, none⟩), .string (txt r)] w1 fun e w' => e = .returned (.tuple #[.int .i64 (r.length : Int), .nilIface]) ∧ WPost 64 base w1 b [] (l ++ r) w') := writeString_c bt0 (H.out.keptB h1) r (by omega) (by have := h1.size; omega); clear h1)
    | (go_at_call 42; (with_reducible refine (HS.out).mono ?_); rintro e w2 ⟨rfl, h21, h22, h23⟩; have L2 := hide h21; have B2 := hide h22; have O2 := hide h23; have HB : Hid (Calls Tryz.prog 44 #[.pointer (some ⟨b, 0, none⟩), .int .u8 10] w2 fun e w' => e = .returned .nilIface ∧ WPost 64 base w2 b [] (l ++ r ++ [10]) w') := writeByte_c bt0 h21 10 (by simp; omega) (by have := h22.size; have := B1.out.size; omega); clear h21 h22 h23)
    | (go_at_call 44; (with_reducible refine (HB.out).mono ?_); rintro e w3 ⟨rfl, h21, h22, h23⟩; have L3 := hide h21; have B3 := hide h22; have O3 := hide h23; clear h21 h22 h23)
  go_end0
  refine ⟨rfl, L3.out, ((B1.out.mono hb).trans B2.out).trans B3.out, ?_⟩
  refine Lib.OthersKept.trans (Lib.OthersKept.trans ?_ O2.out) O3.out
  intro k o hk _ _
  exact (B1.out.block _ (lt_of_heap hk)).trans hk
def smL : List Ins := [⟨2, 1, 3, 0, 0, 0, 0#256⟩, ⟨1, 0, 0, 0, 0, 0, aS⟩, ⟨3, 0, 0, 0, 0, 0, 0#256⟩, ⟨11, 0, 0, 0, 0, 0, 0#256⟩]
theorem rt_small (q : Option Addr) (c : Nat) : rtE ⟨q, smL, c, 0, 0, false⟩ = (0, 0) := by kernel_rfl
def wds (i : Ins) : List (List UInt8) := if i.op = 11 then [[109, 97, 116, 99, 104]] else if i.op = 3 then [[106, 117, 109, 112], [48]] else if i.op = 2 then [[115, 112, 108, 105, 116], [49], [51]] else [[98, 121, 116, 101], [54, 49]]
theorem words_c {w : World} (hT : z1_Tab w) {i : Ins} (hi : i ∈ smL) : Calls Tryz.prog 26 #[.agg #[.int .i64 i.op, .int .i64 i.x, .int .i64 i.y, .int .i64 i.n, .int .i64 i.mn, .int .i64 i.mx, .int .u64 (z1_wd i.s 0), .int .u64 (z1_wd i.s 1), .int .u64 (z1_wd i.s 2), .int .u64 (z1_wd i.s 3)]] w (SRR w (wds i)) := by
  simp only [smL, List.mem_cons, List.not_mem_nil, or_false] at hi
  rcases hi with h | h | h | h
  · have e : wds i = [[115, 112, 108, 105, 116], [49], [51]] := by rw [h]; rfl
    rw [e]
    exact words_2 hT i h
  · have e : wds i = [[98, 121, 116, 101], [54, 49]] := by rw [h]; rfl
    rw [e]
    exact words_1 hT i h
  · have e : wds i = [[106, 117, 109, 112], [48]] := by rw [h]; rfl
    rw [e]
    exact words_3 hT i h
  · have e : wds i = [[109, 97, 116, 99, 104]] := by rw [h]; rfl
    rw [e]
    exact words_11 hT i h
def lnI (i : Ins) : List UInt8 := Lib.join (wds i) [32] ++ [10]
def hd0 : List UInt8 := [112, 114, 111, 103, 114, 97, 109, 32, 48, 32, 48, 10]
def tx0 : List UInt8 := [112, 114, 111, 103, 114, 97, 109, 32, 48, 32, 48, 10, 115, 112, 108, 105, 116, 32, 49, 32, 51, 10, 98, 121, 116, 101, 32, 54, 49, 10, 106, 117, 109, 112, 32, 48, 10, 109, 97, 116, 99, 104, 10]
theorem tx0_is : hd0 ++ smL.flatMap lnI = tx0 := by kernel_rfl
end Go.Proofs.YtbfhahhcacnckaaGreatDoor
namespace Go.Proofs.YtbfhahhcacnckaaGreatDoor
open Go Go.RowKit
attribute [local go_sem] Oper.semAt_some
theorem pre_len : ∀ j, j ≤ 4 → (hd0 ++ (smL.take j).flatMap lnI).length ≤ 100 := by decide +kernel
theorem wds_join : ∀ i ∈ smL, wds i ≠ [] ∧ (wds i).length ≤ 100 ∧ (Lib.join (wds i) [32]).length ≤ 100 := by decide +kernel
theorem tx4 : hd0 ++ (smL.take 4).flatMap lnI = tx0 := by kernel_rfl
theorem tx_end {j : Nat} (h : ¬ j < 4) (hj : j ≤ 4) : hd0 ++ (smL.take j).flatMap lnI = tx0 := by
  have e : j = 4 := by omega
  rw [e]
  exact tx4
set_option maxRecDepth 100000 in
set_option maxHeartbeats 4000000 in
theorem text_small {w : World} {p : Pg} (h : PgI w p) (hT : z1_Tab w) (hL : p.L = smL) (hg : p.g = 0) (hk : p.k = 0) (hf : p.f = false) :
    Calls Tryz.prog 15 #[.agg #[.slice p.q p.L.length p.c, .int .i64 p.g, .int .i64 p.k, .bool p.f]] w fun e w' => e = .returned (.tuple #[.string (txt tx0), .int .i64 0]) ∧ Below w.heap.size w w' := by
  obtain ⟨pq, pL, pc, pg, pk, pf⟩ := p
  simp only at hL hg hk hf
  subst hL hg hk hf
  show Calls Tryz.prog 15 #[.agg #[.slice pq 4 pc, .int .i64 0, .int .i64 0, .bool false]] w _
  have B1 : Hid (Below w.heap.size w (w.alloc (.cells #[.slice pq 4 pc, .int .i64 0, .int .i64 0, .bool false] 24))) := (Below.refl _ _).alloc (Nat.le_refl _) _
  have X1 : Hid ((w.alloc (.cells #[.slice pq 4 pc, .int .i64 0, .int .i64 0, .bool false] 24)).heap[w.heap.size]? = some (.cells #[.slice pq 4 pc, .int .i64 0, .int .i64 0, .bool false] 24 (0, 0))) := alloc_new w _
  have HC : Hid (Calls Tryz.prog 14 #[.agg #[.slice pq 4 pc, .int .i64 0, .int .i64 0, .bool false]] (w.alloc (.cells #[.slice pq 4 pc, .int .i64 0, .int .i64 0, .bool false] 24)) (RtP ⟨pq, smL, pc, 0, 0, false⟩ (w.alloc (.cells #[.slice pq 4 pc, .int .i64 0, .int .i64 0, .bool false] 24)))) := right_c (h.kept B1.out)
  have H := hide h
  have HT := hide hT
  unfold RtP at HC
  rw [rt_small] at HC
  clear h hT
  go_enter Tryz.func15, Tryz.ntmps15
  go_upto_region 1 with fail
  generalize (w.alloc (.cells #[.slice pq 4 pc, .int .i64 0, .int .i64 0, .bool false] 24)) = w1 at B1 X1 HC ⊢
  have l1 := lt_of_heap X1.out
  have p0 : w1.cell? ⟨w.heap.size, 0, none⟩ = some (.slice pq 4 pc) := cell_row X1.out (i := 0) rfl
  have p1 : w1.cell? ⟨w.heap.size, 1, none⟩ = some (.int .i64 0) := cell_row X1.out (i := 1) rfl
  have p2 : w1.cell? ⟨w.heap.size, 2, none⟩ = some (.int .i64 0) := cell_row X1.out (i := 2) rfl
  have p3 : w1.cell? ⟨w.heap.size, 3, none⟩ = some (.bool false) := cell_row X1.out (i := 3) rfl
  go_upto_region 5 with (go_at_call 14; (with_reducible refine (HC.out).mono ?_); rintro e w2 ⟨rfl, h2⟩; have B2 := hide (chain B1.out h2 (Nat.le_refl _)); have X2 := hide ((h2.block _ l1).trans X1.out); clear h2)
  clear p0 p1 p2 p3
  have l2 := lt_of_heap X2.out
  have L3 : Hid (BL 64 w2.heap.size (w2.alloc (.cells #[.pointer none, .slice none 0 0] 64)) w2.heap.size [] []) := ⟨_, _, alloc_new w2 _, .inl rfl, World.ownsRow_nil _ _ _ _, fun _ => rfl, Nat.le_refl _⟩
  have B3 : Hid (Below w.heap.size w (w2.alloc (.cells #[.pointer none, .slice none 0 0] 64))) := chain B2.out ((Below.refl _ _).alloc (Nat.le_refl _) _) (Nat.le_refl _)
  have X3 : Hid ((w2.alloc (.cells #[.pointer none, .slice none 0 0] 64)).heap[w.heap.size]? = some (.cells #[.slice pq 4 pc, .int .i64 0, .int .i64 0, .bool false] 24 (0, 0))) := (Below.heap_alloc _ _ _ l2).trans X2.out
  have s3 : (w2.alloc (.cells #[.pointer none, .slice none 0 0] 64)).heap.size = w2.heap.size + 1 := by simp
  generalize (w2.alloc (.cells #[.pointer none, .slice none 0 0] 64)) = w3 at B3 X3 L3 s3 ⊢
  have p0 : w3.cell? ⟨w.heap.size, 0, none⟩ = some (.slice pq 4 pc) := cell_row X3.out (i := 0) rfl
  have p1 : w3.cell? ⟨w.heap.size, 1, none⟩ = some (.int .i64 0) := cell_row X3.out (i := 1) rfl
  have p2 : w3.cell? ⟨w.heap.size, 2, none⟩ = some (.int .i64 0) := cell_row X3.out (i := 2) rfl
  have p3 : w3.cell? ⟨w.heap.size, 3, none⟩ = some (.bool false) := cell_row X3.out (i := 3) rfl
  go_upto_region 6 with first
    | (go_at_call 25; (with_reducible refine (head_0 pq 4 pc).mono ?_); rintro e w4 ⟨v4, rfl, h41, h42⟩; obtain ⟨g4, c4, rfl, -⟩ := SR.split h41 (by simp); have L4 := hide (L3.out.keptB h42); have B4 := hide h42; have AL := hide (addLine_c (n := 3) (r := [112, 114, 111, 103, 114, 97, 109, 32, 48, 32, 48]) L4.out h41 rfl (by simp) rfl (by decide) (by decide) (by have := h42.size; omega)); clear h41 h42)
    | (go_at_call 24; (with_reducible refine (AL.out).mono ?_); rintro e w5 ⟨rfl, h51, h52, h53⟩; have L5 := hide h51; have B5 := hide h52; clear h51 h52 h53)
  have B6 : Hid (Below w2.heap.size w3 w5) := hide ((B4.out.mono (by omega)).trans B5.out)
  have X6 := hide ((B6.out.block _ l2).trans X3.out)
  clear p0 p1 p2 p3 B4 B5 L4 AL
  have p0 : w5.cell? ⟨w.heap.size, 0, none⟩ = some (.slice pq 4 pc) := cell_row X6.out (i := 0) rfl
  go_wp2
  have LL : Hid (BL 64 w2.heap.size w5 w2.heap.size [] hd0) := L5.out
  have BA : Hid (Below w.heap.size w w5) := hide (B3.out.trans (B6.out.mono (by have := B2.out.size; omega)))
  have SL : Hid (smL.length = 4) := rfl
  clear p0 L5
  go_loopw [23] (fun i wr => ∃ j : Nat, j ≤ 4 ∧ i = .int .i64 (j : Int) ∧ BL 64 w2.heap.size wr w2.heap.size [] (hd0 ++ (smL.take j).flatMap lnI) ∧ Below w2.heap.size w5 wr) (fun i _ => 4 - (intOf i).toNat)
  case atStart => exact ⟨0, by omega, rfl, by rw [List.take_zero, List.flatMap_nil, List.append_nil]; exact LL.out, Below.refl _ _⟩
  case round =>
    obtain ⟨j, hj, rfl, hbl, hbe⟩ := hrel
    have L7 := hide hbl
    have B7 := hide hbe
    have BW : Hid (Below w.heap.size w wr) := hide (BA.out.trans (hbe.mono (by have := B2.out.size; omega)))
    have sz : w2.heap.size + 1 ≤ wr.heap.size := by have h1 := B6.out.size; have h2 := hbe.size; omega
    clear hbl hbe
    by_cases hjl : j < 4
    · have i0 : (j : Int) < 4 := by omega
      obtain ⟨i, hi⟩ : ∃ i, smL[j]? = some i := ⟨_, List.getElem?_eq_getElem (by have := SL.out; omega)⟩
      obtain ⟨g1, o1, hq1, hl1, c0, c1, c2, c3, c4, c5, c6, c7, c8, c9⟩ := (H.out.kept BW.out).li.ten hi
      simp only at hq1
      have hm := List.mem_of_getElem? hi
      have TK : Hid (hd0 ++ (smL.take (j + 1)).flatMap lnI = hd0 ++ (smL.take j).flatMap lnI ++ Lib.join (wds i) [32] ++ [10]) := hide (by rw [List.take_add_one, hi, List.flatMap_append]; simp [lnI])
      have PL := hide (pre_len j (by omega))
      obtain ⟨wd1, wd2, wd3⟩ := wds_join i hm
      have WD := hide (And.intro wd1 (And.intro wd2 wd3))
      have BX : Below wr.heap.size wr (wr.alloc (.cells #[.int .i64 i.op, .int .i64 i.x, .int .i64 i.y, .int .i64 i.n, .int .i64 i.mn, .int .i64 i.mx, .int .u64 (z1_wd i.s 0), .int .u64 (z1_wd i.s 1), .int .u64 (z1_wd i.s 2), .int .u64 (z1_wd i.s 3)] 35)) := (Below.refl _ _).alloc (Nat.le_refl _) _
      have IW := hide (words_c ((HT.out.below BW.out).below BX) hm)
      have L8 := hide (L7.out.keptB BX)
      clear wd1 wd2 wd3 hm BX
      rw [hq1]
      clear hi
      go_wp2_with first
        | (go_at_call 26; (with_reducible refine (IW.out).mono ?_); rintro e w6 ⟨v6, rfl, h61, h62⟩; obtain ⟨g6, c6', rfl, -⟩ := SR.split h61 WD.out.1; have L9 := hide (L8.out.keptB h62); have B9 : Hid (Below wr.heap.size wr w6) := hide (chain ((Below.refl _ _).alloc (Nat.le_refl _) _) h62 (Nat.le_refl _)); have AL := hide (addLine_c L9.out h61 rfl WD.out.1 rfl (by have := PL.out; have := WD.out.2.2; omega) (by have := WD.out.2.1; omega) (by have := B9.out.size; omega)); clear h61 h62)
        | (go_at_call 24; (with_reducible refine (AL.out).mono ?_); rintro e w7 ⟨rfl, h71, h72, h73⟩; have LA := hide h71; have BB := hide h72; clear h71 h72 h73)
      go_roundw
      case rel => exact ⟨j + 1, by omega, by go_num, by rw [TK.out]; exact LA.out, B7.out.trans ((B9.out.mono (by omega)).trans BB.out)⟩
      case measure => simp only [intOf]; omega
    · have i0 : ¬ (j : Int) < 4 := by omega
      have TX : Hid (BL 64 w2.heap.size wr w2.heap.size [] tx0) := hide (by have h1 := L7.out; rw [tx_end hjl hj] at h1; exact h1)
      have ST : Hid (Calls Tryz.prog 27 #[.pointer (some ⟨w2.heap.size, 0, none⟩)] wr fun e w' => e = .returned (.string (txt tx0)) ∧ Below w2.heap.size wr w' ∧ Oth w2.heap.size wr w') := string_c (pre := []) (l := tx0) TX.out
      go_wp2_with (go_at_call 27; (with_reducible refine (ST.out).mono ?_); rintro e w8 ⟨rfl, h8, -⟩; have B8 := hide h8; clear h8)
      go_ret2
      exact ⟨rfl, BW.out.trans (B8.out.mono (by have := B2.out.size; omega))⟩
end Go.Proofs.YtbfhahhcacnckaaGreatDoor
namespace Go.Proofs.YtbfhahhcacnckaaGreatDoor
open Go Go.RowKit
attribute [local go_sem] Oper.semAt_some
def tsL (k : Nat) : List UInt8 := (smL.drop k).flatMap lnI
theorem tsL_c0 : cutL 10 (tsL 0) = (Lib.join (wds ⟨2, 1, 3, 0, 0, 0, 0#256⟩) [32], tsL 1, true) := by kernel_rfl
theorem tsL_c1 : cutL 10 (tsL 1) = (Lib.join (wds ⟨1, 0, 0, 0, 0, 0, aS⟩) [32], tsL 2, true) := by kernel_rfl
theorem tsL_c2 : cutL 10 (tsL 2) = (Lib.join (wds ⟨3, 0, 0, 0, 0, 0, 0#256⟩) [32], tsL 3, true) := by kernel_rfl
theorem tsL_c3 : cutL 10 (tsL 3) = (Lib.join (wds ⟨11, 0, 0, 0, 0, 0, 0#256⟩) [32], tsL 4, true) := by kernel_rfl
theorem tsL_cut {k : Nat} (hk : k < 4) {i : Ins} (hi : smL[k]? = some i) : cutL 10 (tsL k) = (Lib.join (wds i) [32], tsL (k + 1), true) := by
  obtain rfl | rfl | rfl | rfl : k = 0 ∨ k = 1 ∨ k = 2 ∨ k = 3 := by omega
  · obtain rfl := Option.some.inj hi; exact tsL_c0
  · obtain rfl := Option.some.inj hi; exact tsL_c1
  · obtain rfl := Option.some.inj hi; exact tsL_c2
  · obtain rfl := Option.some.inj hi; exact tsL_c3
theorem tsL_len : ∀ k, k < 5 → (tsL k).length ≤ 1000 := by decide +kernel
theorem tsL_ne : ∀ k, k < 4 → tsL k ≠ [] := by decide +kernel
theorem inst_all {w : World} {b : Nat} {a : Int} {i : Ins} (hT : z1_Tab w) (h : LB w b (Lib.join (wds i) [32]) true a) (h2 : 2 < b) (hi : i ∈ smL) : Calls Tryz.prog 55 #[.pointer (some ⟨b, 0, none⟩)] w (InP w b a i) := by
  simp only [smL, List.mem_cons, List.not_mem_nil, or_false] at hi
  rcases hi with rfl | rfl | rfl | rfl
  · exact inst_2 hT ((show Lib.join (wds ⟨2, 1, 3, 0, 0, 0, 0#256⟩) [32] = [115, 112, 108, 105, 116, 32, 49, 32, 51] by kernel_rfl) ▸ h) h2
  · exact inst_1 hT ((show Lib.join (wds ⟨1, 0, 0, 0, 0, 0, aS⟩) [32] = [98, 121, 116, 101, 32, 54, 49] by kernel_rfl) ▸ h) h2
  · exact inst_3 hT ((show Lib.join (wds ⟨3, 0, 0, 0, 0, 0, 0#256⟩) [32] = [106, 117, 109, 112, 32, 48] by kernel_rfl) ▸ h) h2
  · exact inst_11 hT ((show Lib.join (wds ⟨11, 0, 0, 0, 0, 0, 0#256⟩) [32] = [109, 97, 116, 99, 104] by kernel_rfl) ▸ h) h2
def ceI14 (L : List Ins) : List Value := L.flatMap inC
theorem ceI14_len (L : List Ins) : (ceI14 L).length = L.length * 10 := by
  induction L with
  | nil => rfl
  | cons x L ih => simp only [ceI14, List.flatMap_cons, List.length_append, List.length_cons] at ih ⊢; rw [ih, inC_len]; omega
theorem ceI14_app (L M : List Ins) : ceI14 (L ++ M) = ceI14 L ++ ceI14 M := by simp [ceI14]
theorem ceI14_at {L : List Ins} {j : Nat} {i : Ins} (h : L[j]? = some i) (m : Nat) (v : Value) (hm : (inC i)[m]? = some v) : (ceI14 L)[j * 10 + m]? = some v := by
  induction L generalizing j with
  | nil => cases h
  | cons x L ih =>
    have hm10 : m < 10 := by have := (List.getElem?_eq_some_iff.1 hm).1; rwa [inC_len] at this
    cases j with
    | zero =>
      cases h
      show (inC i ++ ceI14 L)[0 * 10 + m]? = some v
      rw [List.getElem?_append_left (by rw [inC_len]; omega), Nat.zero_mul, Nat.zero_add]
      exact hm
    | succ j =>
      show (inC x ++ ceI14 L)[(j + 1) * 10 + m]? = some v
      rw [List.getElem?_append_right (by rw [inC_len]; omega), inC_len, show (j + 1) * 10 + m - 10 = j * 10 + m by omega]
      exact ih h
theorem LI.of_row {w : World} {base c n : Nat} {q : Option Addr} {L : List Ins} (h : w.ownsRow base 35 10 (.slice q n c) n (ceI14 L)) : LI w q L := fun j i hi => by
  rcases h.2 with ⟨e, hn⟩ | ⟨g, cap, cur, e, h1, h2, h3, h4, h5, h6⟩
  · have := h.1
    rw [ceI14_len, hn] at this
    have := (List.getElem?_eq_some_iff.1 hi).1
    omega
  · cases e
    refine ⟨g, 0, rfl, lt_of_heap h2, fun m v hm => ?_⟩
    have h8 := h.cells (g := g) rfl (j * 10 + m) v (ceI14_at hi m v hm)
    rw [Nat.zero_add]
    have e2 : (⟨g, 0, none⟩ : Addr).add (j * 10 + m) = ⟨g, j * 10 + m, none⟩ := by
      unfold Addr.add
      split
      · next hz => simp_all
      · simp
    rw [e2] at h8
    exact h8
end Go.Proofs.YtbfhahhcacnckaaGreatDoor
