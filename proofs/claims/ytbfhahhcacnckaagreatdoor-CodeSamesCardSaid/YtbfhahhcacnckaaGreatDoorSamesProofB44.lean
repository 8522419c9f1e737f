/-
  Parts of the proof.
-/
import Derived.Test.YtbfhahhcacnckaaGreatDoorSamesProofB30
import Derived.Test.YtbfhahhcacnckaaGreatDoorSamesProofB43
set_option linter.unusedSimpArgs false
namespace Go.Proofs.YtbfhahhcacnckaaGreatDoor
open Go Go.RowKit
attribute [local go_sem] Oper.semAt_some
def ldI (i : Ins) (a : Int) : List Int := (if hsT (shT i.op) 64 then [a + 1] else []) ++ ((if hsT (shT i.op) 2 then [i.x] else []) ++ (if hsT (shT i.op) 4 then [i.y] else []))
def puts (n : Nat) (L xs : List Int) : List Int := xs.foldl (putL n) L
def rcL (p : Pg) : Nat → Nat → List Int → List Int
  | 0, _, L => L
  | f + 1, k, L => match L[k]? with
    | none => L
    | some a => match p.L[a.toNat]? with
      | none => L
      | some i => rcL p f (k + 1) (puts p.L.length L (ldI i a))
def rcM (p : Pg) : List Int := rcL p (p.L.length + 1) 0 [0]
theorem puts_nil (n : Nat) (L : List Int) : puts n L [] = L := rfl
theorem puts_one (n : Nat) (L : List Int) (x : Int) (r : List Int) : puts n L (x :: r) = puts n (putL n L x) r := rfl
def RcP (p : Pg) (w : World) (e : Ending) (w' : World) : Prop := Below w.heap.size w w' ∧ ∃ g, e = .returned (.tuple #[.slice (some ⟨g, 0, none⟩) (rcM p).length (rcM p).length, .int .i64 0]) ∧ RowG w' g (rcM p).length (sortI (rcM p)) ∧ w.heap.size ≤ g
def RcQ (p : Pg) (w : World) (e : Ending) (w' : World) : Prop := Below w.heap.size w w' ∧ e = .returned (.tuple #[.slice none 0 0, .int .i64 (rtE p).1])
theorem rt_len {p : Pg} (h : (rtE p).1 = 0) : p.L.length ≤ 40000 ∧ p.L ≠ [] := by
  unfold rtE at h
  split at h
  · exact absurd h (by decide)
  split at h
  · exact absurd h (by decide)
  split at h
  · exact absurd h (by decide)
  · rename_i h1 _ h2
    exact ⟨by omega, fun e => h2 (by rw [e]; rfl)⟩
theorem putL_len (n : Nat) (L : List Int) (x : Int) : L.length ≤ (putL n L x).length := by
  unfold putL
  split
  · simp
  · exact Nat.le_refl _
theorem puts_len (n : Nat) : ∀ (xs L : List Int), L.length ≤ (puts n L xs).length
  | [], _ => Nat.le_refl _
  | x :: r, L => Nat.le_trans (putL_len n L x) (puts_len n r (putL n L x))
theorem rcL_step {p : Pg} {k : Nat} {L : List Int} {a : Int} {i : Ins} (hk : k < p.L.length + 1) (ha : L[k]? = some a) (hi : p.L[a.toNat]? = some i) : rcL p (p.L.length + 1 - k) k L = rcL p (p.L.length + 1 - (k + 1)) (k + 1) (puts p.L.length L (ldI i a)) := by
  rw [show p.L.length + 1 - k = (p.L.length + 1 - (k + 1)) + 1 by omega, rcL, ha]
  simp only [hi]
theorem rcL_end {p : Pg} {k : Nat} {L : List Int} (hk : k < p.L.length + 1) (ha : L.length ≤ k) : rcL p (p.L.length + 1 - k) k L = L := by
  rw [show p.L.length + 1 - k = (p.L.length + 1 - (k + 1)) + 1 by omega, rcL, List.getElem?_eq_none ha]
set_option maxRecDepth 100000 in
set_option maxHeartbeats 8000000 in
theorem reach_bad {w : World} {p : Pg} (h : PgI w p) (hz : (rtE p).1 ≠ 0) : Calls Tryz.prog 16 #[.agg #[.slice p.q p.L.length p.c, .int .i64 p.g, .int .i64 p.k, .bool p.f]] w (RcQ p w) := by
  have B1 : Hid (Below w.heap.size w (w.alloc (.cells #[.slice p.q p.L.length p.c, .int .i64 p.g, .int .i64 p.k, .bool p.f] 24))) := (Below.refl _ _).alloc (Nat.le_refl _) _
  have n1 := alloc_new w (.cells #[.slice p.q p.L.length p.c, .int .i64 p.g, .int .i64 p.k, .bool p.f] 24)
  have X1 : Hid ((w.alloc (.cells #[.slice p.q p.L.length p.c, .int .i64 p.g, .int .i64 p.k, .bool p.f] 24)).heap[w.heap.size]? = some (.cells #[.slice p.q p.L.length p.c, .int .i64 p.g, .int .i64 p.k, .bool p.f] 24 (0, 0))) := n1
  have HC := hide (right_c (h.kept B1.out))
  have H := hide h
  unfold RtP at HC
  obtain ⟨⟨re, rk⟩, hr⟩ : ∃ r, rtE p = r := ⟨_, rfl⟩
  rw [hr] at HC hz
  have HR := hide hr
  clear n1 h hr
  simp only at hz HC
  have z0 : (re != 0) = true := by simp [hz]
  go_enter Tryz.func16, Tryz.ntmps16
  go_upto_region 1 with fail
  generalize (w.alloc (.cells #[.slice p.q p.L.length p.c, .int .i64 p.g, .int .i64 p.k, .bool p.f] 24)) = w1 at B1 X1 HC ⊢
  have p0 := cell_row X1.out (i := 0) rfl
  have p1 := cell_row X1.out (i := 1) rfl
  have p2 := cell_row X1.out (i := 2) rfl
  have p3 := cell_row X1.out (i := 3) rfl
  have l1 := lt_of_heap X1.out
  go_wp2_with (go_at_call 14; (with_reducible refine (HC.out).mono ?_); rintro e w2 ⟨rfl, h2⟩; have B2 := hide (chain B1.out h2 (Nat.le_refl _)); clear h2)
  go_ret2
  exact ⟨B2.out, by rw [HR.out]; rfl⟩
set_option maxRecDepth 100000 in
set_option maxHeartbeats 8000000 in
theorem reach_ok {w : World} {p : Pg} (h : PgI w p) (hz : (rtE p).1 = 0) : Calls Tryz.prog 16 #[.agg #[.slice p.q p.L.length p.c, .int .i64 p.g, .int .i64 p.k, .bool p.f]] w (RcP p w) := by
  have B1 : Hid (Below w.heap.size w (w.alloc (.cells #[.slice p.q p.L.length p.c, .int .i64 p.g, .int .i64 p.k, .bool p.f] 24))) := (Below.refl _ _).alloc (Nat.le_refl _) _
  have n1 := alloc_new w (.cells #[.slice p.q p.L.length p.c, .int .i64 p.g, .int .i64 p.k, .bool p.f] 24)
  have X1 : Hid ((w.alloc (.cells #[.slice p.q p.L.length p.c, .int .i64 p.g, .int .i64 p.k, .bool p.f] 24)).heap[w.heap.size]? = some (.cells #[.slice p.q p.L.length p.c, .int .i64 p.g, .int .i64 p.k, .bool p.f] 24 (0, 0))) := n1
  have HC := hide (right_c (h.kept B1.out))
  have H := hide h
  unfold RtP at HC
  obtain ⟨⟨re, rk⟩, hr⟩ : ∃ r, rtE p = r := ⟨_, rfl⟩
  rw [hr] at HC hz
  have HR := hide hr
  clear n1 h hr
  simp only at hz HC
  subst hz
  obtain ⟨hlen, hne⟩ := rt_len (p := p) (by rw [HR.out])
  have HN := hide hne
  clear hne
  go_enter Tryz.func16, Tryz.ntmps16
  go_upto_region 1 with fail
  generalize (w.alloc (.cells #[.slice p.q p.L.length p.c, .int .i64 p.g, .int .i64 p.k, .bool p.f] 24)) = w1 at B1 X1 HC ⊢
  have p0 := cell_row X1.out (i := 0) rfl
  have p1 := cell_row X1.out (i := 1) rfl
  have p2 := cell_row X1.out (i := 2) rfl
  have p3 := cell_row X1.out (i := 3) rfl
  have l1 := lt_of_heap X1.out
  go_wp2_with first
    | (go_at_call 14; (with_reducible refine (HC.out).mono ?_); rintro e w2 ⟨rfl, h2⟩; have B2 := hide (chain B1.out h2 (Nat.le_refl _)); have X2 := hide ((h2.block _ l1).trans X1.out); have y0 : w2.cell? ⟨w.heap.size, 0, none⟩ = some (.slice p.q p.L.length p.c) := cell_row X2.out (i := 0) rfl; clear h2 p0 p1 p2 p3)
    | (go_at_call 28; (with_reducible refine (new_any _ (by omega) (by omega) _).mono ?_); rintro e w3 ⟨mb, mo, mp, rfl, h31, h32, h33⟩; have M3 := hide h31; have N3 := hide h32; have B3 := hide (chain B2.out h33 (Nat.le_refl _)); have X3 := hide ((h33.block _ (lt_of_heap X2.out)).trans X2.out); clear h31 h32 h33 y0)
    | (go_at_call 29; (with_reducible refine (put_c M3.out _).mono ?_); rintro e w4 ⟨rfl, h41, h42⟩; have M4 := hide h41; have F4 := hide h42; clear h41 h42)
  have M5 : Hid (MAt w4 mb mo mp p.L.length [0]) := by
    have h1 := M4.out
    rw [Int.toNat_natCast] at h1
    have h2 : putL p.L.length [] 0 = [0] := if_pos ⟨by omega, by have := List.length_pos_iff.2 HN.out; omega, by simp⟩
    rw [h2] at h1
    exact h1
  have own : Hid (∀ k, own3 mb mo mp k → w2.heap.size ≤ k) := N3.out.own
  clear M4 M3
  go_loopw [8] (fun i wr => ∃ (k : Nat) (L : List Int), i = .int .i64 (k : Int) ∧ k ≤ L.length ∧ MAt wr mb mo mp p.L.length L ∧ rcM p = rcL p (p.L.length + 1 - k) k L ∧ Fr (own3 mb mo mp) w3 wr) (fun i _ => p.L.length + 1 - (intOf i).toNat)
  case atStart => exact ⟨0, [0], rfl, Nat.zero_le _, M5.out, rfl, F4.out⟩
  case round =>
    obtain ⟨k, L, rfl, hk, hM, hP, hF⟩ := hrel
    have M0 := hide hM
    have HP := hide hP
    have F0 := hide hF
    have hrl := hM.len
    have hsz := hF.size
    have LN := hide (len_c hM)
    have BW : Hid (Below w.heap.size w wr) := hide (B3.out.trans (hF.below B3.out.size (fun z hz => Nat.le_trans B2.out.size (own.out z hz))))
    have l3 : Hid (w.heap.size < w2.heap.size) := lt_of_heap X2.out
    have XW : Hid (wr.heap[w.heap.size]? = some (.cells #[.slice p.q p.L.length p.c, .int .i64 p.g, .int .i64 p.k, .bool p.f] 24 (0, 0))) := hide ((hF.block _ (lt_of_heap X3.out) (fun q => by have := own.out _ q; have := l3.out; omega)).trans X3.out)
    clear hM hP hF
    by_cases hkl : k < L.length
    · have i0 : (k : Int) < (L.length : Int) := by omega
      obtain ⟨a, ha⟩ : ∃ a, L[k]? = some a := ⟨_, List.getElem?_eq_getElem hkl⟩
      obtain ⟨ha0, ha1⟩ := M0.out.inr (List.mem_of_getElem? ha)
      obtain ⟨a, rfl⟩ : ∃ a' : Nat, a = (a' : Int) := ⟨a.toNat, by omega⟩
      have hal : a < p.L.length := by omega
      have AT : Hid (Calls Tryz.prog 31 #[.pointer (some ⟨mb, 0, none⟩), .int .i64 (k : Int)] wr fun e w' => e = .returned (.tuple #[.int .i64 (a : Int), .bool true]) ∧ w' = wr) := by
        have := at_c M0.out (k : Int)
        rw [show atV L (k : Int) = (a : Int) by unfold atV; rw [if_pos ⟨by omega, by omega⟩, Int.toNat_natCast, ha]; rfl, show atB L (k : Int) = true from decide_eq_true ⟨by omega, by omega⟩] at this
        exact this
      obtain ⟨i, hi⟩ : ∃ i, p.L[a]? = some i := ⟨_, List.getElem?_eq_getElem hal⟩
      obtain ⟨g1, o1, hq1, hl1, c0, c1, c2, c3, c4, c5, c6, c7, c8, c9⟩ := (H.out.kept BW.out).li.ten hi
      have ST := hide (rcL_step (p := p) (by omega) ha (i := i) (by rw [Int.toNat_natCast]; exact hi))
      have PL := hide (puts_len p.L.length (ldI i (a : Int)) L)
      have y0 : wr.cell? ⟨w.heap.size, 0, none⟩ = some (.slice p.q p.L.length p.c) := cell_row XW.out (i := 0) rfl
      have ly := lt_of_heap XW.out
      rw [hq1] at y0
      have SH := shape_c i.op
      unfold ldI at ST PL
      obtain ⟨t, ht⟩ : ∃ t, shT i.op = t := ⟨_, rfl⟩
      rw [ht] at SH ST PL
      have H64 := has_t t 64
      have H2 := has_t t 2
      have H4 := has_t t 4
      obtain ⟨b64, hb64⟩ : ∃ b, hsT t 64 = b := ⟨_, rfl⟩
      obtain ⟨b2, hb2⟩ : ∃ b, hsT t 2 = b := ⟨_, rfl⟩
      obtain ⟨b4, hb4⟩ : ∃ b, hsT t 4 = b := ⟨_, rfl⟩
      rw [hb64] at H64 ST PL
      rw [hb2] at H2 ST PL
      rw [hb4] at H4 ST PL
      have hw1 : IntKind.wrap .i64 ((a : Int) + 1) = (a : Int) + 1 := wrap_small _ (by omega) (by omega)
      have ob := hide M0.out.ltb
      have oo := hide M0.out.lto
      have op := hide M0.out.ltp
      clear ht hb64 hb2 hb4 ha hi hq1
      go_wp2_with first
        | (go_at_call 30; (with_reducible refine (LN.out).mono ?_); rintro e w5 ⟨rfl, rfl⟩)
        | (go_at_call 31; (with_reducible refine (AT.out).mono ?_); rintro e w5 ⟨rfl, rfl⟩)
        | (go_at_call 32; (with_reducible refine (SH _).mono ?_); rintro e w5 ⟨rfl, rfl⟩)
        | fail
      have hbA : Below w5.heap.size w5 (w5.alloc (.cells #[.int .i64 i.op, .int .i64 i.x, .int .i64 i.y, .int .i64 i.n, .int .i64 i.mn, .int .i64 i.mx, .int .u64 (z1_wd i.s 0), .int .u64 (z1_wd i.s 1), .int .u64 (z1_wd i.s 2), .int .u64 (z1_wd i.s 3)] 35)) := (Below.refl _ _).alloc (Nat.le_refl _) _
      have M1 := hide (M0.out.kept hbA)
      have F1 := hide (F0.out.then hbA)
      have XI : Hid ((w5.alloc (.cells #[.int .i64 i.op, .int .i64 i.x, .int .i64 i.y, .int .i64 i.n, .int .i64 i.mn, .int .i64 i.mx, .int .u64 (z1_wd i.s 0), .int .u64 (z1_wd i.s 1), .int .u64 (z1_wd i.s 2), .int .u64 (z1_wd i.s 3)] 35)).heap[w5.heap.size]? = some (.cells #[.int .i64 i.op, .int .i64 i.x, .int .i64 i.y, .int .i64 i.n, .int .i64 i.mn, .int .i64 i.mx, .int .u64 (z1_wd i.s 0), .int .u64 (z1_wd i.s 1), .int .u64 (z1_wd i.s 2), .int .u64 (z1_wd i.s 3)] 35 (0, 0))) := alloc_new w5 _
      clear c0 c1 c2 c3 c4 c5 c6 c7 c8 c9 y0 hbA SH
      generalize (w5.alloc (.cells #[.int .i64 i.op, .int .i64 i.x, .int .i64 i.y, .int .i64 i.n, .int .i64 i.mn, .int .i64 i.mx, .int .u64 (z1_wd i.s 0), .int .u64 (z1_wd i.s 1), .int .u64 (z1_wd i.s 2), .int .u64 (z1_wd i.s 3)] 35)) = V at M1 F1 XI ⊢
      have no : Hid (¬ own3 mb mo mp w5.heap.size) := hide (fun q => by have h1 := ob.out; have h2 := oo.out; have h3 := op.out; rcases q with q | q | q <;> omega)
      have d1 : V.cell? ⟨w5.heap.size, 1, none⟩ = some (.int .i64 i.x) := cell_row XI.out (i := 1) rfl
      have d2 : V.cell? ⟨w5.heap.size, 2, none⟩ = some (.int .i64 i.y) := cell_row XI.out (i := 2) rfl
      cases b64 <;> cases b2 <;> cases b4
      all_goals
        go_wp2_with first
          | (go_at_call 33; (with_reducible refine (H64 _).mono ?_); rintro e w6 ⟨rfl, rfl⟩)
          | (go_at_call 33; (with_reducible refine (H2 _).mono ?_); rintro e w6 ⟨rfl, rfl⟩)
          | (go_at_call 33; (with_reducible refine (H4 _).mono ?_); rintro e w6 ⟨rfl, rfl⟩)
          | (go_at_call 29; (with_reducible refine (put_c MB.out _).mono ?_); rintro e wc ⟨rfl, hc1, hc2⟩; have MC := hide hc1; have FC := hide (FB.out.trans hc2); clear hc1 hc2)
          | (go_at_call 29; (with_reducible refine (put_c MA.out _).mono ?_); rintro e wb ⟨rfl, hc1, hc2⟩; have MB := hide hc1; have FB := hide (FA.out.trans hc2); have XB := hide ((hc2.block _ (lt_of_heap XA.out) no.out).trans XA.out); have s1 : wb.cell? ⟨w5.heap.size, 1, none⟩ = some (.int .i64 i.x) := cell_row XB.out (i := 1) rfl; have s2 : wb.cell? ⟨w5.heap.size, 2, none⟩ = some (.int .i64 i.y) := cell_row XB.out (i := 2) rfl; clear hc1 hc2)
          | (go_at_call 29; (with_reducible refine (put_c M1.out _).mono ?_); rintro e wa ⟨rfl, hc1, hc2⟩; have MA := hide hc1; have FA := hide (F1.out.trans hc2); have XA := hide ((hc2.block _ (lt_of_heap XI.out) no.out).trans XI.out); have r1 : wa.cell? ⟨w5.heap.size, 1, none⟩ = some (.int .i64 i.x) := cell_row XA.out (i := 1) rfl; have r2 : wa.cell? ⟨w5.heap.size, 2, none⟩ = some (.int .i64 i.y) := cell_row XA.out (i := 2) rfl; clear hc1 hc2)
        go_roundw
        case rel => first
          | exact ⟨k + 1, _, by go_num, Nat.le_trans hkl PL.out, MC.out, HP.out.trans ST.out, FC.out⟩
          | exact ⟨k + 1, _, by go_num, Nat.le_trans hkl PL.out, MB.out, HP.out.trans ST.out, FB.out⟩
          | exact ⟨k + 1, _, by go_num, Nat.le_trans hkl PL.out, MA.out, HP.out.trans ST.out, FA.out⟩
          | exact ⟨k + 1, _, by go_num, Nat.le_trans hkl PL.out, M1.out, HP.out.trans ST.out, F1.out⟩
        case measure => simp only [intOf]; omega
    · have i0 : ¬ (k : Int) < (L.length : Int) := by omega
      have HE : Hid (rcM p = L) := by have h1 := HP.out; rw [rcL_end (by omega) (by omega)] at h1; exact h1
      have RI := hide (rising_c M0.out)
      go_wp2_with first
        | (go_at_call 30; (with_reducible refine (LN.out).mono ?_); rintro e w5 ⟨rfl, rfl⟩)
        | (go_at_call 34; (with_reducible refine (RI.out).mono ?_); rintro e w6 ⟨rfl, h61, h62⟩; have R6 := hide h61; have B6 := hide h62; clear h61 h62)
      go_ret2
      refine ⟨chain BW.out B6.out (Nat.le_refl _), _, ?_, ?_, BW.out.size⟩
      · rw [HE.out]; rfl
      · rw [HE.out]; exact R6.out
end Go.Proofs.YtbfhahhcacnckaaGreatDoor
