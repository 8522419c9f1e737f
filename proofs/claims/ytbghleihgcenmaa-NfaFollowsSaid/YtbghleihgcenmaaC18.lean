/-
  Parts of the proof.
-/
import Derived.Test.YtbghleihgcenmaaC17
import Derived.Test.YtbghleihgcenmaaC14
set_option linter.unusedSimpArgs false
namespace Go.Proofs.Ytbghleihgcenmaa
open Go Go.RowKit
attribute [local go_sem] Oper.semAt_some ext_cell
set_option maxRecDepth 100000 in
set_option maxHeartbeats 8000000 in
theorem rat_x {w : World} {p : Pg} (h : PgI w p) {k : Nat} {i : Ins} (hi : p.L[k]? = some i) (hn : shW i.op = []) (hm : shT i.op = 0) :
    Calls Try.prog 24 #[.agg #[.slice p.q p.L.length p.c, .int .i64 p.g, .int .i64 p.k, .bool p.f], .int .i64 (k : Int)] w (RaP p k i w) := by
  have B1 : Hid (Below w.heap.size w (w.alloc (.cells #[.slice p.q p.L.length p.c, .int .i64 p.g, .int .i64 p.k, .bool p.f] 24))) := (Below.refl _ _).alloc (Nat.le_refl _) _
  have n1 := alloc_new w (.cells #[.slice p.q p.L.length p.c, .int .i64 p.g, .int .i64 p.k, .bool p.f] 24)
  have p0 : (w.alloc (.cells #[.slice p.q p.L.length p.c, .int .i64 p.g, .int .i64 p.k, .bool p.f] 24)).cell? ⟨w.heap.size, 0, none⟩ = some (.slice p.q p.L.length p.c) := cell_row n1 (i := 0) rfl
  have X1 : Hid ((w.alloc (.cells #[.slice p.q p.L.length p.c, .int .i64 p.g, .int .i64 p.k, .bool p.f] 24)).heap[w.heap.size]? = some (.cells #[.slice p.q p.L.length p.c, .int .i64 p.g, .int .i64 p.k, .bool p.f] 24 (0, 0))) := n1
  obtain ⟨g1, o1, hq1, hl1, c0, c1, c2, c3, c4, c5, c6, c7, c8, c9⟩ := (h.li.kept B1.out).ten hi
  have hlt := (List.getElem?_eq_some_iff.1 hi).1
  have i0 : (k : Int) < (p.L.length : Int) := by omega
  have Q1 := hide hq1
  have HF : Hid (fineI p k i = false) := hide (by unfold fineI; rw [hn]; rfl)
  have hs : ∀ W, Calls Try.prog 31 #[.int .i64 i.op] W fun e w' => e = .returned (.tuple #[.string ⟨#[]⟩, .int .i64 0]) ∧ w' = W := fun W => by
    have := shape_c i.op W
    rw [hn, hm] at this
    exact this
  clear hq1 n1 hn hm
  go_enter Try.func24, Try.ntmps24
  go_upto_region 1 with fail
  generalize (w.alloc (.cells #[.slice p.q p.L.length p.c, .int .i64 p.g, .int .i64 p.k, .bool p.f] 24)) = w1 at B1 p0 X1 hl1 c0 c1 c2 c3 c4 c5 c6 c7 c8 c9 ⊢
  rw [Q1.out] at p0
  have hl2 := lt_of_heap X1.out
  go_region
  clear p0 c0 c1 c2 c3 c4 c5 c6 c7 c8 c9 hl1
  have B2 : Hid (Below w.heap.size w (w1.alloc (.cells #[.int .i64 i.op, .int .i64 i.x, .int .i64 i.y, .int .i64 i.n, .int .i64 i.mn, .int .i64 i.mx, .int .u64 (z1_wd i.s 0), .int .u64 (z1_wd i.s 1), .int .u64 (z1_wd i.s 2), .int .u64 (z1_wd i.s 3)] 42)).drew) := (chain B1.out ((Below.refl _ _).alloc (Nat.le_refl _) _) (Nat.le_refl _)).drew
  have X2 : Hid ((w1.alloc (.cells #[.int .i64 i.op, .int .i64 i.x, .int .i64 i.y, .int .i64 i.n, .int .i64 i.mn, .int .i64 i.mx, .int .u64 (z1_wd i.s 0), .int .u64 (z1_wd i.s 1), .int .u64 (z1_wd i.s 2), .int .u64 (z1_wd i.s 3)] 42)).drew.heap[w1.heap.size]? = some (.cells #[.int .i64 i.op, .int .i64 i.x, .int .i64 i.y, .int .i64 i.n, .int .i64 i.mn, .int .i64 i.mx, .int .u64 (z1_wd i.s 0), .int .u64 (z1_wd i.s 1), .int .u64 (z1_wd i.s 2), .int .u64 (z1_wd i.s 3)] 42 (0, 0))) := alloc_new w1 _
  generalize (w1.alloc (.cells #[.int .i64 i.op, .int .i64 i.x, .int .i64 i.y, .int .i64 i.n, .int .i64 i.mn, .int .i64 i.mx, .int .u64 (z1_wd i.s 0), .int .u64 (z1_wd i.s 1), .int .u64 (z1_wd i.s 2), .int .u64 (z1_wd i.s 3)] 42)).drew = w2 at B2 X2 ⊢
  have d0 : w2.cell? ⟨w1.heap.size, 0, none⟩ = some (.int .i64 i.op) := cell_row X2.out (i := 0) rfl
  go_wp2_with (go_at_call 31; (with_reducible refine (hs _).mono ?_); rintro e w5 ⟨rfl, rfl⟩)
  refine wp_region_ext (by kernel_rfl) (by kernel_rfl) ?_
  repeat (go_big_quiet_step (first | exact rfl))
  refine wpQuiet_nil ?_
  intro w6 hw6
  have hb6 := ext_of hw6
  have B6 := hide (chain B2.out hb6 (Nat.le_refl _))
  clear hw6 hb6
  go_wp2
  go_ret
  exact ⟨by rw [HF.out]; rfl, B6.out⟩
theorem rightAt_c {w : World} {p : Pg} (h : PgI w p) {k : Nat} {i : Ins} (hi : p.L[k]? = some i) (hk : p.L.length ≤ 40000) :
    Calls Try.prog 24 #[.agg #[.slice p.q p.L.length p.c, .int .i64 p.g, .int .i64 p.k, .bool p.f], .int .i64 (k : Int)] w (RaP p k i w) := by
  by_cases h1 : i.op = 1
  · exact rat_1 h hi hk h1
  by_cases h2 : i.op = 2
  · exact rat_2 h hi hk h2
  by_cases h3 : i.op = 3
  · exact rat_3 h hi hk h3
  by_cases h4 : i.op = 4
  · exact rat_4 h hi hk h4
  by_cases h5 : i.op = 5
  · exact rat_5 h hi hk h5
  by_cases h6 : i.op = 6
  · exact rat_6 h hi hk h6
  by_cases h7 : i.op = 7
  · exact rat_7 h hi hk h7
  by_cases h8 : i.op = 8
  · exact rat_8 h hi hk h8
  by_cases h9 : i.op = 9
  · exact rat_9 h hi hk h9
  by_cases h10 : i.op = 10
  · exact rat_10 h hi hk h10
  by_cases h11 : i.op = 11
  · exact rat_11 h hi hk h11
  refine rat_x h hi ?_ ?_
  · unfold shW; simp [h1, h2, h3, h4, h5, h6, h7, h8, h9, h10, h11]
  · unfold shT; simp [h1, h2, h3, h4, h5, h6, h7, h8, h9, h10]
def fbI (p : Pg) : Nat → List Ins → Option Nat
  | _, [] => none
  | k, i :: r => if fineI p k i then fbI p (k + 1) r else some k
def rtE (p : Pg) : Int × Int :=
  if 40000 < p.L.length then (42, 0) else if !blw p.g 31 || !blw p.k 41 then (1, 0) else if p.L.length = 0 then (60, 0) else match fbI p 0 p.L with
  | some k => (60, k)
  | none => (0, 0)
theorem fbI_drop (p : Pg) {j : Nat} {i : Ins} (hj : p.L[j]? = some i) : fbI p j (p.L.drop j) = if fineI p j i then fbI p (j + 1) (p.L.drop (j + 1)) else some j := by
  have hlt := (List.getElem?_eq_some_iff.1 hj).1
  rw [List.drop_eq_getElem_cons hlt, (List.getElem?_eq_some_iff.1 hj).2]
  rfl
def RtP (p : Pg) (w : World) (e : Ending) (w' : World) : Prop := e = .returned (.tuple #[.int .i64 (rtE p).1, .int .i64 (rtE p).2]) ∧ Below w.heap.size w w'
set_option maxRecDepth 100000 in
set_option maxHeartbeats 8000000 in
theorem right_c {w : World} {p : Pg} (h : PgI w p) : Calls Try.prog 15 #[.agg #[.slice p.q p.L.length p.c, .int .i64 p.g, .int .i64 p.k, .bool p.f]] w (RtP p w) := by
  have B1 : Hid (Below w.heap.size w (w.alloc (.cells #[.slice p.q p.L.length p.c, .int .i64 p.g, .int .i64 p.k, .bool p.f] 24))) := (Below.refl _ _).alloc (Nat.le_refl _) _
  have n1 := alloc_new w (.cells #[.slice p.q p.L.length p.c, .int .i64 p.g, .int .i64 p.k, .bool p.f] 24)
  have X1 : Hid ((w.alloc (.cells #[.slice p.q p.L.length p.c, .int .i64 p.g, .int .i64 p.k, .bool p.f] 24)).heap[w.heap.size]? = some (.cells #[.slice p.q p.L.length p.c, .int .i64 p.g, .int .i64 p.k, .bool p.f] 24 (0, 0))) := n1
  have H := hide h
  have hlen := h.len
  obtain ⟨r1, hr1⟩ : ∃ r, rtE p = r := ⟨_, rfl⟩
  have R := hide hr1
  unfold RtP
  rw [hr1]
  clear hr1 h n1
  go_enter Try.func15, Try.ntmps15
  go_upto_region 1 with fail
  generalize (w.alloc (.cells #[.slice p.q p.L.length p.c, .int .i64 p.g, .int .i64 p.k, .bool p.f] 24)) = w1 at B1 X1 ⊢
  have p0 : w1.cell? ⟨w.heap.size, 0, none⟩ = some (.slice p.q p.L.length p.c) := cell_row X1.out (i := 0) rfl
  have p1 : w1.cell? ⟨w.heap.size, 1, none⟩ = some (.int .i64 p.g) := cell_row X1.out (i := 1) rfl
  have p2 : w1.cell? ⟨w.heap.size, 2, none⟩ = some (.int .i64 p.k) := cell_row X1.out (i := 2) rfl
  have l1 := lt_of_heap X1.out
  by_cases hm : 40000 < p.L.length
  · have i0 : (40000 : Int) < (p.L.length : Int) := by omega
    go_wp2
    go_ret2
    exact ⟨by rw [← R.out, rtE, if_pos hm]; rfl, B1.out⟩
  have i0 : ¬ (40000 : Int) < (p.L.length : Int) := by omega
  by_cases hb : (!blw p.g 31 || !blw p.k 41) = true
  · have hR : rtE p = (1, 0) := by rw [rtE, if_neg hm, if_pos hb]
    have R2 := hide (R.out.symm.trans hR)
    clear hR
    cases hg : blw p.g 31 with
    | false =>
      go_wp2_with (go_at_call 23; (with_reducible refine (below_c _ _ _).mono ?_); rw [hg]; rintro e w7 ⟨rfl, rfl⟩)
      go_ret2
      exact ⟨by rw [R2.out]; rfl, B1.out⟩
    | true =>
      rw [hg] at hb
      have hg2 : blw p.k 41 = false := by simpa using hb
      go_wp2_with first
        | (go_at_call 23; (with_reducible refine (below_c p.g _ _).mono ?_); rw [hg]; rintro e w7 ⟨rfl, rfl⟩)
        | (go_at_call 23; (with_reducible refine (below_c p.k _ _).mono ?_); rw [hg2]; rintro e w7 ⟨rfl, rfl⟩)
      go_ret2
      exact ⟨by rw [R2.out]; rfl, B1.out⟩
  have hg : blw p.g 31 = true := by cases h : blw p.g 31 <;> simp_all
  have hg2 : blw p.k 41 = true := by cases h : blw p.k 41 <;> simp_all
  by_cases hz : p.L.length = 0
  · have hR : rtE p = (60, 0) := by rw [rtE, if_neg hm, if_neg hb, if_pos hz]
    have R2 := hide (R.out.symm.trans hR)
    clear hR hb
    rw [hz] at p0
    go_wp2_with first
      | (go_at_call 23; (with_reducible refine (below_c p.g _ _).mono ?_); rw [hg]; rintro e w7 ⟨rfl, rfl⟩)
      | (go_at_call 23; (with_reducible refine (below_c p.k _ _).mono ?_); rw [hg2]; rintro e w7 ⟨rfl, rfl⟩)
    go_ret2
    exact ⟨by rw [R2.out]; rfl, B1.out⟩
  have hR : rtE p = match fbI p 0 p.L with | some k => (60, (k : Int)) | none => (0, 0) := by rw [rtE, if_neg hm, if_neg hb, if_neg hz]
  have R2 := hide (R.out.symm.trans hR)
  have z0 : (((p.L.length : Nat) : Int) == 0) = false := by rw [beq_eq_false_iff_ne]; omega
  clear hR hb
  go_wp2_with first
    | (go_at_call 23; (with_reducible refine (below_c p.g _ _).mono ?_); rw [hg]; rintro e w7 ⟨rfl, rfl⟩)
    | (go_at_call 23; (with_reducible refine (below_c p.k _ _).mono ?_); rw [hg2]; rintro e w7 ⟨rfl, rfl⟩)
  have H7 := hide (H.out.kept B1.out)
  clear p0 p1 p2
  go_loopw [29] (fun i wr => ∃ j : Nat, j ≤ p.L.length ∧ i = .int .i64 (j : Int) ∧ fbI p 0 p.L = fbI p j (p.L.drop j) ∧ Below w7.heap.size w7 wr) (fun i _ => p.L.length - (intOf i).toNat)
  case atStart => exact ⟨0, Nat.zero_le _, rfl, by rw [List.drop_zero], Below.refl _ _⟩
  case round =>
    obtain ⟨j, hj, rfl, hpre, hbel⟩ := hrel
    have HP := hide hpre
    have HB := hide hbel
    have y0 := cell_row ((HB.out.block _ l1).trans X1.out) (i := 0) rfl
    have y1 := cell_row ((HB.out.block _ l1).trans X1.out) (i := 1) rfl
    have y2 := cell_row ((HB.out.block _ l1).trans X1.out) (i := 2) rfl
    have y3 := cell_row ((HB.out.block _ l1).trans X1.out) (i := 3) rfl
    clear hpre hbel
    by_cases hjl : j < p.L.length
    · have j0 : (j : Int) < (p.L.length : Int) := by omega
      obtain ⟨a9, hga⟩ : ∃ a, p.L[j]? = some a := ⟨_, List.getElem?_eq_getElem hjl⟩
      have HC := hide (rightAt_c (H7.out.kept HB.out) hga (by omega))
      have GA := hide (fbI_drop p hga)
      unfold RaP at HC
      obtain ⟨sb, hsb⟩ : ∃ sb, fineI p j a9 = sb := ⟨_, rfl⟩
      rw [hsb] at HC GA
      clear hga hsb
      cases sb with
      | false =>
        have HN : Hid (r1 = (60, (j : Int))) := by have := R2.out; rw [HP.out, GA.out] at this; exact this
        go_wp2_with (go_at_call 24; (with_reducible refine (HC.out).mono ?_); rintro e w5 ⟨rfl, h5⟩; have B5 := hide (chain (chain B1.out HB.out (Nat.le_refl _)) h5 (Nat.le_refl _)); clear h5)
        go_ret2
        exact ⟨by rw [HN.out]; rfl, B5.out⟩
      | true =>
        have HN : Hid (fbI p 0 p.L = fbI p (j + 1) (p.L.drop (j + 1))) := by have := HP.out; rw [GA.out] at this; exact this
        go_wp2_with (go_at_call 24; (with_reducible refine (HC.out).mono ?_); rintro e w5 ⟨rfl, h5⟩; have B5 := hide (chain HB.out h5 (Nat.le_refl _)); clear h5)
        go_roundw
        case rel => exact ⟨j + 1, by omega, by go_num, HN.out, B5.out⟩
        case measure => simp only [intOf]; omega
    · have j0 : ¬ (j : Int) < (p.L.length : Int) := by omega
      have HN : Hid (r1 = (0, 0)) := by have := R2.out; rw [HP.out, List.drop_eq_nil_of_le (by omega)] at this; exact this
      go_wp2
      go_ret2
      exact ⟨by rw [HN.out]; rfl, chain B1.out HB.out (Nat.le_refl _)⟩
end Go.Proofs.Ytbghleihgcenmaa
namespace Go.Proofs.Ytbghleihgcenmaa
open Go Go.RowKit
attribute [local go_sem] Oper.semAt_some ext_cell
theorem fbn_fine {p : Pg} : ∀ {k : Nat} {L : List Ins}, fbI p k L = none → ∀ (j : Nat) (i : Ins), L[j]? = some i → fineI p (k + j) i = true
  | _, [], _, j, i, h => by simp at h
  | k, x :: r, hf, j, i, h => by
    unfold fbI at hf
    split at hf
    · rename_i hx
      cases j with
      | zero =>
        obtain rfl : x = i := by simpa using h
        exact hx
      | succ j =>
        have := fbn_fine hf j i (by simpa using h)
        rwa [show k + 1 + j = k + (j + 1) by omega] at this
    · cases hf
theorem rt_fine {p : Pg} (h : (rtE p).1 = 0) : p.L.length ≤ 40000 ∧ 0 < p.L.length ∧ ∀ (j : Nat) (i : Ins), p.L[j]? = some i → fineI p j i = true := by
  unfold rtE at h
  split at h
  · exact absurd h (by decide)
  split at h
  · exact absurd h (by decide)
  split at h
  · exact absurd h (by decide)
  rename_i h1 h2 h3
  refine ⟨by omega, by omega, fun j i hi => ?_⟩
  cases hf : fbI p 0 p.L with
  | some k => rw [hf] at h; simp at h
  | none =>
    have := fbn_fine hf j i hi
    rwa [Nat.zero_add] at this
theorem blw_iff {n m : Int} (h : blw n m = true) : 0 ≤ n ∧ n < m := by simpa [blw] using h
theorem gp_of {p : Pg} (h : (rtE p).1 = 0) : GP p.L := by
  obtain ⟨h1, h2, h3⟩ := rt_fine h
  have hx : ∀ (a : Nat) (i : Ins), p.L[a]? = some i → (hsT (shT i.op) 2 = true → 0 ≤ i.x ∧ i.x < p.L.length) ∧ (hsT (shT i.op) 4 = true → 0 ≤ i.y ∧ i.y < p.L.length) ∧ (hsT (shT i.op) 64 = true → (a : Int) + 1 < p.L.length) := fun a i hi => by
    have hf := h3 a i hi
    unfold fineI at hf
    simp only [Bool.and_eq_true, Bool.or_eq_true, Bool.not_eq_true', decide_eq_true_eq] at hf
    obtain ⟨⟨⟨⟨⟨⟨⟨_, _⟩, f1⟩, f2⟩, _⟩, _⟩, _⟩, f3⟩ := hf
    refine ⟨fun e => ?_, fun e => ?_, fun e => ?_⟩
    · rcases f1 with q | q
      · rw [e] at q; cases q
      · exact blw_iff q
    · rcases f2 with q | q
      · rw [e] at q; cases q
      · exact blw_iff q
    · rcases f3 with q | q
      · rw [e] at q; cases q
      · exact q
  refine ⟨h2, h1, fun a i hi bg en x hm => ?_, fun a i hi ho => ?_⟩
  · obtain ⟨q1, q2, q3⟩ := hx a i hi
    unfold epsL at hm
    split at hm
    · rename_i e
      rw [e] at q1 q2
      simp at hm
      rcases hm with rfl | rfl
      · exact q1 (by decide)
      · exact q2 (by decide)
    split at hm
    · rename_i e
      rw [e] at q1
      simp at hm
      subst hm
      exact q1 (by decide)
    split at hm
    · rename_i e
      have := q3 (by rcases e with e | e <;> rw [e] <;> decide)
      simp at hm
      omega
    split at hm
    · rename_i e
      have := q3 (by rw [e]; decide)
      cases bg
      · simp at hm
      · simp at hm; omega
    split at hm
    · rename_i e
      have := q3 (by rw [e]; decide)
      cases en
      · simp at hm
      · simp at hm; omega
    · cases hm
  · have := (hx a i hi).2.2 (by rw [ho]; decide)
    omega
def wrM (p : Pg) (n : Nat) (pl : Int) : Int := if (rtE p).1 ≠ 0 then (rtE p).1 else if freeB p = false then 51 else if pl < 0 ∨ (n : Int) < pl then 1 else 0
theorem wrM_ok {p : Pg} {n : Nat} {pl : Int} (h : wrM p n pl = 0) : (rtE p).1 = 0 ∧ freeB p = true ∧ 0 ≤ pl ∧ pl ≤ n := by
  unfold wrM at h
  split at h
  · exact absurd h (by assumption)
  rename_i h1
  split at h
  · exact absurd h (by decide)
  rename_i h2
  split at h
  · exact absurd h (by decide)
  rename_i h3
  exact ⟨by simpa using h1, by simpa using h2, by omega, by omega⟩
theorem wrM_0 {p : Pg} {n : Nat} {pl : Int} (h1 : (rtE p).1 = 0) (h2 : freeB p = true) (h3 : 0 ≤ pl) (h4 : pl ≤ n) : wrM p n pl = 0 := by
  unfold wrM
  rw [if_neg (by simpa using h1), if_neg (by rw [h2]; decide), if_neg (by omega)]
set_option maxRecDepth 100000 in
set_option maxHeartbeats 4000000 in
theorem wrong_c {w : World} {p : Pg} (h : PgI w p) (s : ByteArray) (pl : Int) : Calls Try.prog 12 #[.agg #[.slice p.q p.L.length p.c, .int .i64 p.g, .int .i64 p.k, .bool p.f], .string s, .int .i64 pl] w fun e w' => e = .returned (.int .i64 (wrM p s.size pl)) ∧ Below w.heap.size w w' := by
  have B1 : Hid (Below w.heap.size w (w.alloc (.cells #[.slice p.q p.L.length p.c, .int .i64 p.g, .int .i64 p.k, .bool p.f] 24))) := (Below.refl _ _).alloc (Nat.le_refl _) _
  have X1 : Hid ((w.alloc (.cells #[.slice p.q p.L.length p.c, .int .i64 p.g, .int .i64 p.k, .bool p.f] 24)).heap[w.heap.size]? = some (.cells #[.slice p.q p.L.length p.c, .int .i64 p.g, .int .i64 p.k, .bool p.f] 24 (0, 0))) := alloc_new w _
  have HC := hide (right_c (h.kept B1.out))
  have HF := hide (fun (V : World) (hV : Below w.heap.size w V) => free_c (h.kept hV))
  unfold RtP at HC
  obtain ⟨re, hre⟩ : ∃ r, (rtE p).1 = r := ⟨_, rfl⟩
  obtain ⟨rk, hrk⟩ : ∃ r, (rtE p).2 = r := ⟨_, rfl⟩
  obtain ⟨fb, hfb⟩ : ∃ r, freeB p = r := ⟨_, rfl⟩
  rw [hre, hrk] at HC
  rw [hfb] at HF
  have HRE := hide hre
  have HFB := hide hfb
  clear hre hrk hfb h
  go_enter Try.func12, Try.ntmps12
  go_upto_region 1 with fail
  generalize (w.alloc (.cells #[.slice p.q p.L.length p.c, .int .i64 p.g, .int .i64 p.k, .bool p.f] 24)) = w1 at B1 X1 HC ⊢
  have p0 := cell_row X1.out (i := 0) rfl
  have p1 := cell_row X1.out (i := 1) rfl
  have p2 := cell_row X1.out (i := 2) rfl
  have p3 := cell_row X1.out (i := 3) rfl
  have l1 := lt_of_heap X1.out
  by_cases hz : re = 0
  · subst hz
    go_upto_region 4 with (go_at_call 15; (with_reducible refine (HC.out).mono ?_); rintro e w2 ⟨rfl, h2⟩; have B2 := hide (chain B1.out h2 (Nat.le_refl _)); have X2 := hide ((h2.block _ l1).trans X1.out); clear h2)
    have y0 := cell_row X2.out (i := 0) rfl
    have y1 := cell_row X2.out (i := 1) rfl
    have y2 := cell_row X2.out (i := 2) rfl
    have y3 := cell_row X2.out (i := 3) rfl
    clear p0 p1 p2 p3
    cases fb with
    | false =>
      go_wp2_with (go_at_call 16; (with_reducible refine (HF.out _ B2.out).mono ?_); rintro e w3 ⟨rfl, h3⟩; have B3 := hide (chain B2.out h3 (Nat.le_refl _)); clear h3)
      go_ret
      exact ⟨by rw [show wrM p s.size pl = 51 by unfold wrM; rw [HRE.out, HFB.out, if_neg (by decide), if_pos rfl]]; rfl, B3.out⟩
    | true =>
      by_cases h0 : pl < 0
      · go_wp2_with (go_at_call 16; (with_reducible refine (HF.out _ B2.out).mono ?_); rintro e w3 ⟨rfl, h3⟩; have B3 := hide (chain B2.out h3 (Nat.le_refl _)); clear h3)
        go_ret
        exact ⟨by rw [show wrM p s.size pl = 1 by unfold wrM; rw [HRE.out, HFB.out, if_neg (by decide), if_neg (by decide), if_pos (.inl (by omega))]]; rfl, B3.out⟩
      · by_cases h1 : (s.size : Int) < pl
        · go_wp2_with (go_at_call 16; (with_reducible refine (HF.out _ B2.out).mono ?_); rintro e w3 ⟨rfl, h3⟩; have B3 := hide (chain B2.out h3 (Nat.le_refl _)); clear h3)
          go_ret
          exact ⟨by rw [show wrM p s.size pl = 1 by unfold wrM; rw [HRE.out, HFB.out, if_neg (by decide), if_neg (by decide), if_pos (.inr (by omega))]]; rfl, B3.out⟩
        · go_wp2_with (go_at_call 16; (with_reducible refine (HF.out _ B2.out).mono ?_); rintro e w3 ⟨rfl, h3⟩; have B3 := hide (chain B2.out h3 (Nat.le_refl _)); clear h3)
          go_ret
          exact ⟨by rw [show wrM p s.size pl = 0 by unfold wrM; rw [HRE.out, HFB.out, if_neg (by decide), if_neg (by decide), if_neg (by omega)]]; rfl, B3.out⟩
  · have z0 : (re != 0) = true := by simp [hz]
    have HZ := hide hz
    clear hz
    go_wp2_with (go_at_call 15; (with_reducible refine (HC.out).mono ?_); rintro e w2 ⟨rfl, h2⟩; have B2 := hide (chain B1.out h2 (Nat.le_refl _)); clear h2)
    go_ret
    exact ⟨by rw [show wrM p s.size pl = re by unfold wrM; rw [HRE.out, if_pos HZ.out]]; rfl, B2.out⟩
end Go.Proofs.Ytbghleihgcenmaa
