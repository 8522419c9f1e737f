/-
  The law SetsAll, walked: All of any set, left early, and again; Ranges, whose list is its owner's.
-/
import Derived.Test.YtcaijlmffdfhgabDoorRefK
import Derived.Test.YtcaijlmffdfhgabDoorSame
import Derived.Test.YtcaijlmffdfhgabDoorWalk
import Derived.Test.YtcaijlmffdfhgabDoorAllRange
namespace Go.Proofs.YtcaijlmffdfhgabDoor
open Go Go.RowKit Go.Shelf
attribute [local go_sem] Oper.semAt_some ext_cell fn_nil

/-- The boxes of the law SetsAll. -/
def St (w : World) (s : S) (k : Int) (lv : Value) (Bw Bs : Nat) (W : World) : Prop :=
  SetAt W w.heap.size s ∧ Boxed W (w.heap.size + 1) 3 (.int .i64 k) ∧ Boxed W (w.heap.size + 1 + 1) 4 (.bool false) ∧ Boxed W Bw 26 lv ∧ SetAt W Bs s ∧
  W.ownsRow w.heap.size 3 1 lv (elems s).length (intsOf (elems s)) ∧ Below w.heap.size w W
theorem St.below {w : World} {s : S} {k : Int} {lv : Value} {Bw Bs : Nat} {W W' : World} (h : St w s k lv Bw Bs W) (hb : Below W.heap.size W W') : St w s k lv Bw Bs W' :=
  ⟨h.1.below hb h.1.lt, Boxed.below h.2.1 hb, Boxed.below h.2.2.1 hb, Boxed.below h.2.2.2.1 hb, h.2.2.2.2.1.below hb h.2.2.2.2.1.lt, row_below h.2.2.2.2.2.1 hb, chain h.2.2.2.2.2.2 hb⟩
/-- A list of ranges in a block of its own: it may be written. -/
def XRow (W : World) (B : Nat) (v : Value) (L : Nat) : Prop :=
  L = 0 ∨ ∃ g cap cur, v = .slice (some ⟨g, 0, none⟩) L cap ∧ L ≤ cap ∧ cap ≤ maxLen ∧ B ≤ g ∧ W.heap[g]? = some (.cells cur 35 (0, 0)) ∧ cur.size = cap * 2
theorem XRow.of_own {W : World} {B L : Nat} {v : Value} {xs : List Value} (h : W.ownsRow B 35 2 v L xs) : XRow W B v L := by
  rcases h.2 with ⟨_, h0⟩ | ⟨g, cap, cur, h1, h2, h3, h4, h5, h6, _⟩
  · exact .inl h0
  · exact .inr ⟨g, cap, cur, h1, h4, h5, h2, h3, h6⟩
theorem prefix_next {s : S} {pre : List B8} {x : B8} (h : pre ++ [x] <+: elems s) (hl : pre.length < (elems s).length) : (elems s)[pre.length].1 = x.1 := by
  obtain ⟨r, hr⟩ := h
  have : (elems s)[pre.length]? = some x := by rw [← hr]; simp
  rw [List.getElem?_eq_getElem hl] at this
  rw [Option.some.inj this]

set_option maxRecDepth 100000 in
set_option maxHeartbeats 4000000 in
theorem all_in (n : Nat) (hn : 3 ≤ n) (s : S) (k : Int) (w : World) (hT : Tab w) :
    CallsIn Fence.wide n Tryd.prog 3 #[.agg #[.int .u64 (wd (s) 0), .int .u64 (wd (s) 1), .int .u64 (wd (s) 2), .int .u64 (wd (s) 3)], .int .i64 k] w fun e W' => e = .returned (.bool true) ∧ Below w.heap.size w W' := by
  have h1 : 1 ≤ n := by omega
  have h2 : 1 ≤ n - 1 - 1 := by omega
  have hfn : ∀ f, Fence.wide.fn f := fun _ => trivial
  have HT : Hid (Tab w) := hT
  clear hT
  have HB0 : Hid (Below w.heap.size w (((w.alloc (.cells #[.int .u64 (wd (s) 0), .int .u64 (wd (s) 1), .int .u64 (wd (s) 2), .int .u64 (wd (s) 3)] 24)).alloc (.cells #[.int .i64 k] 3)).alloc (.cells #[.bool false] 4))) := (((Below.refl _ _).alloc (Nat.le_refl _) _).alloc (by simp) _).alloc (by simp; omega) _
  refine callsIn_of_wp_marks Tryd.func3 rfl trivial ?_ rfl
  simp only [Tryd.ntmps3, List.size_toArray, List.length_cons, List.length_nil, Nat.reduceAdd, Nat.reduceSub, Array.replicate_succ, Array.replicate_zero, List.push_toArray, List.append_toArray, List.nil_append, List.cons_append]
  gi_wp2_with first | (gi_at_call 4; refine (callsIn_wide.2 (examples_any _ (HT.out.below HB0.out))).mono ?_; rintro e w1 ⟨rfl, hb1⟩; have H1 : Hid (Below w.heap.size w w1) := chain HB0.out hb1; have A1 : Hid (SetAt w1 w.heap.size s) := (((SetAt.new w s).alloc _).alloc _).below hb1 (by simp <;> omega); have K1 : Hid (Boxed w1 (w.heap.size + 1) 3 (.int .i64 k)) := (by have h := (Boxed.new (w.alloc (.cells #[.int .u64 (wd (s) 0), .int .u64 (wd (s) 1), .int .u64 (wd (s) 2), .int .u64 (wd (s) 3)] 24)) 3 (.int .i64 k)).alloc (.cells #[.bool false] 4); rw [World.size_alloc] at h; exact Boxed.below h hb1); have R1 : Hid (Boxed w1 (w.heap.size + 1 + 1) 4 (.bool false)) := (by have h := (Boxed.new ((w.alloc (.cells #[.int .u64 (wd (s) 0), .int .u64 (wd (s) 1), .int .u64 (wd (s) 2), .int .u64 (wd (s) 3)] 24)).alloc (.cells #[.int .i64 k] 3)) 4 (.bool false)); rw [World.size_alloc, World.size_alloc] at h; exact Boxed.below h hb1); clear hb1; obtain ⟨a0, a1, a2, a3⟩ := A1.out.cells) | (gi_at_call 5; refine (callsIn_wide.2 (rList s _)).mono ?_; rintro e w2 ⟨lv, rfl, hl, hb2⟩; have H2 : Hid (Below w.heap.size w w2) := chain H1.out hb2; have A2 : Hid (SetAt w2 w.heap.size s) := A1.out.below hb2 A1.out.lt; have K2 : Hid (Boxed w2 (w.heap.size + 1) 3 (.int .i64 k)) := Boxed.below K1.out hb2; have R2 : Hid (Boxed w2 (w.heap.size + 1 + 1) 4 (.bool false)) := Boxed.below R1.out hb2; have L2 : Hid (w2.ownsRow w.heap.size 3 1 lv (elems s).length (intsOf (elems s))) := row_mono hl H1.out.size; clear hb2 hl a0 a1 a2 a3; obtain ⟨a0, a1, a2, a3⟩ := A2.out.cells; have z2 := A2.out.lt; obtain ⟨pl, cl, rfl⟩ := own_slice L2.out) | (gi_at_call 6; refine (callsIn_wide.2 (all_any s _)).mono ?_; rintro e w' ⟨rfl, rfl⟩)
  have hSt : St w s k (.slice pl (elems s).length cl) w2.heap.size (w2.heap.size + 1) (((w2.alloc (.cells #[.slice pl (elems s).length cl] 26)).alloc (.cells #[.int .u64 (wd (s) 0), .int .u64 (wd (s) 1), .int .u64 (wd (s) 2), .int .u64 (wd (s) 3)] 24)).alloc (.cells #[.int .i64 0] 3)) := by
    have b1 := ((Boxed.new w2 26 (.slice pl (elems s).length cl)).alloc (.cells #[.int .u64 (wd (s) 0), .int .u64 (wd (s) 1), .int .u64 (wd (s) 2), .int .u64 (wd (s) 3)] 24)).alloc (.cells #[.int .i64 0] 3)
    have b2 := (SetAt.new (w2.alloc (.cells #[.slice pl (elems s).length cl] 26)) s).alloc (.cells #[.int .i64 0] 3)
    rw [World.size_alloc] at b2
    exact ⟨((A2.out.alloc _).alloc _).alloc _, ((K2.out.alloc _).alloc _).alloc _, ((R2.out.alloc _).alloc _).alloc _, b1, b2, ((L2.out.alloc _).alloc _).alloc _, ((H2.out.alloc H2.out.size _).alloc (Nat.le_trans H2.out.size (by simp)) _).alloc (Nat.le_trans H2.out.size (by simp <;> omega)) _⟩
  have bT : Boxed (((w2.alloc (.cells #[.slice pl (elems s).length cl] 26)).alloc (.cells #[.int .u64 (wd (s) 0), .int .u64 (wd (s) 1), .int .u64 (wd (s) 2), .int .u64 (wd (s) 3)] 24)).alloc (.cells #[.int .i64 0] 3)) (w2.heap.size + 1 + 1) 3 (.int .i64 0) := by
    have h := Boxed.new ((w2.alloc (.cells #[.slice pl (elems s).length cl] 26)).alloc (.cells #[.int .u64 (wd (s) 0), .int .u64 (wd (s) 1), .int .u64 (wd (s) 2), .int .u64 (wd (s) 3)] 24)) 3 (.int .i64 0)
    rw [World.size_alloc, World.size_alloc] at h
    exact h
  obtain ⟨V, hV⟩ : ∃ V, (((w2.alloc (.cells #[.slice pl (elems s).length cl] 26)).alloc (.cells #[.int .u64 (wd (s) 0), .int .u64 (wd (s) 1), .int .u64 (wd (s) 2), .int .u64 (wd (s) 3)] 24)).alloc (.cells #[.int .i64 0] 3)) = V := ⟨_, rfl⟩
  rw [hV] at hSt bT ⊢
  have HS0 : Hid (St w s k (.slice pl (elems s).length cl) w2.heap.size (w2.heap.size + 1) V) := hSt
  have HT0 : Hid (Boxed V (w2.heap.size + 1 + 1) 3 (.int .i64 0)) := bT
  have tc := bT.cell
  clear hV hSt bT H1 A1 K1 R1 A2 K2 R2 L2 HB0 a0 a1 a2 a3
  have hel := elems_length s
  refine wpIn_wide.2 (wp_loop_unr 3 (unr_succ ((wpIn_wide (n := n)).1 ?_)))
  gi_wp2
  refine all_range hn 10 33 (w2.heap.size + 1) V.heap.size s rfl rfl (HS0.out.2.2.2.2.1.alloc _) ((HT.out.below HS0.out.2.2.2.2.2.2).below ((Below.refl _ _).alloc (Nat.le_refl _) _)) (Nat.lt_of_lt_of_le HT.out.1 HS0.out.2.2.2.2.2.2.size) (by simp)
    (fun pre W => Boxed W V.heap.size 3 (.int .i64 (pre.length : Nat)) ∧ Below V.heap.size V W)
    (fun pre W => ((pre.length : Int) = k ∧ 1 ≤ k) ∧ Boxed W V.heap.size 3 (.int .i64 (pre.length : Nat)) ∧ Below V.heap.size V W)
    (OwnFrom.and (Own.from (boxed_own _ _ (fun pre : List B8 => .int .i64 (pre.length : Nat))) _) (ownFrom_below (Nat.le_refl _) (by simp)))
    (OwnFrom.and (fun _ _ _ _ hs _ _ => hs) (OwnFrom.and (Own.from (boxed_own _ _ (fun pre : List B8 => .int .i64 (pre.length : Nat))) _) (ownFrom_below (Nat.le_refl _) (by simp))))
    ⟨Boxed.new V _ _, (Below.refl _ _).alloc (Nat.le_refl _) _⟩
    (fun D W => ∃ m : Int, Boxed W V.heap.size 3 (.int .i64 m) ∧ (1 ≤ k ∨ m = ((elems s).length : Int)) ∧ Below V.heap.size V W ∧ V.heap.size < D ∧ W.heap[D]? = some (.deferred (some [])))
    ?assign ?body ?done ?stop ?rest
  case assign =>
    intro l x W K hK
    gi_wp2
    exact hK
  case done => exact fun D W hD hi hK => ⟨_, hi.1, .inr rfl, hi.2, by simp at hD; omega, hK⟩
  case stop => exact fun D pre W hD hp hi hK => ⟨_, hi.2.1, .inl hi.1.2, hi.2.2, by simp at hD; omega, hK⟩
  case body =>
    rintro l pre x W ⟨hN, hB⟩ hlt
    have HSW : Hid (St w s k (.slice pl (elems s).length cl) w2.heap.size (w2.heap.size + 1) W) := HS0.out.below hB
    have tW := (Boxed.below HT0.out hB).cell
    have kW := HSW.out.2.1.cell
    have rW := HSW.out.2.2.1.cell
    have rF := HSW.out.2.2.1.frozen
    have wW := HSW.out.2.2.2.1.cell
    obtain ⟨g, cap, hlv, hg0, hg1, hc1, hc2, hcell, curL, hcurL⟩ := int_cell HSW.out.2.2.2.2.2.1 pre.length hlt
    cases hlv
    have HPX : Hid (pre ++ [x] <+: elems s → (elems s)[pre.length].1 = x.1) := fun h => prefix_next h hlt
    generalize (elems s)[pre.length].1 = y at hcell HPX
    have nc := hN.cell
    have nf := hN.frozen
    have i1 : (pre.length : Int) < ((elems s).length : Int) := by omega
    unfold maxLen at hc2
    simp only [roundAct, List.setIfInBounds_toArray, List.set_cons_succ, List.set_cons_zero]
    by_cases hy : y = x.1
    case neg =>
      have hy' : (y != x.1) = true := by simpa using hy
      have HX : Hid (¬ pre ++ [x] <+: elems s) := fun h => hy (HPX.out h)
      clear hy
      gi_wp2
      exact ⟨(KeepsOthers.setCell _ _ _).from _, .inl HX.out⟩
    have hy' : (y != x.1) = false := by simpa using hy
    clear hy HPX
    have hBs := HS0.out.2.2.2.2.1.lt
    have hBt := HT0.out.lt
    have hBk := HS0.out.2.1.lt
    have hBt' := Nat.ne_of_lt hBt
    have hBk' := Nat.ne_of_lt hBk
    have N' := hN.set (.int .i64 ((pre.length : Int) + 1))
    have HN' : Hid (Boxed (W.setCell ⟨V.heap.size, 0, none⟩ (.int .i64 ((pre.length : Int) + 1))) V.heap.size 3 (.int .i64 ((pre ++ [x]).length : Nat))) := by simpa [Hid] using N'
    clear N'
    by_cases hk : (pre.length : Int) + 1 = k
    · have hkb : ((pre.length : Int) + 1 == k) = true := by simpa using hk
      have HK : Hid (((pre ++ [x]).length : Int) = k ∧ 1 ≤ k) := ⟨by simpa using hk, by omega⟩
      clear hk
      gi_wp2
      exact ⟨(KeepsOthers.setCell _ _ _).from _, .inr ⟨rfl, HK.out, HN'.out, hB.setCell (by simp) _⟩⟩
    · have hkb : ((pre.length : Int) + 1 == k) = false := by simpa using hk
      clear hk
      gi_wp2
      exact ⟨(KeepsOthers.setCell _ _ _).from _, ⟨(Below.refl _ _).setCell (by simp) _, fun hs => hs.setCell (by simp; omega) _⟩, HN'.out, hB.setCell (by simp) _⟩
  case rest =>
    rintro D W ⟨m, hN, hmk, hB, hD, hK⟩
    simp only [behindAct]
    have HSW : Hid (St w s k (.slice pl (elems s).length cl) w2.heap.size (w2.heap.size + 1) W) := HS0.out.below hB
    have tW := (Boxed.below HT0.out hB).cell
    have kW := HSW.out.2.1.cell
    have wW := HSW.out.2.2.2.1.cell
    have nW := hN.cell
    have hc : (k ≤ 0 ∧ m = ((elems s).length : Int)) ∨ 1 ≤ k := by omega
    have hwD : w.heap.size ≤ D := by have := HS0.out.2.2.2.2.2.2.size; omega
    have hDW : D < W.heap.size := (Array.getElem?_eq_some_iff.1 hK).1
    have HKW : Hid (W.heap[D]? = some (.deferred (some []))) := hK
    clear hmk hK
    rcases hc with ⟨hk0, rfl⟩ | hk0
    all_goals
      gi_wp2
      have hS2 : St w s k (.slice pl (elems s).length cl) w2.heap.size (w2.heap.size + 1) (W.alloc (.cells #[.int .i64 1] 3)) := HSW.out.below ((Below.refl _ _).alloc (Nat.le_refl _) _)
      have bT2 := Boxed.new W 3 (.int .i64 1)
      have bK2 : (W.alloc (.cells #[.int .i64 1] 3)).heap[D]? = some (.deferred (some [])) := (Below.heap_alloc W _ D hDW).trans HKW.out
      have hDV : D < (W.alloc (.cells #[.int .i64 1] 3)).heap.size := by simp; omega
      obtain ⟨V2, hV2⟩ : ∃ V2, W.alloc (.cells #[.int .i64 1] 3) = V2 := ⟨_, rfl⟩
      rw [hV2] at hS2 bT2 bK2 hDV ⊢
      have HS2 : Hid (St w s k (.slice pl (elems s).length cl) w2.heap.size (w2.heap.size + 1) V2) := hS2
      have HT2 : Hid (Boxed V2 W.heap.size 3 (.int .i64 1)) := bT2
      have HK2 : Hid (V2.heap[D]? = some (.deferred (some []))) := bK2
      have tc2 := bT2.cell
      clear hV2 hS2 bT2 bK2 tW kW wW nW hN hB HSW HKW tc HS0 HT0
      refine unr_succ ((wpIn_wide (n := n)).1 ?_)
      gi_wp2
      refine all_range hn 10 33 (w2.heap.size + 1) V2.heap.size s rfl rfl (HS2.out.2.2.2.2.1.alloc _) ((HT.out.below HS2.out.2.2.2.2.2.2).below ((Below.refl _ _).alloc (Nat.le_refl _) _)) (Nat.lt_of_lt_of_le HT.out.1 HS2.out.2.2.2.2.2.2.size) (by simp)
        (fun pre W => Boxed W V2.heap.size 3 (.int .i64 (pre.length : Nat)) ∧ Below V2.heap.size V2 W) (fun _ _ => False)
        (OwnFrom.and (Own.from (boxed_own _ _ (fun pre : List B8 => .int .i64 (pre.length : Nat))) _) (ownFrom_below (Nat.le_refl _) (by simp)))
        (fun _ _ _ _ hs _ _ => hs)
        ⟨Boxed.new V2 _ _, (Below.refl _ _).alloc (Nat.le_refl _) _⟩
        (fun D W => Boxed W V2.heap.size 3 (.int .i64 ((elems s).length : Nat)) ∧ Below V2.heap.size V2 W ∧ V2.heap.size < D ∧ W.heap[D]? = some (.deferred (some [])))
        ?_ ?_ ?_ ?_ ?_
      · intro l x W K hK
        gi_wp2
        exact hK
      · rintro l pre x X ⟨hN, hB⟩ hlt
        have HSX : Hid (St w s k (.slice pl (elems s).length cl) w2.heap.size (w2.heap.size + 1) X) := HS2.out.below hB
        have tX := (Boxed.below HT2.out hB).cell
        have rX := HSX.out.2.2.1.cell
        have rF := HSX.out.2.2.1.frozen
        have wX := HSX.out.2.2.2.1.cell
        obtain ⟨g, cap, hlv, hg0, hg1, hc1, hc2, hcell, curL, hcurL⟩ := int_cell HSX.out.2.2.2.2.2.1 pre.length hlt
        cases hlv
        have HPX : Hid (pre ++ [x] <+: elems s → (elems s)[pre.length].1 = x.1) := fun h => prefix_next h hlt
        generalize (elems s)[pre.length].1 = y at hcell HPX
        have nc := hN.cell
        have nf := hN.frozen
        have i1 : (pre.length : Int) < ((elems s).length : Int) := by omega
        unfold maxLen at hc2
        simp only [roundAct, List.setIfInBounds_toArray, List.set_cons_succ, List.set_cons_zero]
        by_cases hy : y = x.1
        case neg =>
          have hy' : (y != x.1) = true := by simpa using hy
          have HX : Hid (¬ pre ++ [x] <+: elems s) := fun h => hy (HPX.out h)
          clear hy
          gi_wp2
          exact ⟨(KeepsOthers.setCell _ _ _).from _, .inl HX.out⟩
        have hy' : (y != x.1) = false := by simpa using hy
        clear hy HPX
        have hBs := HS2.out.2.2.2.2.1.lt
        have hBt := HT2.out.lt
        have hBt' := Nat.ne_of_lt hBt
        have N' := hN.set (.int .i64 ((pre.length : Int) + 1))
        have HN' : Hid (Boxed (X.setCell ⟨V2.heap.size, 0, none⟩ (.int .i64 ((pre.length : Int) + 1))) V2.heap.size 3 (.int .i64 ((pre ++ [x]).length : Nat))) := by simpa [Hid] using N'
        clear N'
        gi_wp2
        exact ⟨(KeepsOthers.setCell _ _ _).from _, ⟨(Below.refl _ _).setCell (by simp) _, fun hs => hs.setCell (by simp; omega) _⟩, HN'.out, hB.setCell (by simp) _⟩
      · exact fun D W hD hi hK => ⟨hi.1, hi.2, by simp at hD; omega, hK⟩
      · exact fun D pre W hD hp hi hK => hi.elim
      · rintro D2 W2 ⟨hN, hB, hD2, hK2⟩
        simp only [behindAct]
        have HSW : Hid (St w s k (.slice pl (elems s).length cl) w2.heap.size (w2.heap.size + 1) W2) := HS2.out.below hB
        have HKA : Hid (W2.heap[D]? = some (.deferred (some []))) := (hB.block D hDV).trans HK2.out
        have HKB : Hid (W2.heap[D2]? = some (.deferred (some []))) := hK2
        have HDD : Hid (D ≠ D2) := by show D ≠ D2; omega
        have tW := (Boxed.below HT2.out hB).cell
        have wW := HSW.out.2.2.2.1.cell
        have nW := hN.cell
        have hwD2 : w.heap.size ≤ D2 := by have := HS2.out.2.2.2.2.2.2.size; omega
        have hD2W : D2 < W2.heap.size := (Array.getElem?_eq_some_iff.1 hK2).1
        have hDW2 : D < W2.heap.size := (Array.getElem?_eq_some_iff.1 HKA.out).1
        clear hK2 hN hB HS2 HT2 HK2 tc2
        gi_wp2
        have hS3 : St w s k (.slice pl (elems s).length cl) w2.heap.size (w2.heap.size + 1) (W2.alloc (.cells #[.int .i64 2] 3)) := HSW.out.below ((Below.refl _ _).alloc (Nat.le_refl _) _)
        have bT3 := Boxed.new W2 3 (.int .i64 2)
        have bKA : (W2.alloc (.cells #[.int .i64 2] 3)).heap[D]? = some (.deferred (some [])) := (Below.heap_alloc W2 _ D hDW2).trans HKA.out
        have bKB : (W2.alloc (.cells #[.int .i64 2] 3)).heap[D2]? = some (.deferred (some [])) := (Below.heap_alloc W2 _ D2 hD2W).trans HKB.out
        obtain ⟨V3, hV3⟩ : ∃ V3, W2.alloc (.cells #[.int .i64 2] 3) = V3 := ⟨_, rfl⟩
        rw [hV3] at hS3 bT3 bKA bKB ⊢
        have HS3 : Hid (St w s k (.slice pl (elems s).length cl) w2.heap.size (w2.heap.size + 1) V3) := hS3
        have HKC : Hid (V3.heap[D]? = some (.deferred (some [])) ∧ V3.heap[D2]? = some (.deferred (some []))) := ⟨bKA, bKB⟩
        have tc3 := bT3.cell
        clear hV3 hS3 bT3 bKA bKB tW wW nW HSW HKA HKB
        obtain ⟨a0, a1, a2, a3⟩ := HS3.out.1.cells
        have HRL : Hid ((rngs (elems s)).length ≤ 256) := Nat.le_trans (rngs_length _) hel
        refine unr_succ ((wpIn_wide (n := n)).1 ?_)
        gi_wp2_with first | (gi_at_call 7; refine (callsIn_wide.2 (rRanges s _)).mono ?_; rintro e X1 ⟨wv, rfl, hrow, hb⟩; have HS4 : Hid (St w s k (.slice pl (elems s).length cl) w2.heap.size (w2.heap.size + 1) X1) := HS3.out.below hb; have HW4 : Hid (X1.ownsRow 0 35 2 wv (rngs (elems s)).length (flat (rngs (elems s)))) := row_mono hrow (Nat.zero_le _); have HK4 : Hid (X1.heap[D]? = some (.deferred (some [])) ∧ X1.heap[D2]? = some (.deferred (some []))) := ⟨(hb.block D (Array.getElem?_eq_some_iff.1 HKC.out.1).1).trans HKC.out.1, (hb.block D2 (Array.getElem?_eq_some_iff.1 HKC.out.2).1).trans HKC.out.2⟩; clear hrow hb a0 a1 a2 a3 tc3; obtain ⟨a0, a1, a2, a3⟩ := HS4.out.1.cells) | (gi_at_call 8; refine (callsIn_wide.2 (ranges_any s _ (HT.out.below HS4.out.2.2.2.2.2.2))).mono ?_; rintro e X2 ⟨xv, rfl, hrow, _, hb⟩; have HX5 : Hid (X2.ownsRow X1.heap.size 35 2 xv (rngs (elems s)).length (flat (rngs (elems s)))) := hrow; have HB5 : Hid (Below X1.heap.size X1 X2) := hb; clear hrow hb) | (gi_at_call 9; refine (callsIn_wide.2 (same_any (rngs (elems s)) _ _ _ (RowAt.of_own HX5.out) (RowAt.of_own (row_below HW4.out HB5.out)))).mono ?_; rintro e X3 ⟨rfl, hb⟩; have HX6 : Hid (X3.ownsRow X1.heap.size 35 2 xv (rngs (elems s)).length (flat (rngs (elems s)))) := row_below HX5.out hb; have HB6 : Hid (Below X1.heap.size X1 X3) := chain HB5.out hb; clear hb; obtain ⟨px, cx, rfl⟩ := own_slice HX6.out)
        gi_loopw [14] (fun i wr => ∃ j : Nat, j ≤ (rngs (elems s)).length ∧ i = .int .i64 j ∧ XRow wr X1.heap.size (.slice px (rngs (elems s)).length cx) (rngs (elems s)).length ∧ Below X1.heap.size X1 wr) (fun i _ => (rngs (elems s)).length - (intOf i).toNat)
        case atStart => exact ⟨0, by omega, rfl, XRow.of_own HX6.out, HB6.out⟩
        case round =>
          obtain ⟨j, hj, rfl, hx, hb⟩ := hrel
          have HBR : Hid (Below X1.heap.size X1 wr) := hb
          clear hb HX5 HX6 HB5 HB6
          have hrl := HRL.out
          by_cases hlt : j < (rngs (elems s)).length
          · rcases hx with hx | ⟨g, cap, cur, hx, hc1, hc2, hg1, hg2, hsz⟩
            · omega
            · cases hx
              have c1 : ∃ u, wr.cell? ⟨g, j * 2, none⟩ = some u := ⟨_, by simp [World.cell?, hg2, Array.getElem?_eq_getElem (show j * 2 < cur.size by omega)]; rfl⟩
              have c2 : ∃ u, wr.cell? ⟨g, j * 2 + 1, none⟩ = some u := ⟨_, by simp [World.cell?, hg2, Array.getElem?_eq_getElem (show j * 2 + 1 < cur.size by omega)]; rfl⟩
              have f1 : ∀ o, wr.frozen? ⟨g, o, none⟩ = false := fun o => by simp [World.frozen?, hg2]
              obtain ⟨y1, c1⟩ := c1
              obtain ⟨y2, c2⟩ := c2
              have HG2 : Hid (wr.heap[g]? = some (.cells cur 35 (0, 0))) := hg2
              clear hg2
              unfold maxLen at hc2
              have j1 : (j : Int) < ((rngs (elems s)).length : Int) := by omega
              gi_wp2
              refine ⟨⟨j + 1, by omega, by go_num, .inr ⟨g, cx, _, rfl, hc1, by unfold maxLen; omega, hg1, heap_setCell_in (heap_setCell_in HG2.out _ _) _ _, by simpa using hsz⟩, (HBR.out.setCell hg1 _).setCell hg1 _⟩, by simp [intOf]; omega⟩
          · have HS5 : Hid (St w s k (.slice pl (elems s).length cl) w2.heap.size (w2.heap.size + 1) wr) := HS4.out.below HBR.out
            have HW5 : Hid (wr.ownsRow 0 35 2 wv (rngs (elems s)).length (flat (rngs (elems s)))) := row_below HW4.out HBR.out
            clear hx a0 a1 a2 a3
            obtain ⟨a0, a1, a2, a3⟩ := HS5.out.1.cells
            gi_wp2_with first | (gi_at_call 8; refine (callsIn_wide.2 (ranges_any s _ (HT.out.below HS5.out.2.2.2.2.2.2))).mono ?_; rintro e X5 ⟨yv, rfl, hrow, _, hb⟩; have HY6 : Hid (X5.ownsRow wr.heap.size 35 2 yv (rngs (elems s)).length (flat (rngs (elems s)))) := hrow; have HB7 : Hid (Below wr.heap.size wr X5) := hb; clear hrow hb) | (gi_at_call 9; refine (callsIn_wide.2 (same_any (rngs (elems s)) _ _ _ (RowAt.of_own HY6.out) (RowAt.of_own (row_below HW5.out HB7.out)))).mono ?_; rintro e X6 ⟨rfl, hb⟩; have HB8 : Hid (Below wr.heap.size wr X6) := chain HB7.out hb; clear hb; have HS6 : Hid (St w s k (.slice pl (elems s).length cl) w2.heap.size (w2.heap.size + 1) X6) := HS5.out.below HB8.out; have rc := HS6.out.2.2.1.cell; have rf := HS6.out.2.2.1.frozen)
            have hKY : (X6.setCell ⟨w.heap.size + 1 + 1, 0, none⟩ (.bool true)).heap[D]? = some (.deferred (some [])) ∧ (X6.setCell ⟨w.heap.size + 1 + 1, 0, none⟩ (.bool true)).heap[D2]? = some (.deferred (some [])) := by
              have hb := chain HBR.out HB8.out
              have q1 := (hb.block D (Array.getElem?_eq_some_iff.1 HK4.out.1).1).trans HK4.out.1
              have q2 := (hb.block D2 (Array.getElem?_eq_some_iff.1 HK4.out.2).1).trans HK4.out.2
              exact ⟨(KeepsOthers.setCell X6 _ _).same D _ q1 rfl, (KeepsOthers.setCell X6 _ _).same D2 _ q2 rfl⟩
            have hRY := HS6.out.2.2.1.set (.bool true)
            have hBY : Below w.heap.size w (X6.setCell ⟨w.heap.size + 1 + 1, 0, none⟩ (.bool true)) := HS6.out.2.2.2.2.2.2.setCell (by simp; omega) _
            clear rc rf
            generalize X6.setCell ⟨w.heap.size + 1 + 1, 0, none⟩ (.bool true) = Y at hKY hRY hBY ⊢
            obtain ⟨kA, kB⟩ := hKY
            have nA : w.heap.size + 1 + 1 ≠ D := fun e => by rw [← e, show Y.heap[w.heap.size + 1 + 1]? = _ from hRY] at kA; cases kA
            have nB : w.heap.size + 1 + 1 ≠ D2 := fun e => by rw [← e, show Y.heap[w.heap.size + 1 + 1]? = _ from hRY] at kB; cases kB
            have kA' : (Y.putObj D2 (.deferred none)).heap[D]? = some (.deferred (some [])) := (World.putObj_heap_other HDD.out).trans kA
            have s1 : Boxed (Y.putObj D2 (.deferred none)) (w.heap.size + 1 + 1) 4 (.bool true) := (World.putObj_heap_other nB).trans hRY
            have s2 : Boxed ((Y.putObj D2 (.deferred none)).putObj D (.deferred none)) (w.heap.size + 1 + 1) 4 (.bool true) := (World.putObj_heap_other nA).trans s1
            have cY := s2.cell
            refine ⟨by simp, .inl ⟨_, _, rfl, run_takeDeferred kB, ?_⟩⟩
            refine ⟨by simp, .inl ⟨_, _, rfl, run_takeDeferred kA', ?_⟩⟩
            exact ⟨.bool true, by simp [results, Tryd.results3, go_sem, cY], rfl, (hBY.trans (belowK_b (w := w) (Nat.le_refl _) Y D2 _ _ hwD2 kB rfl rfl)).trans (belowK_b (w := w) (Nat.le_refl _) _ D _ _ hwD kA' rfl rfl)⟩

/-- The law SetsAll: true, of every set and number. -/
theorem law_all (s : S) (k : Int) (w : World) (hT : Tab w) : Calls Tryd.prog 3 #[.agg #[.int .u64 (wd (s) 0), .int .u64 (wd (s) 1), .int .u64 (wd (s) 2), .int .u64 (wd (s) 3)], .int .i64 k] w fun e W' => e = .returned (.bool true) ∧ Below w.heap.size w W' :=
  callsIn_wide.1 (all_in 3 (Nat.le_refl _) s k w hT)
end Go.Proofs.YtcaijlmffdfhgabDoor
