/-
  The law SetsWalk, walked: Next, gone on from, tells what All tells, as often as Count says; each is there.
-/
import Derived.Test.YtcaijlmffdfhgaaDoorFold
import Derived.Test.YtcaijlmffdfhgaaDoorEach
namespace Go.Proofs.YtcaijlmffdfhgaaDoor
open Go Go.RowKit Go.Shelf
attribute [local go_sem] Oper.semAt_some ext_cell

/-- Where the walk goes on from: -3 at first. -/
def fr3 (pre : List B8) : Int := match pre.getLast? with | none => -3 | some b => b.1 + 1
theorem fr3_snoc (pre : List B8) (x : B8) : fr3 (pre ++ [x]) = x.1 + 1 := by simp [fr3]
theorem snext_low (s : S) (f : Int) (h : f ≤ 0) : snext s f = snext s 0 := by
  unfold snext
  congr 1
  funext n
  rw [decide_eq_true (show f ≤ (n : Int) by omega), decide_eq_true (show (0 : Int) ≤ (n : Int) by omega)]
theorem snext_fr3 (s : S) (pre : List B8) : snext s (fr3 pre) = snext s (fr pre) := by
  unfold fr3 fr
  cases pre.getLast? with
  | none => exact snext_low s (-3) (by decide)
  | some b => rfl
theorem fr3_bounds (pre : List B8) : -3 ≤ fr3 pre ∧ fr3 pre ≤ 256 := by
  unfold fr3
  cases pre.getLast? with
  | none => simp
  | some b => have := b.2; dsimp only; omega

theorem walk_step (s : S) (pre : List B8) (x : B8) (h : pre ++ [x] <+: elems s) : nextV s (fr3 pre) = x.1 ∧ nextB s (fr3 pre) = true ∧ shas s x.1 = true := by
  obtain ⟨rest, hr⟩ := h
  have h1 := next_some s pre x rest (by rw [← hr]; simp)
  have hx := x.2
  have e := snext_fr3 s pre
  unfold nextV nextB at h1 ⊢
  rw [e]
  refine ⟨h1.1, h1.2, ?_⟩
  rw [shas_eq, (mem_elems s x).1 (by rw [← hr]; simp), decide_eq_true (by omega)]; rfl
theorem walk_end (s : S) : nextB s (fr3 (elems s)) = false := by
  have := next_none s
  unfold nextB at this ⊢
  rw [snext_fr3]; exact this.2

theorem fn_nil (f : Fn) (a b : Array Value) (w : World) : (binOp .eql 36 (.func f a b) .nilFunc).run Tryd.prog w = .ok (.bool false) w := by kernel_rfl
attribute [local go_sem] fn_nil

theorem Boxed.below {W W' : World} {B : Nat} {t : TypeId} {v : Value} (h : Boxed W B t v) (hb : Below W.heap.size W W') : Boxed W' B t v := (hb.block B h.lt).trans h

set_option maxRecDepth 100000 in
set_option maxHeartbeats 2000000 in
theorem walk_in (n : Nat) (hn : 3 ≤ n) (s : S) (w : World) (hT : Tab w) :
    CallsIn Fence.wide n Tryd.prog 4 #[.agg #[.int .u64 (wd (s) 0), .int .u64 (wd (s) 1), .int .u64 (wd (s) 2), .int .u64 (wd (s) 3)]] w fun e W' => e = .returned (.bool true) ∧ Below w.heap.size w W' := by
  have h1 : 1 ≤ n := by omega
  have h2 : 1 ≤ n - 1 - 1 := by omega
  have hfn : ∀ f, Fence.wide.fn f := fun _ => trivial
  have HT : Hid (Tab w) := hT
  clear hT
  have HB0 : Hid (Below w.heap.size w ((w.alloc (.cells #[.int .u64 (wd (s) 0), .int .u64 (wd (s) 1), .int .u64 (wd (s) 2), .int .u64 (wd (s) 3)] 24)).alloc (.cells #[.bool false] 4))) := ((Below.refl _ _).alloc (Nat.le_refl _) _).alloc (by simp) _
  refine callsIn_of_wp_marks Tryd.func4 rfl trivial ?_ rfl
  simp only [Tryd.ntmps4, List.size_toArray, List.length_cons, List.length_nil, Nat.reduceAdd, Nat.reduceSub, Array.replicate_succ, Array.replicate_zero, List.push_toArray, List.append_toArray, List.nil_append, List.cons_append]
  gi_wp2_with (first
    | (gi_at_call 9; refine (callsIn_wide.2 (examples_any _ (HT.out.below HB0.out))).mono ?_; rintro e w1 ⟨rfl, hb1⟩; have H1 : Hid (Below w.heap.size w w1) := chain HB0.out hb1; have A1 : Hid (SetAt w1 w.heap.size s) := ((SetAt.new w s).alloc _).below hb1 (by simp <;> omega); have B1 : Hid (Boxed w1 (w.heap.size + 1) 4 (.bool false)) := (by have h := (Boxed.new (w.alloc (.cells #[.int .u64 (wd (s) 0), .int .u64 (wd (s) 1), .int .u64 (wd (s) 2), .int .u64 (wd (s) 3)] 24)) 4 (.bool false)); rw [World.size_alloc] at h; exact Boxed.below h hb1); clear hb1; obtain ⟨a0, a1, a2, a3⟩ := A1.out.cells)
    | (gi_at_call 18; refine (callsIn_wide.2 (all_any s _)).mono ?_; rintro e w' ⟨rfl, rfl⟩))
  have H2 : Hid (Below w.heap.size w (w1.alloc (.cells #[.int .u64 (wd (s) 0), .int .u64 (wd (s) 1), .int .u64 (wd (s) 2), .int .u64 (wd (s) 3)] 24))) := H1.out.alloc H1.out.size _
  have bS := ((SetAt.new w1 s).alloc (.cells #[.int .i64 0] 3)).alloc (.cells #[.int .i64 (-3)] 3)
  have bN := (Boxed.new (w1.alloc (.cells #[.int .u64 (wd (s) 0), .int .u64 (wd (s) 1), .int .u64 (wd (s) 2), .int .u64 (wd (s) 3)] 24)) 3 (.int .i64 0)).alloc (.cells #[.int .i64 (-3)] 3)
  have bF := Boxed.new ((w1.alloc (.cells #[.int .u64 (wd (s) 0), .int .u64 (wd (s) 1), .int .u64 (wd (s) 2), .int .u64 (wd (s) 3)] 24)).alloc (.cells #[.int .i64 0] 3)) 3 (.int .i64 (-3))
  have bA := ((A1.out.alloc (.cells #[.int .u64 (wd (s) 0), .int .u64 (wd (s) 1), .int .u64 (wd (s) 2), .int .u64 (wd (s) 3)] 24)).alloc (.cells #[.int .i64 0] 3)).alloc (.cells #[.int .i64 (-3)] 3)
  have bR := ((B1.out.alloc (.cells #[.int .u64 (wd (s) 0), .int .u64 (wd (s) 1), .int .u64 (wd (s) 2), .int .u64 (wd (s) 3)] 24)).alloc (.cells #[.int .i64 0] 3)).alloc (.cells #[.int .i64 (-3)] 3)
  simp only [World.size_alloc] at bN bF
  have hB0 : Below w.heap.size w (((w1.alloc (.cells #[.int .u64 (wd (s) 0), .int .u64 (wd (s) 1), .int .u64 (wd (s) 2), .int .u64 (wd (s) 3)] 24)).alloc (.cells #[.int .i64 0] 3)).alloc (.cells #[.int .i64 (-3)] 3)) := (H2.out.alloc H2.out.size _).alloc (Nat.le_trans H2.out.size (by simp)) _
  obtain ⟨W0, hW0⟩ : ∃ W0, ((w1.alloc (.cells #[.int .u64 (wd (s) 0), .int .u64 (wd (s) 1), .int .u64 (wd (s) 2), .int .u64 (wd (s) 3)] 24)).alloc (.cells #[.int .i64 0] 3)).alloc (.cells #[.int .i64 (-3)] 3) = W0 := ⟨_, rfl⟩
  rw [hW0] at bS bN bF bA bR hB0 ⊢
  have hsz := hB0.size
  have hw1 := H1.out.size
  have hBR := B1.out.lt
  have hpos := HT.out.1
  have HT0 : Hid (Tab W0) := HT.out.below hB0
  clear hW0 H1 H2 A1 B1 HB0 a0 a1 a2 a3
  refine wpIn_rangeFunc_ownG rfl h1 (gf := 41) (lb := #[.pointer (some ⟨w1.heap.size, 0, none⟩)]) rfl trivial (enters_of Tryd.func41 (by kernel_rfl) rfl)
    (all_stops (n - 1) (by omega) w1.heap.size w.heap.size s W0 bS HT0.out hpos hsz) kpS_t (kpS_b hsz) (Below.refl _ _) (fun _ => rfl)
    (fun pre W => (Boxed W (w1.heap.size + 1) 3 (.int .i64 (pre.length : Nat)) ∧ Boxed W (w1.heap.size + 1 + 1) 3 (.int .i64 (fr3 pre)) ∧ SetAt W w.heap.size s ∧ Boxed W (w.heap.size + 1) 4 (.bool false)) ∧ Below w.heap.size w W)
    (fun _ pre _ => ¬ pre <+: elems s)
    (OwnFrom.and (OwnFrom.and (Own.from (boxed_own _ _ (fun pre : List B8 => .int .i64 (pre.length : Nat))) _) (OwnFrom.and (Own.from (boxed_own _ _ (fun pre : List B8 => .int .i64 (fr3 pre))) _) (OwnFrom.and (Own.from (setAt_own _ (fun _ : List B8 => s)) _) (Own.from (boxed_own _ _ (fun _ : List B8 => .bool false)) _)))) (ownFrom_below (Nat.le_refl _) hsz))
    (fun _ _ _ _ _ hs _ _ => hs)
    ⟨⟨bN, bF, bA, bR⟩, hB0⟩
    (fun x => { tmps := #[.agg #[.int .u64 (wd (s) 0), .int .u64 (wd (s) 1), .int .u64 (wd (s) 2), .int .u64 (wd (s) 3)], .pointer (some ⟨w.heap.size, 0, none⟩), .pointer (some ⟨w.heap.size + 1, 0, none⟩), .bool true, .func (.func 41) #[] #[.pointer (some ⟨w1.heap.size, 0, none⟩)], .pointer (some ⟨w1.heap.size + 1, 0, none⟩), .pointer (some ⟨w1.heap.size + 1 + 1, 0, none⟩), .int .i64 x.1, undef, undef, undef, undef, .bool true, .agg #[.int .u64 (wd (s) 0), .int .u64 (wd (s) 1), .int .u64 (wd (s) 2), .int .u64 (wd (s) 3)], .func (.func 41) #[] #[.pointer (some ⟨w1.heap.size, 0, none⟩)], .bool true, .bool false, .bool false, .func (.func 41) #[] #[.pointer (some ⟨w1.heap.size, 0, none⟩)], .bool false, .bool false, .func (.func 41) #[] #[.pointer (some ⟨w1.heap.size, 0, none⟩)], .int .i64 x.1, undef, undef, undef, undef, undef, undef, undef, undef, undef, undef, undef, undef, undef, undef, undef, undef, undef, undef, undef, undef, undef, undef, undef, undef, undef, undef, undef, undef, undef, undef, undef, undef, undef, undef, undef, undef, undef, undef, undef, undef, undef, undef, undef, undef, undef], defers := [] }) ?assign ?body ?done ?stop
  case assign =>
    intro l x W K hK
    gi_wp2
    exact hK
  case body =>
    rintro l pre x W ⟨⟨hN, hF, hA, hR⟩, hB⟩ hlt
    have hxb := x.2
    have hel := elems_length s
    have HTW : Hid (Tab W) := HT.out.below hB
    have HW : Hid (pre ++ [x] <+: elems s → nextV s (fr3 pre) = x.1 ∧ nextB s (fr3 pre) = true ∧ shas s x.1 = true) := walk_step s pre x
    obtain ⟨f, hf⟩ : ∃ f, fr3 pre = f := ⟨_, rfl⟩
    rw [hf] at hF HW
    clear hf
    have a0 := hA.cell0
    have a1 := hA.cell1
    have a2 := hA.cell2
    have a3 := hA.cell3
    have nc := hN.cell
    have fc := hF.cell
    by_cases k1 : nextB s f = true
    case neg =>
      have k1' : nextB s f = false := by simpa using k1
      have HX : Hid (¬ pre ++ [x] <+: elems s) := fun h => k1 (HW.out h).2.1
      clear k1
      gi_wp2_with (gi_at_call 19; refine (CallsIn.inRound l (callsIn_wide.2 (next_any _ _ _ HTW.out))).mono ?_; rintro e w2 ⟨rfl, hb2⟩; have G2 : Hid (Below W.heap.size W w2) := hb2; obtain ⟨c0, c1, c2, c3⟩ := (hA.below hb2 hA.lt).cells; have r2 := (Boxed.below hR hb2).cell; have q2 := (Boxed.below hR hb2).frozen; clear hb2)
      exact ⟨((keeps_below G2.out).trans (KeepsOthers.setCell _ _ _)).from _, HX.out⟩
    by_cases k2 : nextV s f = x.1
    case neg =>
      have k2' : (nextV s f != x.1) = true := by simpa using k2
      have HX : Hid (¬ pre ++ [x] <+: elems s) := fun h => k2 (HW.out h).1
      clear k2
      gi_wp2_with (gi_at_call 19; refine (CallsIn.inRound l (callsIn_wide.2 (next_any _ _ _ HTW.out))).mono ?_; rintro e w2 ⟨rfl, hb2⟩; have G2 : Hid (Below W.heap.size W w2) := hb2; obtain ⟨c0, c1, c2, c3⟩ := (hA.below hb2 hA.lt).cells; have r2 := (Boxed.below hR hb2).cell; have q2 := (Boxed.below hR hb2).frozen; clear hb2)
      exact ⟨((keeps_below G2.out).trans (KeepsOthers.setCell _ _ _)).from _, HX.out⟩
    by_cases k3 : shas s x.1 = true
    case neg =>
      have k3' : shas s x.1 = false := by simpa using k3
      have HX : Hid (¬ pre ++ [x] <+: elems s) := fun h => k3 (HW.out h).2.2
      clear k3
      gi_wp2_with (first | (gi_at_call 19; refine (CallsIn.inRound l (callsIn_wide.2 (next_any _ _ _ HTW.out))).mono ?_; rintro e w2 ⟨rfl, hb2⟩; have G2 : Hid (Below W.heap.size W w2) := hb2; obtain ⟨c0, c1, c2, c3⟩ := (hA.below hb2 hA.lt).cells; have r2 := (Boxed.below hR hb2).cell; have q2 := (Boxed.below hR hb2).frozen; clear hb2) | (gi_at_call 20; refine (CallsIn.inRound l (callsIn_wide.2 (has_any _ _ _))).mono ?_; rintro e w3 ⟨rfl, hb3⟩; have G3 : Hid (Below W.heap.size W w3) := chain G2.out hb3; have r3 := (Boxed.below hR G3.out).cell; have q3 := (Boxed.below hR G3.out).frozen; have n3 := (Boxed.below hN G3.out).cell; have m3 := (Boxed.below hN G3.out).frozen; have f3 := (Boxed.below hF G3.out).cell; have g3 := (Boxed.below hF G3.out).frozen; clear hb3))
      exact ⟨((keeps_below G3.out).trans (KeepsOthers.setCell _ _ _)).from _, HX.out⟩
    gi_wp2_with (first | (gi_at_call 19; refine (CallsIn.inRound l (callsIn_wide.2 (next_any _ _ _ HTW.out))).mono ?_; rintro e w2 ⟨rfl, hb2⟩; have G2 : Hid (Below W.heap.size W w2) := hb2; obtain ⟨c0, c1, c2, c3⟩ := (hA.below hb2 hA.lt).cells; have r2 := (Boxed.below hR hb2).cell; have q2 := (Boxed.below hR hb2).frozen; clear hb2) | (gi_at_call 20; refine (CallsIn.inRound l (callsIn_wide.2 (has_any _ _ _))).mono ?_; rintro e w3 ⟨rfl, hb3⟩; have G3 : Hid (Below W.heap.size W w3) := chain G2.out hb3; have r3 := (Boxed.below hR G3.out).cell; have q3 := (Boxed.below hR G3.out).frozen; have n3 := (Boxed.below hN G3.out).cell; have m3 := (Boxed.below hN G3.out).frozen; have f3 := (Boxed.below hF G3.out).cell; have g3 := (Boxed.below hF G3.out).frozen; clear hb3))
    have N3 := Boxed.below hN G3.out
    have F3 := Boxed.below hF G3.out
    have R3 := Boxed.below hR G3.out
    have A3 := hA.below G3.out hA.lt
    refine ⟨(((keeps_below G3.out).trans (KeepsOthers.setCell _ _ _)).trans (KeepsOthers.setCell _ _ _)).from _,
      ⟨((G3.out.mono hB.size).setCell (by simp; omega) _).setCell (by simp; omega) _, fun hs => (((hs.below G3.out hs.lt).setCell (by simp <;> omega) _).setCell (by simp <;> omega) _)⟩,
      ⟨?_, ?_, (A3.setCell (by simp <;> omega) _).setCell (by simp <;> omega) _, (R3.other (by omega) _).other (by omega) _⟩,
      ((hB.trans (G3.out.mono hB.size)).setCell (by simp; omega) _).setCell (by simp; omega) _⟩
    · have := (N3.other (B' := w1.heap.size + 1 + 1) (by omega) (.int .i64 (x.1 + 1))).set (.int .i64 ((pre.length : Int) + 1))
      simpa using this
    · have := (F3.set (.int .i64 (x.1 + 1))).other (B' := w1.heap.size + 1) (by omega) (.int .i64 ((pre.length : Int) + 1))
      rw [fr3_snoc]
      simpa using this
  case done =>
    rintro D ys W hD rfl ⟨⟨hN, hF, hA, hR⟩, hB⟩ hK
    have E1 := walk_end s
    have HTW : Hid (Tab W) := HT.out.below hB
    obtain ⟨f, hf⟩ : ∃ f, fr3 (elems s) = f := ⟨_, rfl⟩
    rw [hf] at hF E1
    clear hf
    have a0 := hA.cell0
    have a1 := hA.cell1
    have a2 := hA.cell2
    have a3 := hA.cell3
    have nc := hN.cell
    have fc := hF.cell
    gi_wp2_with (gi_at_call 19; refine (callsIn_wide.2 (next_any _ _ _ HTW.out)).mono ?_; rintro e w2 ⟨rfl, hb2⟩)
    have N2 := Boxed.below hN hb2
    have A2 := hA.below hb2 hA.lt
    have R2 : Hid (Boxed w2 (w.heap.size + 1) 4 (.bool false)) := Boxed.below hR hb2
    have H2 : Hid (Below w.heap.size w w2) := chain hB hb2
    have K2 : Hid (w2.heap[D]? = some (.deferred (some []))) := (keeps_below hb2).same D _ hK rfl
    have hc : ((elems s).length : Int) = scount s := rfl
    rw [hc] at N2
    obtain ⟨d0, d1, d2, d3⟩ := A2.cells
    have nd := N2.cell
    have zA := A2.lt
    have zN := N2.lt
    clear a0 a1 a2 a3 nc fc hb2 hN hA hR hF hB hK N2 A2 hc bN bF bA bR bS
    refine wpIn_wide.2 ?_
    refine wp_region_last_lit (List.cons_ne_nil _ _) (by kernel_rfl) (by kernel_rfl) (by kernel_rfl) ?_
    dsimp only [List.dropLast, List.getLast]
    repeat (go_big_quiet_step (first | exact rfl | (go_at_call 17; exact ext_call (count_any _ _))))
    refine wpQuiet_nil ?_
    intro w3 hw
    have hb3 := ext_of hw
    clear hw
    have R3 := Boxed.below R2.out hb3
    have r3 := R3.cell
    have q3 := R3.frozen
    have HK4 : Hid ((w3.setCell ⟨w.heap.size + 1, 0, none⟩ (.bool true)).heap[D]? = some (.deferred (some []))) := ((keeps_below hb3).trans (KeepsOthers.setCell w3 _ _)).same D _ K2.out rfl
    have HR4 : Hid (Boxed (w3.setCell ⟨w.heap.size + 1, 0, none⟩ (.bool true)) (w.heap.size + 1) 4 (.bool true)) := R3.set (.bool true)
    have HB4 : Hid (Below w.heap.size w (w3.setCell ⟨w.heap.size + 1, 0, none⟩ (.bool true))) := (chain H2.out hb3).setCell (by simp) _
    go_wp2
    gi_wp2
    clear R3 r3 q3 hb3
    generalize w3.setCell ⟨w.heap.size + 1, 0, none⟩ (.bool true) = W4 at HK4 HR4 HB4 ⊢
    have hne : w.heap.size + 1 ≠ D := fun e => by
      have h := HK4.out
      rw [← e, show W4.heap[w.heap.size + 1]? = _ from HR4.out] at h
      cases h
    have s5 : Boxed (W4.putObj D (.deferred none)) (w.heap.size + 1) 4 (.bool true) := (World.putObj_heap_other hne).trans HR4.out
    have c5 := s5.cell
    refine ⟨by simp, .inl ⟨_, _, rfl, run_takeDeferred HK4.out, ?_⟩⟩
    refine ⟨.bool true, by simp [results, Tryd.results4, go_sem, c5], rfl, HB4.out.trans (belowK_b (w := w) (Nat.le_refl _) W4 D _ _ (by omega) HK4.out rfl rfl)⟩
  case stop =>
    rintro D c pre W _ hp h _
    exact absurd hp h

theorem law_walk (s : S) (w : World) (hT : Tab w) : Calls Tryd.prog 4 #[.agg #[.int .u64 (wd (s) 0), .int .u64 (wd (s) 1), .int .u64 (wd (s) 2), .int .u64 (wd (s) 3)]] w fun e W' => e = .returned (.bool true) ∧ Below w.heap.size w W' :=
  callsIn_wide.1 (walk_in 3 (Nat.le_refl _) s w hT)
end Go.Proofs.YtcaijlmffdfhgaaDoor
