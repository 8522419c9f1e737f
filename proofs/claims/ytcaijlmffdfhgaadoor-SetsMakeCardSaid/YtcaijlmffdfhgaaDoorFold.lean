/-
  What sets.Fold answers, of any set, where the library's table lies: the world behind has new blocks alone.
-/
import Derived.Test.YtcaijlmffdfhgaaDoorOf
namespace Go.Proofs.YtcaijlmffdfhgaaDoor
open Go Go.RowKit Go.Shelf
attribute [local go_sem] Oper.semAt_some

/-- A letter's other case. -/
def oc (b : Int) : Int := if 65 ≤ b ∧ b ≤ 90 then b + 32 else if 97 ≤ b ∧ b ≤ 122 then b - 32 else b

set_option maxHeartbeats 1000000 in
theorem other_any (b : Int) (w : World) (h0 : 0 ≤ b) (h1 : b ≤ 255) :
    Calls Tryd.prog 39 #[.int .i64 b] w fun e w' => e = .returned (.int .i64 (oc b)) ∧ w' = w := by
  have hq : b < 65 ∨ (65 ≤ b ∧ b ≤ 90) ∨ (90 < b ∧ b < 97) ∨ (97 ≤ b ∧ b ≤ 122) ∨ 122 < b := by omega
  rcases hq with h | ⟨h, h'⟩ | ⟨h, h'⟩ | ⟨h, h'⟩ | h
  all_goals
    go_enter Tryd.func39, Tryd.ntmps39
    go_wp2
    go_ret
    exact ⟨by unfold oc; (first | rw [if_pos (by omega)] | rw [if_neg (by omega), if_pos (by omega)] | rw [if_neg (by omega), if_neg (by omega)]); rfl, rfl⟩

def foldF (s : S) (l : List B8) : S := l.foldl (fun acc x => sor acc (sonly (oc x.1))) s
def sfold (s : S) : S := foldF s (elems s)
theorem foldF_snoc (s : S) (l : List B8) (x : B8) : foldF s (l ++ [x]) = sor (foldF s l) (sonly (oc x.1)) := by simp [foldF]

theorem SetAt.new0 (W : World) : SetAt (W.alloc (.cells #[.int .u64 0, .int .u64 0, .int .u64 0, .int .u64 0] 24)) W.heap.size (0#256) := by
  unfold SetAt
  rw [wd_nil0, wd_nil0, wd_nil0, wd_nil0]
  exact World.alloc_heap_new W _
theorem setAt_own {β : Type} (B : Nat) (f : β → S) : Own (fun pre W => SetAt W B (f pre)) := by
  intro s W W' row h hg hr
  refine (hg.block B h.lt (fun e => ?_)).trans h
  obtain ⟨_, ho, hc⟩ := hr B e.symm
  rw [show W.heap[B]? = _ from h] at ho
  cases ho
  cases hc
theorem keeps_below {W W' : World} (hb : Below W.heap.size W W') : KeepsOthers W W' :=
  ⟨hb.size, fun k _ hk _ => (hb.block k (Array.getElem?_eq_some_iff.1 hk).1).trans hk⟩
theorem keeps_set4 {W W' : World} (hk : KeepsOthers W W') (a0 a1 a2 a3 : Addr) (v0 v1 v2 v3 : Value) : KeepsOthers W ((((W'.setCell a0 v0).setCell a1 v1).setCell a2 v2).setCell a3 v3) :=
  (((hk.trans (KeepsOthers.setCell _ _ _)).trans (KeepsOthers.setCell _ _ _)).trans (KeepsOthers.setCell _ _ _)).trans (KeepsOthers.setCell _ _ _)

set_option maxRecDepth 100000 in
set_option maxHeartbeats 2000000 in
theorem fold_in (n : Nat) (hn : 3 ≤ n) (s : S) (w : World) (hT : Tab w) :
    CallsIn Fence.wide n Tryd.prog 12 #[.agg #[.int .u64 (wd (s) 0), .int .u64 (wd (s) 1), .int .u64 (wd (s) 2), .int .u64 (wd (s) 3)]] w fun e W' => e = .returned (.agg #[.int .u64 (wd (sfold s) 0), .int .u64 (wd (sfold s) 1), .int .u64 (wd (sfold s) 2), .int .u64 (wd (sfold s) 3)]) ∧ Below w.heap.size w W' := by
  have h1 : 1 ≤ n := by omega
  have h2 : 1 ≤ n - 1 - 1 := by omega
  have hfn : ∀ f, Fence.wide.fn f := fun _ => trivial
  have hmix : Tryd.prog.follows .mixedOrders = true := by kernel_rfl
  have HT : Hid (Tab w) := hT
  clear hT
  refine callsIn_of_wp_marks Tryd.func12 rfl trivial ?_ rfl
  simp only [Tryd.ntmps12, List.size_toArray, List.length_cons, List.length_nil, Nat.reduceAdd, Nat.reduceSub, Array.replicate_succ, Array.replicate_zero, List.push_toArray, List.append_toArray, List.nil_append, List.cons_append]
  gi_wp2_with (gi_at_call 18; refine (callsIn_wide.2 (all_any s _)).mono ?_; rintro e w' ⟨rfl, rfl⟩)
  have bF := SetAt.new ((w.alloc (.cells #[.int .u64 (wd (s) 0), .int .u64 (wd (s) 1), .int .u64 (wd (s) 2), .int .u64 (wd (s) 3)] 24)).alloc (.cells #[.int .u64 0, .int .u64 0, .int .u64 0, .int .u64 0] 24)) s
  have bS := SetAt.new (((w.alloc (.cells #[.int .u64 (wd (s) 0), .int .u64 (wd (s) 1), .int .u64 (wd (s) 2), .int .u64 (wd (s) 3)] 24)).alloc (.cells #[.int .u64 0, .int .u64 0, .int .u64 0, .int .u64 0] 24)).alloc (.cells #[.int .u64 (wd (s) 0), .int .u64 (wd (s) 1), .int .u64 (wd (s) 2), .int .u64 (wd (s) 3)] 24)) s
  simp only [World.size_alloc] at bS bF
  have hB0 : Below (w.heap.size + 1 + 1) ((w.alloc (.cells #[.int .u64 (wd (s) 0), .int .u64 (wd (s) 1), .int .u64 (wd (s) 2), .int .u64 (wd (s) 3)] 24)).alloc (.cells #[.int .u64 0, .int .u64 0, .int .u64 0, .int .u64 0] 24)) ((((w.alloc (.cells #[.int .u64 (wd (s) 0), .int .u64 (wd (s) 1), .int .u64 (wd (s) 2), .int .u64 (wd (s) 3)] 24)).alloc (.cells #[.int .u64 0, .int .u64 0, .int .u64 0, .int .u64 0] 24)).alloc (.cells #[.int .u64 (wd (s) 0), .int .u64 (wd (s) 1), .int .u64 (wd (s) 2), .int .u64 (wd (s) 3)] 24)).alloc (.cells #[.int .u64 (wd (s) 0), .int .u64 (wd (s) 1), .int .u64 (wd (s) 2), .int .u64 (wd (s) 3)] 24)) := ((Below.refl _ _).alloc (by simp) _).alloc (by simp <;> omega) _
  have hB1 : Below w.heap.size w ((w.alloc (.cells #[.int .u64 (wd (s) 0), .int .u64 (wd (s) 1), .int .u64 (wd (s) 2), .int .u64 (wd (s) 3)] 24)).alloc (.cells #[.int .u64 0, .int .u64 0, .int .u64 0, .int .u64 0] 24)) := ((Below.refl _ _).alloc (Nat.le_refl _) _).alloc (by simp) _
  have hpos := HT.out.1
  refine wpIn_rangeFunc_ownG rfl h1 (gf := 41) (lb := #[.pointer (some ⟨w.heap.size + 1 + 1 + 1, 0, none⟩)]) rfl trivial (enters_of Tryd.func41 (by kernel_rfl) rfl)
    (all_stops (n - 1) (by omega) (w.heap.size + 1 + 1 + 1) (w.heap.size + 1 + 1) s _ bS ((HT.out.below hB1).below (hB0.mono (by simp))) (by omega) (by simp <;> omega)) kpS_t (kpS_b (by simp <;> omega)) (Below.refl _ _) (fun _ => rfl)
    (fun pre W => SetAt W (w.heap.size + 1 + 1) (foldF s pre) ∧ Below (w.heap.size + 1 + 1) ((w.alloc (.cells #[.int .u64 (wd (s) 0), .int .u64 (wd (s) 1), .int .u64 (wd (s) 2), .int .u64 (wd (s) 3)] 24)).alloc (.cells #[.int .u64 0, .int .u64 0, .int .u64 0, .int .u64 0] 24)) W)
    (fun _ _ _ => False)
    (OwnFrom.and (Own.from (setAt_own (w.heap.size + 1 + 1) (fun pre => foldF s pre)) _) (ownFrom_below (by simp) (by simp <;> omega)))
    (fun _ _ _ _ _ hs _ _ => hs)
    ⟨bF.alloc _, hB0⟩
    (fun x => { tmps := #[.agg #[.int .u64 (wd (s) 0), .int .u64 (wd (s) 1), .int .u64 (wd (s) 2), .int .u64 (wd (s) 3)], .pointer (some ⟨w.heap.size, 0, none⟩), .pointer (some ⟨w.heap.size + 1, 0, none⟩), .pointer (some ⟨w.heap.size + 1 + 1, 0, none⟩), .int .i64 x.1, .agg #[.int .u64 (wd (s) 0), .int .u64 (wd (s) 1), .int .u64 (wd (s) 2), .int .u64 (wd (s) 3)], .agg #[.int .u64 (wd (s) 0), .int .u64 (wd (s) 1), .int .u64 (wd (s) 2), .int .u64 (wd (s) 3)], .func (.func 41) #[] #[.pointer (some ⟨w.heap.size + 1 + 1 + 1, 0, none⟩)], .int .i64 x.1, undef, undef, undef, undef, undef], defers := [] }) ?assign ?body ?done ?stop
  case assign =>
    intro l x W K hK
    gi_wp2
    exact hK
  case body =>
    rintro l pre x W ⟨hF, hB⟩ hlt
    have hxb := x.2
    obtain ⟨F0, hF0⟩ : ∃ F0, foldF s pre = F0 := ⟨_, rfl⟩
    rw [hF0] at hF
    have HE : Hid (foldF s pre = F0) := hF0
    clear hF0
    obtain ⟨a0, a1, a2, a3⟩ := hF.cells
    have HF : Hid (SetAt W (w.heap.size + 1 + 1) F0) := hF
    clear hF
    gi_wp2
    gi_region_with_o (first
      | (gi_at_call 39; refine (CallsIn.inRound l (callsIn_wide.2 (other_any _ _ hxb.1 hxb.2))).mono ?_; rintro e w' ⟨rfl, rfl⟩)
      | (gi_at_call 21; refine (CallsIn.inRound l (callsIn_wide.2 (with_any _ _ _))).mono ?_; rintro e w1 ⟨rfl, hb0⟩; have hb1 : Below W.heap.size W w1 := (Below.refl _ _).drew.trans hb0; have s1 := HF.out.below hb1 HF.out.lt; obtain ⟨d0, d1, d2, d3⟩ := s1.cells; have f1 := s1.frozen))
    all_goals gi_wp2
    all_goals exact ⟨(keeps_set4 (keeps_below hb1) _ _ _ _ _ _ _ _).from _,
      ⟨((((hb1.mono (Nat.le_of_lt HF.out.lt)).setCell (by simp) _).setCell (by simp) _).setCell (by simp) _).setCell (by simp) _, fun hs => ((((hs.below hb1 hs.lt).setCell (by simp) _).setCell (by simp) _).setCell (by simp) _).setCell (by simp) _⟩,
      by rw [foldF_snoc, HE.out]; exact s1.store _, ((((hB.trans (hb1.mono (Nat.le_of_lt HF.out.lt))).setCell (by simp) _).setCell (by simp) _).setCell (by simp) _).setCell (by simp) _⟩
  case done =>
    rintro D ys W hD rfl ⟨hF, hB⟩ hK
    obtain ⟨a0, a1, a2, a3⟩ := hF.cells
    obtain ⟨e0, e1, e2, e3, fz⟩ := set_cells (w := w.alloc (.cells #[.int .u64 (wd (s) 0), .int .u64 (wd (s) 1), .int .u64 (wd (s) 2), .int .u64 (wd (s) 3)] 24)) (W := W) (by simpa using hB)
    rw [World.size_alloc] at e0 e1 e2 e3
    simp only [World.size_alloc] at fz
    have sT0 := SetAt.new0 (w.alloc (.cells #[.int .u64 (wd (s) 0), .int .u64 (wd (s) 1), .int .u64 (wd (s) 2), .int .u64 (wd (s) 3)] 24))
    rw [World.size_alloc] at sT0
    have sT := sT0.below hB (by omega)
    have s4 := sT.store (foldF s (elems s))
    have hK4 := (keeps_set4 (KeepsOthers.refl W) ⟨w.heap.size + 1, 0, none⟩ ⟨w.heap.size + 1, 1, none⟩ ⟨w.heap.size + 1, 2, none⟩ ⟨w.heap.size + 1, 3, none⟩ (.int .u64 (wd (foldF s (elems s)) 0)) (.int .u64 (wd (foldF s (elems s)) 1)) (.int .u64 (wd (foldF s (elems s)) 2)) (.int .u64 (wd (foldF s (elems s)) 3))).same D _ hK rfl
    have hne : w.heap.size + 1 ≠ D := fun e => by
      rw [← e] at hK4
      rw [show _ = _ from s4] at hK4
      cases hK4
    have HB4 : Hid (Below w.heap.size w ((((W.setCell ⟨w.heap.size + 1, 0, none⟩ (.int .u64 (wd (foldF s (elems s)) 0))).setCell ⟨w.heap.size + 1, 1, none⟩ (.int .u64 (wd (foldF s (elems s)) 1))).setCell ⟨w.heap.size + 1, 2, none⟩ (.int .u64 (wd (foldF s (elems s)) 2))).setCell ⟨w.heap.size + 1, 3, none⟩ (.int .u64 (wd (foldF s (elems s)) 3)))) :=
      ((((hB1.trans (hB.mono (by omega))).setCell (by simp) _).setCell (by simp) _).setCell (by simp) _).setCell (by simp) _
    have HS4 : Hid (SetAt ((((W.setCell ⟨w.heap.size + 1, 0, none⟩ (.int .u64 (wd (foldF s (elems s)) 0))).setCell ⟨w.heap.size + 1, 1, none⟩ (.int .u64 (wd (foldF s (elems s)) 1))).setCell ⟨w.heap.size + 1, 2, none⟩ (.int .u64 (wd (foldF s (elems s)) 2))).setCell ⟨w.heap.size + 1, 3, none⟩ (.int .u64 (wd (foldF s (elems s)) 3))) (w.heap.size + 1) (foldF s (elems s))) := s4
    have HK4 : Hid _ := hK4
    clear sT0 sT s4 hK4
    gi_wp2
    generalize ((((W.setCell ⟨w.heap.size + 1, 0, none⟩ (.int .u64 (wd (foldF s (elems s)) 0))).setCell ⟨w.heap.size + 1, 1, none⟩ (.int .u64 (wd (foldF s (elems s)) 1))).setCell ⟨w.heap.size + 1, 2, none⟩ (.int .u64 (wd (foldF s (elems s)) 2))).setCell ⟨w.heap.size + 1, 3, none⟩ (.int .u64 (wd (foldF s (elems s)) 3))) = W4 at HB4 HS4 HK4 ⊢
    have s5 : SetAt (W4.putObj D (.deferred none)) (w.heap.size + 1) (foldF s (elems s)) := (World.putObj_heap_other hne).trans HS4.out
    obtain ⟨c0, c1, c2, c3⟩ := s5.cells
    refine ⟨by simp, .inl ⟨_, _, rfl, run_takeDeferred HK4.out, ?_⟩⟩
    refine ⟨.agg #[.int .u64 (wd (sfold s) 0), .int .u64 (wd (sfold s) 1), .int .u64 (wd (sfold s) 2), .int .u64 (wd (sfold s) 3)], by simp [results, Tryd.results12, go_sem, c0, c1, c2, c3, sfold], rfl, HB4.out.trans (belowK_b (w := w) (Nat.le_refl _) W4 D _ _ (by simp at hD; omega) HK4.out rfl rfl)⟩
  case stop =>
    rintro D c pre W _ _ h _
    exact h.elim

/-- **sets.Fold, of every set.** -/
theorem fold_any (s : S) (w : World) (hT : Tab w) : Calls Tryd.prog 12 #[.agg #[.int .u64 (wd (s) 0), .int .u64 (wd (s) 1), .int .u64 (wd (s) 2), .int .u64 (wd (s) 3)]] w fun e W' => e = .returned (.agg #[.int .u64 (wd (sfold s) 0), .int .u64 (wd (sfold s) 1), .int .u64 (wd (sfold s) 2), .int .u64 (wd (sfold s) 3)]) ∧ Below w.heap.size w W' :=
  callsIn_wide.1 (fold_in 3 (Nat.le_refl _) s w hT)
end Go.Proofs.YtcaijlmffdfhgaaDoor
