/-
  Parts of the proof.
-/
import Derived.Test.YtbfhahhcacnckaaGreatDoorSamesProofB41
import Derived.Sort.OwnSortedInts
set_option linter.unusedSimpArgs false
namespace Go.Proofs.YtbfhahhcacnckaaGreatDoor
open Go Go.RowKit Go.Shelf
attribute [local go_sem] Oper.semAt_some
theorem cells_kept {W W' : World} {row : Option Nat} {B : Nat} (hg : W.grownBy W' row) (hr : ∀ r, row = some r → B ≤ r ∧ ∃ o : Obj, W.heap[r]? = some o ∧ o.isCells = false) {k : Nat} {cur : Array Value} {t : TypeId} {fr : Nat × Nat} (hc : W.heap[k]? = some (.cells cur t fr)) :
    W'.heap[k]? = some (.cells cur t fr) := by
  refine (hg.block k (lt_of_heap hc) (fun e => ?_)).trans hc
  obtain ⟨_, o, ho, hq⟩ := hr k e.symm
  rw [hc] at ho
  cases ho
  cases hq
def RowG (W : World) (g cap : Nat) (l : List Int) : Prop := ∃ cur, W.heap[g]? = some (.cells cur 3 (0, 0)) ∧ cur.size = cap ∧ cur.toList.take l.length = ints l
theorem RowG.lt {W : World} {g cap : Nat} {l : List Int} (h : RowG W g cap l) : g < W.heap.size := by obtain ⟨_, h, _⟩ := h; exact lt_of_heap h
theorem RowG.same {W W' : World} {g cap : Nat} {l : List Int} (h : RowG W g cap l) (e : W'.heap[g]? = W.heap[g]?) : RowG W' g cap l := by unfold RowG; rw [e]; exact h
theorem RowG.kept {W W' : World} {g cap : Nat} {l : List Int} (h : RowG W g cap l) (hb : Below W.heap.size W W') : RowG W' g cap l := h.same (hb.block _ h.lt)
theorem RowG.fr {S : Nat → Prop} {W W' : World} {g cap : Nat} {l : List Int} (h : RowG W g cap l) (hb : Fr S W W') (hg : ¬ S g) : RowG W' g cap l := h.same (hb.block _ h.lt hg)
theorem RowG.len {W : World} {g cap : Nat} {l : List Int} (h : RowG W g cap l) : l.length ≤ cap := by
  obtain ⟨cur, _, h2, h3⟩ := h
  have := congrArg List.length h3
  simp [ints_length, h2] at this
  omega
theorem RowG.cell {W : World} {g cap : Nat} {l : List Int} (h : RowG W g cap l) {i : Nat} {x : Int} (hx : l[i]? = some x) : W.cell? ⟨g, i, none⟩ = some (.int .i64 x) := by
  obtain ⟨cur, h1, h2, h3⟩ := h
  have hi : i < l.length := (List.getElem?_eq_some_iff.1 hx).1
  have e := ints_get hx
  rw [← h3, List.getElem?_take_of_lt hi] at e
  have : cur[i]? = some (.int .i64 x) := by simpa using e
  simp [World.cell?, h1, this]
theorem RowG.fz {W : World} {g cap : Nat} {l : List Int} (h : RowG W g cap l) (i : Nat) : W.frozen? ⟨g, i, none⟩ = false := by
  obtain ⟨cur, h1, _⟩ := h
  simp [World.frozen?, h1]
theorem RowG.spare {W : World} {g cap : Nat} {l : List Int} (h : RowG W g cap l) (hl : l.length < cap) : ∃ u, W.cell? ⟨g, l.length, none⟩ = some u := by
  obtain ⟨cur, hc, h2, h3⟩ := h
  exact ⟨cur[l.length]'(by omega), by simp [World.cell?, hc, h2, hl]⟩
theorem RowG.push {W : World} {g cap : Nat} {l : List Int} (h : RowG W g cap l) (hl : l.length < cap) (x : Int) : RowG (W.setCell ⟨g, l.length, none⟩ (.int .i64 x)) g cap (l ++ [x]) := by
  obtain ⟨cur, hc, h2, h3⟩ := h
  refine ⟨_, heap_set_in hc _ _, by simp [h2], ?_⟩
  have hl : l.length < cur.toList.length := by simp; omega
  rw [Array.toList_setIfInBounds, List.length_append, List.length_singleton, List.take_set, List.take_add_one, h3, ints_append]
  rw [List.getElem?_eq_getElem hl, Option.toList_some, List.set_append_right _ _ (by rw [ints_length]; omega), ints_length]
  simp [ints]
theorem RowG.setCell {W : World} {g cap : Nat} {l : List Int} (h : RowG W g cap l) {a : Addr} (hne : g ≠ a.block) (v : Value) : RowG (W.setCell a v) g cap l := h.same (Below.heap_setCell W a v g hne)
theorem RowG.alloc {W : World} {g cap : Nat} {l : List Int} (h : RowG W g cap l) (o : Obj) : RowG (W.alloc o) g cap l := h.same (Below.heap_alloc W o g h.lt)
theorem RowG.made (W : World) (c : Nat) : RowG (W.alloc (.cells (madeCells #[.int .i64 0] c) 3)) W.heap.size c [] := ⟨_, World.alloc_heap_new W _, size_madeCells _ _, by simp [ints]⟩
theorem boxed_same {W W' : World} {B : Nat} {t : TypeId} {v : Value} (h : Boxed W B t v) (e : W'.heap[B]? = W.heap[B]?) : Boxed W' B t v := e.trans h
theorem boxed_kept {W W' : World} {B : Nat} {t : TypeId} {v : Value} (h : Boxed W B t v) (hb : Below W.heap.size W W') : Boxed W' B t v := boxed_same h (hb.block _ h.lt)
theorem boxed_fr {S : Nat → Prop} {W W' : World} {B : Nat} {t : TypeId} {v : Value} (h : Boxed W B t v) (hb : Fr S W W') (hg : ¬ S B) : Boxed W' B t v := boxed_same h (hb.block _ h.lt hg)
theorem boxed_set {W : World} {B : Nat} {t : TypeId} {v : Value} (h : Boxed W B t v) (u : Value) : Boxed (W.setCell ⟨B, 0, none⟩ u) B t u := by
  have := heap_set_in (show W.heap[B]? = some (.cells #[v] t (0, 0)) from h) 0 u
  simpa [Boxed] using this
def sortI (L : List Int) : List Int := L.mergeSort fun x y => decide (x ≤ y)
theorem sortI_length (L : List Int) : (sortI L).length = L.length := by simp [sortI]
theorem sort_c {w : World} {g cap : Nat} {L : List Int} (h : RowG w g cap L) (hl : L.length < 4611686018427387904) (c : Nat) :
    Calls Tryz.prog 51 #[.slice (some ⟨g, 0, none⟩) L.length c] w fun e w' => e = .returned (.tuple #[]) ∧ RowG w' g cap (sortI L) ∧ Fr (fun k => k = g) w w' := by
  have hc := h.len
  obtain ⟨cur, g1, g2, g3⟩ := h
  refine (Tryz.slices_Sort_int g 0 c L w (holds_of_blockI g1 (by simpa [ints] using g3)) (lt_of_heap g1) hl).mono ?_
  rintro e w2 ⟨rfl, n, os, rfl⟩
  refine ⟨rfl, ⟨_, heap_sortedI _ g1, by simp [Sort.putCells, g2], take_putCellsI cur (sortI L) (by rw [sortI_length]; omega)⟩, ?_⟩
  exact (Fr.refl _ _).grown (grownBy_sortedI _) (fun k e => (Option.some.inj e).symm)
set_option maxRecDepth 100000 in
set_option maxHeartbeats 2000000 in
theorem rising_in (n : Nat) (hn : 3 ≤ n) {w : World} {b o p room : Nat} {L : List Int} (hM : MAt w b o p room L) :
    CallsIn Fence.wide n Tryz.prog 34 #[.pointer (some ⟨b, 0, none⟩)] w fun e W' => e = .returned (.slice (some ⟨w.heap.size, 0, none⟩) L.length L.length) ∧ RowG W' w.heap.size L.length (sortI L) ∧ Below w.heap.size w W' := by
  have h1 : 1 ≤ n := by omega
  have h2 : 1 ≤ n - 1 - 1 := by omega
  have hfn : ∀ f, Fence.wide.fn f := fun _ => trivial
  have HM : Hid (MAt w b o p room L) := hM
  have hl := hM.len
  have hr := hM.hr
  have m0 := make_none L.length (by omega)
  clear hM
  refine callsIn_of_wp_marks Tryz.func34 rfl trivial ?_ rfl
  simp only [Tryz.ntmps34, List.size_toArray, List.length_cons, List.length_nil, Nat.reduceAdd, Nat.reduceSub, Array.replicate_succ, Array.replicate_zero, List.push_toArray, List.append_toArray, List.nil_append, List.cons_append]
  gi_wp2_with first | (gi_at_call 30; refine (callsIn_wide.2 (len_c HM.out)).mono ?_; rintro e w' ⟨rfl, rfl⟩) | (gi_at_call 50; refine (callsIn_wide.2 (all_c b _)).mono ?_; rintro e w' ⟨rfl, rfl⟩)
  have bR := ((RowG.made w' L.length).alloc (.cells #[.slice (some ⟨w'.heap.size, 0, none⟩) 0 L.length] 43)).alloc (.cells #[.pointer (some ⟨b, 0, none⟩)] 70)
  have bL := (Boxed.new (w'.alloc (.cells (madeCells #[.int .i64 0] L.length) 3)) 43 (.slice (some ⟨w'.heap.size, 0, none⟩) 0 L.length)).alloc (.cells #[.pointer (some ⟨b, 0, none⟩)] 70)
  have bB := Boxed.new ((w'.alloc (.cells (madeCells #[.int .i64 0] L.length) 3)).alloc (.cells #[.slice (some ⟨w'.heap.size, 0, none⟩) 0 L.length] 43)) 70 (.pointer (some ⟨b, 0, none⟩))
  have hV0 : Below w'.heap.size w' (((w'.alloc (.cells (madeCells #[.int .i64 0] L.length) 3)).alloc (.cells #[.slice (some ⟨w'.heap.size, 0, none⟩) 0 L.length] 43)).alloc (.cells #[.pointer (some ⟨b, 0, none⟩)] 70)) :=
    (((Below.refl _ _).alloc (Nat.le_refl _) _).alloc (by simp) _).alloc (by simp; omega) _
  have hVs : (((w'.alloc (.cells (madeCells #[.int .i64 0] L.length) 3)).alloc (.cells #[.slice (some ⟨w'.heap.size, 0, none⟩) 0 L.length] 43)).alloc (.cells #[.pointer (some ⟨b, 0, none⟩)] 70)).heap.size = w'.heap.size + 1 + 1 + 1 := by simp
  simp only [World.size_alloc] at bL bB
  obtain ⟨V, hV⟩ : ∃ V, (((w'.alloc (.cells (madeCells #[.int .i64 0] L.length) 3)).alloc (.cells #[.slice (some ⟨w'.heap.size, 0, none⟩) 0 L.length] 43)).alloc (.cells #[.pointer (some ⟨b, 0, none⟩)] 70)) = V := ⟨_, rfl⟩
  rw [hV] at bR bL bB hV0 hVs ⊢
  clear hV m0
  refine all_range hn 4 10 (w'.heap.size + 1 + 1) b o p room L rfl rfl bB (HM.out.kept hV0)
    (fun pre W => (RowG W w'.heap.size L.length pre ∧ Boxed W (w'.heap.size + 1) 43 (.slice (some ⟨w'.heap.size, 0, none⟩) pre.length L.length)) ∧ Below w'.heap.size w' W)
    (fun _ _ _ => False)
    (OwnFrom.and (fun pre W W' row hs hg hr => ⟨by obtain ⟨cur, h1, h2, h3⟩ := hs.1; exact ⟨cur, cells_kept hg hr h1, h2, h3⟩, cells_kept hg hr hs.2⟩) (ownFrom_below (Nat.le_refl _) (by omega)))
    (fun _ _ _ _ _ hs _ _ => hs)
    ⟨⟨bR, bL⟩, hV0⟩ ?_ ?_ ?_ ?_
  · intro l x W K hK
    gi_wp2
    exact hK
  · rintro l pre x W ⟨⟨hR, hBx⟩, hBe⟩ hlt
    obtain ⟨u, cu⟩ := hR.spare hlt
    have fu := hR.fz pre.length
    have HR : Hid (RowG W w'.heap.size L.length pre) := hR
    have HX : Hid (Boxed W (w'.heap.size + 1) 43 (.slice (some ⟨w'.heap.size, 0, none⟩) pre.length L.length)) := hBx
    have c1 := hBx.cell
    have f1 := hBx.frozen
    have cu2 := (hBe.size)
    clear hR hBx
    have e1 := World.cell?_of_block (a := ⟨w'.heap.size, pre.length, none⟩) (Below.heap_alloc W (.cells #[.int .i64 x] 3) w'.heap.size HR.out.lt)
    have e2 := World.frozen?_of_block (a := ⟨w'.heap.size, pre.length, none⟩) (Below.heap_alloc W (.cells #[.int .i64 x] 3) w'.heap.size HR.out.lt)
    have e3 := World.cell?_of_block (a := ⟨w'.heap.size + 1, 0, none⟩) (Below.heap_alloc W (.cells #[.int .i64 x] 3) (w'.heap.size + 1) HX.out.lt)
    have e4 := World.frozen?_of_block (a := ⟨w'.heap.size + 1, 0, none⟩) (Below.heap_alloc W (.cells #[.int .i64 x] 3) (w'.heap.size + 1) HX.out.lt)
    rw [cu] at e1
    rw [fu] at e2
    rw [c1] at e3
    rw [f1] at e4
    simp only [roundAct, List.setIfInBounds_toArray, List.set_cons_succ, List.set_cons_zero]
    gi_wp2
    have hF : Fr (fun k => k = w'.heap.size ∨ k = w'.heap.size + 1) W (((W.alloc (.cells #[.int .i64 x] 3)).setCell ⟨w'.heap.size, pre.length, none⟩ (.int .i64 x)).setCell ⟨w'.heap.size + 1, 0, none⟩ (.slice (some ⟨w'.heap.size, 0, none⟩) (pre.length + 1) L.length)) :=
      (((Fr.refl _ _).alloc _).setCell (.inl rfl) _).setCell (.inr rfl) _
    refine ⟨hF.keepsFrom (fun k hk => by omega), hF.ckeep (fun k hk => by omega), ⟨?_, ?_⟩, hBe.trans (hF.below hBe.size (fun k hk => by omega))⟩
    · exact ((HR.out.alloc _).push hlt x).setCell (by simp) _
    · have := boxed_set (boxed_same (HX.out.alloc (.cells #[.int .i64 x] 3)) (Below.heap_setCell _ ⟨w'.heap.size, pre.length, none⟩ (.int .i64 x) _ (by simp))) (.slice (some ⟨w'.heap.size, 0, none⟩) (pre.length + 1) L.length)
      simpa using this
  · rintro D W hD ⟨⟨hR, hBx⟩, hBe⟩ hK
    simp only [behindAct]
    have c1 := hBx.cell
    have HX : Hid (Boxed W (w'.heap.size + 1) 43 (.slice (some ⟨w'.heap.size, 0, none⟩) L.length L.length)) := hBx
    have HR : Hid (RowG W w'.heap.size L.length L) := hR
    have HK : Hid (W.heap[D]? = some (.deferred (some []))) := hK
    have hne : D ≠ w'.heap.size := by omega
    clear hBx hR hK
    gi_wp2_with (gi_at_call 51; refine (callsIn_wide.2 (sort_c HR.out (by omega) L.length)).mono ?_; rintro e w2 ⟨rfl, hrow, hfr⟩; have X2 : Hid (Boxed w2 (w'.heap.size + 1) 43 (.slice (some ⟨w'.heap.size, 0, none⟩) L.length L.length)) := boxed_fr HX.out hfr (by omega); have R2 : Hid (RowG w2 w'.heap.size L.length (sortI L)) := hrow; have B2 : Hid (Below w'.heap.size w' w2) := hBe.trans (hfr.below hBe.size (fun k hk => by omega)); have K2 : Hid (w2.heap[D]? = some (.deferred (some []))) := (hfr.block D (lt_of_heap HK.out) hne).trans HK.out; clear hrow hfr; have c2 := X2.out.cell)
    refine ⟨by simp, .inl ⟨_, _, rfl, run_takeDeferred K2.out, ?_⟩⟩
    exact ⟨_, results_tmp rfl _ _ _, rfl, R2.out.same (World.putObj_heap_other hne.symm), B2.out.trans (belowK_b (w := w') (Nat.le_refl _) w2 D _ _ (by omega) K2.out rfl rfl)⟩
  · rintro D c pre W _ _ h _
    exact h.elim
theorem rising_c {w : World} {b o p room : Nat} {L : List Int} (hM : MAt w b o p room L) :
    Calls Tryz.prog 34 #[.pointer (some ⟨b, 0, none⟩)] w fun e W' => e = .returned (.slice (some ⟨w.heap.size, 0, none⟩) L.length L.length) ∧ RowG W' w.heap.size L.length (sortI L) ∧ Below w.heap.size w W' :=
  callsIn_wide.1 (rising_in 3 (Nat.le_refl _) hM)
end Go.Proofs.YtbfhahhcacnckaaGreatDoor
