/-
  Parts of the proof.
-/
import Derived.Test.YtbfhahhcacnckaaGreatDoorSamesProofB19
set_option linter.unusedSimpArgs false
namespace Go.Proofs.YtbfhahhcacnckaaGreatDoor
open Go Go.RowKit Go.Shelf
attribute [local go_sem] Oper.semAt_some
def z1_addR (acc : List (Int × Int)) (b : Int) : List (Int × Int) :=
  match acc.getLast? with
  | some p => if p.2 = b - 1 then acc.dropLast ++ [(p.1, b)] else acc ++ [(b, b)]
  | none => [(b, b)]
def z1_rngs (l : List z1_B8) : List (Int × Int) := l.foldl (fun acc x => z1_addR acc x.1) []
def z1_flat (rs : List (Int × Int)) : List Value := rs.flatMap fun r => [.int .i64 r.1, .int .i64 r.2]
theorem z1_rngs_snoc (l : List z1_B8) (x : z1_B8) : z1_rngs (l ++ [x]) = z1_addR (z1_rngs l) x.1 := by simp [z1_rngs]
theorem z1_addR_nil (b : Int) : z1_addR [] b = [(b, b)] := rfl
theorem z1_addR_hit (acc : List (Int × Int)) (lo hi b : Int) (h : hi = b - 1) : z1_addR (acc ++ [(lo, hi)]) b = acc ++ [(lo, b)] := by simp [z1_addR, h]
theorem z1_addR_miss (acc : List (Int × Int)) (lo hi b : Int) (h : ¬ hi = b - 1) : z1_addR (acc ++ [(lo, hi)]) b = acc ++ [(lo, hi)] ++ [(b, b)] := by simp [z1_addR, h]
theorem z1_flat_append (a b : List (Int × Int)) : z1_flat (a ++ b) = z1_flat a ++ z1_flat b := by simp [z1_flat]
theorem z1_flat_one (a b : Int) : z1_flat [(a, b)] = [.int .i64 a, .int .i64 b] := rfl
theorem z1_flat_length (a : List (Int × Int)) : (z1_flat a).length = a.length * 2 := by
  induction a with
  | nil => rfl
  | cons x a ih => rw [show x :: a = [x] ++ a from rfl, z1_flat_append, List.length_append, ih]; simp only [z1_flat, List.flatMap_cons, List.flatMap_nil, List.append_nil, List.length_cons, List.length_nil, List.length_append]; omega
theorem z1_addR_length (acc : List (Int × Int)) (b : Int) : (z1_addR acc b).length ≤ acc.length + 1 := by
  rcases List.eq_nil_or_concat acc with rfl | ⟨l, p, rfl⟩
  · simp [z1_addR]
  · rw [List.concat_eq_append]
    by_cases h : p.2 = b - 1
    · rw [show p = (p.1, p.2) from rfl, z1_addR_hit _ _ _ _ h]; simp
    · rw [show p = (p.1, p.2) from rfl, z1_addR_miss _ _ _ _ h]; simp
theorem z1_rngs_length_aux : ∀ (n : Nat) (l : List z1_B8), l.length = n → (z1_rngs l).length ≤ l.length
  | 0, l, h => by
    obtain rfl := List.eq_nil_of_length_eq_zero h
    simp [z1_rngs]
  | n + 1, l, h => by
    rcases List.eq_nil_or_concat l with rfl | ⟨m, b, rfl⟩
    · simp [z1_rngs]
    · rw [List.concat_eq_append] at h ⊢
      rw [z1_rngs_snoc]
      have h1 := z1_addR_length (z1_rngs m) b.1
      have h2 := z1_rngs_length_aux n m (by simpa using h)
      simp; omega
theorem z1_rngs_length (l : List z1_B8) : (z1_rngs l).length ≤ l.length := z1_rngs_length_aux _ l rfl
theorem z1_heap_setCell_in {W : World} {g : Nat} {cur : Array Value} {t : TypeId} (hg : W.heap[g]? = some (.cells cur t (0, 0))) (o : Nat) (v : Value) : (W.setCell ⟨g, o, none⟩ v).heap[g]? = some (.cells (cur.setIfInBounds o v) t (0, 0)) := by
  unfold World.setCell
  dsimp only
  rw [Array.getElem?_modify, if_pos rfl, hg]
  rfl
theorem z1_news2 (W : World) (a b : Value) (t : TypeId) : ∀ (j : Nat) (u : Value), [a, b][j]? = some u → (W.alloc (.cells #[a, b] t)).cell? ((⟨W.heap.size, 0, none⟩ : Addr).add j) = some u := by
  intro j u h
  match j, h with
  | 0, h => simp at h; subst h; simp [go_sem, Addr.add]
  | 1, h => simp at h; subst h; simp [go_sem, Addr.add]
  | j + 2, h => simp at h
theorem z1_SetAt.not_row {W : World} {B base n : Nat} {s : z1_S} {v : Value} {xs : List Value} (h : z1_SetAt W B s) (hr : W.ownsRow base 115 2 v n xs) : some B ≠ v.ownBlock := by
  rcases hr.2 with ⟨rfl, _⟩ | ⟨g, cap, cur, rfl, _, hg, _⟩
  · simp [Value.ownBlock]
  · intro e
    simp [Value.ownBlock] at e
    subst e
    rw [show W.heap[B]? = _ from h] at hg
    cases hg
theorem z1_own_last {W : World} {base : Nat} {v : Value} {acc : List (Int × Int)} {lo hi : Int} (h : W.ownsRow base 115 2 v (acc.length + 1) (z1_flat (acc ++ [(lo, hi)]))) :
    ∃ g cap, v = .slice (some ⟨g, 0, none⟩) (acc.length + 1) cap ∧ base ≤ g ∧ g < W.heap.size ∧ acc.length + 1 ≤ cap ∧ cap ≤ maxLen ∧ W.cell? ⟨g, acc.length * 2 + 1, none⟩ = some (.int .i64 hi) ∧ W.frozen? ⟨g, acc.length * 2 + 1, none⟩ = false ∧
      (∃ cur, W.heap[g]? = some (.cells cur 115 (0, 0))) ∧
      ∀ b : Int, (W.setCell ⟨g, acc.length * 2 + 1, none⟩ (.int .i64 b)).ownsRow base 115 2 v (acc.length + 1) (z1_flat (acc ++ [(lo, b)])) := by
  obtain ⟨hl, h2⟩ := h
  rcases h2 with ⟨_, h0⟩ | ⟨g, cap, cur, rfl, hb, hg, hc1, hc2, hsz, ht⟩
  · omega
  · have hlt : acc.length * 2 + 1 < cur.size := by omega
    have hcur : cur[acc.length * 2 + 1]? = some (.int .i64 hi) := by
      have : (cur.toList.take ((acc.length + 1) * 2))[acc.length * 2 + 1]? = some (.int .i64 hi) := by
        rw [ht, z1_flat_append, z1_flat_one, List.getElem?_append_right (by rw [z1_flat_length]; omega), z1_flat_length]; simp
      rw [List.getElem?_take_of_lt (by omega)] at this
      simpa using this
    refine ⟨g, cap, rfl, hb, (Array.getElem?_eq_some_iff.1 hg).1, hc1, hc2, by simp [World.cell?, hg, hcur], by simp [World.frozen?, hg], ⟨cur, hg⟩, fun b => ⟨by simp [z1_flat_append, z1_flat_one, z1_flat_length]; omega, .inr ⟨g, cap, cur.setIfInBounds (acc.length * 2 + 1) (.int .i64 b), rfl, hb, ?_, hc1, hc2, by simpa using hsz, ?_⟩⟩⟩
    · exact z1_heap_setCell_in hg _ _
    · rw [Array.toList_setIfInBounds, List.take_set, ht, z1_flat_append, z1_flat_append, z1_flat_one, z1_flat_one, List.set_append_right _ _ (by rw [z1_flat_length]; omega), z1_flat_length]; simp
theorem z1_info_range : (Tryz.prog.info? 115).map (fun i => (i.zero, i.size, i.bytes)) = some (some (.agg #[.int .i64 0, .int .i64 0]), 2, 16) := by kernel_rfl
set_option maxRecDepth 100000 in
set_option maxHeartbeats 2000000 in
theorem z1_ranges_in (n : Nat) (hn : 3 ≤ n) (s : z1_S) (w : World) (hT : z1_Tab w) :
    CallsIn Fence.wide n Tryz.prog 59 #[.agg #[.int .u64 (z1_wd (s) 0), .int .u64 (z1_wd (s) 1), .int .u64 (z1_wd (s) 2), .int .u64 (z1_wd (s) 3)]] w fun e W' => ∃ v, e = .returned v ∧ W'.ownsRow w.heap.size 115 2 v (z1_rngs (z1_elems s)).length (z1_flat (z1_rngs (z1_elems s))) ∧ (v = .slice none 0 0 ↔ z1_rngs (z1_elems s) = []) ∧ Below w.heap.size w W' := by
  have h1 : 1 ≤ n := by omega
  have h2 : 1 ≤ n - 1 - 1 := by omega
  have hfn : ∀ f, Fence.wide.fn f := fun _ => trivial
  have HT : Hid (z1_Tab w) := hT
  clear hT
  obtain ⟨i0, hi, hz0, hz1, hz2⟩ := info_parts z1_info_range
  refine callsIn_of_wp_marks Tryz.func59 rfl trivial ?_ rfl
  simp only [Tryz.ntmps59, List.size_toArray, List.length_cons, List.length_nil, Nat.reduceAdd, Nat.reduceSub, Array.replicate_succ, Array.replicate_zero, List.push_toArray, List.append_toArray, List.nil_append, List.cons_append]
  gi_wp2_with (gi_at_call 76; refine (callsIn_wide.2 (z1_all_any s _)).mono ?_; rintro e w' ⟨rfl, rfl⟩)
  have bS := z1_SetAt.new ((w.alloc (.cells #[.int .u64 (z1_wd (s) 0), .int .u64 (z1_wd (s) 1), .int .u64 (z1_wd (s) 2), .int .u64 (z1_wd (s) 3)] 33)).alloc (.cells #[.slice none 0 0] 112)) s
  have bL := Boxed.new (w.alloc (.cells #[.int .u64 (z1_wd (s) 0), .int .u64 (z1_wd (s) 1), .int .u64 (z1_wd (s) 2), .int .u64 (z1_wd (s) 3)] 33)) 112 (.slice none 0 0)
  simp only [World.size_alloc] at bS bL
  have hB0 : Below w.heap.size w (((w.alloc (.cells #[.int .u64 (z1_wd (s) 0), .int .u64 (z1_wd (s) 1), .int .u64 (z1_wd (s) 2), .int .u64 (z1_wd (s) 3)] 33)).alloc (.cells #[.slice none 0 0] 112)).alloc (.cells #[.int .u64 (z1_wd (s) 0), .int .u64 (z1_wd (s) 1), .int .u64 (z1_wd (s) 2), .int .u64 (z1_wd (s) 3)] 33)) := (((Below.refl _ w).alloc (Nat.le_refl _) _).alloc (by simp) _).alloc (by simp; omega) _
  have hpos := HT.out.1
  refine wpIn_rangeFunc_ownG rfl h1 (gf := 98) (lb := #[.pointer (some ⟨w.heap.size + 1 + 1, 0, none⟩)]) rfl trivial (enters_of Tryz.func98 (by kernel_rfl) rfl)
    (z1_all_stops (n - 1) (by omega) (w.heap.size + 1 + 1) w.heap.size s _ bS (HT.out.below hB0) hpos (by simp; omega)) z1_kpS_t (z1_kpS_b (by simp; omega)) (Below.refl _ _) (fun _ => rfl)
    (fun pre W => (∃ v, Boxed W (w.heap.size + 1) 112 v ∧ W.ownsRow w.heap.size 115 2 v (z1_rngs pre).length (z1_flat (z1_rngs pre)) ∧ (v = .slice none 0 0 ↔ z1_rngs pre = [])) ∧ Below w.heap.size w W)
    (fun _ _ _ => False)
    (OwnFrom.and (Own.from (holdsRow_own w.heap.size (w.heap.size + 1) 112 115 2 (fun pre => (z1_rngs pre).length) (fun pre => z1_flat (z1_rngs pre)) (fun pre v => v = .slice none 0 0 ↔ z1_rngs pre = [])) _) (ownFrom_below (Nat.le_refl _) (by simp; omega)))
    (fun _ _ _ _ _ hs _ _ => hs)
    ⟨⟨_, bL.alloc _, World.ownsRow_nil _ _ _ _, by simp [z1_rngs]⟩, hB0⟩
    (fun x => { tmps := #[.agg #[.int .u64 (z1_wd (s) 0), .int .u64 (z1_wd (s) 1), .int .u64 (z1_wd (s) 2), .int .u64 (z1_wd (s) 3)], .pointer (some ⟨w.heap.size, 0, none⟩), .slice none 0 0, .pointer (some ⟨w.heap.size + 1, 0, none⟩), .int .i64 x.1, undef, .agg #[.int .u64 (z1_wd (s) 0), .int .u64 (z1_wd (s) 1), .int .u64 (z1_wd (s) 2), .int .u64 (z1_wd (s) 3)], .func (.func 98) #[] #[.pointer (some ⟨w.heap.size + 1 + 1, 0, none⟩)], .int .i64 x.1, undef, undef, undef, undef, undef, undef, undef, undef, undef, undef, undef, undef, undef, undef, undef, undef, undef, undef, undef, undef, undef, undef, undef, undef, undef, undef, undef], defers := [] }) ?assign ?body ?done ?stop
  case assign =>
    intro l x W K hK
    gi_wp2
    exact hK
  case body =>
    rintro l pre x W ⟨⟨v, hv, hrow, hnil⟩, hB⟩ hlt
    have hc := hv.cell
    have hxb := x.2
    have hel := z1_elems_length s
    have hrl := z1_rngs_length pre
    rcases List.eq_nil_or_concat (z1_rngs pre) with hr0 | ⟨acc, p, hr0⟩
    · have hrow0 : W.ownsRow w.heap.size 115 2 (.slice none 0 0) 0 [] := World.ownsRow_nil _ _ _ _
      obtain rfl := hnil.2 hr0
      clear hnil hrow
      gi_wp2_with (gi_at_builtin; refine wpListIn_append_own _ rfl _ _ 112 rfl w.heap.size 115 i0 (.agg #[.int .i64 0, .int .i64 0]) 2 16 Tryz.underlying112 hi hz0 hz1 hz2 rfl (by decide) _ _ _ rfl (hrow0.alloc _) ⟨W.heap.size, 0, none⟩ 1 1 [.int .i64 x.1, .int .i64 x.1] rfl rfl (z1_news2 _ _ _ _) (by simp [Value.oneCell']) (by decide) (by decide) (by have := hB.size; simp; omega) ?_; intro v' w1 hown' hgrow _; obtain ⟨g', cap', rfl⟩ := ownsRow_succ hown'; obtain ⟨hv1, hv2, hr2, hk2, hb2⟩ := hv.appended (by decide) hrow0 hB.size (by omega) hown' hgrow; have hc1 := hv1.cell; have hf1 := hv1.frozen)
      exact ⟨hk2.from _, ⟨hb2, fun hs => ((hs.alloc _).grown hgrow (hs.not_row hrow0)).setCell (by simp) _⟩, ⟨_, hv2, by rw [z1_rngs_snoc, hr0, z1_addR_nil]; simpa [z1_flat_one] using hr2, by rw [z1_rngs_snoc, hr0, z1_addR_nil]; simp⟩, hB.trans hb2⟩
    · rw [List.concat_eq_append] at hr0
      obtain ⟨lo, hh⟩ := p
      rw [hr0] at hrow hrl
      have hlen : (acc ++ [(lo, hh)]).length = acc.length + 1 := by simp
      rw [hlen] at hrow hrl
      have hrow' := hrow
      obtain ⟨g, cap, rfl, hg0, hg1, hcap1, hcap2, hcl, hfz, ⟨cur, hcur⟩, hset⟩ := z1_own_last hrow
      have hgs : some (w.heap.size + 1) ≠ (Value.slice (some ⟨g, 0, none⟩) (acc.length + 1) cap).ownBlock := hv.not_row (by decide) hrow'
      unfold maxLen at hcap2
      clear hnil hlen
      by_cases hp : hh = x.1 - 1
      · have hq : (hh == x.1 - 1) = true := by simp [hp]
        have HP : Hid (hh = x.1 - 1) := hp
        clear hp
        have hne : w.heap.size + 1 ≠ g := fun e => hgs (by simp [Value.ownBlock, e])
        gi_wp2
        exact ⟨(KeepsOthers.setCell _ _ _).from _, ⟨(Below.refl _ _).setCell (p := ⟨g, acc.length * 2 + 1, none⟩) hg0 _, fun hs => hs.setCell (fun e => hs.not_row hrow' (by simp [Value.ownBlock]; exact e)) _⟩,
          ⟨_, (Below.heap_setCell W _ _ _ hne).trans hv, by rw [z1_rngs_snoc, hr0, z1_addR_hit _ _ _ _ HP.out]; simpa using hset x.1, by rw [z1_rngs_snoc, hr0, z1_addR_hit _ _ _ _ HP.out]; simp⟩, hB.setCell (p := ⟨g, acc.length * 2 + 1, none⟩) hg0 _⟩
      · have hq : (hh == x.1 - 1) = false := by simp [hp]
        have HP : Hid (¬ hh = x.1 - 1) := hp
        clear hp
        gi_wp2_with (gi_at_builtin; refine wpListIn_append_own _ rfl _ _ 112 rfl w.heap.size 115 i0 (.agg #[.int .i64 0, .int .i64 0]) 2 16 Tryz.underlying112 hi hz0 hz1 hz2 rfl (by decide) _ _ _ rfl (hrow'.alloc _) ⟨W.heap.size, 0, none⟩ 1 1 [.int .i64 x.1, .int .i64 x.1] rfl rfl (z1_news2 _ _ _ _) (by simp [Value.oneCell']) (by unfold maxLen; omega) (by omega) (by have := hB.size; simp; omega) ?_; intro v' w1 hown' hgrow _; obtain ⟨g', cap', rfl⟩ := ownsRow_succ hown'; obtain ⟨hv1, hv2, hr2, hk2, hb2⟩ := hv.appended (by decide) hrow' hB.size (by omega) hown' hgrow; have hc1 := hv1.cell; have hf1 := hv1.frozen)
        exact ⟨hk2.from _, ⟨hb2, fun hs => ((hs.alloc _).grown hgrow (hs.not_row hrow')).setCell (by simp) _⟩, ⟨_, hv2, by rw [z1_rngs_snoc, hr0, z1_addR_miss _ _ _ _ HP.out, z1_flat_append (acc ++ [(lo, hh)])]; simpa [z1_flat_one] using hr2, by rw [z1_rngs_snoc, hr0, z1_addR_miss _ _ _ _ HP.out]; simp⟩, hB.trans hb2⟩
  case done =>
    rintro D ys W hD rfl ⟨⟨v, hv, hrow, hnil⟩, hB⟩ hK
    have hc := hv.cell
    gi_wp2
    refine ⟨by simp, .inl ⟨_, _, rfl, run_takeDeferred hK, ?_⟩⟩
    exact ⟨_, results_tmp rfl _ _ _, v, rfl, ownsRow_putObj hrow _ hK rfl, hnil, hB.trans (belowK_b (w := w) (Nat.le_refl _) W D _ _ (by simp at hD; omega) hK rfl rfl)⟩
  case stop =>
    rintro D c pre W _ _ h _
    exact h.elim
theorem z1_ranges_any (s : z1_S) (w : World) (hT : z1_Tab w) :
    Calls Tryz.prog 59 #[.agg #[.int .u64 (z1_wd (s) 0), .int .u64 (z1_wd (s) 1), .int .u64 (z1_wd (s) 2), .int .u64 (z1_wd (s) 3)]] w fun e W' => ∃ v, e = .returned v ∧ W'.ownsRow w.heap.size 115 2 v (z1_rngs (z1_elems s)).length (z1_flat (z1_rngs (z1_elems s))) ∧ (v = .slice none 0 0 ↔ z1_rngs (z1_elems s) = []) ∧ Below w.heap.size w W' :=
  callsIn_wide.1 (z1_ranges_in 3 (Nat.le_refl _) s w hT)
end Go.Proofs.YtbfhahhcacnckaaGreatDoor
