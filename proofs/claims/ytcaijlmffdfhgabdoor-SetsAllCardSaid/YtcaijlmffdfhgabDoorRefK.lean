/-
  The document's own answer: Ranges.
-/
import Derived.Test.YtcaijlmffdfhgabDoorRefD
import Derived.Test.YtcaijlmffdfhgabDoorFrom
import Derived.Deep.RegionLaw
import Derived.OwnWalk
import Derived.OneCell
namespace Go.Proofs.YtcaijlmffdfhgabDoor
open Go Go.RowKit
attribute [local go_sem] ext_cell

/-- append to a row of the call's own, as one step of a region that draws its order. -/
theorem step_append_own {P : Program} {ops : Array Oper} {o : Oper} {a : Act} {w : World} {K : Act → World → Prop} {Q : Exit → Act → World → Prop} {E : Prop} (hgd : o.guard = none) (s x : Operand) (t : TypeId)
    (ho : o.op = .call { callee := .builtin .append, args := #[s, x], argTypes := #[t, t] })
    (base : Nat) (e : TypeId) (i : TypeInfo) (z : Value) (size bytes : Nat) (ht : P.underlying t = some (.slice e)) (hi : P.info? e = some i) (hz : i.zero = some z)
    (hsize : i.size = size) (hby : i.bytes = bytes) (hzs : z.cells.size = size) (hsz : 0 < size)
    (v : Value) (n : Nat) (xs : List Value) (hs : a.eval s = v) (hown : w.ownsRow base e size v n xs)
    (ad : Addr) (m c : Nat) (news : List Value) (hx : a.eval x = .slice (some ad) m c) (hl : news.length = m * size) (hnews : ∀ j u, news[j]? = some u → w.cell? (ad.add j) = some u) (h1 : ∀ u ∈ news, u.oneCell' = true)
    (h63 : n + m ≤ maxLen) (hbytes : (n + m) * bytes ≤ 140737488355328) (hbase : base ≤ w.heap.size)
    (h : ∀ v' w', w'.ownsRow base e size v' (n + m) (xs ++ news) → w.grownBy w' v.ownBlock → K (a.put o.dst v') w') :
    if Region.wanted o (yielded ops a.tmps) = true then Oper.wp P o a w K Q else E := by
  have hw : Region.wanted o (yielded ops a.tmps) = true := by simp [Region.wanted, hgd]
  rw [if_pos hw]
  exact wp_append_own w s x t ho base e i z size bytes ht hi hz hsize hby hzs hsz v n xs hs hown ad m c news hx hl hnews h1 h63 hbytes hbase fun v' w' h2 h3 _ => h v' w' h2 h3

theorem row_mono {w : World} {base base' size n : Nat} {e : TypeId} {v : Value} {xs : List Value} (h : w.ownsRow base e size v n xs) (hb : base' ≤ base) : w.ownsRow base' e size v n xs := by
  refine ⟨h.1, ?_⟩
  rcases h.2 with h | ⟨g, cap, cur, h1, h2, h3⟩
  · exact .inl h
  · exact .inr ⟨g, cap, cur, h1, by omega, h3⟩
/-- A list of bytes that the call owns: the cell at a place. -/
theorem int_cell {W : World} {base : Nat} {v : Value} {l : List B8} (h : W.ownsRow base 3 1 v l.length (intsOf l)) (i : Nat) (hi : i < l.length) :
    ∃ g cap, v = .slice (some ⟨g, 0, none⟩) l.length cap ∧ g < W.heap.size ∧ base ≤ g ∧ l.length ≤ cap ∧ cap ≤ maxLen ∧ W.cell? ⟨g, i, none⟩ = some (.int .i64 l[i].1) ∧ ∃ cur, W.heap[g]? = some (.cells cur 3 (0, 0)) := by
  obtain ⟨hl, h2⟩ := h
  rcases h2 with ⟨_, h0⟩ | ⟨g, cap, cur, rfl, hb, hg, hc1, hc2, hsz, ht⟩
  · omega
  · refine ⟨g, cap, rfl, (Array.getElem?_eq_some_iff.1 hg).1, hb, hc1, hc2, ?_, cur, hg⟩
    have e : (intsOf l)[i]? = some (.int .i64 l[i].1) := by simp [intsOf, hi]
    rw [← ht, List.getElem?_take_of_lt (by omega)] at e
    have : cur[i]? = some (.int .i64 l[i].1) := by simpa using e
    simp [World.cell?, hg, this]
/-- Rows of other element types lie in other blocks. -/
theorem rows_apart {W : World} {b1 b2 k1 k2 n1 n2 : Nat} {t1 t2 : TypeId} {v1 v2 : Value} {x1 x2 : List Value} (h1 : W.ownsRow b1 t1 k1 v1 n1 x1) (h2 : W.ownsRow b2 t2 k2 v2 n2 x2) (ht : t1 ≠ t2) : v1.ownBlock = none ∨ v1.ownBlock ≠ v2.ownBlock := by
  rcases h1.2 with ⟨rfl, _⟩ | ⟨g, cap, cur, rfl, _, hg, _⟩
  · exact .inl rfl
  · right
    rcases h2.2 with ⟨rfl, _⟩ | ⟨g', cap', cur', rfl, _, hg', _⟩
    · simp [Value.ownBlock]
    · intro e
      simp [Value.ownBlock] at e
      subst e
      rw [hg] at hg'
      injection hg' with hg'
      injection hg' with _ h2 _
      exact ht h2

set_option maxRecDepth 100000 in
set_option maxHeartbeats 2000000 in
theorem rRanges (s : S) (w : World) :
    Calls Tryd.prog 7 #[.agg #[.int .u64 (wd (s) 0), .int .u64 (wd (s) 1), .int .u64 (wd (s) 2), .int .u64 (wd (s) 3)]] w fun e w' => ∃ v, e = .returned v ∧ w'.ownsRow w.heap.size 35 2 v (rngs (elems s)).length (flat (rngs (elems s))) ∧ Below w.heap.size w w' := by
  obtain ⟨i0, hi, hz0, hz1, hz2⟩ := info_parts info_range
  have hel := elems_length s
  go_enter Tryd.func7, Tryd.ntmps7
  go_wp2_with (go_at_call 5; refine (rList _ _).mono ?_; rintro e w1 ⟨lv, rfl, hl, hb1⟩; have HL1 : Hid (w1.ownsRow w.heap.size 3 1 lv (elems s).length (intsOf (elems s))) := row_mono hl (by simp); have H1 : Hid (Below w.heap.size w w1) := chain ((Below.refl _ _).alloc (Nat.le_refl _) _) hb1; clear hl hb1)
  go_loopw [3, 5] (fun v i wr => ∃ k : Nat, k ≤ (elems s).length ∧ i = .int .i64 k ∧ wr.ownsRow w.heap.size 35 2 v (rngs ((elems s).take k)).length (flat (rngs ((elems s).take k))) ∧ wr.ownsRow w.heap.size 3 1 lv (elems s).length (intsOf (elems s)) ∧ Below w.heap.size w wr) (fun _ i _ => (elems s).length - (intOf i).toNat)
  case atStart => exact ⟨0, by omega, rfl, World.ownsRow_nil _ _ _ _, HL1.out, H1.out⟩
  case round =>
    obtain ⟨k, hk, rfl, hrow, hlist, hb⟩ := hrel
    have HB : Hid (Below w.heap.size w wr) := hb
    have HL : Hid (wr.ownsRow w.heap.size 3 1 lv (elems s).length (intsOf (elems s))) := hlist
    clear hb
    by_cases hlt : k < (elems s).length
    · obtain ⟨g, cap, rfl, hg0, hg1, hc1, hc2, hcell, curL, hcurL⟩ := int_cell hlist k hlt
      have HT : Hid ((elems s).take (k + 1) = (elems s).take k ++ [(elems s)[k]]) := List.take_succ_eq_append_getElem hlt
      generalize hx : (elems s)[k] = x at hcell HT
      clear hx hlist
      have hxb := x.2
      have hrl : (rngs ((elems s).take k)).length ≤ k := Nat.le_trans (rngs_length _) (by simp; omega)
      generalize hpre : (elems s).take k = pre at hrow HT hrl
      clear hpre
      unfold maxLen at hc2
      have j0 : (0 : Int) ≤ (k : Int) := by omega
      have j1 : (k : Int) < ((elems s).length : Int) := by omega
      rcases List.eq_nil_or_concat (rngs pre) with hr0 | ⟨acc, p, hr0⟩
      · have HR0 : Hid (rngs pre = []) := hr0
        rw [hr0] at hrow
        obtain ⟨pa, ca, rfl⟩ := own_slice hrow
        have HR : Hid (wr.ownsRow w.heap.size 35 2 (.slice pa [].length ca) [].length (flat [])) := hrow
        clear hrow hr0
        go_wp2
        refine wp_region_ext (by kernel_rfl) (by kernel_rfl) ?_
        repeat (go_big_quiet_step (first | exact rfl))
        refine wpQuiet_nil ?_
        intro w5 hw
        have hb5 := ext_of hw
        clear hw
        have c5 := (hb5.cell (p := ⟨g, k, none⟩) hg0).trans hcell
        have H5 : Hid (Below w.heap.size w w5) := chain HB.out hb5
        have R5 := row_below HR.out hb5
        have L5 : Hid (w5.ownsRow w.heap.size 3 1 (.slice (some ⟨g, 0, none⟩) (elems s).length cap) (elems s).length (intsOf (elems s))) := row_below HL.out hb5
        have g5 : g < w5.heap.size := Nat.lt_of_lt_of_le hg0 hb5.size
        clear hb5 hcell hcurL
        go_wp2
        go_region_law (refine step_append_own rfl _ _ 31 rfl w.heap.size 35 i0 (.agg #[.int .i64 0, .int .i64 0]) 2 16 Tryd.underlying31 hi hz0 hz1 hz2 rfl (by decide) _ _ _ (by simp [Act.eval]) (R5.alloc (.cells #[.int .i64 x.1, .int .i64 x.1] 35)).drew ⟨w5.heap.size, 0, none⟩ 1 1 [.int .i64 x.1, .int .i64 x.1] (by simp [Act.eval]) rfl (news2 _ _ _ _) (by simp [Value.oneCell']) (by decide) (by decide) (by have := H5.out.size; simp; omega) ?_; intro v' w6 hown' hgrow; have L6 : Hid (w6.ownsRow w.heap.size 3 1 (.slice (some ⟨g, 0, none⟩) (elems s).length cap) (elems s).length (intsOf (elems s))) := (L5.out.alloc _).drew.kept hgrow (rows_apart (L5.out.alloc _).drew (R5.alloc (.cells #[.int .i64 x.1, .int .i64 x.1] 35)).drew (by decide)); have H6 : Hid (Below w.heap.size w w6) := ((H5.out.alloc H5.out.size _).drew).grown hgrow (by have := H5.out.size; simp; omega) (fun j hj => (R5.lt j hj).1); clear hgrow)
        all_goals go_wp2
        all_goals
          refine ⟨⟨k + 1, by omega, by go_num, ?_, L6.out, H6.out⟩, by simp [intOf]; omega⟩
          rw [HT.out, rngs_snoc, HR0.out, addR_nil]
          exact hown'
      · rw [List.concat_eq_append] at hr0
        obtain ⟨lo, hh⟩ := p
        rw [hr0] at hrow hrl
        have HR0 : Hid (rngs pre = acc ++ [(lo, hh)]) := hr0
        have hlen : (acc ++ [(lo, hh)]).length = acc.length + 1 := by simp
        rw [hlen] at hrow hrl
        have HR : Hid (wr.ownsRow w.heap.size 35 2 _ (acc.length + 1) (flat (acc ++ [(lo, hh)]))) := hrow
        obtain ⟨g2, cap2, rfl, e0, e1, ecap1, ecap2, ecl, efz, ⟨cur, hcur⟩, hset⟩ := own_last hrow
        have HS : Hid (∀ (W : World), W.ownsRow w.heap.size 35 2 (.slice (some ⟨g2, 0, none⟩) (acc.length + 1) cap2) (acc.length + 1) (flat (acc ++ [(lo, hh)])) → ∀ b : Int, (W.setCell ⟨g2, acc.length * 2 + 1, none⟩ (.int .i64 b)).ownsRow w.heap.size 35 2 (.slice (some ⟨g2, 0, none⟩) (acc.length + 1) cap2) (acc.length + 1) (flat (acc ++ [(lo, b)]))) := fun W hW b => by
          obtain ⟨g3, cap3, e, _, _, _, _, _, _, _, h3⟩ := own_last hW
          cases e
          exact h3 b
        have hgg : g ≠ g2 := fun e => by
          rw [e, hcur] at hcurL
          injection hcurL with q
          injection q with _ q2 _
          exact absurd q2 (by decide)
        unfold maxLen at ecap2
        clear hrow hr0 hlen hset hcur
        have n0 : (0 : Int) < (acc.length : Int) + 1 := by omega
        have n1 : decide ((0 : Int) < (acc.length : Int) + 1) = true := decide_eq_true n0
        have hhb := (rngs_cover pre).1 (lo, hh) (by rw [HR0.out]; simp)
        have h0 : 0 ≤ hh := Int.le_trans hhb.1 hhb.2.1
        have h255 : hh ≤ 255 := hhb.2.2
        clear hhb
        have hwr : IntKind.i64.wrap (hh + 1) = hh + 1 := by rw [IntKind.wrap_i64]; omega
        by_cases hp : hh = x.1 - 1
        · have hq : (hh + 1 == x.1) = true := by simp [hp]
          have HP : Hid (hh = x.1 - 1) := hp
          clear hp
          go_wp2
          refine wp_region_ext (by kernel_rfl) (by kernel_rfl) ?_
          repeat (go_big_quiet_step (first | exact rfl))
          refine wpQuiet_nil ?_
          intro w5 hw
          have hb5 := ext_of hw
          clear hw
          have c5 := (hb5.cell (p := ⟨g, k, none⟩) hg0).trans hcell
          have c6 := (hb5.cell (p := ⟨g2, acc.length * 2 + 1, none⟩) e1).trans ecl
          have f6 := (hb5.frozen (p := ⟨g2, acc.length * 2 + 1, none⟩) e1).trans efz
          have H5 : Hid (Below w.heap.size w w5) := chain HB.out hb5
          have R5 : Hid (w5.ownsRow w.heap.size 35 2 (.slice (some ⟨g2, 0, none⟩) (acc.length + 1) cap2) (acc.length + 1) (flat (acc ++ [(lo, hh)]))) := row_below HR.out hb5
          have L5 : Hid (w5.ownsRow w.heap.size 3 1 (.slice (some ⟨g, 0, none⟩) (elems s).length cap) (elems s).length (intsOf (elems s))) := row_below HL.out hb5
          clear hb5 hcell hcurL ecl efz
          go_wp2
          refine ⟨⟨k + 1, by omega, by go_num, ?_, ownsRow_setCell_other L5.out (by simp [Value.ownBlock]; exact hgg) _, H5.out.setCell e0 _⟩, by simp [intOf]; omega⟩
          rw [HT.out, rngs_snoc, HR0.out, addR_hit _ _ _ _ HP.out]
          simpa using HS.out _ R5.out x.1
        · have hq : (hh + 1 == x.1) = false := by simp; omega
          have HP : Hid (¬ hh = x.1 - 1) := hp
          clear hp
          go_wp2
          refine wp_region_ext (by kernel_rfl) (by kernel_rfl) ?_
          repeat (go_big_quiet_step (first | exact rfl))
          refine wpQuiet_nil ?_
          intro w5 hw
          have hb5 := ext_of hw
          clear hw
          have c5 := (hb5.cell (p := ⟨g, k, none⟩) hg0).trans hcell
          have H5 : Hid (Below w.heap.size w w5) := chain HB.out hb5
          have R5 := row_below HR.out hb5
          have L5 : Hid (w5.ownsRow w.heap.size 3 1 (.slice (some ⟨g, 0, none⟩) (elems s).length cap) (elems s).length (intsOf (elems s))) := row_below HL.out hb5
          have g5 : g < w5.heap.size := Nat.lt_of_lt_of_le hg0 hb5.size
          clear hb5 hcell hcurL
          go_wp2
          go_region_law (refine step_append_own rfl _ _ 31 rfl w.heap.size 35 i0 (.agg #[.int .i64 0, .int .i64 0]) 2 16 Tryd.underlying31 hi hz0 hz1 hz2 rfl (by decide) _ _ _ (by simp [Act.eval]) (R5.alloc (.cells #[.int .i64 x.1, .int .i64 x.1] 35)).drew ⟨w5.heap.size, 0, none⟩ 1 1 [.int .i64 x.1, .int .i64 x.1] (by simp [Act.eval]) rfl (news2 _ _ _ _) (by simp [Value.oneCell']) (by unfold maxLen; omega) (by omega) (by have := H5.out.size; simp; omega) ?_; intro v' w6 hown' hgrow; have L6 : Hid (w6.ownsRow w.heap.size 3 1 (.slice (some ⟨g, 0, none⟩) (elems s).length cap) (elems s).length (intsOf (elems s))) := (L5.out.alloc _).drew.kept hgrow (rows_apart (L5.out.alloc _).drew (R5.alloc (.cells #[.int .i64 x.1, .int .i64 x.1] 35)).drew (by decide)); have H6 : Hid (Below w.heap.size w w6) := ((H5.out.alloc H5.out.size _).drew).grown hgrow (by have := H5.out.size; simp; omega) (fun j hj => (R5.lt j hj).1); clear hgrow)
          all_goals go_wp2
          all_goals
            refine ⟨⟨k + 1, by omega, by go_num, ?_, L6.out, H6.out⟩, by simp [intOf]; omega⟩
            rw [HT.out, rngs_snoc, HR0.out, addR_miss _ _ _ _ HP.out, flat_append (acc ++ [(lo, hh)])]
            simpa [flat_one] using hown'
    · have hke : (elems s).take k = elems s := List.take_of_length_le (by omega)
      rw [hke] at hrow
      have HR : Hid (wr.ownsRow w.heap.size 35 2 _ (rngs (elems s)).length (flat (rngs (elems s)))) := hrow
      clear hke hrow
      obtain ⟨pl, cl, rfl⟩ := own_slice hlist
      clear hlist
      go_wp2
      go_ret
      exact ⟨_, rfl, HR.out, HB.out⟩
end Go.Proofs.YtcaijlmffdfhgabDoor
