/-
  The document's own answer: Same, Copy.
-/
import Derived.Test.YtofiidfnjgoenaaRef
import Derived.Deep.Upon
import Derived.Deep.RegionLaw
namespace Go.Proofs.Ytofiidfnjgoenaa
open Go Go.RowKit
attribute [local go_sem] ext_cell

theorem sameB_and (A B : List Int) : sameB A B = (decide (∀ x ∈ A, x ∈ B) && ((A.length : Int) == B.length)) := by
  unfold sameB
  by_cases h : ∀ x ∈ A, x ∈ B
  · rw [decide_eq_true h, Bool.true_and]
    by_cases hl : A.length = B.length
    · rw [decide_eq_true ⟨hl, h⟩]; simp [hl]
    · rw [decide_eq_false (fun q => hl q.1)]; symm; simp; omega
  · rw [decide_eq_false h, Bool.false_and, decide_eq_false (fun q => h q.2)]

set_option maxRecDepth 100000 in
set_option maxHeartbeats 1000000 in
theorem rsame_c {w : World} {rb room : Nat} {v : Value} {L : List Int} {rb' room' : Nat} {v' : Value} {L' : List Int} (h : RAt w rb room v L) (h' : RAt w rb' room' v' L') :
    Calls Try.prog 29 #[.pointer (some ⟨rb, 0, none⟩), .pointer (some ⟨rb', 0, none⟩)] w fun e w' => e = .returned (.bool (sameB L L')) ∧ Below w.heap.size w w' := by
  have H : Hid (RAt w rb room v L) := h
  have H' : Hid (RAt w rb' room' v' L') := h'
  have c1 := h.cell1
  have c2 := h'.cell1
  have hll := h.hl
  have hll' := h'.hl
  have lb := h.ltb
  have lb' := h'.ltb
  obtain ⟨q, cap, rfl⟩ := h.ho.slice
  obtain ⟨q', cap', rfl⟩ := h'.ho.slice
  clear h h'
  go_enter Try.func29, Try.ntmps29
  go_wp2
  go_loopw [5] (fun i wr => ∃ k : Nat, k ≤ L.length ∧ i = .int .i64 k ∧ (∀ x ∈ L.take k, x ∈ L') ∧ wr = w) (fun i _ => L.length - (intOf i).toNat)
  case atStart => exact ⟨0, Nat.zero_le _, rfl, by simp, rfl⟩
  case round =>
    obtain ⟨k, hk, rfl, hn, rfl⟩ := hrel
    have HN : Hid (∀ x ∈ L.take k, x ∈ L') := hn
    clear hn
    by_cases hlt : k < L.length
    · have HX : Hid (L.take (k + 1) = L.take k ++ [L[k]]) := take_next L k hlt
      have HM : Hid (L[k] ∈ L) := List.getElem_mem hlt
      obtain ⟨g, c, e, _, _, hc⟩ := H.out.ho.cell (List.getElem?_eq_getElem hlt)
      cases e
      generalize L[k] = x at hc HX HM
      have i0 : (0 : Int) ≤ (k : Int) := by omega
      have i1 : (k : Int) < (L.length : Int) := by omega
      by_cases hx : x ∈ L'
      · have hd : decide (x ∈ L') = true := decide_eq_true hx
        have HD : Hid (∀ y ∈ L.take (k + 1), y ∈ L') := (show ∀ y ∈ L.take (k + 1), y ∈ L' from by
          rw [HX.out]
          intro y q
          rcases List.mem_append.1 q with q | q
          · exact HN.out y q
          · rw [List.mem_singleton.1 q]; exact hx)
        clear hx
        go_wp2_with (go_at_call 33; (with_reducible refine (rhas_c H'.out x).mono ?_); rw [hd]; rintro e w5 ⟨rfl, h5⟩; subst w5)
        go_roundw
        case rel => exact ⟨k + 1, by omega, by go_num, HD.out, trivial⟩
        case measure => simp [intOf]; omega
      · have hd : decide (x ∈ L') = false := decide_eq_false hx
        have HD : Hid (sameB L L' = false) := (show sameB L L' = false from decide_eq_false (fun q => hx (q.2 x HM.out)))
        clear hx
        go_wp2_with (go_at_call 33; (with_reducible refine (rhas_c H'.out x).mono ?_); rw [hd]; rintro e w5 ⟨rfl, h5⟩; subst w5)
        go_ret
        exact ⟨by rw [HD.out]; rfl, Below.refl _ _⟩
    · have i1 : ¬ ((k : Int) < (L.length : Int)) := by omega
      have HD : Hid (sameB L L' = ((L.length : Int) == L'.length)) := (show sameB L L' = ((L.length : Int) == L'.length) from by
        have a := HN.out
        rw [List.take_of_length_le (by omega)] at a
        rw [sameB_and, decide_eq_true a, Bool.true_and])
      go_wp2
      refine wp_region_ext (by kernel_rfl) (by kernel_rfl) ?_
      repeat (go_big_quiet_step (first | exact rfl))
      refine wpQuiet_nil ?_
      intro w5 hw
      have hb5 := ext_of hw
      clear hw
      go_wp2
      go_ret
      exact ⟨by rw [HD.out]; rfl, hb5⟩

/-- append of a whole list to none: a list of the call's own. -/
theorem run_append_clone {w : World} {v : Value} {L : List Int} (h : OwnI w 0 v L) (hl : L.length ≤ 100000) (ty : TypeId) :
    ∃ v' w', (Builtin.append_ #[41, 41] ty #[.slice none 0 0, v]).run Try.prog w = .ok v' w' ∧ OwnI w' w.heap.size v' L ∧ w.grownBy w' none := by
  obtain ⟨t0, hi, hz0, hz1, hz2⟩ := info_parts size_int
  rcases h.2 with ⟨rfl, h0⟩ | ⟨g, cap, cur, rfl, hb, hg, hc1, hc2, hsz, ht⟩
  · obtain rfl : L = [] := List.eq_nil_of_length_eq_zero h0
    exact ⟨.slice none 0 0, w, run_append_nothing w _ _ ty _ t0 und_ints hi none 0 0 (Nat.le_refl _) _ (Src.ofNil _ und_ints 0), OwnI.nil _ _, ⟨rfl, rfl, rfl, Nat.le_refl _, fun _ _ _ => rfl⟩⟩
  · obtain ⟨v', w', hrun, h2, h3, _⟩ := run_append_own (P := Try.prog) w w.heap.size 41 ty 3 t0 (.int .i64 0) 1 8 und_ints hi hz0 hz1 hz2 rfl (by decide) (.slice none 0 0) 0 [] (World.ownsRow_nil w _ _ _)
      ⟨g, 0, none⟩ L.length cap (ints L) (by rw [ints_length]; omega) (fun j u hj => by
        rw [Addr.add_lit, Nat.zero_add]
        have hjl : j < L.length := by have := (List.getElem?_eq_some_iff.1 hj).1; rwa [ints_length] at this
        rw [← ht, List.getElem?_take_of_lt (by omega)] at hj
        have : cur[j]? = some u := by simpa using hj
        simp [World.cell?, hg, this]) (ints_one L) (by unfold maxLen; omega) (by omega) (Nat.le_refl _)
    refine ⟨v', w', hrun, ?_, h3⟩
    unfold OwnI
    simpa using h2

/-- .. as one step of a region that draws its order. -/
theorem step_append_clone {ops : Array Oper} {o : Oper} {a : Act} {w : World} {K : Act → World → Prop} {Q : Exit → Act → World → Prop} {E : Prop} (hgd : o.guard = none) (x : Operand)
    (ho : o.op = .call { callee := .builtin .append, args := #[.const (.slice none 0 0), x], argTypes := #[41, 41] }) (v : Value) (L : List Int) (hx : a.eval x = v) (h : OwnI w 0 v L) (hl : L.length ≤ 100000)
    (hK : ∀ v' w', OwnI w' w.heap.size v' L → w.grownBy w' none → K (a.put o.dst v') w') :
    if Region.wanted o (yielded ops a.tmps) = true then Oper.wp Try.prog o a w K Q else E := by
  have hw : Region.wanted o (yielded ops a.tmps) = true := by simp [Region.wanted, hgd]
  rw [if_pos hw]
  obtain ⟨v', w', hrun, h2, h3⟩ := run_append_clone h hl o.type
  have he : a.eval (.const (.slice none 0 0)) = .slice none 0 0 := rfl
  unfold Oper.wp
  simp [execOp, ho, resolve, invoke, builtin, he, hx, hrun, Result.andThen]
  exact hK v' w' h2 h3
theorem OwnI.base {W : World} {b b' : Nat} {v : Value} {l : List Int} (h : OwnI W b v l) (hb : b' ≤ b) : OwnI W b' v l := by
  refine ⟨h.1, ?_⟩
  rcases h.2 with h0 | ⟨g, cap, cur, h1, h2, h3⟩
  · exact .inl h0
  · exact .inr ⟨g, cap, cur, h1, Nat.le_trans hb h2, h3⟩
theorem below_of_grown {W W' : World} (h : W.grownBy W' none) : Below W.heap.size W W' := ⟨h.os, h.tape, h.output, h.size, fun k hk => h.block k hk (by simp)⟩

set_option maxRecDepth 100000 in
set_option maxHeartbeats 1000000 in
theorem rcopy_c {w : World} {rb room : Nat} {v : Value} {L : List Int} (h : RAt w rb room v L) :
    Calls Try.prog 30 #[.pointer (some ⟨rb, 0, none⟩)] w fun e w' => ∃ rb' v', e = .returned (.pointer (some ⟨rb', 0, none⟩)) ∧ RAt w' rb' room v' L ∧ w.heap.size ≤ rb' ∧ (∀ k, v'.ownBlock = some k → w.heap.size ≤ k) ∧ Below w.heap.size w w' := by
  have H : Hid (RAt w rb room v L) := h
  have c0 := h.cell0
  have c1 := h.cell1
  have lb := h.ltb
  obtain ⟨q, cap, rfl⟩ := h.ho.slice
  clear h
  go_enter Try.func30, Try.ntmps30
  go_wp2
  go_region_law (refine step_append_clone rfl _ rfl (.slice q L.length cap) L (by simp [Act.eval]) H.out.ho H.out.hl ?_; intro v' w2 hown hgrow; have O2 : Hid (OwnI w2 w.heap.size v' L) := hown; have B2 : Hid (Below w.heap.size w w2) := (Below.refl _ _).drew.trans (below_of_grown hgrow); clear hown hgrow; obtain ⟨q2, cap2, rfl⟩ := O2.out.slice; have d0 := (B2.out.cell (p := ⟨rb, 0, none⟩) lb).trans c0)
  all_goals go_wp2
  all_goals go_ret
  all_goals exact ⟨w2.heap.size, _, rfl, ⟨World.alloc_heap_new w2 _, (World.ownsRow.alloc (O2.out.base (Nat.zero_le _)) _), H.out.hr, H.out.hl⟩, B2.out.size, fun k hk => (O2.out.lt k hk).1, B2.out.alloc B2.out.size _⟩
end Go.Proofs.Ytofiidfnjgoenaa
