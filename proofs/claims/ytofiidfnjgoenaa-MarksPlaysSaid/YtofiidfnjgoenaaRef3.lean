/-
  The document's own answer: Rising, by insertion.
-/
import Derived.Test.YtofiidfnjgoenaaRef2
namespace Go.Proofs.Ytofiidfnjgoenaa
open Go Go.RowKit
attribute [local go_sem] ext_cell

theorem OwnI.setAt {W : World} {base g n cap : Nat} {l : List Int} (h : OwnI W base (.slice (some ⟨g, 0, none⟩) n cap) l) (i : Nat) (x : Int) : OwnI (W.setCell ⟨g, i, none⟩ (.int .i64 x)) base (.slice (some ⟨g, 0, none⟩) n cap) (l.set i x) := by
  obtain ⟨h1, h2⟩ := h
  refine ⟨by simp [ints_length], ?_⟩
  rcases h2 with ⟨h0, _⟩ | ⟨g', cap', cur, e, h3, h4, h5, h6, h7, h8⟩
  · cases h0
  · cases e
    refine .inr ⟨g, cap, cur.setIfInBounds i (.int .i64 x), by simp, h3, heap_set_in h4 _ _, by simpa using h5, h6, by simp [h7], ?_⟩
    rw [Array.toList_setIfInBounds, List.take_set, List.length_set, h8]
    simp [ints]
theorem OwnI.frzAt {W : World} {base g n cap : Nat} {l : List Int} (h : OwnI W base (.slice (some ⟨g, 0, none⟩) n cap) l) (i : Nat) : W.frozen? ⟨g, i, none⟩ = false := by
  rcases h.2 with ⟨h0, _⟩ | ⟨g', cap', cur, e, h3, h4, _⟩
  · cases h0
  · cases e; simp [World.frozen?, h4]
theorem OwnI.cellAt {W : World} {base g n cap : Nat} {l : List Int} (h : OwnI W base (.slice (some ⟨g, 0, none⟩) n cap) l) {i : Nat} {x : Int} (hx : l[i]? = some x) : W.cell? ⟨g, i, none⟩ = some (.int .i64 x) := by
  obtain ⟨g', c, e, _, _, hc⟩ := h.cell hx
  cases e
  exact hc

/-- A list that rises and has just the numbers of F is F in its order. -/
theorem sort_unique {S F : List Int} (h1 : S.Pairwise (· ≤ ·)) (h2 : S.Perm F) : S = sortI F := by
  refine List.Perm.eq_of_pairwise (le := (· ≤ ·)) (fun a c _ _ h1 h2 => by omega) h1 ?_ (h2.trans (List.mergeSort_perm F _).symm)
  have := List.pairwise_mergeSort (le := fun x y : Int => decide (x ≤ y)) (fun a c d h1 h2 => by simp at *; omega) (fun a c => by simp; omega) F
  exact this.imp (fun h => by simpa using h)

/-- While a number x goes down its list: what is ahead of it, what is behind it. -/
def going (S : List Int) (x : Int) (A B : List Int) : Prop := S = A ++ B ∧ ∀ y ∈ B, x < y
theorem going_end {S : List Int} {x : Int} {A B : List Int} (h : going S x A B) (hs : S.Pairwise (· ≤ ·)) (hx : ∀ y ∈ A, y ≤ x) : (A ++ x :: B).Pairwise (· ≤ ·) ∧ (A ++ x :: B).Perm (S ++ [x]) := by
  obtain ⟨rfl, h2⟩ := h
  rw [List.pairwise_append] at hs
  refine ⟨?_, ?_⟩
  · rw [List.pairwise_append, List.pairwise_cons]
    refine ⟨hs.1, ⟨fun y hy => by have := h2 y hy; omega, hs.2.1⟩, fun a ha c hc => ?_⟩
    rcases List.mem_cons.1 hc with rfl | hc
    · exact hx a ha
    · exact hs.2.2 a ha c hc
  · have := List.perm_append_comm (l₁ := B) (l₂ := [x])
    have q : (A ++ x :: B).Perm (A ++ (B ++ [x])) := (List.perm_append_left_iff A).2 this.symm
    simpa using q

set_option maxRecDepth 100000 in
set_option maxHeartbeats 1000000 in
theorem rrising_c {w : World} {rb room : Nat} {v : Value} {L : List Int} (h : RAt w rb room v L) :
    Calls Try.prog 35 #[.pointer (some ⟨rb, 0, none⟩)] w fun e w' => ∃ v', e = .returned v' ∧ OwnI w' w.heap.size v' (sortI L) ∧ Below w.heap.size w w' := by
  have H : Hid (RAt w rb room v L) := h
  have c1 := h.cell1
  have lb := h.ltb
  have hll := h.hl
  obtain ⟨q, cap, rfl⟩ := h.ho.slice
  obtain ⟨t0, hi, hz0, hz1, hz2⟩ := info_parts size_int
  clear h
  go_enter Try.func35, Try.ntmps35
  go_wp2
  go_loopw [3, 4] (fun out i wr => ∃ (k : Nat) (S : List Int), k ≤ L.length ∧ i = .int .i64 k ∧ OwnI wr w.heap.size out S ∧ (S.Pairwise (· ≤ ·) ∧ S.Perm (L.take k)) ∧ Below w.heap.size w wr) (fun _ i _ => L.length - (intOf i).toNat)
  case atStart => exact ⟨0, [], Nat.zero_le _, rfl, OwnI.nil _ _, ⟨List.Pairwise.nil, by simp⟩, Below.refl _ _⟩
  case round =>
    obtain ⟨k, S, hk, rfl, hown, hsp, hb⟩ := hrel
    have O : Hid (OwnI wr w.heap.size _ S) := hown
    have HS : Hid (S.Pairwise (· ≤ ·) ∧ S.Perm (L.take k)) := hsp
    have B : Hid (Below w.heap.size w wr) := hb
    have d1 := (hb.cell (p := ⟨rb, 1, none⟩) lb).trans c1
    have HSL : Hid (S.length = k) := (show S.length = k from by rw [hsp.2.length_eq]; simp; omega)
    have hs1 : S.length ≤ 100000 := by have := HSL.out; omega
    obtain ⟨q2, cap2, rfl⟩ := hown.slice
    clear hown hsp hb
    by_cases hlt : k < L.length
    · have HX : Hid (L.take (k + 1) = L.take k ++ [L[k]]) := take_next L k hlt
      obtain ⟨g, c, e, _, hg, hc⟩ := H.out.ho.cell (List.getElem?_eq_getElem hlt)
      cases e
      have hc' := (B.out.cell (p := ⟨g, k, none⟩) hg).trans hc
      generalize L[k] = x at hc' HX
      clear hc
      have i0 : (0 : Int) ≤ (k : Int) := by omega
      have i1 : (k : Int) < (L.length : Int) := by omega
      have bs := B.out.size
      go_wp2_with (at_builtin; refine wpList_append_at rfl _ _ 41 rfl w.heap.size 3 t0 (.int .i64 0) 1 8 und_ints hi hz0 hz1 hz2 rfl (by decide) _ _ _ rfl (World.ownsRow.alloc O.out (.cells #[.int .i64 x] 3)) ⟨wr.heap.size, 0, none⟩ 1 1 [.int .i64 x] rfl rfl (cell_one_new _ _ _) (by simp [Value.oneCell']) (by unfold maxLen; omega) (by omega) (by simp; omega) ?_; intro v' w6 hown' hgrow _; obtain ⟨g6, cap6, rfl⟩ := ownsRow_succ hown'; have O6 : Hid (OwnI w6 w.heap.size (.slice (some ⟨g6, 0, none⟩) (S.length + 1) cap6) (S ++ [x])) := (show _ from by unfold OwnI; rw [List.length_append, ints_append]; exact hown'); have B6 : Hid (Below w.heap.size w w6) := (B.out.alloc B.out.size _).grown hgrow (by simp; omega) (fun j hj => (O.out.lt j hj).1); clear hown' hgrow)
      go_loopw [5] (fun at' wx => ∃ (A Bh : List Int), at' = .int .i64 A.length ∧ going S x A Bh ∧ OwnI wx w.heap.size (.slice (some ⟨g6, 0, none⟩) (S.length + 1) cap6) (A ++ x :: Bh) ∧ Below w.heap.size w wx) (fun at' _ => (intOf at').toNat)
      case atStart => exact ⟨S, [], rfl, ⟨by simp, by simp⟩, O6.out, B6.out⟩
      case round =>
        obtain ⟨A, Bh, rfl, hgo, hown, hb⟩ := hrel
        have G : Hid (going S x A Bh) := hgo
        have O7 : Hid (OwnI wr w.heap.size (.slice (some ⟨g6, 0, none⟩) (S.length + 1) cap6) (A ++ x :: Bh)) := hown
        have B7 : Hid (Below w.heap.size w wr) := hb
        have hSl : A.length ≤ S.length := by rw [hgo.1]; simp
        have lg6 := (O7.out.lt g6 rfl).2
        have gb6 := (O7.out.lt g6 rfl).1
        have cx := O7.out.cellAt (i := A.length) (x := x) (by simp)
        clear hgo hown hb O6 B6 B O
        rcases List.eq_nil_or_concat A with rfl | ⟨A', y, hA⟩
        · have HX1 : Hid (∀ y ∈ ([] : List Int), y ≤ x) := (show ∀ y ∈ ([] : List Int), y ≤ x from by simp)
          have HE := going_end G.out HS.out.1 HX1.out
          go_wp2
          refine wp_region_ext (by kernel_rfl) (by kernel_rfl) ?_
          repeat (go_big_quiet_step (first | exact rfl))
          refine wpQuiet_nil ?_
          intro w8 hw
          have hb8 := ext_of hw
          clear hw
          have O8 := O7.out.kept hb8
          have B8 := chain B7.out hb8 (Nat.le_refl _)
          have HO8 : Hid _ := O8
          have HB8 : Hid _ := B8
          have HE8 : Hid _ := HE
          clear O8 B8 HE hb8
          go_wp2
          exact ⟨⟨k + 1, _, by omega, by go_num, HO8.out, ⟨HE8.out.1, by rw [HX.out]; exact HE8.out.2.trans ((List.perm_append_right_iff [x]).2 HS.out.2)⟩, HB8.out⟩, by simp [intOf]; omega⟩
        · rw [List.concat_eq_append] at hA
          subst hA
          have cy := O7.out.cellAt (i := A'.length) (x := y) (by simp)
          have hal : (A' ++ [y]).length = A'.length + 1 := by simp
          rw [hal] at cx hSl ⊢
          clear hal
          have hsub : IntKind.i64.wrap (((A'.length + 1 : Nat) : Int) - 1) = (A'.length : Int) := by rw [IntKind.wrap_i64]; omega
          have j0 : (0 : Int) ≤ (A'.length : Int) := by omega
          have j1 : (A'.length : Int) < ((S.length + 1 : Nat) : Int) := by omega
          have j2 : (0 : Int) ≤ ((A'.length + 1 : Nat) : Int) := by omega
          have j3 : ((A'.length + 1 : Nat) : Int) < ((S.length + 1 : Nat) : Int) := by omega
          by_cases hxy : x < y
          · have HXY : Hid (x < y) := hxy
            have hle : decide (x < y) = true := decide_eq_true hxy
            clear hxy
            go_wp2
            refine wp_region_ext (by kernel_rfl) (by kernel_rfl) ?_
            repeat (go_big_quiet_step (first | exact rfl))
            refine wpQuiet_nil ?_
            intro w8 hw
            have hb8 := ext_of hw
            clear hw
            have O8 : Hid (OwnI w8 w.heap.size (.slice (some ⟨g6, 0, none⟩) (S.length + 1) cap6) (A' ++ [y] ++ x :: Bh)) := O7.out.kept hb8
            have B8 : Hid (Below w.heap.size w w8) := chain B7.out hb8 (Nat.le_refl _)
            clear hb8 cx cy
            have cy := O8.out.cellAt (i := A'.length) (x := y) (by simp)
            have cx := O8.out.cellAt (i := A'.length + 1) (x := x) (by simp)
            have f1 := O8.out.frzAt (A'.length)
            have f2 := O8.out.frzAt (A'.length + 1)
            go_wp2
            have HL : ((A' ++ [y] ++ x :: Bh).set (A'.length + 1) y).set A'.length x = A' ++ x :: (y :: Bh) := by
              rw [List.set_append_right _ _ (by simp), show A'.length + 1 - (A' ++ [y]).length = 0 by simp, List.set_cons_zero, List.append_assoc, List.set_append_right _ _ (Nat.le_refl _), Nat.sub_self]
              rfl
            have O9 := (O8.out.setAt (A'.length + 1) y).setAt A'.length x
            rw [HL] at O9
            exact ⟨⟨A', y :: Bh, rfl, ⟨by rw [G.out.1]; simp, fun z hz => by
              rcases List.mem_cons.1 hz with rfl | hz
              · exact HXY.out
              · exact G.out.2 z hz⟩, O9, (B8.out.setCell gb6 _).setCell gb6 _⟩, by simp [intOf]⟩
          · have HX1 : Hid (∀ a ∈ A' ++ [y], a ≤ x) := (show ∀ a ∈ A' ++ [y], a ≤ x from by
              have hs := HS.out.1
              rw [G.out.1, List.pairwise_append, List.pairwise_append] at hs
              intro a ha
              rcases List.mem_append.1 ha with ha | ha
              · have := hs.1.2.2 a ha y (by simp); omega
              · rw [List.mem_singleton.1 ha]; omega)
            have hle : decide (x < y) = false := decide_eq_false hxy
            have HE := going_end G.out HS.out.1 HX1.out
            go_wp2
            refine wp_region_ext (by kernel_rfl) (by kernel_rfl) ?_
            repeat (go_big_quiet_step (first | exact rfl))
            refine wpQuiet_nil ?_
            intro w8 hw
            have hb8 := ext_of hw
            clear hw
            have O8 := O7.out.kept hb8
            have B8 := chain B7.out hb8 (Nat.le_refl _)
            have HO8 : Hid _ := O8
            have HB8 : Hid _ := B8
            have HE8 : Hid _ := HE
            clear O8 B8 HE hb8
            go_wp2
            exact ⟨⟨k + 1, _, by omega, by go_num, HO8.out, ⟨HE8.out.1, by rw [HX.out]; exact HE8.out.2.trans ((List.perm_append_right_iff [x]).2 HS.out.2)⟩, HB8.out⟩, by simp [intOf]; omega⟩
    · have i1 : ¬ ((k : Int) < (L.length : Int)) := by omega
      have HE : Hid (S = sortI L) := (show S = sortI L from by
        have a := HS.out.2
        rw [List.take_of_length_le (by omega)] at a
        exact sort_unique HS.out.1 a)
      go_wp2
      go_ret
      exact ⟨_, rfl, by rw [← HE.out]; exact O.out, B.out⟩
end Go.Proofs.Ytofiidfnjgoenaa
