/-
  The document's own cells: Back, Values.
-/
import Derived.Test.YtobeiigmeflbjaaRefC
import Derived.Laws.AppendOwnNone
namespace Go.Proofs.Ytobeiigmeflbjaa
open Go Go.RowKit

set_option maxRecDepth 100000 in
set_option maxHeartbeats 1000000 in
theorem rback_out {base : Nat} {w : World} {r : Nat} {v : Value} {N : Nat} {L : List (Int × Int)} (h : RC base w r v N L) {m : Int} (hm : m < 0 ∨ (L.length : Int) < m) :
    Calls Try.prog 22 #[.pointer (some ⟨r, 0, none⟩), .int .i64 m] w fun e w' => e = .returned (.bool false) ∧ w' = w := by
  obtain ⟨q, c, rfl⟩ := ownsRow_shape h.own
  have c1 := h.c1
  clear h
  rcases hm with hm | hm
  · go_enter Try.func22, Try.ntmps22
    go_wp2
    go_ret
    exact ⟨rfl, rfl⟩
  · have n0 : ¬ m < 0 := by omega
    go_enter Try.func22, Try.ntmps22
    go_wp2
    go_ret
    exact ⟨rfl, rfl⟩

set_option maxRecDepth 100000 in
set_option maxHeartbeats 1000000 in
theorem rback_in {base : Nat} {w : World} {r : Nat} {v : Value} {N : Nat} {L : List (Int × Int)} (h : RC base w r v N L) (hbase : base ≤ w.heap.size) (hl : L.length ≤ 1000000) {m : Nat} (hm : m ≤ L.length) :
    Calls Try.prog 22 #[.pointer (some ⟨r, 0, none⟩), .int .i64 (m : Int)] w fun e w' => e = .returned (.bool true) ∧ ∃ v', RC base w' r v' N (L.take m) ∧ Fr (foot r v) w w' := by
  have H : Hid (RC base w r v N L) := h
  have lb := lt_of_heap h.hb
  have n0 : ¬ (m : Int) < 0 := by omega
  have n1 : ¬ (L.length : Int) < (m : Int) := by omega
  have n2 : (0 : Int) ≤ (m : Int) := by omega
  obtain ⟨t0, hi0, hz0, hz1, hz2⟩ := info_parts size_lay
  rcases h.own.2 with ⟨rfl, hl0⟩ | ⟨g, cap, cur, rfl, hlo, hg, hcap, hmx, hsz, htk⟩
  · obtain rfl : m = 0 := by omega
    have hLn : L = [] := List.eq_nil_of_length_eq_zero hl0
    subst hLn
    have c1 := h.c1
    have f1 := frz_row h.hb 1
    clear h
    go_enter Try.func22, Try.ntmps22
    go_wp2
    go_ret
    exact ⟨rfl, ⟨_, heap_set_in H.out.hb 1 _, H.out.lo, World.ownsRow_nil _ _ _ _⟩, (Fr.refl _ w).setCell (p := ⟨r, 1, none⟩) (.inl rfl) _⟩
  · have c1 := h.c1
    have hll : (L.take m).length = m := by simp; omega
    have i1 : (m : Int) ≤ (cap : Int) := by omega
    have HG : Hid (∀ j u, (cellsU (L.take m))[j]? = some u → w.cell? ((⟨g, 0, none⟩ : Addr).add j) = some u) := fun j u hj => by
      rw [Addr.add_lit, Nat.zero_add]
      rw [cellsU_take] at hj
      refine ownsRow_cell H.out.own (?_ : (cellsU L)[j]? = some u)
      rw [List.getElem?_take] at hj
      split at hj
      · exact hj
      · cases hj
    clear h hg hsz htk hlo
    go_enter Try.func22, Try.ntmps22
    go_wp2_with (at_builtin; refine wpList_append_own_at _ rfl _ _ 48 rfl base 88 t0 (.agg #[.int .i64 0, .int .i64 0]) 2 16 und_rlay hi0 hz0 hz1 hz2 rfl (by decide) (.slice none 0 0) 0 [] rfl (World.ownsRow_nil _ _ _ _) ⟨g, 0, none⟩ m cap (cellsU (L.take m)) rfl (by rw [cellsU_length, hll]) HG.out (cellsU_one _) (by unfold maxLen; omega) (by omega) hbase ?_; intro v' w6 hown' hgrow _ hblk; obtain ⟨q6, cap6, rfl⟩ := ownsRow_shape hown'; have hrb : w6.heap[r]? = some (.cells #[.int .i64 N, .slice (some ⟨g, 0, none⟩) L.length cap] 50 (0, 0)) := (hgrow.block r lb (by simp [Value.ownBlock])).trans H.out.hb; have HRB : Hid (w6.heap[r]? = some (.cells #[.int .i64 N, .slice (some ⟨g, 0, none⟩) L.length cap] 50 (0, 0))) := hrb; have OWN : Hid (w6.ownsRow base 88 2 (.slice q6 (0 + m) cap6) (0 + m) ([] ++ cellsU (L.take m))) := hown'; have FR : Hid (Fr (foot r (.slice (some ⟨g, 0, none⟩) L.length cap)) w w6) := (Fr.refl _ w).grown hgrow (fun k hk => by cases hk); have c6 : w6.cell? ⟨r, 1, none⟩ = some (.slice (some ⟨g, 0, none⟩) L.length cap) := cell_row hrb (i := 1) rfl; have f6 := frz_row hrb 1; clear hown' hgrow hblk hrb c1)
    go_ret
    have OW := OWN.out
    rw [Nat.zero_add, List.nil_append] at OW
    have hne : (Value.slice q6 m cap6).ownBlock ≠ some r := ownsRow_not OW HRB.out (by decide)
    refine ⟨rfl, ⟨_, heap_set_in HRB.out 1 _, H.out.lo, ?_⟩, FR.out.setCell (p := ⟨r, 1, none⟩) (.inl rfl) _⟩
    rw [hll]
    exact ownsRow_fr OW ((Fr.refl (fun k => k = r) w6).setCell (p := ⟨r, 1, none⟩) rfl _) (fun k hk e => hne (e ▸ hk))

theorem ownsRow_set {w : World} {base : Nat} {g c n : Nat} {A : List Int} (h : w.ownsRow base 3 1 (.slice (some ⟨g, 0, none⟩) n c) n (ints A)) (j : Nat) (x : Int) : (w.setCell ⟨g, j, none⟩ (.int .i64 x)).ownsRow base 3 1 (.slice (some ⟨g, 0, none⟩) n c) n (ints (A.set j x)) := by
  rcases h with ⟨h1, ⟨q, _⟩ | ⟨g', cap, cur, q1, q2, q3, q4, q5, q6, q7⟩⟩
  · cases q
  · cases q1
    refine ⟨by rw [ints_set, List.length_set]; exact h1, .inr ⟨g, c, cur.setIfInBounds j (.int .i64 x), rfl, q2, heap_set_in q3 j _, q4, q5, by simpa using q6, ?_⟩⟩
    rw [ints_set, ← q7, Array.toList_setIfInBounds, List.take_set]

set_option maxRecDepth 100000 in
set_option maxHeartbeats 4000000 in
theorem rvalues {base : Nat} {w : World} {r : Nat} {v : Value} {N : Nat} {L : List (Int × Int)} (h : RC base w r v N L) (hL : ∀ p ∈ L, ∃ k : Nat, p.1 = k ∧ k < N) (hl : L.length ≤ 1000000) (hN : N ≤ 100000) :
    Calls Try.prog 24 #[.pointer (some ⟨r, 0, none⟩)] w fun e w' => ∃ vo, e = .returned vo ∧ w'.ownsRow w.heap.size 3 1 vo N (ints (setsV N L)) ∧ Below w.heap.size w w' := by
  obtain ⟨q, c, rfl⟩ := ownsRow_shape h.own
  have H : Hid (RC base w r (.slice q L.length c) N L) := h
  have HL : Hid (∀ p ∈ L, ∃ k : Nat, p.1 = k ∧ k < N) := hL
  obtain ⟨t0, hi, hz0, hz1, hz2⟩ := info_parts size_int
  clear h hL
  go_enter Try.func24, Try.ntmps24
  go_wp2
  go_loopw [3, 4] (fun o i wr => ∃ k : Nat, k ≤ N ∧ i = .int .i64 k ∧ wr.ownsRow w.heap.size 3 1 o k (ints (List.replicate k (-1))) ∧ Below w.heap.size w wr) (fun _ i _ => N - (intOf i).toNat)
  case atStart => exact ⟨0, Nat.zero_le _, rfl, World.ownsRow_nil _ _ _ _, Below.refl _ _⟩
  case round =>
    obtain ⟨k, hk, rfl, hO, hB⟩ := hrel
    obtain ⟨qo, co, rfl⟩ := ownsRow_shape hO
    have O : Hid (wr.ownsRow w.heap.size 3 1 (.slice qo k co) k (ints (List.replicate k (-1)))) := hO
    have B : Hid (Below w.heap.size w wr) := hB
    have c0 := (H.out.kept hB).c0
    have hsz := hB.size
    clear hO hB
    by_cases hkn : k < N
    · have e0 : (k : Int) < (N : Int) := by omega
      go_wp2_with (at_builtin; refine wpList_append_own_at _ rfl _ _ 60 rfl w.heap.size 3 t0 (.int .i64 0) 1 8 und_ints hi hz0 hz1 hz2 rfl (by decide) (.slice qo k co) k (ints (List.replicate k (-1))) rfl (World.ownsRow.alloc O.out (.cells #[.int .i64 (-1)] 3)) ⟨wr.heap.size, 0, none⟩ 1 1 [.int .i64 (-1)] rfl rfl (cell_one_new _ _ _) (by simp [Value.oneCell']) (by unfold maxLen; omega) (by omega) (by simp; omega) ?_; intro v' w6 hown' hgrow _ hblk; obtain ⟨g6, cap6, rfl⟩ := ownsRow_some hown' (Nat.succ_pos _); have O6 : Hid (w6.ownsRow w.heap.size 3 1 (.slice (some ⟨g6, 0, none⟩) (k + 1) cap6) (k + 1) (ints (List.replicate (k + 1) (-1)))) := (by rw [List.replicate_succ', ints_append]; exact hown'); have B6 : Hid (Below w.heap.size w w6) := chainF B.out (((Fr.refl (fun z => (Value.slice qo k co).ownBlock = some z) wr).alloc _).grown hgrow (fun k hk => hk)) (Nat.le_refl _) (fun z hz => (ownsRow_at O.out hz).1); clear hown' hgrow hblk)
      go_roundw
      case rel => exact ⟨k + 1, by omega, by go_num, O6.out, B6.out⟩
      case measure => simp only [intOf]; omega
    · have e0 : ¬ (k : Int) < (N : Int) := by omega
      obtain rfl : k = N := by omega
      go_wp2
      go_loopw [5] (fun i ws => ∃ m : Nat, m ≤ L.length ∧ i = .int .i64 m ∧ ws.ownsRow w.heap.size 3 1 (.slice qo k co) k (ints (setsV k (L.take m))) ∧ Below w.heap.size w ws) (fun i _ => L.length - (intOf i).toNat)
      case atStart => exact ⟨0, Nat.zero_le _, rfl, O.out, B.out⟩
      case round =>
        clear O B c0 hsz
        obtain ⟨m, hm, rfl, hO, hB⟩ := hrel
        have O : Hid (wr.ownsRow w.heap.size 3 1 (.slice qo k co) k (ints (setsV k (L.take m)))) := hO
        have B : Hid (Below w.heap.size w wr) := hB
        have RR : Hid (RC base wr r (.slice q L.length c) k L) := H.out.kept hB
        have c1 := (H.out.kept hB).c1
        clear hO hB
        by_cases hml : m < L.length
        · obtain ⟨p, hp⟩ : ∃ p, L[m]? = some p := ⟨_, List.getElem?_eq_getElem hml⟩
          have HP : Hid (L[m]? = some p) := hp
          obtain ⟨a, ha, hak⟩ := HL.out p (List.mem_of_getElem? hp)
          obtain ⟨p1, p2⟩ := p
          simp only at ha
          subst ha
          obtain ⟨g, cc, hq⟩ := ownsRow_some RR.out.own (by omega)
          injection hq with hq1 _ hq2
          subst hq1 hq2
          have k0 := ownsRow_cell RR.out.own (cellsU_get hp).1
          have k1 := ownsRow_cell RR.out.own (cellsU_get hp).2
          simp only at k0 k1
          obtain ⟨go, cco, hqo⟩ := ownsRow_some O.out (by omega)
          injection hqo with hqo1 _ hqo2
          subst hqo1 hqo2
          obtain ⟨o, ho⟩ : ∃ o, (setsV k (L.take m))[a]? = some o := ⟨_, List.getElem?_eq_getElem (by rw [setsV_length]; exact hak)⟩
          have ca := ownsRow_cell O.out (ints_get ho)
          obtain ⟨_, _, cur, hcur⟩ := ownsRow_at O.out (g := go) rfl
          have fa := frz_row hcur a
          have O7 : Hid ((wr.setCell ⟨go, a, none⟩ (.int .i64 p2)).ownsRow w.heap.size 3 1 (.slice (some ⟨go, 0, none⟩) k co) k (ints (setsV k (L.take (m + 1))))) := by
            rw [take_last HP.out, setsV_snoc]
            exact ownsRow_set O.out a p2
          have B7 : Hid (Below w.heap.size w (wr.setCell ⟨go, a, none⟩ (.int .i64 p2))) := B.out.setCell (ownsRow_at O.out (g := go) rfl).1 _
          have e1 : (m : Int) < (L.length : Int) := by omega
          have e2 : (0 : Int) ≤ (m : Int) := by omega
          have e3 : (0 : Int) ≤ (a : Int) := by omega
          have e4 : (a : Int) < (k : Int) := by omega
          clear hp ho hcur
          go_wp2
          go_region
          all_goals go_wp2
          all_goals exact ⟨⟨m + 1, by omega, by go_num, O7.out.drew, B7.out.drew⟩, by simp only [intOf]; omega⟩
        · have e1 : ¬ (m : Int) < (L.length : Int) := by omega
          obtain rfl : m = L.length := by omega
          go_wp2
          go_ret
          exact ⟨_, rfl, by have := O.out; rwa [List.take_length] at this, B.out⟩
end Go.Proofs.Ytobeiigmeflbjaa
