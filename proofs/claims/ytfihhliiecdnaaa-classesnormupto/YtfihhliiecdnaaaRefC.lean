/-
  dredgeref06.Class: the class of the numbers of some ranges.
-/
import Derived.Test.YtfihhliiecdnaaaRefS2
import Derived.Test.YtfihhliiecdnaaaClass
import Derived.Test.YtfihhliiecdnaaaMoved
namespace Go.Proofs.Ytfihhliiecdnaaa
open Go Go.RowKit
attribute [local go_sem] ext_cell

theorem rr_cast {base : Nat} {w : World} {v : Value} {A B : List (Int × Int)} (e : A = B) (h : RR base w v A) : RR base w v B := e ▸ h
set_option maxRecDepth 100000 in
set_option maxHeartbeats 4000000 in
theorem rclass_c {w : World} {v : Value} {L : List (Int × Int)} (h : ArgR w v L) (hF : Fit L) (hl : L.length + 1 ≤ 8796093022208) :
    Calls Try.prog 48 #[v] w (Gets w (In L) L.length) := by
  obtain ⟨t0, ti, hz0, hz1, hz2⟩ := info_parts size_range
  have H : Hid (ArgR w v L ∧ Fit L) := ⟨h, hF⟩
  clear h hF
  go_enter Try.func48, Try.ntmps48
  go_wp2_with (go_at_call 55; refine (sorted_c L.length w v L (Nat.le_refl _) hl H.out.1 H.out.2).mono ?_; rintro e w5 ⟨v5, S, rfl, h1, h2, h3, h4, h5, h6⟩; obtain ⟨qs, cs, rfl⟩ := h1.shape; have X5 : Hid (RR w.heap.size w5 (.slice qs S.length cs) S ∧ Srt S ∧ Fit S ∧ (∀ c, In S c ↔ In L c) ∧ S.length ≤ L.length ∧ Below w.heap.size w w5) := ⟨h1, h2, h3, h4, h5, h6⟩; clear h1 h2 h3 h4 h5 h6)
  rename World => W1
  have hsl := X5.out.2.2.2.2.1
  have HC : Hid (∀ (i : Nat) (r : Int × Int), S[i]? = some r → ∃ g off, qs = some ⟨g, off, none⟩ ∧ g < W1.heap.size ∧ W1.cell? ⟨g, off + 2 * i, none⟩ = some (.int .i64 r.1) ∧ W1.cell? ⟨g, off + 2 * i + 1, none⟩ = some (.int .i64 r.2)) := by
    obtain ⟨q', cap', e, -, -, hc⟩ := X5.out.1.arg.slice
    cases e
    exact hc
  have SP : Hid (∀ k, k ≤ S.length → Cls ((S.take k).foldl addM []) ∧ Fit ((S.take k).foldl addM []) ∧ ((S.take k).foldl addM []).length ≤ k ∧ ∀ c, In ((S.take k).foldl addM []) c ↔ In (S.take k) c) := fun k hk => by
    have := fold_spec X5.out.2.1.rise X5.out.2.2.1 k hk
    exact ⟨this.1, this.2.1, this.2.2.1, this.2.2.2.1⟩
  go_loopw [3, 5] (fun ov i wr => ∃ k : Nat, k ≤ S.length ∧ i = .int .i64 k ∧ RR W1.heap.size wr ov ((S.take k).foldl addM []) ∧ Below W1.heap.size W1 wr) (fun _ i _ => S.length - (intOf i).toNat)
  case atStart => exact ⟨0, Nat.zero_le _, rfl, RR.nil _ _, Below.refl _ _⟩
  case round =>
    obtain ⟨k, hk, rfl, hrr, hb⟩ := hrel
    have RC : Hid (RR W1.heap.size wr u3 ((S.take k).foldl addM [])) := hrr
    have BB : Hid (Below W1.heap.size W1 wr) := hb
    have hbs := hb.size
    clear hb hrr
    by_cases hlt : k < S.length
    · obtain ⟨r, hr⟩ : ∃ r, S[k]? = some r := ⟨_, List.getElem?_eq_getElem hlt⟩
      obtain ⟨g, off, rfl, hg, x1, x2⟩ := HC.out k _ hr
      rw [Nat.mul_comm] at x1 x2
      have NX : Hid ((S.take (k + 1)).foldl addM [] = addM ((S.take k).foldl addM []) r) := hide (by
        obtain ⟨h1, h2⟩ := List.getElem?_eq_some_iff.1 hr
        rw [take_next _ _ h1, List.foldl_append, h2]; rfl)
      have hne : ¬ r.2 < r.1 := by have := X5.out.2.1.some r (List.mem_of_getElem? hr); omega
      have hfr := X5.out.2.2.1 r (List.mem_of_getElem? hr)
      have SPk := SP.out k hk
      have FC : Hid (Fit ((S.take k).foldl addM [])) := SPk.2.1
      have hcl := SPk.2.2.1
      obtain ⟨lo, hi⟩ := r
      dsimp only at x1 x2 hne hfr
      have XS : Hid (W1.cell? ⟨g, off + k * 2, none⟩ = some (.int .i64 lo) ∧ W1.cell? ⟨g, off + k * 2 + 1, none⟩ = some (.int .i64 hi) ∧ g < W1.heap.size) := ⟨x1, x2, hg⟩
      have cs1 := (BB.out.cell (p := ⟨g, off + k * 2, none⟩) hg).trans x1
      have sg : g < wr.heap.size := Nat.lt_of_lt_of_le hg hbs
      have i0 : (0 : Int) ≤ (k : Int) := by omega
      have i1 : (k : Int) < (S.length : Int) := by omega
      clear x1 x2 hr SPk hg
      generalize (S.take k).foldl addM [] = C at *
      rcases last_cases C with e | ⟨D, x, e⟩
      · subst e
        obtain ⟨qo, co, e3⟩ := RC.out.shape
        subst e3
        have LD : Hid ((0 : Nat) = 0) := rfl
        have NX2 : Hid ((S.take (k + 1)).foldl addM [] = [(lo, hi)]) := hide (by rw [NX.out, addM_nil hne])
        simp only [List.length_nil] at RC ⊢
        have wn : IntKind.wrap .i64 ((0 : Int) - 1) = -1 := by decide
        have d0 : decide ((0 : Int) ≤ -1) = false := by decide
        · ·
            go_wp2
            refine wp_region_ext (by kernel_rfl) (by kernel_rfl) ?_
            repeat (go_big_quiet_step (first | exact rfl))
            refine wpQuiet_nil ?_
            intro w7 hw7
            have B7 : Hid (Below W1.heap.size W1 w7) := chain BB.out (ext_of hw7) (Nat.le_refl _)
            have e1 := (B7.out.cell (p := ⟨g, off + k * 2, none⟩) XS.out.2.2).trans XS.out.1
            have e2 := (B7.out.cell (p := ⟨g, off + k * 2 + 1, none⟩) XS.out.2.2).trans XS.out.2.1
            have hz7 := B7.out.size
            have R7 : Hid (RR W1.heap.size w7 (.slice qo 0 co) []) := RC.out.kept (ext_of hw7)
            clear hw7 cs1
            go_wp2_with (at_builtin; refine wpList_append_own_at _ rfl _ _ 22 rfl W1.heap.size 38 t0 (.agg #[.int .i64 0, .int .i64 0]) 2 16 und_ranges ti hz0 hz1 hz2 rfl (by decide) (.slice qo 0 co) 0 (cellsR []) rfl (World.ownsRow.alloc R7.out (.cells #[.int .i64 lo, .int .i64 hi] 38)) ⟨w7.heap.size, 0, none⟩ 1 1 [.int .i64 lo, .int .i64 hi] rfl rfl (news2 _ _ _ _) (by simp [Value.oneCell']) (by unfold maxLen; omega) (by omega) (by simp; omega) ?_; intro v' w6 hown' hgrow _ hblk; obtain ⟨g6, cap6, rfl⟩ := ownsRow_some hown' (Nat.succ_pos _); have A6 : Hid (RR W1.heap.size w6 (.slice (some ⟨g6, 0, none⟩) (0 + 1) cap6) ([(lo, hi)])) := rr_apps (F := []) (L := [(lo, hi)]) hown'; have B6 : Hid (Below W1.heap.size W1 w6) := below_grown (B7.out.alloc hz7 _) (World.ownsRow.alloc R7.out _) hgrow; clear hown' hgrow hblk)
            go_roundw
            case rel => exact ⟨k + 1, by omega, by go_num, rr_cast NX2.out.symm A6.out, B6.out⟩
            case measure => simp [intOf]; omega
      · subst e
        have fx := FC.out x (by simp)
        obtain ⟨nd, hnd⟩ : ∃ nd, D.length = nd := ⟨_, rfl⟩
        have LD : Hid (D.length = nd) := hnd
        have OW0 : Hid (wr.ownsRow W1.heap.size 38 2 u3 (nd + 1) (cellsR (D ++ [x]))) := hide (by have := RC.out; unfold RR at this; rwa [List.length_append, List.length_singleton, hnd] at this)
        obtain ⟨go, co, e3⟩ := ownsRow_some OW0.out (by omega)
        subst e3
        have OW : Hid (wr.ownsRow W1.heap.size 38 2 (.slice (some ⟨go, 0, none⟩) (nd + 1) co) (nd + 1) (cellsR (D ++ [x]))) := OW0.out
        have hgo : go < wr.heap.size := (ownsRow_at OW.out rfl).2.1
        have hgb : W1.heap.size ≤ go := (ownsRow_at OW.out rfl).1
        have hcell := (last_cell OW.out hnd).2
        rw [List.length_append, List.length_singleton, hnd] at hcl
        clear RC OW0 hnd
        obtain ⟨y, hy⟩ : ∃ y, x.2 = y := ⟨_, rfl⟩
        rw [hy] at hcell fx
        have HY : Hid (x.2 = y) := hy
        clear hy
        have wn : IntKind.wrap .i64 ((nd : Int) + 1 - 1) = (nd : Int) := by rw [IntKind.wrap_i64]; omega
        have j0 : (0 : Int) ≤ (nd : Int) := by omega
        have j1 : (nd : Int) < (nd : Int) + 1 := by omega
        have d0 : decide ((0 : Int) ≤ (nd : Int)) = true := decide_eq_true j0
        by_cases hf : y + 1 < lo
        · have d1 : decide (lo ≤ y) = false := decide_eq_false (by omega)
          have wl : IntKind.wrap .i64 (lo - 1) = lo - 1 := by rw [IntKind.wrap_i64]; omega
          have d2 : (lo - 1 == y) = false := beq_false_of_ne (by omega)
          have NX2 : Hid ((S.take (k + 1)).foldl addM [] = D ++ [x] ++ [(lo, hi)]) := hide (by rw [NX.out, addM_far hne (by rw [HY.out]; exact hf)])
          ·
            go_wp2
            refine wp_region_ext (by kernel_rfl) (by kernel_rfl) ?_
            repeat (go_big_quiet_step (first | exact rfl))
            refine wpQuiet_nil ?_
            intro w7 hw7
            have B7 : Hid (Below W1.heap.size W1 w7) := chain BB.out (ext_of hw7) (Nat.le_refl _)
            have e1 := (B7.out.cell (p := ⟨g, off + k * 2, none⟩) XS.out.2.2).trans XS.out.1
            have e2 := (B7.out.cell (p := ⟨g, off + k * 2 + 1, none⟩) XS.out.2.2).trans XS.out.2.1
            have hz7 := B7.out.size
            have R7 : Hid (w7.ownsRow W1.heap.size 38 2 (.slice (some ⟨go, 0, none⟩) (nd + 1) co) (nd + 1) (cellsR (D ++ [x]))) := ownsRow_fr (S := fun _ => False) OW.out (Fr.of_below (ext_of hw7)) (fun _ _ q => q)
            clear hw7 cs1 hcell
            go_wp2_with (at_builtin; refine wpList_append_own_at _ rfl _ _ 22 rfl W1.heap.size 38 t0 (.agg #[.int .i64 0, .int .i64 0]) 2 16 und_ranges ti hz0 hz1 hz2 rfl (by decide) (.slice (some ⟨go, 0, none⟩) (nd + 1) co) (nd + 1) (cellsR (D ++ [x])) rfl (World.ownsRow.alloc R7.out (.cells #[.int .i64 lo, .int .i64 hi] 38)) ⟨w7.heap.size, 0, none⟩ 1 1 [.int .i64 lo, .int .i64 hi] rfl rfl (news2 _ _ _ _) (by simp [Value.oneCell']) (by unfold maxLen; omega) (by omega) (by simp; omega) ?_; intro v' w6 hown' hgrow _ hblk; obtain ⟨g6, cap6, rfl⟩ := ownsRow_some hown' (Nat.succ_pos _); have A6 : Hid (RR W1.heap.size w6 (.slice (some ⟨g6, 0, none⟩) ((nd + 1) + 1) cap6) (D ++ [x] ++ [(lo, hi)])) := rr_apps (F := (D ++ [x])) (L := [(lo, hi)]) hown'; have B6 : Hid (Below W1.heap.size W1 w6) := below_grown (B7.out.alloc hz7 _) (World.ownsRow.alloc R7.out _) hgrow; clear hown' hgrow hblk)
            go_roundw
            case rel => exact ⟨k + 1, by omega, by go_num, rr_cast NX2.out.symm A6.out, B6.out⟩
            case measure => simp [intOf]; omega
        · obtain ⟨M, hM⟩ : ∃ M, max x.2 hi = M := ⟨_, rfl⟩
          have HM : Hid (max x.2 hi = M) := hM
          have hmx : ∀ t ty w, (Builtin.max_ t ty #[.int .i64 y, .int .i64 hi]).run Try.prog w = .ok (.int .i64 M) w := fun t ty w => by rw [max_run, ← HY.out, HM.out]
          have NR : Hid (¬ hi < lo → addM (D ++ [x]) (lo, hi) = D ++ [(x.1, max x.2 hi)]) := fun q => addM_near q (by rw [HY.out]; exact hf)
          clear hM
          by_cases hq : lo ≤ y
          · have d1 : decide (lo ≤ y) = true := decide_eq_true hq
            have d2 : True := trivial
            go_wp2
            refine wp_region_ext (by kernel_rfl) (by kernel_rfl) ?_
            repeat (go_big_quiet_step (first | exact rfl))
            refine wpQuiet_nil ?_
            intro w7 hw7
            have B7 : Hid (Below W1.heap.size W1 w7) := chain BB.out (ext_of hw7) (Nat.le_refl _)
            have e1 := (B7.out.cell (p := ⟨g, off + k * 2, none⟩) XS.out.2.2).trans XS.out.1
            have e2 := (B7.out.cell (p := ⟨g, off + k * 2 + 1, none⟩) XS.out.2.2).trans XS.out.2.1
            have hz7 := B7.out.size
            have O7 : Hid (w7.drew.ownsRow W1.heap.size 38 2 (.slice (some ⟨go, 0, none⟩) (nd + 1) co) (nd + 1) (cellsR (D ++ [x]))) := (ownsRow_fr (S := fun _ => False) OW.out (Fr.of_below (ext_of hw7)) (fun _ _ q => q)).drew
            have c7 := ((ext_of hw7).cell (p := ⟨go, nd * 2 + 1, none⟩) hgo).trans hcell
            have f7 : w7.frozen? ⟨go, nd * 2 + 1, none⟩ = false := O7.out.frozenAt (nd * 2 + 1)
            clear hw7 hcell d1 d2
            go_wp2
            go_region_with fail
            all_goals (
              go_wp2
              go_roundw
              case rel => exact ⟨k + 1, by omega, by go_num, rr_cast (NX.out.trans (NR.out hne)).symm (by rw [HM.out]; exact rr_of (set_last O7.out LD.out M) (by have := LD.out; simp; omega)), B7.out.drew.setCell (p := ⟨go, nd * 2 + 1, none⟩) hgb _⟩
              case measure => simp [intOf]; omega)
          · have d1 : decide (lo ≤ y) = false := decide_eq_false hq
            have wl : IntKind.wrap .i64 (lo - 1) = lo - 1 := by rw [IntKind.wrap_i64]; omega
            have d2 : (lo - 1 == y) = true := by rw [beq_iff_eq]; omega
            go_wp2
            refine wp_region_ext (by kernel_rfl) (by kernel_rfl) ?_
            repeat (go_big_quiet_step (first | exact rfl))
            refine wpQuiet_nil ?_
            intro w7 hw7
            have B7 : Hid (Below W1.heap.size W1 w7) := chain BB.out (ext_of hw7) (Nat.le_refl _)
            have e1 := (B7.out.cell (p := ⟨g, off + k * 2, none⟩) XS.out.2.2).trans XS.out.1
            have e2 := (B7.out.cell (p := ⟨g, off + k * 2 + 1, none⟩) XS.out.2.2).trans XS.out.2.1
            have hz7 := B7.out.size
            have O7 : Hid (w7.drew.ownsRow W1.heap.size 38 2 (.slice (some ⟨go, 0, none⟩) (nd + 1) co) (nd + 1) (cellsR (D ++ [x]))) := (ownsRow_fr (S := fun _ => False) OW.out (Fr.of_below (ext_of hw7)) (fun _ _ q => q)).drew
            have c7 := ((ext_of hw7).cell (p := ⟨go, nd * 2 + 1, none⟩) hgo).trans hcell
            have f7 : w7.frozen? ⟨go, nd * 2 + 1, none⟩ = false := O7.out.frozenAt (nd * 2 + 1)
            clear hw7 hcell d1 d2
            go_wp2
            go_region_with fail
            all_goals (
              go_wp2
              go_roundw
              case rel => exact ⟨k + 1, by omega, by go_num, rr_cast (NX.out.trans (NR.out hne)).symm (by rw [HM.out]; exact rr_of (set_last O7.out LD.out M) (by have := LD.out; simp; omega)), B7.out.drew.setCell (p := ⟨go, nd * 2 + 1, none⟩) hgb _⟩
              case measure => simp [intOf]; omega)
    · have i1 : ¬ (k : Int) < (S.length : Int) := by omega
      have E : Hid (S.take k = S) := hide (List.take_of_length_le (by omega))
      have SPn := SP.out k hk
      rw [E.out] at RC SPn
      have SS : Hid _ := SPn
      have hcl := SPn.2.2.1
      clear SPn
      go_wp2
      go_ret
      exact ⟨_, _, rfl, RC.out.mono X5.out.2.2.2.2.2.size, ⟨SS.out.1, SS.out.2.1, fun c => (SS.out.2.2.2 c).trans (X5.out.2.2.2.1 c)⟩, by omega, chain X5.out.2.2.2.2.2 BB.out (Nat.le_refl _)⟩
end Go.Proofs.Ytfihhliiecdnaaa
