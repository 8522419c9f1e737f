/-
  dredgeref06.Class: the class of the numbers of some ranges. dredgeref06.Alike: two lists, range by range. lent, still, spoil: lists that are handed in, and lists that came.
-/
import Derived.Test.YtlodjinejeajcaaRightProofB2
import Derived.Test.YtlodjinejeajcaaC8
import Derived.Test.YtlodjinejeajcaaC10
import Derived.Laws.MakeOwn
namespace Go.Proofs.Ytlodjinejeajcaa
open Go Go.RowKit
attribute [local go_sem] ext_cell

theorem rr_cast {base : Nat} {w : World} {v : Value} {A B : List (Int × Int)} (e : A = B) (h : RR base w v A) : RR base w v B := e ▸ h
set_option maxRecDepth 100000 in
set_option maxHeartbeats 4000000 in
theorem rclass_c {w : World} {v : Value} {L : List (Int × Int)} (h : ArgR w v L) (hF : Fit L) (hl : L.length + 1 ≤ 8796093022208) :
    Calls Try.prog 74 #[v] w (Gets w (In L) L.length) := by
  obtain ⟨t0, ti, hz0, hz1, hz2⟩ := info_parts size_range
  have H : Hid (ArgR w v L ∧ Fit L) := ⟨h, hF⟩
  clear h hF
  go_enter Try.func74, Try.ntmps74
  go_wp2_with (go_at_call 84; refine (sorted_c L.length w v L (Nat.le_refl _) hl H.out.1 H.out.2).mono ?_; rintro e w5 ⟨v5, S, rfl, h1, h2, h3, h4, h5, h6⟩; obtain ⟨qs, cs, rfl⟩ := h1.shape; have X5 : Hid (RR w.heap.size w5 (.slice qs S.length cs) S ∧ Srt S ∧ Fit S ∧ (∀ c, In S c ↔ In L c) ∧ S.length ≤ L.length ∧ Below w.heap.size w w5) := ⟨h1, h2, h3, h4, h5, h6⟩; clear h1 h2 h3 h4 h5 h6)
  rename World => W1
  have hsl := X5.out.2.2.2.2.1
  have HC : Hid (∀ (i : Nat) (r : Int × Int), S[i]? = some r → ∃ g off, qs = some ⟨g, off, none⟩ ∧ g < W1.heap.size ∧ W1.cell? ⟨g, off + 2 * i, none⟩ = some (.int .i64 r.1) ∧ W1.cell? ⟨g, off + 2 * i + 1, none⟩ = some (.int .i64 r.2)) := by
    obtain ⟨q', cap', e, -, -, hc⟩ := X5.out.1.arg.slice
    cases e
    exact hc
  have SP : Hid (∀ k, k ≤ S.length → Cls ((S.take k).foldl addM []) ∧ Fit ((S.take k).foldl addM []) ∧ ((S.take k).foldl addM []).length ≤ k ∧ ∀ c, In ((S.take k).foldl addM []) c ↔ In (S.take k) c) := fun k hk => by
    have := fold_spec X5.out.2.1.rise X5.out.2.2.1 k hk
    exact ⟨this.1, this.2.1, this.2.2.1, this.2.2.2.1⟩
  go_loopw [3, 5] (fun ov i wr => ∃ k : Nat, k ≤ S.length ∧ i = .int .i64 k ∧ RR W1.heap.size wr ov ((S.take k).foldl addM []) ∧ Below W1.heap.size W1 wr) (fun _ i _ => S.length - (intOf i).toNat)
  case atStart => exact ⟨0, Nat.zero_le _, rfl, RR.nil _ _, Below.refl _ _⟩
  case round =>
    obtain ⟨k, hk, rfl, hrr, hb⟩ := hrel
    have RC : Hid (RR W1.heap.size wr u3 ((S.take k).foldl addM [])) := hrr
    have BB : Hid (Below W1.heap.size W1 wr) := hb
    have hbs := hb.size
    clear hb hrr
    by_cases hlt : k < S.length
    · obtain ⟨r, hr⟩ : ∃ r, S[k]? = some r := ⟨_, List.getElem?_eq_getElem hlt⟩
      obtain ⟨g, off, rfl, hg, x1, x2⟩ := HC.out k _ hr
      rw [Nat.mul_comm] at x1 x2
      have NX : Hid ((S.take (k + 1)).foldl addM [] = addM ((S.take k).foldl addM []) r) := hide (by
        obtain ⟨h1, h2⟩ := List.getElem?_eq_some_iff.1 hr
        rw [take_next _ _ h1, List.foldl_append, h2]; rfl)
      have hne : ¬ r.2 < r.1 := by have := X5.out.2.1.some r (List.mem_of_getElem? hr); omega
      have hfr := X5.out.2.2.1 r (List.mem_of_getElem? hr)
      have SPk := SP.out k hk
      have FC : Hid (Fit ((S.take k).foldl addM [])) := SPk.2.1
      have hcl := SPk.2.2.1
      obtain ⟨lo, hi⟩ := r
      dsimp only at x1 x2 hne hfr
      have XS : Hid (W1.cell? ⟨g, off + k * 2, none⟩ = some (.int .i64 lo) ∧ W1.cell? ⟨g, off + k * 2 + 1, none⟩ = some (.int .i64 hi) ∧ g < W1.heap.size) := ⟨x1, x2, hg⟩
      have cs1 := (BB.out.cell (p := ⟨g, off + k * 2, none⟩) hg).trans x1
      have sg : g < wr.heap.size := Nat.lt_of_lt_of_le hg hbs
      have i0 : (0 : Int) ≤ (k : Int) := by omega
      have i1 : (k : Int) < (S.length : Int) := by omega
      clear x1 x2 hr SPk hg
      generalize (S.take k).foldl addM [] = C at *
      rcases last_cases C with e | ⟨D, x, e⟩
      · subst e
        obtain ⟨qo, co, e3⟩ := RC.out.shape
        subst e3
        have LD : Hid ((0 : Nat) = 0) := rfl
        have NX2 : Hid ((S.take (k + 1)).foldl addM [] = [(lo, hi)]) := hide (by rw [NX.out, addM_nil hne])
        simp only [List.length_nil] at RC ⊢
        have wn : IntKind.wrap .i64 ((0 : Int) - 1) = -1 := by decide
        have d0 : decide ((0 : Int) ≤ -1) = false := by decide
        · ·
            go_wp2
            refine wp_region_ext (by kernel_rfl) (by kernel_rfl) ?_
            repeat (go_big_quiet_step (first | exact rfl))
            refine wpQuiet_nil ?_
            intro w7 hw7
            have B7 : Hid (Below W1.heap.size W1 w7) := chain BB.out (ext_of hw7) (Nat.le_refl _)
            have e1 := (B7.out.cell (p := ⟨g, off + k * 2, none⟩) XS.out.2.2).trans XS.out.1
            have e2 := (B7.out.cell (p := ⟨g, off + k * 2 + 1, none⟩) XS.out.2.2).trans XS.out.2.1
            have hz7 := B7.out.size
            have R7 : Hid (RR W1.heap.size w7 (.slice qo 0 co) []) := RC.out.kept (ext_of hw7)
            clear hw7 cs1
            go_wp2_with (at_builtin; refine wpList_append_own_at _ rfl _ _ 22 rfl W1.heap.size 72 t0 (.agg #[.int .i64 0, .int .i64 0]) 2 16 und_ranges ti hz0 hz1 hz2 rfl (by decide) (.slice qo 0 co) 0 (cellsR []) rfl (World.ownsRow.alloc R7.out (.cells #[.int .i64 lo, .int .i64 hi] 72)) ⟨w7.heap.size, 0, none⟩ 1 1 [.int .i64 lo, .int .i64 hi] rfl rfl (news2 _ _ _ _) (by simp [Value.oneCell']) (by unfold maxLen; omega) (by omega) (by simp; omega) ?_; intro v' w6 hown' hgrow _ hblk; obtain ⟨g6, cap6, rfl⟩ := ownsRow_some hown' (Nat.succ_pos _); have A6 : Hid (RR W1.heap.size w6 (.slice (some ⟨g6, 0, none⟩) (0 + 1) cap6) ([(lo, hi)])) := rr_apps (F := []) (L := [(lo, hi)]) hown'; have B6 : Hid (Below W1.heap.size W1 w6) := below_grown (B7.out.alloc hz7 _) (World.ownsRow.alloc R7.out _) hgrow; clear hown' hgrow hblk)
            go_roundw
            case rel => exact ⟨k + 1, by omega, by go_num, rr_cast NX2.out.symm A6.out, B6.out⟩
            case measure => simp [intOf]; omega
      · subst e
        have fx := FC.out x (by simp)
        obtain ⟨nd, hnd⟩ : ∃ nd, D.length = nd := ⟨_, rfl⟩
        have LD : Hid (D.length = nd) := hnd
        have OW0 : Hid (wr.ownsRow W1.heap.size 72 2 u3 (nd + 1) (cellsR (D ++ [x]))) := hide (by have := RC.out; unfold RR at this; rwa [List.length_append, List.length_singleton, hnd] at this)
        obtain ⟨go, co, e3⟩ := ownsRow_some OW0.out (by omega)
        subst e3
        have OW : Hid (wr.ownsRow W1.heap.size 72 2 (.slice (some ⟨go, 0, none⟩) (nd + 1) co) (nd + 1) (cellsR (D ++ [x]))) := OW0.out
        have hgo : go < wr.heap.size := (ownsRow_at OW.out rfl).2.1
        have hgb : W1.heap.size ≤ go := (ownsRow_at OW.out rfl).1
        have hcell := (last_cell OW.out hnd).2
        rw [List.length_append, List.length_singleton, hnd] at hcl
        clear RC OW0 hnd
        obtain ⟨y, hy⟩ : ∃ y, x.2 = y := ⟨_, rfl⟩
        rw [hy] at hcell fx
        have HY : Hid (x.2 = y) := hy
        clear hy
        have wn : IntKind.wrap .i64 ((nd : Int) + 1 - 1) = (nd : Int) := by rw [IntKind.wrap_i64]; omega
        have j0 : (0 : Int) ≤ (nd : Int) := by omega
        have j1 : (nd : Int) < (nd : Int) + 1 := by omega
        have d0 : decide ((0 : Int) ≤ (nd : Int)) = true := decide_eq_true j0
        by_cases hf : y + 1 < lo
        · have d1 : decide (lo ≤ y) = false := decide_eq_false (by omega)
          have wl : IntKind.wrap .i64 (lo - 1) = lo - 1 := by rw [IntKind.wrap_i64]; omega
          have d2 : (lo - 1 == y) = false := beq_false_of_ne (by omega)
          have NX2 : Hid ((S.take (k + 1)).foldl addM [] = D ++ [x] ++ [(lo, hi)]) := hide (by rw [NX.out, addM_far hne (by rw [HY.out]; exact hf)])
          ·
            go_wp2
            refine wp_region_ext (by kernel_rfl) (by kernel_rfl) ?_
            repeat (go_big_quiet_step (first | exact rfl))
            refine wpQuiet_nil ?_
            intro w7 hw7
            have B7 : Hid (Below W1.heap.size W1 w7) := chain BB.out (ext_of hw7) (Nat.le_refl _)
            have e1 := (B7.out.cell (p := ⟨g, off + k * 2, none⟩) XS.out.2.2).trans XS.out.1
            have e2 := (B7.out.cell (p := ⟨g, off + k * 2 + 1, none⟩) XS.out.2.2).trans XS.out.2.1
            have hz7 := B7.out.size
            have R7 : Hid (w7.ownsRow W1.heap.size 72 2 (.slice (some ⟨go, 0, none⟩) (nd + 1) co) (nd + 1) (cellsR (D ++ [x]))) := ownsRow_fr (S := fun _ => False) OW.out (Fr.of_below (ext_of hw7)) (fun _ _ q => q)
            clear hw7 cs1 hcell
            go_wp2_with (at_builtin; refine wpList_append_own_at _ rfl _ _ 22 rfl W1.heap.size 72 t0 (.agg #[.int .i64 0, .int .i64 0]) 2 16 und_ranges ti hz0 hz1 hz2 rfl (by decide) (.slice (some ⟨go, 0, none⟩) (nd + 1) co) (nd + 1) (cellsR (D ++ [x])) rfl (World.ownsRow.alloc R7.out (.cells #[.int .i64 lo, .int .i64 hi] 72)) ⟨w7.heap.size, 0, none⟩ 1 1 [.int .i64 lo, .int .i64 hi] rfl rfl (news2 _ _ _ _) (by simp [Value.oneCell']) (by unfold maxLen; omega) (by omega) (by simp; omega) ?_; intro v' w6 hown' hgrow _ hblk; obtain ⟨g6, cap6, rfl⟩ := ownsRow_some hown' (Nat.succ_pos _); have A6 : Hid (RR W1.heap.size w6 (.slice (some ⟨g6, 0, none⟩) ((nd + 1) + 1) cap6) (D ++ [x] ++ [(lo, hi)])) := rr_apps (F := (D ++ [x])) (L := [(lo, hi)]) hown'; have B6 : Hid (Below W1.heap.size W1 w6) := below_grown (B7.out.alloc hz7 _) (World.ownsRow.alloc R7.out _) hgrow; clear hown' hgrow hblk)
            go_roundw
            case rel => exact ⟨k + 1, by omega, by go_num, rr_cast NX2.out.symm A6.out, B6.out⟩
            case measure => simp [intOf]; omega
        · obtain ⟨M, hM⟩ : ∃ M, max x.2 hi = M := ⟨_, rfl⟩
          have HM : Hid (max x.2 hi = M) := hM
          have hmx : ∀ t ty w, (Builtin.max_ t ty #[.int .i64 y, .int .i64 hi]).run Try.prog w = .ok (.int .i64 M) w := fun t ty w => by rw [max_run, ← HY.out, HM.out]
          have NR : Hid (¬ hi < lo → addM (D ++ [x]) (lo, hi) = D ++ [(x.1, max x.2 hi)]) := fun q => addM_near q (by rw [HY.out]; exact hf)
          clear hM
          by_cases hq : lo ≤ y
          · have d1 : decide (lo ≤ y) = true := decide_eq_true hq
            have d2 : True := trivial
            go_wp2
            refine wp_region_ext (by kernel_rfl) (by kernel_rfl) ?_
            repeat (go_big_quiet_step (first | exact rfl))
            refine wpQuiet_nil ?_
            intro w7 hw7
            have B7 : Hid (Below W1.heap.size W1 w7) := chain BB.out (ext_of hw7) (Nat.le_refl _)
            have e1 := (B7.out.cell (p := ⟨g, off + k * 2, none⟩) XS.out.2.2).trans XS.out.1
            have e2 := (B7.out.cell (p := ⟨g, off + k * 2 + 1, none⟩) XS.out.2.2).trans XS.out.2.1
            have hz7 := B7.out.size
            have O7 : Hid (w7.drew.ownsRow W1.heap.size 72 2 (.slice (some ⟨go, 0, none⟩) (nd + 1) co) (nd + 1) (cellsR (D ++ [x]))) := (ownsRow_fr (S := fun _ => False) OW.out (Fr.of_below (ext_of hw7)) (fun _ _ q => q)).drew
            have c7 := ((ext_of hw7).cell (p := ⟨go, nd * 2 + 1, none⟩) hgo).trans hcell
            have f7 : w7.frozen? ⟨go, nd * 2 + 1, none⟩ = false := O7.out.frozenAt (nd * 2 + 1)
            clear hw7 hcell d1 d2
            go_wp2
            go_region_with fail
            all_goals (
              go_wp2
              go_roundw
              case rel => exact ⟨k + 1, by omega, by go_num, rr_cast (NX.out.trans (NR.out hne)).symm (by rw [HM.out]; exact rr_of (set_last O7.out LD.out M) (by have := LD.out; simp; omega)), B7.out.drew.setCell (p := ⟨go, nd * 2 + 1, none⟩) hgb _⟩
              case measure => simp [intOf]; omega)
          · have d1 : decide (lo ≤ y) = false := decide_eq_false hq
            have wl : IntKind.wrap .i64 (lo - 1) = lo - 1 := by rw [IntKind.wrap_i64]; omega
            have d2 : (lo - 1 == y) = true := by rw [beq_iff_eq]; omega
            go_wp2
            refine wp_region_ext (by kernel_rfl) (by kernel_rfl) ?_
            repeat (go_big_quiet_step (first | exact rfl))
            refine wpQuiet_nil ?_
            intro w7 hw7
            have B7 : Hid (Below W1.heap.size W1 w7) := chain BB.out (ext_of hw7) (Nat.le_refl _)
            have e1 := (B7.out.cell (p := ⟨g, off + k * 2, none⟩) XS.out.2.2).trans XS.out.1
            have e2 := (B7.out.cell (p := ⟨g, off + k * 2 + 1, none⟩) XS.out.2.2).trans XS.out.2.1
            have hz7 := B7.out.size
            have O7 : Hid (w7.drew.ownsRow W1.heap.size 72 2 (.slice (some ⟨go, 0, none⟩) (nd + 1) co) (nd + 1) (cellsR (D ++ [x]))) := (ownsRow_fr (S := fun _ => False) OW.out (Fr.of_below (ext_of hw7)) (fun _ _ q => q)).drew
            have c7 := ((ext_of hw7).cell (p := ⟨go, nd * 2 + 1, none⟩) hgo).trans hcell
            have f7 : w7.frozen? ⟨go, nd * 2 + 1, none⟩ = false := O7.out.frozenAt (nd * 2 + 1)
            clear hw7 hcell d1 d2
            go_wp2
            go_region_with fail
            all_goals (
              go_wp2
              go_roundw
              case rel => exact ⟨k + 1, by omega, by go_num, rr_cast (NX.out.trans (NR.out hne)).symm (by rw [HM.out]; exact rr_of (set_last O7.out LD.out M) (by have := LD.out; simp; omega)), B7.out.drew.setCell (p := ⟨go, nd * 2 + 1, none⟩) hgb _⟩
              case measure => simp [intOf]; omega)
    · have i1 : ¬ (k : Int) < (S.length : Int) := by omega
      have E : Hid (S.take k = S) := hide (List.take_of_length_le (by omega))
      have SPn := SP.out k hk
      rw [E.out] at RC SPn
      have SS : Hid _ := SPn
      have hcl := SPn.2.2.1
      clear SPn
      go_wp2
      go_ret
      exact ⟨_, _, rfl, RC.out.mono X5.out.2.2.2.2.2.size, ⟨SS.out.1, SS.out.2.1, fun c => (SS.out.2.2.2 c).trans (X5.out.2.2.2.1 c)⟩, by omega, chain X5.out.2.2.2.2.2 BB.out (Nat.le_refl _)⟩
end Go.Proofs.Ytlodjinejeajcaa
namespace Go.Proofs.Ytlodjinejeajcaa
open Go Go.RowKit
attribute [local go_sem] ext_cell

set_option maxRecDepth 100000 in
set_option maxHeartbeats 2000000 in
theorem alike_c {w : World} {va vb : Value} {A B : List (Int × Int)} (ha : ArgR w va A) (hb : ArgR w vb B) :
    Calls Try.prog 43 #[va, vb] w fun e w' => e = .returned (.bool (decide (A = B))) ∧ Below w.heap.size w w' := by
  obtain ⟨q1, cap1, rfl, hl1, -, hc1⟩ := ha.slice
  obtain ⟨q2, cap2, rfl, hl2, -, hc2⟩ := hb.slice
  have HC1 : Hid (∀ (i : Nat) (r : Int × Int), A[i]? = some r → ∃ g off, q1 = some ⟨g, off, none⟩ ∧ g < w.heap.size ∧ w.cell? ⟨g, off + 2 * i, none⟩ = some (.int .i64 r.1) ∧ w.cell? ⟨g, off + 2 * i + 1, none⟩ = some (.int .i64 r.2)) := hc1
  have HC2 : Hid (∀ (i : Nat) (r : Int × Int), B[i]? = some r → ∃ g off, q2 = some ⟨g, off, none⟩ ∧ g < w.heap.size ∧ w.cell? ⟨g, off + 2 * i, none⟩ = some (.int .i64 r.1) ∧ w.cell? ⟨g, off + 2 * i + 1, none⟩ = some (.int .i64 r.2)) := hc2
  clear hc1 hc2 ha hb
  unfold maxLen at hl1 hl2
  by_cases hne : A.length = B.length
  · have HNE : Hid (A.length = B.length) := hne
    rw [← hne]
    have b1 : (((A.length : Nat) : Int) != ((A.length : Nat) : Int)) = false := by simp
    clear hne hl2
    go_enter Try.func43, Try.ntmps43
    go_wp2
    go_loopw [5] (fun i wr => ∃ k : Nat, k ≤ A.length ∧ i = .int .i64 k ∧ A.take k = B.take k ∧ Below w.heap.size w wr) (fun i _ => A.length - (intOf i).toNat)
    case atStart => exact ⟨0, Nat.zero_le _, rfl, by simp, Below.refl _ _⟩
    case round =>
      obtain ⟨k, hk, rfl, ht, hbl⟩ := hrel
      have HT : Hid (A.take k = B.take k) := ht
      have BW : Hid (Below w.heap.size w wr) := hbl
      clear ht hbl
      by_cases hlt : k < A.length
      · obtain ⟨a, ea⟩ : ∃ r, A[k]? = some r := ⟨_, List.getElem?_eq_getElem hlt⟩
        obtain ⟨b, eb⟩ : ∃ r, B[k]? = some r := ⟨_, List.getElem?_eq_getElem (by have := HNE.out; omega)⟩
        obtain ⟨g1, o1, rfl, hg1, x1, x2⟩ := HC1.out k _ ea
        obtain ⟨g2, o2, rfl, hg2, y1, y2⟩ := HC2.out k _ eb
        have d1 := (BW.out.cell (p := ⟨g1, o1 + 2 * k, none⟩) hg1).trans x1
        have d2 := (BW.out.cell (p := ⟨g1, o1 + 2 * k + 1, none⟩) hg1).trans x2
        have d3 := (BW.out.cell (p := ⟨g2, o2 + 2 * k, none⟩) hg2).trans y1
        have d4 := (BW.out.cell (p := ⟨g2, o2 + 2 * k + 1, none⟩) hg2).trans y2
        rw [Nat.mul_comm] at d1 d2 d3 d4
        have s1 : g1 < wr.heap.size := Nat.lt_of_lt_of_le hg1 BW.out.size
        have s2 : g2 < wr.heap.size := Nat.lt_of_lt_of_le hg2 BW.out.size
        have NX : Hid (A.take (k + 1) = B.take (k + 1) ↔ a = b) := take_eq_next ea eb HT.out
        have NE : Hid (a ≠ b → ¬ A = B) := fun q e => by subst e; rw [ea] at eb; exact q (Option.some.inj eb)
        have i0 : (0 : Int) ≤ (k : Int) := by omega
        have i1 : (k : Int) < (A.length : Int) := by omega
        obtain ⟨a1, a2⟩ := a
        obtain ⟨b1', b2⟩ := b
        dsimp only at d1 d2 d3 d4
        clear x1 x2 y1 y2 ea eb
        by_cases e1 : a1 = b1'
        · by_cases e2 : a2 = b2
          · subst e1 e2
            have f1 : (a1 == a1) = true := by simp
            have f2 : (a2 == a2) = true := by simp
            have NX2 : Hid (A.take (k + 1) = B.take (k + 1)) := NX.out.2 rfl
            clear NX NE
            go_wp2
            refine wp_region_ext (by kernel_rfl) (by kernel_rfl) ?_
            repeat (go_big_quiet_step (first | exact rfl))
            refine wpQuiet_nil ?_
            intro w7 hw7
            have B7 : Hid (Below wr.heap.size wr w7) := ext_of hw7
            clear hw7
            go_wp2
            go_roundw
            case rel => exact ⟨k + 1, by omega, by go_num, NX2.out, chain BW.out B7.out (Nat.le_refl _)⟩
            case measure => simp [intOf]; omega
          · subst e1
            have f1 : (a1 == a1) = true := by simp
            have f2 : (a2 == b2) = false := by simp [e2]
            have N2 : Hid (decide (A = B) = false) := decide_eq_false (NE.out (fun q => e2 (Prod.mk.inj q).2))
            clear NX NE
            go_wp2
            refine wp_region_ext (by kernel_rfl) (by kernel_rfl) ?_
            repeat (go_big_quiet_step (first | exact rfl))
            refine wpQuiet_nil ?_
            intro w7 hw7
            have B7 : Hid (Below wr.heap.size wr w7) := ext_of hw7
            clear hw7
            go_wp2
            go_ret
            exact ⟨by rw [N2.out]; rfl, chain BW.out B7.out (Nat.le_refl _)⟩
        · have f1 : (a1 == b1') = false := by simp [e1]
          have N2 : Hid (decide (A = B) = false) := decide_eq_false (NE.out (fun q => e1 (Prod.mk.inj q).1))
          clear NX NE
          go_wp2
          refine wp_region_ext (by kernel_rfl) (by kernel_rfl) ?_
          repeat (go_big_quiet_step (first | exact rfl))
          refine wpQuiet_nil ?_
          intro w7 hw7
          have B7 : Hid (Below wr.heap.size wr w7) := ext_of hw7
          clear hw7
          go_wp2
          go_ret
          exact ⟨by rw [N2.out]; rfl, chain BW.out B7.out (Nat.le_refl _)⟩
      · have i1 : ¬ (k : Int) < (A.length : Int) := by omega
        have EE : Hid (decide (A = B) = true) := decide_eq_true (by
          have e := HT.out
          rw [List.take_of_length_le (by omega), List.take_of_length_le (by have := HNE.out; omega)] at e
          exact e)
        go_wp2
        go_ret
        exact ⟨by rw [EE.out]; rfl, BW.out⟩
  · have EE : Hid (decide (A = B) = false) := decide_eq_false (fun e => hne (by rw [e]))
    have b1 : (((A.length : Nat) : Int) != ((B.length : Nat) : Int)) = true := by simp; omega
    go_enter Try.func43, Try.ntmps43
    go_wp2
    go_ret
    exact ⟨by rw [EE.out]; rfl, Below.refl _ _⟩
end Go.Proofs.Ytlodjinejeajcaa
namespace Go.Proofs.Ytlodjinejeajcaa
open Go Go.RowKit

theorem size_two : (Try.prog.info? 72).map (·.size) = some 2 := by kernel_rfl
theorem run_copy_two {P : Program} (w : World) (dT sT ty elem : TypeId) (g dLen dCap : Nat) (sp : Option Addr) (sLen sCap : Nat) (cur : Array Value) (t : TypeId) (cs : List Value)
    (hu : P.underlying dT = some (.slice elem)) (hs : (P.info? elem).map (·.size) = some 2)
    (hg : w.heap[g]? = some (.cells cur t (0, 0))) (hn : cs.length = sLen * 2) (hle : sLen ≤ dLen)
    (hsrc : sLen = 0 ∨ ∃ ad, sp = some ad ∧ ∀ j v, cs[j]? = some v → w.cell? (ad.add j) = some v) (hfit : cs.length ≤ cur.size) (h1 : ∀ v ∈ cs, v.oneCell' = true) :
    (Builtin.copy_ #[dT, sT] ty #[.slice (some ⟨g, 0, none⟩) dLen dCap, .slice sp sLen sCap]).run P w =
      .ok (goInt sLen) (w.setRow g (cs ++ cur.toList.drop cs.length).toArray) := by
  have hmin : sLen.min dLen = sLen := Nat.min_eq_left hle
  have hst := run_storeCells_at P g 0 t cs 0 cur w hg (by simpa using hfit) h1
  simp only [Nat.zero_add, Nat.add_zero, List.take_zero, List.nil_append] at hst
  cases hq : P.info? elem with
  | none => simp [hq] at hs
  | some i =>
    have hi : i.size = 2 := by simpa [hq] using hs
    rcases hsrc with h0 | ⟨ad, rfl, hsrc⟩
    · subst h0
      obtain rfl : cs = [] := List.eq_nil_of_length_eq_zero (by simpa using hn)
      have hl : ∀ (x : Addr), (loadCells x 0).run P w = .ok #[] w := fun x => by simpa using run_loadCells_list (P := P) w x [] (by simp)
      have hst' : (storeCells ⟨g, 0, none⟩ [] 0).run P w = .ok () (w.setRow g (cur.toList.drop 0).toArray) := hst
      cases sp <;> simp [Builtin.copy_, run_underlying hu, Builtin.lenOf, Builtin.firstCells, sizeOf, typeInfo, hq, hl, hst']
    · have hl := run_loadCells_list (P := P) w ad cs hsrc
      rw [hn] at hl
      simp [Builtin.copy_, run_underlying hu, Builtin.lenOf, Builtin.firstCells, sizeOf, typeInfo, hq, hi, hmin, hl, hst]
theorem wpList_copy_two {P : Program} {w : World} {ops : Array Oper} {rest : List Oper} {o : Oper} {a : Act} {Q : Exit → Act → World → Prop} (hgd : o.guard = none) (d s : Operand) (dT sT : TypeId)
    (ho : o.op = .call { callee := .builtin .copy, args := #[d, s], argTypes := #[dT, sT] }) (elem : TypeId) (hu : P.underlying dT = some (.slice elem)) (hsz : (P.info? elem).map (·.size) = some 2)
    (g dLen dCap : Nat) (sp : Option Addr) (sLen sCap : Nat) (hd : a.eval d = .slice (some ⟨g, 0, none⟩) dLen dCap) (hs : a.eval s = .slice sp sLen sCap)
    (cur : Array Value) (t : TypeId) (hg : w.heap[g]? = some (.cells cur t (0, 0))) (cs : List Value) (hn : cs.length = sLen * 2) (hle : sLen ≤ dLen)
    (hsrc : sLen = 0 ∨ ∃ ad, sp = some ad ∧ ∀ j v, cs[j]? = some v → w.cell? (ad.add j) = some v) (hfit : cs.length ≤ cur.size) (h1 : ∀ v ∈ cs, v.oneCell' = true)
    (h : ∀ w', Hid (w'.heap[g]? = some (.cells (cs ++ cur.toList.drop cs.length).toArray t (0, 0))) → Below g w w' → wpList P ops Q rest (a.put o.dst (goInt sLen)) w') : wpList P ops Q (o :: rest) a w := by
  refine wpList_plain hgd fun K hK => ?_
  have hrun := run_copy_two (P := P) w dT sT o.type elem g dLen dCap sp sLen sCap cur t cs hu hsz hg hn hle hsrc hfit h1
  unfold Oper.wp
  simp [execOp, ho, resolve, invoke, builtin, hd, hs, hrun, Result.andThen]
  exact hK _ _ (h _ (setRow_heap w g _ _ t _ hg) (((Fr.refl (fun k => k = g) w).setRow rfl _).below (Nat.le_of_lt (lt_of_heap hg)) (fun k e => by omega)))

/-- The copy with the mark behind it. -/
def XAt (W : World) (X : Nat) (L : List (Int × Int)) : Prop := W.heap[X]? = some (.cells (cellsR (L ++ [(-7, 7)])).toArray 72 (0, 0))
theorem XAt.kept {W W' : World} {X : Nat} {L : List (Int × Int)} (h : XAt W X L) (hb : Below W.heap.size W W') : XAt W' X L := (hb.block X (lt_of_heap h)).trans h
theorem XAt.get {W : World} {X : Nat} {L : List (Int × Int)} (h : XAt W X L) {i : Nat} {r : Int × Int} (hi : (L ++ [(-7, 7)])[i]? = some r) : W.cell? ⟨X, 2 * i, none⟩ = some (.int .i64 r.1) ∧ W.cell? ⟨X, 2 * i + 1, none⟩ = some (.int .i64 r.2) := by
  obtain ⟨f1, f2⟩ := cellsR_get _ i r hi
  exact ⟨cell_row h (by simpa using f1), cell_row h (by simpa using f2)⟩
theorem XAt.arg {W : World} {X : Nat} {L : List (Int × Int)} (h : XAt W X L) (hm : L.length + 1 ≤ maxLen) : ArgR W (.slice (some ⟨X, 0, none⟩) L.length (L.length + 1)) L :=
  .inr ⟨X, 0, L.length + 1, rfl, lt_of_heap h, by omega, hm, fun i r hi => by
    have hl : i < L.length := (List.getElem?_eq_some_iff.1 hi).1
    rw [Nat.zero_add]
    exact h.get (by rw [List.getElem?_append_left hl]; exact hi)⟩
theorem ArgR.src {w : World} {sp : Option Addr} {n cap : Nat} {L : List (Int × Int)} (h : ArgR w (.slice sp n cap) L) : n = 0 ∨ ∃ ad, sp = some ad ∧ ∀ j v, (cellsR L)[j]? = some v → w.cell? (ad.add j) = some v := by
  cases sp with
  | none =>
    rcases h with ⟨_, _, h1, _⟩ | ⟨g, off, cap', h1, _⟩
    · cases h1; exact .inl rfl
    · cases h1
  | some ad => exact .inr ⟨ad, rfl, h.news⟩
theorem made_mark {W : World} {X : Nat} {L : List (Int × Int)} {Z : List Value} (h : W.heap[X]? = some (.cells (cellsR L ++ Z).toArray 72 (0, 0))) (hZ : Z.length = 2) :
    XAt ((W.setCell ⟨X, L.length * 2, none⟩ (.int .i64 (-7))).setCell ⟨X, L.length * 2 + 1, none⟩ (.int .i64 7)) X L := by
  refine (heap_set_in (heap_set_in h _ _) _ _).trans ?_
  obtain ⟨x, y, rfl⟩ : ∃ x y, Z = [x, y] := by
    match Z, hZ with
    | [x, y], _ => exact ⟨x, y, rfl⟩
  congr 2
  apply Array.ext'
  simp only [Array.toList_setIfInBounds]
  rw [cellsR_append, List.set_append_right _ _ (by rw [cellsR_length]; omega), List.set_append_right _ _ (by rw [cellsR_length]; omega), cellsR_length]
  simp [cellsR]
theorem made_cells {W : World} {X : Nat} {L : List (Int × Int)} {Z : List Value} (h : W.heap[X]? = some (.cells (cellsR L ++ Z).toArray 72 (0, 0))) (hZ : Z.length = 2) :
    (∃ u, W.cell? ⟨X, L.length * 2, none⟩ = some u) ∧ (∃ u, W.cell? ⟨X, L.length * 2 + 1, none⟩ = some u) ∧ ∀ o, W.frozen? ⟨X, o, none⟩ = false := by
  obtain ⟨x, y, rfl⟩ : ∃ x y, Z = [x, y] := by
    match Z, hZ with
    | [x, y], _ => exact ⟨x, y, rfl⟩
  refine ⟨⟨x, cell_row h ?_⟩, ⟨y, cell_row h ?_⟩, fun o => frz_row h o⟩
  · simp [← cellsR_length]
  · rw [List.getElem?_toArray, List.getElem?_append_right (by rw [cellsR_length]; omega), cellsR_length]
    simp

theorem make_ranges (n : Nat) (h : n ≤ 8796093022208) (w : World) :
    (Instr.makeSlice 22 (.int .i64 (n : Int)) (.int .i64 (n : Int))).run Try.prog w = .ok (.slice (some ⟨w.heap.size, 0, none⟩) n n) (w.alloc (.cells (madeCells #[.int .i64 0, .int .i64 0] (n * 2)) 72)) := by
  obtain ⟨i0, hi, hz0, hz1, hz2⟩ := info_parts size_range
  have := run_make (P := Try.prog) w 22 72 i0 (.agg #[.int .i64 0, .int .i64 0]) und_ranges hi hz0 .i64 .i64 (n : Int) (n : Int) (by omega) (by omega) (by rw [hz2]; omega) (by omega)
  rw [hz1] at this
  simpa [Value.cells] using this

end Go.Proofs.Ytlodjinejeajcaa
