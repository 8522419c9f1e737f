/-
  The law PileCuts.
-/
import Derived.Test.YtobeiigmeflbjaaKnown4
namespace Go.Proofs.Ytobeiigmeflbjaa
open Go Go.RowKit

/-- A pile of numbers beside the list of what it should have. -/
structure CutI (n : Nat) (w : World) (pb : Nat) (v wv : Value) (L M : List Int) (wr : World) : Prop where
  p : PI n wr pb v L
  o : wr.ownsRow n 3 1 wv M.length (ints M)
  d : ∀ g, v.ownBlock = some g → wv.ownBlock ≠ some g
  b : Below n w wr
  hn : n ≤ w.heap.size
theorem CutI.len {n : Nat} {w wr : World} {pb : Nat} {v wv : Value} {L M : List Int} (h : CutI n w pb v wv L M wr) : n ≤ wr.heap.size := Nat.le_trans h.hn h.b.size
theorem CutI.sep {n : Nat} {w wr : World} {pb : Nat} {v wv : Value} {L M : List Int} (h : CutI n w pb v wv L M wr) : ∀ k, wv.ownBlock = some k → ¬ foot pb v k := fun k hk q => by
  rcases q with rfl | q
  · exact ownsRow_not h.o h.p.hb (by decide) hk
  · exact h.d k q hk
theorem CutI.pile {n : Nat} {w wr w' : World} {pb : Nat} {v v' wv : Value} {L L' M : List Int} (h : CutI n w pb v wv L M wr) (hp : PI n w' pb v' L') (hm : moved v v' wr.heap.size) (hf : Fr (foot pb v) wr w') : CutI n w pb v' wv L' M w' :=
  ⟨hp, ownsRow_fr h.o hf h.sep, fun g hg q => h.d g (moved_in hm (ownsRow_at h.o q).2.1 hg) q, chainF h.b hf h.hn h.p.foot, h.hn⟩
theorem CutI.list {n : Nat} {w wr w' : World} {pb : Nat} {v wv wv' : Value} {L M M' : List Int} (h : CutI n w pb v wv L M wr) (ho : w'.ownsRow n 3 1 wv' M'.length (ints M')) (hm : moved wv wv' wr.heap.size) (hf : Fr (fun k => wv.ownBlock = some k) wr w') : CutI n w pb v wv' L M' w' :=
  ⟨h.p.fr hf (fun k hk q => h.sep k q hk), ho, fun g hg q => h.d g hg (moved_in hm (h.p.lt g (.inr hg)) q), chainF h.b hf h.hn (fun _ hk => (ownsRow_at h.o hk).1), h.hn⟩

set_option maxRecDepth 100000 in
set_option maxHeartbeats 8000000 in
theorem law_cuts (zs : List Int) (v1 : Value) (cs : List Int) (v2 : Value) (w : World) (hz : ArgI w v1 zs) (hc : ArgI w v2 cs) :
    Calls Try.prog 7 #[v1, v2] w fun e w' => e = .returned (.bool true) ∧ Below w.heap.size w w' := by
  obtain ⟨q1, cap1, rfl, hlen1, hc1⟩ := hz.slice
  obtain ⟨q2, cap2, rfl, hlen2, hc2⟩ := hc.slice
  have HC1 : Hid (∀ (i : Nat) (x : Int), zs[i]? = some x → ∃ g off, q1 = some ⟨g, off, none⟩ ∧ g < w.heap.size ∧ w.cell? ⟨g, off + i, none⟩ = some (.int .i64 x)) := hc1
  have HC2 : Hid (∀ (i : Nat) (x : Int), cs[i]? = some x → ∃ g off, q2 = some ⟨g, off, none⟩ ∧ g < w.heap.size ∧ w.cell? ⟨g, off + i, none⟩ = some (.int .i64 x)) := hc2
  clear hc1 hc2 hz hc
  unfold maxLen at hlen1 hlen2
  obtain ⟨t0, hi, hz0, hz1, hz2⟩ := info_parts size_int
  go_enter Try.func7, Try.ntmps7
  go_upto_region 7 with first | (go_at_call 9; (with_reducible refine (known_c _).mono ?_); rintro e w0 ⟨rfl, hb⟩; have B0 : Hid (Below w.heap.size w w0) := hb; clear hb) | (go_at_call 31; (with_reducible refine (newI _).mono ?_); rintro e w1 ⟨rfl, hp, hb, hs⟩; have I1 : Hid (CutI w.heap.size w w0.heap.size (.slice none 0 0) (.slice none 0 0) [] [] w1) := ⟨⟨hp.hb, B0.out.size, ownsRow_mono hp.own B0.out.size⟩, World.ownsRow_nil _ _ _ _, (fun g hg => by cases hg), chain B0.out hb (Nat.le_refl _), Nat.le_refl _⟩; clear hp hb hs)
  obtain ⟨pb, hpb⟩ : ∃ pb, w0.heap.size = pb := ⟨_, rfl⟩
  rw [hpb] at I1 ⊢
  clear hpb B0
  go_loopw [7, 8] (fun wv i wr => ∃ (k : Nat) (v : Value) (L : List Int), k ≤ zs.length ∧ k ≤ 300 ∧ i = .int .i64 k ∧ L.length ≤ k ∧ CutI w.heap.size w pb v wv L L wr) (fun _ i _ => zs.length - (intOf i).toNat)
  case atStart => exact ⟨0, _, [], Nat.zero_le _, Nat.zero_le _, rfl, Nat.le_refl _, I1.out⟩
  case round =>
    obtain ⟨k, v, L, hk, hk3, rfl, hLk, hI⟩ := hrel
    have I : Hid (CutI w.heap.size w pb v u7 L L wr) := hI
    clear hI I1
    obtain ⟨qw, cw, rfl⟩ := ownsRow_shape I.out.o
    go_upto_region 7 with fail
    go_cut [31] (fun c wx => c = .bool (decide (k < zs.length ∧ k < 300)) ∧ wx = wr)
    case first =>
      go_wp2_with fail
      all_goals go_meet
      all_goals first | exact ⟨by rw [decide_eq_false (by omega)], rfl⟩ | exact ⟨by congr 1; exact decide_eq_decide.2 (by omega), rfl⟩
    case rest =>
      obtain ⟨rfl, rfl⟩ := hcut
      by_cases hgo : k < zs.length ∧ k < 300
      · have hd : decide (k < zs.length ∧ k < 300) = true := decide_eq_true hgo
        obtain ⟨hlt, h3⟩ := hgo
        obtain ⟨g, off, rfl, hg, hx⟩ := HC1.out k _ (List.getElem?_eq_getElem hlt)
        have hx' := (I.out.b.cell (p := ⟨g, off + k, none⟩) hg).trans hx
        generalize zs[k] = x at hx'
        clear hx
        have i0 : (0 : Int) ≤ (k : Int) := by omega
        have i1 : (k : Int) < (zs.length : Int) := by omega
        rw [hd]
        go_upto_region 10 with (go_at_call 32; (with_reducible refine (pushI I.out.p I.out.len (by omega) x).mono ?_); rintro e w2 ⟨rfl, v2', hp, hm, hf⟩; have J : Hid (CutI w.heap.size w pb v2' (.slice qw L.length cw) (L ++ [x]) L w2) := I.out.pile hp hm hf; clear hp hm hf)
        have hx2 := (J.out.b.cell (p := ⟨g, off + k, none⟩) hg).trans ((I.out.b.cell (p := ⟨g, off + k, none⟩) hg).symm.trans hx')
        have hlg : g < w2.heap.size := Nat.lt_of_lt_of_le hg J.out.b.size
        clear hx'
        go_upto_region 11 with (at_builtin; refine wpList_append_own_at _ rfl _ _ 60 rfl w.heap.size 3 t0 (.int .i64 0) 1 8 und_ints hi hz0 hz1 hz2 rfl (by decide) (.slice qw L.length cw) L.length (ints L) rfl (World.ownsRow.alloc J.out.o (.cells #[.int .i64 x] 3)) ⟨w2.heap.size, 0, none⟩ 1 1 [.int .i64 x] rfl rfl (cell_one_new _ _ _) (by simp [Value.oneCell']) (by unfold maxLen; omega) (by omega) (by have := J.out.len; simp; omega) ?_; intro v' w6 hown' hgrow _ hblk; obtain ⟨g6, cap6, rfl⟩ := ownsRow_some hown' (Nat.succ_pos _); have K6 : Hid (CutI w.heap.size w pb v2' (.slice (some ⟨g6, 0, none⟩) (L.length + 1) cap6) (L ++ [x]) (L ++ [x]) w6) := J.out.list (by rw [List.length_append, List.length_singleton, ints_append]; exact hown') (by rcases hblk with q | q; exact .inl q; exact .inr (.inr ⟨_, by simp, q⟩)) (((Fr.refl _ w2).alloc _).grown hgrow (fun k hk => hk)); clear hown' hgrow hblk)
        have hcap6 : L.length + 1 ≤ cap6 := by have := (ownsRow_cap (n := L.length + 1) (by have := K6.out.o; rwa [List.length_append, List.length_singleton] at this)).1; exact this
        clear hx2 hlg
        by_cases hkc : k < cs.length
        · obtain ⟨g', off', rfl, hg', hy⟩ := HC2.out k _ (List.getElem?_eq_getElem hkc)
          have hy' := (K6.out.b.cell (p := ⟨g', off' + k, none⟩) hg').trans hy
          generalize cs[k] = y at hy'
          clear hy
          have i2 : (k : Int) < (cs.length : Int) := by omega
          have i3 : ¬ (cs.length : Int) ≤ (k : Int) := by omega
          by_cases hyr : 0 ≤ y ∧ y ≤ (L.length : Int) + 1
          · obtain ⟨m, rfl⟩ : ∃ m : Nat, y = m := ⟨y.toNat, by omega⟩
            have hm : m ≤ L.length + 1 := by omega
            have j0 : ¬ (m : Int) < 0 := by omega
            have j1 : ¬ (L.length : Int) + 1 < (m : Int) := by omega
            have j2 : (m : Int) ≤ (cap6 : Int) := by omega
            have j3 : (0 : Int) ≤ (m : Int) := by omega
            clear hyr
            go_wp2_with (go_at_call 33; (with_reducible refine (cutI K6.out.p (n := m) (by simp; omega)).mono ?_); rintro e w7 ⟨rfl, v7, hp, hb7, hf⟩; have K7 : Hid (CutI w.heap.size w pb v7 (.slice (some ⟨g6, 0, none⟩) (L.length + 1) cap6) ((L ++ [x]).take m) (L ++ [x]) w7) := K6.out.pile hp (.inl hb7) hf; clear hp hb7 hf)
            go_roundw
            case rel =>
              refine ⟨k + 1, v7, (L ++ [x]).take m, by omega, by omega, by go_num, by simp; omega, ?_⟩
              refine K7.out.list ?_ (.inl rfl) (Fr.refl _ _)
              have := ownsRow_take (k := m) (n := L.length + 1) (by have := K7.out.o; rwa [List.length_append, List.length_singleton] at this) hm
              rw [Nat.mul_one] at this
              rw [show ((L ++ [x]).take m).length = m by simp; omega, show ints ((L ++ [x]).take m) = (ints (L ++ [x])).take m by simp [ints, List.map_take]]
              exact this
            case measure => simp [intOf]; omega
          · have hyb : y < 0 ∨ ((L ++ [x]).length : Int) < y := by simp; omega
            have HYB : Hid (y < 0 ∨ ((L ++ [x]).length : Int) < y) := hyb
            clear hyb
            rcases (show y < 0 ∨ (¬ y < 0 ∧ (L.length : Int) + 1 < y) by omega) with hy0 | ⟨hy0, hy1⟩
            · clear hyr
              go_wp2_with (go_at_call 33; (with_reducible refine (cutI_bad K6.out.p HYB.out).mono ?_); rintro e w7 ⟨rfl, h7⟩; subst w7)
              go_roundw
              case rel => exact ⟨k + 1, v2', L ++ [x], by omega, by omega, by go_num, by simp; omega, by rw [show L.length + 1 = (L ++ [x]).length by simp]; simpa using K6.out⟩
              case measure => simp [intOf]; omega
            · clear hyr
              go_wp2_with (go_at_call 33; (with_reducible refine (cutI_bad K6.out.p HYB.out).mono ?_); rintro e w7 ⟨rfl, h7⟩; subst w7)
              go_roundw
              case rel => exact ⟨k + 1, v2', L ++ [x], by omega, by omega, by go_num, by simp; omega, by simpa using K6.out⟩
              case measure => simp [intOf]; omega
        · have i3 : (cs.length : Int) ≤ (k : Int) := by omega
          go_wp2
          go_roundw
          case rel => exact ⟨k + 1, v2', L ++ [x], by omega, by omega, by go_num, by simp; omega, by simpa using K6.out⟩
          case measure => simp [intOf]; omega
      · have hd : decide (k < zs.length ∧ k < 300) = false := decide_eq_false hgo
        rw [hd]
        have hll : (((L.length : Nat) : Int) != ((L.length : Nat) : Int)) = false := by simp
        clear hgo hd
        go_wp2_with (go_at_call 34; (with_reducible refine (lenI I.out.p).mono ?_); rintro e w7 ⟨rfl, h7⟩; subst w7)
        go_loopw [11] (fun i wx => ∃ m : Nat, m ≤ L.length ∧ i = .int .i64 m ∧ wx = wc) (fun i _ => L.length - (intOf i).toNat)
        case atStart => exact ⟨0, Nat.zero_le _, rfl, rfl⟩
        case round =>
          obtain ⟨m, hm, rfl, hwx⟩ := hrel
          subst hwx
          by_cases hml : m < L.length
          · obtain ⟨x, hx⟩ : ∃ x, L[m]? = some x := ⟨_, List.getElem?_eq_getElem hml⟩
            have HX : Hid (L[m]? = some x) := hx
            obtain ⟨g7, c7, hq⟩ := ownsRow_some I.out.o (by omega)
            injection hq with hq1 _ hq2
            subst hq1 hq2
            have cm := ownsRow_cell I.out.o (ints_get hx)
            have e0 : (m : Int) < (L.length : Int) := by omega
            have e1 : (0 : Int) ≤ (m : Int) := by omega
            have e2 : (x != x) = false := by simp
            clear hx
            go_wp2_with (go_at_call 35; (with_reducible refine (atI I.out.p HX.out).mono ?_); rintro e w7 ⟨rfl, h7⟩; subst w7)
            go_roundw
            case rel => exact ⟨m + 1, by omega, by go_num, by first | rfl | trivial⟩
            case measure => simp only [intOf]; omega
          · have e0 : ¬ (m : Int) < (L.length : Int) := by omega
            go_wp2_with (go_at_call 35; (with_reducible refine (atI_bad I.out.p (k := (L.length : Int)) (.inr (Int.le_refl _))).mono ?_); rintro e w7 ⟨rfl, h7⟩; subst w7)
            go_ret
            exact ⟨rfl, I.out.b⟩
end Go.Proofs.Ytobeiigmeflbjaa
