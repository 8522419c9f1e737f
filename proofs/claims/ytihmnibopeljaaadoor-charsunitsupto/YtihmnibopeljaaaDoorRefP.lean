/-
  The document's own answer: Places, Valid, Column.
-/
import Derived.Test.YtihmnibopeljaaaDoorRefD
namespace Go.Proofs.YtihmnibopeljaaaDoor
open Go Go.RowKit
attribute [local go_sem] ext_cell

set_option maxHeartbeats 4000000 in
set_option maxRecDepth 1000000 in
theorem rNext_out (s : ByteArray) (p : Int) (w : World) (hp : p < 0 ∨ (s.size : Int) ≤ p) :
    Calls Tryd.prog 25 #[.string s, .int .i64 p] w fun e w' => e = .returned (.tuple #[.int .i64 0, .int .i64 0]) ∧ w' = w := by
  by_cases h0 : p < 0
  · go_enter Tryd.func25, Tryd.ntmps25
    go_wp2
    go_ret2
    exact ⟨rfl, rfl⟩
  · have h1 : (s.size : Int) ≤ p := by omega
    clear hp
    go_enter Tryd.func25, Tryd.ntmps25
    go_wp2
    go_ret2
    exact ⟨rfl, rfl⟩

set_option maxHeartbeats 4000000 in
set_option maxRecDepth 1000000 in
theorem rValid_c (s : ByteArray) (w : World) (hs : s.size ≤ 1099511627776) :
    Calls Tryd.prog 27 #[.string s] w fun e w' => e = .returned (.int .i64 (validOf s.size (us s) : Int)) ∧ Below w.heap.size w w' := by
  go_enter Tryd.func27, Tryd.ntmps27
  go_wp2
  go_loopw [3] (fun i wr => ∃ (pos f : Nat), i = .int .i64 (pos : Int) ∧ validOf s.size (uFrom s f pos) = validOf s.size (us s) ∧ s.size ≤ pos + f ∧ pos ≤ s.size ∧ Below w.heap.size w wr) (fun i _ => s.size - (intOf i).toNat)
  case atStart => exact ⟨0, s.size, rfl, rfl, by omega, Nat.zero_le _, Below.refl _ _⟩
  case round =>
    obtain ⟨pos, f, rfl, hacc, hfu, hps, hb⟩ := hrel
    have B : Hid (Below w.heap.size w wr) := hb
    have A : Hid (validOf s.size (uFrom s f pos) = validOf s.size (us s)) := hacc
    clear hb hacc
    by_cases hp : pos < s.size
    · obtain ⟨f, rfl⟩ : ∃ g, f = g + 1 := ⟨f - 1, by omega⟩
      have A2 := A.out
      rw [uFrom_more s f pos hp] at A2
      have hw := wd_pos s pos
      have hwd := (wd_le s pos hp).2
      have hnx := rNext_c s pos wr hp hs
      have i1 : (pos : Int) < (s.size : Int) := by omega
      obtain ⟨cc, hcc⟩ : ∃ x, ch s pos = x := ⟨_, rfl⟩
      obtain ⟨wp, hwp⟩ : ∃ x, wd s pos = x := ⟨_, rfl⟩
      rw [hcc] at hnx A2
      rw [hwp] at hnx A2 hw hwd
      have A3 : Hid (validOf s.size ((pos, cc) :: uFrom s f (pos + wp)) = validOf s.size (us s)) := A2
      clear A2 hcc hwp
      have hwr : IntKind.wrap .i64 ((pos : Int) + (wp : Int)) = ((pos + wp : Nat) : Int) := by rw [wrap_small _ (by omega) (by omega)]; omega
      by_cases hc0 : cc < 0
      · go_wp2_with (go_at_call 25; (with_reducible refine (Calls.mono hnx ?_)); rintro e w5 ⟨rfl, h5⟩; have B5 : Hid (Below w.heap.size w w5) := chain B.out h5 (Nat.le_refl _); clear h5)
        go_ret
        have := A3.out
        rw [validOf, if_pos hc0] at this
        exact ⟨by rw [← this]; rfl, B5.out⟩
      · go_wp2_with (go_at_call 25; (with_reducible refine (Calls.mono hnx ?_)); rintro e w5 ⟨rfl, h5⟩; have B5 : Hid (Below w.heap.size w w5) := chain B.out h5 (Nat.le_refl _); clear h5)
        go_roundw
        case rel =>
          refine ⟨pos + wp, f, by go_num, ?_, by omega, hwd, B5.out⟩
          have := A3.out
          rw [validOf, if_neg (by omega)] at this
          exact this
        case measure => simp only [intOf]; omega
    · have i1 : ¬ (pos : Int) < (s.size : Int) := by omega
      have A2 := A.out
      rw [uFrom_end s f pos hp, validOf] at A2
      have A3 : Hid (s.size = validOf s.size (us s)) := A2
      obtain rfl : pos = s.size := by omega
      clear A2
      go_wp2
      go_ret
      exact ⟨by rw [← A3.out]; rfl, B.out⟩

/-- The places behind each unit. -/
def nxt (s : ByteArray) (l : List (Nat × Int)) : List Int := l.map fun u => ((u.1 + wd s u.1 : Nat) : Int)
theorem nxt_len (s : ByteArray) (l : List (Nat × Int)) : (nxt s l).length = l.length := by simp [nxt]
/-- What stands behind each unit, ahead of them all the first place: the places and the length. -/
theorem plc_nxt (s : ByteArray) : ∀ f p, p ≤ s.size → s.size ≤ p + f → (p : Int) :: nxt s (uFrom s f p) = plc (uFrom s f p) ++ [(s.size : Int)]
  | 0, p, h1, h2 => by
    obtain rfl : p = s.size := by omega
    simp [uFrom, nxt, plc]
  | f + 1, p, h1, h2 => by
    by_cases hp : p < s.size
    · have ih := plc_nxt s f (p + wd s p) (wd_le s p hp).2 (by have := wd_pos s p; omega)
      rw [uFrom_more s f p hp]
      simp only [nxt, plc, List.map_cons, List.cons_append] at ih ⊢
      rw [ih]
    · obtain rfl : p = s.size := by omega
      rw [uFrom_end s _ _ hp]
      simp [nxt, plc]
theorem one_own (w : World) (x : Int) : OI w (.slice (some ⟨w.heap.size, 0, none⟩) 1 1) [x] (w.alloc (.cells #[.int .i64 x] 3)) :=
  ⟨⟨rfl, .inr ⟨w.heap.size, 1, #[.int .i64 x], rfl, Nat.le_refl _, alloc_new w _, Nat.le_refl _, by decide, rfl, rfl⟩⟩, (Below.refl _ w).alloc (Nat.le_refl _) _⟩

set_option maxHeartbeats 4000000 in
set_option maxRecDepth 1000000 in
theorem rPlaces_c (s : ByteArray) (w : World) (hs : s.size ≤ 1099511627776) :
    Calls Tryd.prog 26 #[.string s] w fun e w' => ∃ v, e = .returned v ∧ OI w v (plc (us s) ++ [(s.size : Int)]) w' := by
  obtain ⟨t0, hi, hz0, hz1, hz2⟩ := info_parts size_int
  go_enter Tryd.func26, Tryd.ntmps26
  go_wp2
  go_loopw [3, 4] (fun t i wr => ∃ (pos f : Nat) (acc : List (Nat × Int)), i = .int .i64 (pos : Int) ∧ OI w t (0 :: nxt s acc) wr ∧ acc ++ uFrom s f pos = us s ∧ s.size ≤ pos + f ∧ acc.length ≤ pos ∧ pos ≤ s.size) (fun _ i _ => s.size - (intOf i).toNat)
  case atStart => exact ⟨0, s.size, [], rfl, one_own w 0, rfl, by omega, by simp, Nat.zero_le _⟩
  case round =>
    obtain ⟨pos, f, acc, rfl, hR, hacc, hfu, hap, hps⟩ := hrel
    obtain ⟨q, c, rfl⟩ := ownsRow_shape hR.own
    have hl : (0 :: nxt s acc).length = acc.length + 1 := by simp [nxt]
    rw [hl] at hR ⊢
    have R : Hid (OI w (.slice q (acc.length + 1) c) (0 :: nxt s acc) wr) := hR
    have A : Hid (acc ++ uFrom s f pos = us s) := hacc
    have hsz := hR.bel.size
    clear hR hacc
    by_cases hp : pos < s.size
    · obtain ⟨f, rfl⟩ : ∃ g, f = g + 1 := ⟨f - 1, by omega⟩
      have A2 := A.out
      rw [uFrom_more s f pos hp] at A2
      have A3 : Hid (acc ++ ((pos, ch s pos) :: uFrom s f (pos + wd s pos)) = us s) := A2
      have hw := wd_pos s pos
      have hwd := (wd_le s pos hp).2
      have hnx := rNext_c s pos wr hp hs
      have i1 : (pos : Int) < (s.size : Int) := by omega
      obtain ⟨cc, hcc⟩ : ∃ x, ch s pos = x := ⟨_, rfl⟩
      obtain ⟨wp, hwp⟩ : ∃ x, wd s pos = x := ⟨_, rfl⟩
      rw [hcc] at hnx A3
      rw [hwp] at hnx A3 hw hwd
      have HWP : Hid (wd s pos = wp) := hwp
      clear A2 hcc hwp
      obtain ⟨np, hnp⟩ : ∃ np, pos + wp = np := ⟨_, rfl⟩
      have hwr : IntKind.wrap .i64 ((pos : Int) + (wp : Int)) = (np : Int) := by rw [wrap_small _ (by omega) (by omega)]; omega
      have HNP : Hid (pos + wp = np) := hnp
      clear hnp
      go_wp2_with first
        | (go_at_call 25; (with_reducible refine (Calls.mono hnx ?_)); rintro e w5 ⟨rfl, h5⟩; have R5 : Hid (OI w (.slice q (acc.length + 1) c) (0 :: nxt s acc) w5) := R.out.then h5; have z5 := R5.out.bel.size; have O5 : Hid (w5.ownsRow w.heap.size 3 1 (.slice q (acc.length + 1) c) (acc.length + 1) (ints (0 :: nxt s acc))) := (by have q5 := R5.out.own; rw [hl] at q5; exact q5); clear h5)
        | (at_builtin; refine wpList_append_own_at _ rfl _ _ 22 rfl w.heap.size 3 t0 (.int .i64 0) 1 8 und_ints hi hz0 hz1 hz2 rfl (by decide) (.slice q (acc.length + 1) c) (acc.length + 1) (ints (0 :: nxt s acc)) rfl (World.ownsRow.alloc O5.out (.cells #[.int .i64 (np : Int)] 3)) ⟨w5.heap.size, 0, none⟩ 1 1 [.int .i64 (np : Int)] rfl rfl (news1 _ _ _) (by simp [Value.oneCell']) (by unfold maxLen; omega) (by omega) (by simp; omega) ?_; intro v' w6 hown' hgrow _ hblk; obtain ⟨g6, cap6, rfl⟩ := ownsRow_some hown' (Nat.succ_pos _); have R6 : Hid (OI w (.slice (some ⟨g6, 0, none⟩) (acc.length + 1 + 1) cap6) (0 :: nxt s (acc ++ [(pos, cc)])) w6) := R5.out.app (by have e6 : (0 :: nxt s (acc ++ [(pos, cc)])) = (0 :: nxt s acc) ++ [(np : Int)] := (by simp [nxt, HWP.out]; have := HNP.out; omega); rw [e6, List.length_append, hl, ints_append]; exact hown') hgrow; clear hown' hgrow hblk)
      go_roundw
      case rel =>
        have := HNP.out
        subst this
        exact ⟨pos + wp, f, acc ++ [(pos, cc)], rfl, R6.out, by rw [← A3.out]; simp, by omega, by simp; omega, by omega⟩
      case measure =>
        have := HNP.out
        simp only [intOf]; omega
    · have i1 : ¬ (pos : Int) < (s.size : Int) := by omega
      have A2 := A.out
      rw [uFrom_end s f pos hp, List.append_nil] at A2
      have A3 : Hid (acc = us s) := A2
      clear A2
      go_wp2
      go_ret
      have e := plc_nxt s s.size 0 (Nat.zero_le _) (by omega)
      refine ⟨_, rfl, ?_⟩
      show OI w _ (plc (uFrom s s.size 0) ++ [(s.size : Int)]) wr
      rw [← e, show uFrom s s.size 0 = acc from A3.out.symm]
      exact R.out

/-- Places ahead of x, in a list whose last one is the length. -/
theorem colOf_at (x : Int) : ∀ (l : List (Nat × Int)) (k : Nat), k ≤ colOf x l → colOf x l = k + colOf x (l.drop k)
  | _, 0, _ => by simp
  | [], k + 1, h => by simp [colOf] at h
  | (p, c) :: t, k + 1, h => by
    rw [colOf] at h ⊢
    split
    · rename_i hx; rw [if_pos hx] at h; omega
    · rename_i hx
      rw [if_neg hx] at h
      have := colOf_at x t k (by omega)
      rw [List.drop_succ_cons, this]
      omega
set_option maxHeartbeats 4000000 in
set_option maxRecDepth 1000000 in
theorem rColumn_c (s : ByteArray) (x : Int) (w : World) (hs : s.size ≤ 1099511627776) :
    Calls Tryd.prog 28 #[.string s, .int .i64 x] w fun e w' => e = .returned (.int .i64 (colOf x (us s) : Int)) ∧ Below w.heap.size w w' := by
  have hpl := rPlaces_c s w hs
  have hul := us_length s
  have hlen : (plc (us s) ++ [(s.size : Int)]).length = (us s).length + 1 := by simp [plc]
  go_enter Tryd.func28, Tryd.ntmps28
  go_upto_region 2 with (go_at_call 26; (with_reducible refine (Calls.mono hpl ?_)); rintro e w1 ⟨v1, rfl, h1⟩; have O1 : Hid (OI w v1 (plc (us s) ++ [(s.size : Int)]) w1) := h1; clear h1)
  obtain ⟨q, c, rfl⟩ := ownsRow_shape O1.out.own
  rw [hlen] at O1 ⊢
  obtain ⟨g, cc, hgc⟩ := ownsRow_some (show w1.ownsRow w.heap.size 3 1 (.slice q ((us s).length + 1) c) ((us s).length + 1) (ints (plc (us s) ++ [(s.size : Int)])) by have := O1.out.own; rw [hlen] at this; exact this) (Nat.succ_pos _)
  injection hgc with hg1 _ hg2
  subst hg1 hg2
  have OW : Hid (w1.ownsRow w.heap.size 3 1 (.slice (some ⟨g, 0, none⟩) ((us s).length + 1) c) ((us s).length + 1) (ints (plc (us s) ++ [(s.size : Int)]))) := by have := O1.out.own; rw [hlen] at this; exact this
  have hgl := (ownsRow_at OW.out (g := g) rfl).2.1
  have hlm : IntKind.wrap .i64 ((((us s).length + 1 : Nat) : Int) - 1) = ((us s).length : Int) := by rw [wrap_small _ (by omega) (by omega)]; omega
  have hcle := colOf_le x (us s)
  go_wp2
  go_loopw [6] (fun i wr => ∃ k : Nat, i = .int .i64 (k : Int) ∧ k ≤ colOf x (us s) ∧ wr = w1) (fun i _ => (us s).length - (intOf i).toNat)
  case atStart => exact ⟨0, rfl, Nat.zero_le _, rfl⟩
  case round =>
    obtain ⟨k, rfl, hk, hw⟩ := hrel
    subst hw
    have hca := colOf_at x (us s) k hk
    by_cases hlt : k < (us s).length
    · obtain ⟨u, hu⟩ : ∃ u, (us s)[k]? = some u := ⟨_, List.getElem?_eq_getElem hlt⟩
      have hu2 : (plc (us s) ++ [(s.size : Int)])[k]? = some (u.1 : Int) := by
        rw [List.getElem?_append_left (by rw [plc_len]; exact hlt)]
        simp [plc, hu]
      have ck := ownsRow_cell OW.out (ints_get hu2)
      have hdr : (us s).drop k = u :: (us s).drop (k + 1) := by
        rw [List.drop_eq_getElem_cons hlt]
        obtain ⟨_, e⟩ := List.getElem?_eq_some_iff.1 hu
        rw [e]
      obtain ⟨up, uc⟩ := u
      simp only at ck
      rw [hdr, colOf] at hca
      have HCA : Hid _ := hca
      clear hca hdr hu hu2
      have i0 : (0 : Int) ≤ (k : Int) := by omega
      have i1 : (k : Int) < ((us s).length : Int) := by omega
      have i2 : (k : Int) < (((us s).length + 1 : Nat) : Int) := by omega
      have hwr : IntKind.wrap .i64 ((k : Int) + 1) = (k : Int) + 1 := wrap_small _ (by omega) (by omega)
      by_cases hx : (up : Int) < x
      · go_wp2
        go_roundw
        case rel =>
          refine ⟨k + 1, by go_num, ?_, by first | rfl | trivial⟩
          have := HCA.out
          rw [if_neg (by omega)] at this
          omega
        case measure => simp only [intOf]; omega
      · go_wp2
        go_ret
        have := HCA.out
        rw [if_pos (by omega)] at this
        exact ⟨by rw [this]; rfl, O1.out.bel⟩
    · have i1 : ¬ (k : Int) < ((us s).length : Int) := by omega
      have HK : Hid (colOf x (us s) = k) := by show colOf x (us s) = k; omega
      clear hca
      go_wp2
      go_ret
      exact ⟨by rw [HK.out]; rfl, O1.out.bel⟩
end Go.Proofs.YtihmnibopeljaaaDoor
