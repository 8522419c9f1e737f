/-
  The document's own answer: Decode, Places, Valid, Column.
-/
import Derived.Test.YtihmnibopeljaaaDoorRefN
namespace Go.Proofs.YtihmnibopeljaaaDoor
open Go Go.RowKit
attribute [local go_sem] ext_cell

/-- A list of one's own, whatever else is done. -/
structure OI (w : World) (v : Value) (L : List Int) (wr : World) : Prop where
  own : wr.ownsRow w.heap.size 3 1 v L.length (ints L)
  bel : Below w.heap.size w wr
theorem OI.then {w wr w6 : World} {v : Value} {L : List Int} (h : OI w v L wr) (hb : Below wr.heap.size wr w6) : OI w v L w6 :=
  ⟨ownsRow_fr h.own (Fr.of_below (S := fun _ => False) hb) (fun _ _ q => q), chain h.bel hb (Nat.le_refl _)⟩
theorem OI.app {w wr w6 : World} {v v' : Value} {L M : List Int} {o : Obj} (h : OI w v L wr) (hown : w6.ownsRow w.heap.size 3 1 v' M.length (ints M)) (hg : (wr.alloc o).grownBy w6 v.ownBlock) : OI w v' M w6 :=
  ⟨hown, chainF h.bel (((Fr.refl (fun z => v.ownBlock = some z) wr).alloc _).grown hg (fun _ hz => hz)) (Nat.le_refl _) (fun _ hz => (ownsRow_at h.own hz).1)⟩

set_option maxHeartbeats 4000000 in
set_option maxRecDepth 1000000 in
theorem rDecode_c (s : ByteArray) (w : World) (hs : s.size ≤ 1099511627776) :
    Calls Tryd.prog 29 #[.string s] w fun e w' => ∃ v, e = .returned (.tuple #[v, .bool (good (us s))]) ∧ OI w v (dList (us s)) w' := by
  obtain ⟨t0, hi, hz0, hz1, hz2⟩ := info_parts size_int
  go_enter Tryd.func29, Tryd.ntmps29
  go_wp2
  go_loopw [4, 5] (fun t i wr => ∃ (pos f : Nat) (acc : List (Nat × Int)), i = .int .i64 (pos : Int) ∧ OI w t (chs acc) wr ∧ acc ++ uFrom s f pos = us s ∧ good acc = true ∧ s.size ≤ pos + f ∧ acc.length ≤ pos ∧ pos ≤ s.size) (fun _ i _ => s.size - (intOf i).toNat)
  case atStart => exact ⟨0, s.size, [], rfl, ⟨World.ownsRow_nil _ _ _ _, Below.refl _ w⟩, rfl, rfl, by omega, by simp, Nat.zero_le _⟩
  case round =>
    obtain ⟨pos, f, acc, rfl, hR, hacc, hgd, hfu, hap, hps⟩ := hrel
    obtain ⟨q, c, rfl⟩ := ownsRow_shape hR.own
    rw [chs_len] at hR ⊢
    have R : Hid (OI w (.slice q acc.length c) (chs acc) wr) := hR
    have A : Hid (acc ++ uFrom s f pos = us s) := hacc
    have G : Hid (good acc = true) := hgd
    have hsz := hR.bel.size
    clear hR hacc hgd
    by_cases hp : pos < s.size
    · obtain ⟨f, rfl⟩ : ∃ g, f = g + 1 := ⟨f - 1, by omega⟩
      have A2 := A.out
      rw [uFrom_more s f pos hp] at A2
      have A3 : Hid (acc ++ ((pos, ch s pos) :: uFrom s f (pos + wd s pos)) = us s) := A2
      have hw := wd_pos s pos
      have hwd := (wd_le s pos hp).2
      have hnx := rNext_c s pos wr hp hs
      have i1 : (pos : Int) < (s.size : Int) := by omega
      have hneg := @ch_neg s pos
      obtain ⟨cc, hcc⟩ : ∃ x, ch s pos = x := ⟨_, rfl⟩
      obtain ⟨wp, hwp⟩ : ∃ x, wd s pos = x := ⟨_, rfl⟩
      rw [hcc] at hnx A3 hneg
      rw [hwp] at hnx A3 hw hwd
      have HN : Hid (cc < 0 ↔ bad s pos = true) := hneg
      clear A2 hcc hwp hneg
      have hwr : IntKind.wrap .i64 ((pos : Int) + (wp : Int)) = ((pos + wp : Nat) : Int) := by rw [wrap_small _ (by omega) (by omega)]; omega
      by_cases hc0 : cc < 0
      · go_wp2_with (go_at_call 25; (with_reducible refine (Calls.mono hnx ?_)); rintro e w5 ⟨rfl, h5⟩; have R5 : Hid (OI w (.slice q acc.length c) (chs acc) w5) := R.out.then h5; clear h5)
        go_ret2
        have hn : good (us s) = false := by
          rw [← A3.out]
          simp [good]; omega
        have d2 : dList (us s) = [] := by rw [dList, hn]; rfl
        rw [hn, d2]
        exact ⟨_, rfl, ⟨World.ownsRow_nil _ _ _ _, R5.out.bel⟩⟩
      · go_wp2_with first
          | (go_at_call 25; (with_reducible refine (Calls.mono hnx ?_)); rintro e w5 ⟨rfl, h5⟩; have R5 : Hid (OI w (.slice q acc.length c) (chs acc) w5) := R.out.then h5; have z5 := R5.out.bel.size; have O5 : Hid (w5.ownsRow w.heap.size 3 1 (.slice q acc.length c) acc.length (ints (chs acc))) := (by have q5 := R5.out.own; rw [chs_len] at q5; exact q5); clear h5)
          | (at_builtin; refine wpList_append_own_at _ rfl _ _ 22 rfl w.heap.size 3 t0 (.int .i64 0) 1 8 und_ints hi hz0 hz1 hz2 rfl (by decide) (.slice q acc.length c) acc.length (ints (chs acc)) rfl (World.ownsRow.alloc O5.out (.cells #[.int .i64 cc] 3)) ⟨w5.heap.size, 0, none⟩ 1 1 [.int .i64 cc] rfl rfl (news1 _ _ _) (by simp [Value.oneCell']) (by unfold maxLen; omega) (by omega) (by simp; omega) ?_; intro v' w6 hown' hgrow _ hblk; obtain ⟨g6, cap6, rfl⟩ := ownsRow_some hown' (Nat.succ_pos _); have R6 : Hid (OI w (.slice (some ⟨g6, 0, none⟩) (acc.length + 1) cap6) (chs (acc ++ [(pos, cc)])) w6) := R5.out.app (by rw [chs_len, List.length_append, List.length_singleton, chs, List.map_append, ints_append]; exact hown') hgrow; clear hown' hgrow hblk)
        go_roundw
        case rel =>
          refine ⟨pos + wp, f, acc ++ [(pos, cc)], by go_num, R6.out, by rw [← A3.out]; simp, ?_, by omega, by simp; omega, by omega⟩
          have := G.out
          simp only [good, List.all_append, Bool.and_eq_true] at this ⊢
          refine ⟨this, ?_⟩
          simp; omega
        case measure => simp only [intOf]; omega
    · have i1 : ¬ (pos : Int) < (s.size : Int) := by omega
      have A2 := A.out
      rw [uFrom_end s f pos hp, List.append_nil] at A2
      have A3 : Hid (acc = us s) := A2
      clear A2
      go_wp2
      go_ret2
      have hG : good (us s) = true := by rw [← A3.out]; exact G.out
      have d2 : dList (us s) = chs acc := by rw [dList, hG, ← A3.out]; rfl
      rw [hG, d2]
      exact ⟨_, rfl, R.out⟩
end Go.Proofs.YtihmnibopeljaaaDoor
