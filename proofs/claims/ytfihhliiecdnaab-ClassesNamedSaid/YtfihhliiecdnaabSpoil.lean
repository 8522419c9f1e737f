/-
  spoil, Alike of one list: what the law ClassesNamed asks besides.
-/
import Derived.Test.YtfihhliiecdnaabAlike
import Derived.Test.YtfihhliiecdnaabAdd
namespace Go.Proofs.Ytfihhliiecdnaab
open Go Go.RowKit

set_option maxRecDepth 100000 in
set_option maxHeartbeats 1000000 in
theorem spoil_c {base : Nat} {w : World} {v : Value} {L : List (Int × Int)} (h : RR base w v L) :
    Calls Try.prog 10 #[v] w fun e w' => e = .returned (.tuple #[]) ∧ Fr (blk v) w w' := by
  obtain ⟨q, co, e⟩ := h.shape
  subst e
  have H : Hid (RR base w (.slice q L.length co) L) := h
  have hlm : L.length ≤ maxLen := ownsRow_len h
  unfold maxLen at hlm
  clear h
  go_enter Try.func10, Try.ntmps10
  go_wp2
  go_loopw [2] (fun i wr => ∃ (k : Nat) (L' : List (Int × Int)), k ≤ L.length ∧ i = .int .i64 k ∧ L'.length = L.length ∧ wr.ownsRow base 33 2 (.slice q L.length co) L.length (cellsR L') ∧ Fr (blk (.slice q L.length co)) w wr) (fun i _ => L.length - (intOf i).toNat)
  case atStart => exact ⟨0, L, Nat.zero_le _, rfl, rfl, H.out, Fr.refl _ _⟩
  case round =>
    obtain ⟨k, L', hk, rfl, hl', hrr, hf⟩ := hrel
    have OW : Hid (wr.ownsRow base 33 2 (.slice q L.length co) L.length (cellsR L')) := hrr
    have FR : Hid (Fr (blk (.slice q L.length co)) w wr) := hf
    have LL : Hid (L'.length = L.length) := hl'
    clear hrr hf hl'
    by_cases hlt : k < L.length
    · obtain ⟨r, hr⟩ : ∃ r, L'[k]? = some r := ⟨_, List.getElem?_eq_getElem (by have := LL.out; omega)⟩
      obtain ⟨g, c', e⟩ := ownsRow_some OW.out (by omega)
      cases e
      obtain ⟨z1, z2⟩ := cellsR_get _ k r hr
      have d1 := ownsRow_cell OW.out z1
      have d2 := ownsRow_cell OW.out z2
      rw [Nat.mul_comm] at d1 d2
      have f1 := OW.out.frozenAt (k * 2)
      have f2 := OW.out.frozenAt (k * 2 + 1)
      have hgs := (ownsRow_at OW.out rfl).2.1
      have i0 : (0 : Int) ≤ (k : Int) := by omega
      have i1 : (k : Int) < (L.length : Int) := by omega
      have O2 : Hid ((((wr.setCell ⟨g, k * 2, none⟩ (.int .i64 3)).setCell ⟨g, k * 2 + 1, none⟩ (.int .i64 (-3)))).ownsRow base 33 2 (.slice (some ⟨g, 0, none⟩) L.length co) L.length (cellsR (L'.set k (3, -3)))) := hide (by
        have := ((OW.out.stored (k * 2) (.int .i64 3)).1.stored (k * 2 + 1) (.int .i64 (-3))).1
        rwa [cellsR_set] at this)
      have F2 : Hid (Fr (blk (.slice (some ⟨g, 0, none⟩) L.length co)) w ((wr.setCell ⟨g, k * 2, none⟩ (.int .i64 3)).setCell ⟨g, k * 2 + 1, none⟩ (.int .i64 (-3)))) := (FR.out.setCell (p := ⟨g, k * 2, none⟩) rfl _).setCell (p := ⟨g, k * 2 + 1, none⟩) rfl _
      clear z1 z2 hr
      go_wp2
      go_roundw
      case rel => exact ⟨k + 1, L'.set k (3, -3), by omega, by go_num, by have := LL.out; simpa using this, O2.out, F2.out⟩
      case measure => simp [intOf]; omega
    · have i1 : ¬ (k : Int) < (L.length : Int) := by omega
      go_wp2
      go_end0
      exact ⟨rfl, FR.out⟩
end Go.Proofs.Ytfihhliiecdnaab
