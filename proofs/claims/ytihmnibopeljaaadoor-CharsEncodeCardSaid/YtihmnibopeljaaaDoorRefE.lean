/-
  The document's own answer: Encode.
-/
import Derived.Test.YtihmnibopeljaaaDoorRefX
namespace Go.Proofs.YtihmnibopeljaaaDoor
open Go Go.RowKit
attribute [local go_sem] ext_cell

theorem txt_app (a b : List UInt8) : txt a ++ txt b = txt (a ++ b) := by
  unfold txt
  apply ByteArray.ext
  simp [ByteArray.data_append]

set_option maxHeartbeats 4000000 in
set_option maxRecDepth 1000000 in
theorem rEncode_c {w : World} {v : Value} {zs : List Int} (h : ArgI w v zs) (hl : zs.length ≤ 35184372088830) :
    Calls Tryd.prog 30 #[v] w fun e w' => e = .returned (.tuple #[.string (txt (eTxt zs)), .bool (allC zs)]) ∧ Below w.heap.size w w' := by
  obtain ⟨q, cap, rfl, hlen, hc⟩ := h.slice
  have HC : Hid (∀ (i : Nat) (x : Int), zs[i]? = some x → ∃ g off, q = some ⟨g, off, none⟩ ∧ g < w.heap.size ∧ w.cell? ⟨g, off + i, none⟩ = some (.int .i64 x)) := hc
  clear hc h
  unfold maxLen at hlen
  go_enter Tryd.func30, Tryd.ntmps30
  go_wp2
  go_loopw [4, 5] (fun t i wr => ∃ (k : Nat), k ≤ zs.length ∧ i = .int .i64 (k : Int) ∧ t = .string (txt (encB (zs.take k))) ∧ allC (zs.take k) = true ∧ Below w.heap.size w wr) (fun _ i _ => zs.length - (intOf i).toNat)
  case atStart => exact ⟨0, Nat.zero_le _, rfl, rfl, rfl, Below.refl _ _⟩
  case round =>
    obtain ⟨k, hk, rfl, rfl, hall, hb⟩ := hrel
    have B : Hid (Below w.heap.size w wr) := hb
    have G : Hid (allC (zs.take k) = true) := hall
    have hsz := hb.size
    clear hb hall
    by_cases hlt : k < zs.length
    · have hx : zs[k]? = some zs[k] := List.getElem?_eq_getElem hlt
      obtain ⟨g, off, rfl, hg, hcell⟩ := HC.out k _ hx
      have htk : Hid (zs.take (k + 1) = zs.take k ++ [zs[k]]) := take_next zs k hlt
      clear hx
      have hmem : zs[k] ∈ zs := List.getElem_mem hlt
      obtain ⟨x, hxe⟩ : ∃ x, zs[k] = x := ⟨_, rfl⟩
      rw [hxe] at hcell htk hmem
      clear hxe
      have d1 := (B.out.cell (p := ⟨g, off + k, none⟩) hg).trans hcell
      have s1 : g < wr.heap.size := Nat.lt_of_lt_of_le hg hsz
      clear hcell
      have i0 : (0 : Int) ≤ (k : Int) := by omega
      have i1 : (k : Int) < (zs.length : Int) := by omega
      have hwr : IntKind.wrap .i64 ((k : Int) + 1) = (k : Int) + 1 := wrap_small _ (by omega) (by omega)
      have hic := rIs_c x
      have hn4 : (encB (zs.take k)).length ≤ 4 * k := by
        have := encB_len (zs.take k)
        rw [List.length_take] at this
        omega
      obtain ⟨T, hTe⟩ : ∃ T, encB (zs.take k) = T := ⟨_, rfl⟩
      rw [hTe] at hn4 ⊢
      rcases hcx : isC x with _ | _
      · rw [hcx] at hic
        have hE : Hid (allC zs = false) := by
          show allC zs = false
          simp only [allC, List.all_eq_false]
          exact ⟨x, hmem, by simp [hcx]⟩
        go_wp2_with (go_at_call 40; (with_reducible refine (hic _).mono ?_); rintro e w5 ⟨rfl, h5⟩; subst w5)
        go_ret2
        have e2 : eTxt zs = [] := by rw [eTxt, hE.out]; rfl
        rw [hE.out, e2]
        exact ⟨rfl, B.out⟩
      · rw [hcx] at hic
        have htx := rText_c x wr hcx
        obtain ⟨U, hU⟩ : ∃ U, Lib.encodeRune x = U := ⟨_, rfl⟩
        have hUl : U.length ≤ 4 := by
          have := (Lib.runeCells_le x).2
          rw [Lib.runeCells_length, hU] at this
          exact this
        rw [hU] at htx
        have hap := txt_app T U
        have hsm : ((txt T).size : Int) + ((txt U).size : Int) ≤ 9223372036854775807 := by rw [txt_size, txt_size]; omega
        go_wp2_with first
          | (go_at_call 40; (with_reducible refine (hic _).mono ?_); rintro e w5 ⟨rfl, h5⟩; subst w5)
          | (go_at_call 41; (with_reducible refine (Calls.mono htx ?_)); rintro e w6 ⟨rfl, h6⟩; have B6 : Hid (Below w.heap.size w w6) := chain B.out h6 (Nat.le_refl _); clear h6)
        go_roundw
        case rel =>
          refine ⟨k + 1, by omega, by go_num, ?_, ?_, B6.out⟩
          · rw [htk.out, encB_app, hTe, hU]
          · have := G.out
            rw [htk.out]
            simp only [allC, List.all_append, Bool.and_eq_true] at this ⊢
            exact ⟨this, by simp [hcx]⟩
        case measure => simp only [intOf]; omega
    · obtain rfl : k = zs.length := by omega
      have i1 : ¬ ((zs.length : Nat) : Int) < (zs.length : Int) := by omega
      have G1 := G.out
      rw [List.take_length] at G1 ⊢
      have G2 : Hid (allC zs = true) := G1
      clear G1
      go_wp2
      go_ret2
      have e2 : eTxt zs = encB zs := by rw [eTxt, G2.out]; rfl
      rw [G2.out, e2]
      exact ⟨rfl, B.out⟩
end Go.Proofs.YtihmnibopeljaaaDoor
