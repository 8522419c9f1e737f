/-
  Encode: contract.
-/
import Derived.Test.YtihmnibopeljaaaDoorArgs5
import Derived.Laws.IdiomStrings
import Derived.Laws.BytesArg
namespace Go.Proofs.YtihmnibopeljaaaDoor
open Go Go.RowKit

/-- Is a number a character? -/
def isC (c : Int) : Bool := decide (0 ≤ c ∧ c ≤ 1114111 ∧ (c < 55296 ∨ 57343 < c))
def allC (l : List Int) : Bool := l.all isC
def eErr (l : List Int) : Int := if allC l then 0 else 20
def encB (l : List Int) : List UInt8 := l.flatMap Lib.encodeRune
def eTxt (l : List Int) : List UInt8 := if allC l then encB l else []
def txt (l : List UInt8) : ByteArray := ⟨l.toArray⟩

set_option maxHeartbeats 4000000 in
set_option maxRecDepth 1000000 in
theorem isCharacter_c (c : Int) (w : World) : Calls Tryd.prog 32 #[.int .i64 c] w fun e w' => e = .returned (.bool (isC c)) ∧ w' = w := by
  by_cases h0 : 0 ≤ c
  · by_cases h1 : c ≤ 1114111
    · have hv : Hid (Lib.validRune c = isC c) := by
        show Lib.validRune c = isC c
        unfold Lib.validRune isC
        exact decide_eq_decide.2 ⟨fun h => by omega, fun h => by omega⟩
      have hwr : IntKind.wrap .i32 c = c := by rw [IntKind.wrap_i32]; omega
      go_enter Tryd.func32, Tryd.ntmps32
      go_wp2_with (go_at_call 44; (with_reducible refine (Tryd.utf8_ValidRune _ _).mono ?_); rw [hv.out]; rintro e w' ⟨rfl, rfl⟩)
      all_goals (go_ret; first | exact ⟨rfl, rfl⟩ | simp_all)
    · have hc : isC c = false := by simp [isC]; omega
      go_enter Tryd.func32, Tryd.ntmps32
      go_wp2
      go_ret
      exact ⟨rfl, rfl⟩
  · have hc : isC c = false := by simp [isC]; omega
    go_enter Tryd.func32, Tryd.ntmps32
    go_wp2
    go_ret
    exact ⟨rfl, rfl⟩

theorem conv_own {w : World} {base n : Nat} {v : Value} {l : List UInt8} (h : w.ownsRow base 5 1 v n (Lib.byteCells l)) : (convert 60 9 v).run Tryd.prog w = .ok (.string (txt l)) w := by
  have hl : l.length = n := by have := h.1; rw [Lib.byteCells_length] at this; omega
  subst hl
  rcases h.2 with ⟨rfl, hn⟩ | ⟨g, cap, cur, rfl, hg, hc, h1, h2, h3, h4⟩
  · have : l = [] := List.eq_nil_of_length_eq_zero hn
    subst this
    exact run_convert_bytes_nil _ _ 5 Tryd.underlying60 Tryd.underlying5 0 0 _ Tryd.underlying9
  · refine run_convert_bytes_back w _ _ 5 ⟨g, 0, none⟩ cap l Tryd.underlying60 Tryd.underlying5 Tryd.underlying9 (fun j hj => ?_)
    have := ownsRow_cell h (j := j) (u := .int .u8 (l[j].toNat : Int)) (by simp [Lib.byteCells, hj])
    have e : (⟨g, 0, none⟩ : Addr).add j = ⟨g, j, none⟩ := by unfold Addr.add; simp; omega
    rw [e]; exact this

theorem encB_len (l : List Int) : (encB l).length ≤ 4 * l.length := by
  induction l with
  | nil => simp [encB]
  | cons a t ih =>
    have := (Lib.runeCells_le a).2
    rw [Lib.runeCells_length] at this
    simp only [encB, List.flatMap_cons, List.length_append, List.length_cons] at ih ⊢
    omega
theorem encB_app (a : List Int) (x : Int) : encB (a ++ [x]) = encB a ++ Lib.encodeRune x := by simp [encB]

set_option maxHeartbeats 4000000 in
set_option maxRecDepth 1000000 in
theorem encode_c {w : World} {v : Value} {zs : List Int} (h : ArgI w v zs) (hl : zs.length ≤ 35184372088830) :
    Calls Tryd.prog 15 #[v] w fun e w' => e = .returned (.tuple #[.string (txt (eTxt zs)), .int .i64 (eErr zs)]) ∧ Below w.heap.size w w' := by
  obtain ⟨q, cap, rfl, hlen, hc⟩ := h.slice
  have HC : Hid (∀ (i : Nat) (x : Int), zs[i]? = some x → ∃ g off, q = some ⟨g, off, none⟩ ∧ g < w.heap.size ∧ w.cell? ⟨g, off + i, none⟩ = some (.int .i64 x)) := hc
  clear hc h
  unfold maxLen at hlen
  go_enter Tryd.func15, Tryd.ntmps15
  go_wp2
  go_loopw [4, 9] (fun t i wr => ∃ (k n : Nat), k ≤ zs.length ∧ i = .int .i64 (k : Int) ∧ wr.ownsRow w.heap.size 5 1 t n (Lib.byteCells (encB (zs.take k))) ∧ allC (zs.take k) = true ∧ Below w.heap.size w wr) (fun _ i _ => zs.length - (intOf i).toNat)
  case atStart => exact ⟨0, 0, Nat.zero_le _, rfl, by simpa [encB, Lib.byteCells] using World.ownsRow_nil _ _ _ _, rfl, Below.refl _ _⟩
  case round =>
    obtain ⟨k, n, hk, rfl, hown, hall, hb⟩ := hrel
    have hn : n = (encB (zs.take k)).length := by have := hown.1; rw [Lib.byteCells_length] at this; omega
    have hn4 : n ≤ 4 * k := by
      have := encB_len (zs.take k)
      rw [List.length_take] at this
      omega
    have B : Hid (Below w.heap.size w wr) := hb
    have G : Hid (allC (zs.take k) = true) := hall
    obtain ⟨qo, co, rfl⟩ := ownsRow_shape hown
    have O : Hid _ := hown
    have hsz := hb.size
    clear hb hall hown hn
    by_cases hlt : k < zs.length
    · have hx : zs[k]? = some zs[k] := List.getElem?_eq_getElem hlt
      obtain ⟨g, off, rfl, hg, hcell⟩ := HC.out k _ hx
      have htk : Hid (zs.take (k + 1) = zs.take k ++ [zs[k]]) := take_next zs k hlt
      have HX : Hid (zs[k]? = some zs[k]) := hx
      clear hx
      have hmem : zs[k] ∈ zs := List.getElem_mem hlt
      obtain ⟨x, hxe⟩ : ∃ x, zs[k] = x := ⟨_, rfl⟩
      rw [hxe] at hcell htk HX hmem
      clear hxe
      have d1 := (B.out.cell (p := ⟨g, off + k, none⟩) hg).trans hcell
      have s1 : g < wr.heap.size := Nat.lt_of_lt_of_le hg hsz
      clear hcell
      have i0 : (0 : Int) ≤ (k : Int) := by omega
      have i1 : (k : Int) < (zs.length : Int) := by omega
      have hwr : IntKind.wrap .i64 ((k : Int) + 1) = (k : Int) + 1 := wrap_small _ (by omega) (by omega)
      have hic := isCharacter_c x
      rcases hcx : isC x with _ | _
      · rw [hcx] at hic
        have hE : Hid (allC zs = false) := by
          show allC zs = false
          simp only [allC, List.all_eq_false]
          exact ⟨x, hmem, by simp [hcx]⟩
        go_wp2_with (go_at_call 32; (with_reducible refine (hic _).mono ?_); rintro e w5 ⟨rfl, h5⟩; subst w5)
        go_ret2
        have e1 : eErr zs = 20 := by rw [eErr, hE.out]; rfl
        have e2 : eTxt zs = [] := by rw [eTxt, hE.out]; rfl
        rw [e1, e2]
        exact ⟨rfl, B.out⟩
      · rw [hcx] at hic
        have hr : 0 ≤ x ∧ x ≤ 1114111 := by simp [isC] at hcx; omega
        have hw32 : IntKind.wrap .i32 x = x := by rw [IntKind.wrap_i32]; omega
        go_wp2_with first
          | (go_at_call 32; (with_reducible refine (hic _).mono ?_); rintro e w5 ⟨rfl, h5⟩; subst w5)
          | (go_at_call 33; go_loud (refine (Tryd.utf8_AppendRune_plain w.heap.size _ n _ x (by omega) (by omega) _ O.out (by omega) hsz).mono ?_); rintro e w6 ⟨v6, rfl, hown6, ob, hg6⟩; have B6 : Hid (Below w.heap.size w w6) := chainF B.out (((Fr.refl (fun z => (Value.slice qo n co).ownBlock = some z) wr).alloc ob).grown hg6 (fun z hz => hz)) (Nat.le_refl _) (fun z hz => (ownsRow_at O.out hz).1); have O6 : Hid _ := hown6; clear hown6 hg6)
        go_roundw
        case rel =>
          refine ⟨k + 1, n + (Lib.runeCells x).length, by omega, by go_num, ?_, ?_, B6.out⟩
          · have := O6.out
            rw [htk.out, encB_app, Lib.byteCells_append, Lib.byteCells_encodeRune]
            exact this
          · have := G.out
            rw [htk.out]
            simp only [allC, List.all_append, Bool.and_eq_true] at this ⊢
            exact ⟨this, by simp [hcx]⟩
        case measure => simp only [intOf]; omega
    · obtain rfl : k = zs.length := by omega
      have i1 : ¬ ((zs.length : Nat) : Int) < (zs.length : Int) := by omega
      have O1 := O.out
      have G1 := G.out
      rw [List.take_length] at O1 G1
      have hcv := conv_own O1
      have G2 : Hid (allC zs = true) := G1
      clear O1 G1
      go_wp2
      go_ret2
      have e1 : eErr zs = 0 := by rw [eErr, G2.out]; rfl
      have e2 : eTxt zs = encB zs := by rw [eTxt, G2.out]; rfl
      rw [e1, e2]
      exact ⟨rfl, B.out⟩
end Go.Proofs.YtihmnibopeljaaaDoor
