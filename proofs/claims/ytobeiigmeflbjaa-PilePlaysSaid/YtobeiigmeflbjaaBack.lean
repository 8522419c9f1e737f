/-
  Cells: Back; the law's helpers pick and values.
-/
import Derived.Test.YtobeiigmeflbjaaCells2
namespace Go.Proofs.Ytobeiigmeflbjaa
open Go Go.RowKit

theorem take_last {α : Type} {l : List α} {k : Nat} {x : α} (h : l[k]? = some x) : l.take (k + 1) = l.take k ++ [x] := by
  rw [List.take_add_one, h]; rfl

/-- How the loop of Back stands. -/
def BackI (base : Nat) (w : World) (b g ub : Nat) (uv : Value) (V : List Int) (U : List (Int × Int)) (m : Nat) (wr : World) : Prop :=
  ∃ (k : Nat) (uv' : Value), m ≤ k ∧ k ≤ U.length ∧ CA base wr b g ub uv' (backV V U k) (U.take k) ∧ uv'.ownBlock = uv.ownBlock ∧ Fr (cfoot g ub uv) w wr

set_option maxRecDepth 100000 in
set_option maxHeartbeats 4000000 in
theorem back_c {base : Nat} {w : World} {b g ub : Nat} {uv : Value} {V : List Int} {U : List (Int × Int)} (h : CA base w b g ub uv V U) {m : Nat} (hm : m ≤ U.length) :
    Calls Try.prog 23 #[.pointer (some ⟨b, 0, none⟩), .int .i64 m] w fun e w' => e = .returned (.int .i64 0) ∧ ∃ uv', CA base w' b g ub uv' (backV V U m) (U.take m) ∧ uv'.ownBlock = uv.ownBlock ∧ Fr (cfoot g ub uv) w w' := by
  have H : Hid (CA base w b g ub uv V U) := h
  have n0 : ¬ (m : Int) < 0 := by omega
  have n1 : ¬ (U.length : Int) < (m : Int) := by omega
  have d1 : decide (U.length < m) = false := by simp; omega
  clear h
  go_enter Try.func23, Try.ntmps23
  go_wp2_with (go_at_call 27; (with_reducible refine (mark_c H.out).mono ?_); rintro e w5 ⟨rfl, h5⟩; subst w5)
  go_loopw [18] (fun _ wr => BackI base w b g ub uv V U m wr) (fun _ wr => lenAt wr ub)
  case atStart => exact ⟨U.length, uv, hm, Nat.le_refl _, by rw [backV_all, List.take_length]; exact H.out, rfl, Fr.refl _ _⟩
  case round =>
    obtain ⟨k, uv', hmk, hkl, hA, hown, hF⟩ := hrel
    have HA : Hid (CA base wr b g ub uv' (backV V U k) (U.take k)) := hA
    have HO : Hid (uv'.ownBlock = uv.ownBlock ∧ Fr (cfoot g ub uv) w wr) := ⟨hown, hF⟩
    have hlk : (U.take k).length = k := by simp; omega
    have MK : Hid (Calls Try.prog 27 #[.pointer (some ⟨b, 0, none⟩)] wr fun e w' => e = .returned (.int .i64 (k : Int)) ∧ w' = wr) := by
      have := mark_c hA
      rw [hlk] at this
      exact this
    have LA : Hid (lenAt wr ub = k) := hA.u.lenAt.trans hlk
    clear hA hown hF hlk
    by_cases hk : m < k
    · obtain ⟨j, rfl⟩ : ∃ j, k = j + 1 := ⟨k - 1, by omega⟩
      obtain ⟨p, hp⟩ : ∃ p, U[j]? = some p := ⟨_, List.getElem?_eq_getElem (by omega)⟩
      have HP : Hid (U[j]? = some p) := hp
      have HT : Hid (U.take (j + 1) = U.take j ++ [p]) := take_last hp
      obtain ⟨a, ha, hal⟩ := HA.out.ok p (by rw [HT.out]; simp)
      obtain ⟨p1, y⟩ := p
      simp only at ha
      subst ha
      have PU1 : Hid (PU base wr ub uv' (U.take j ++ [((a : Int), y)])) := by rw [← HT.out]; exact HA.out.u
      have e1 : (m : Int) < ((j + 1 : Nat) : Int) := by omega
      have c1 := HA.out.c1
      obtain ⟨o, ho⟩ : ∃ o, (backV V U (j + 1))[a]? = some o := ⟨_, List.getElem?_eq_getElem hal⟩
      have HO2 : Hid ((backV V U (j + 1))[a]? = some o) := ho
      have ha0 : (0 : Int) ≤ (a : Int) := by omega
      have ha1 : (a : Int) < ((backV V U (j + 1)).length : Int) := by omega
      clear hp ho
      go_upto_region 5 with first | (go_at_call 27; (with_reducible refine MK.out.mono ?_); rintro e w5 ⟨rfl, h5⟩; subst w5) | (go_at_call 46; (with_reducible refine (popU PU1.out).mono ?_); rintro e w6 ⟨rfl, v6, h6, hv6, hf6⟩; have A6 : Hid (CA base w6 b g ub v6 (backV V U (j + 1)) (U.take j)) := HA.out.undo hf6 h6 (fun p hp => HA.out.ok p (by rw [HT.out]; exact List.mem_append_left _ hp)); have O6 : Hid (v6.ownBlock = uv.ownBlock ∧ Fr (cfoot g ub uv) w w6) := ⟨hv6.trans HO.out.1, HO.out.2.trans (hf6.mono (fun z q => .inr (q.imp id (fun q => HO.out.1 ▸ q))))⟩; clear h6 hv6 hf6)
      have A7 : Hid (CA base (w6.alloc (.cells #[.int .i64 (a : Int), .int .i64 y] 84)) b g ub v6 (backV V U (j + 1)) (U.take j)) := A6.out.kept ((Below.refl _ _).alloc (Nat.le_refl _) _)
      have F7 : Hid (Fr (cfoot g ub uv) w (w6.alloc (.cells #[.int .i64 (a : Int), .int .i64 y] 84))) := O6.out.2.alloc _
      have N7 := alloc_new w6 (.cells #[.int .i64 (a : Int), .int .i64 y] 84)
      generalize (w6.alloc (.cells #[.int .i64 (a : Int), .int .i64 y] 84)) = w7 at A7 F7 N7 ⊢
      have k0 : w7.cell? ⟨w6.heap.size, 0, none⟩ = some (.int .i64 (a : Int)) := cell_row N7 (i := 0) rfl
      have k1 : w7.cell? ⟨w6.heap.size, 1, none⟩ = some (.int .i64 y) := cell_row N7 (i := 1) rfl
      clear c1 N7
      have c0 := A7.out.c0
      have ca := A7.out.cell HO2.out
      have fa := A7.out.frz a
      go_region
      all_goals go_wp2
      go_roundw
      case rel =>
        refine ⟨j, v6, by omega, by omega, ?_, O6.out.1, (F7.out.setCell (p := ⟨g, a, none⟩) (.inl rfl) _).drew⟩
        rw [backV_step V U HP.out]
        exact (A7.out.set a y).kept (Below.refl _ _).drew
      case measure =>
        have q1 := ((A7.out.set a y).kept (Below.refl _ _).drew).u.lenAt
        have q2 := LA.out
        have q3 : (U.take j).length = j := by simp; omega
        omega
    · obtain rfl : k = m := by omega
      have e1 : ¬ (k : Int) < (k : Int) := by omega
      go_wp2_with (go_at_call 27; (with_reducible refine MK.out.mono ?_); rintro e w5 ⟨rfl, h5⟩; subst w5)
      go_ret
      exact ⟨rfl, uv', HA.out, HO.out.1, HO.out.2⟩
end Go.Proofs.Ytobeiigmeflbjaa
