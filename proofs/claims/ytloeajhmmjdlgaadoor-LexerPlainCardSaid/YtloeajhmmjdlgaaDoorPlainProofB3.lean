/-
  Texts whose bytes stand for themselves: mathematics.
-/
import Derived.Test.YtloeajhmmjdlgaaDoorC17
import Derived.Test.YtloeajhmmjdlgaaDoorC18
namespace Go.Proofs.YtloeajhmmjdlgaaDoor
open Go

/-- Does a byte stand for itself? -/
def plainB (x : UInt8) : Bool := !(x == 92 || x == 91 || x == 46 || x == 42 || x == 94 || x == 36)
def encP (x : UInt8) : List UInt8 := if plainB x then [x] else [92, x]
def low (x : UInt8) : Bool := decide (x.toNat < 128)
theorem plain_not {x : UInt8} (h : plainB x = true) : x.toNat ≠ 92 ∧ x.toNat ≠ 91 ∧ x.toNat ≠ 46 ∧ x.toNat ≠ 42 ∧ x.toNat ≠ 94 ∧ x.toNat ≠ 36 := by
  unfold plainB at h
  simp only [Bool.not_eq_true', Bool.or_eq_false_iff, beq_eq_false_iff_ne] at h
  obtain ⟨⟨⟨⟨⟨h1, h2⟩, h3⟩, h4⟩, h5⟩, h6⟩ := h
  refine ⟨fun q => h1 ?_, fun q => h2 ?_, fun q => h3 ?_, fun q => h4 ?_, fun q => h5 ?_, fun q => h6 ?_⟩ <;> exact UInt8.toNat_inj.1 q
theorem special {x : UInt8} (h : plainB x = false) : x = 92 ∨ x = 91 ∨ x = 46 ∨ x = 42 ∨ x = 94 ∨ x = 36 := by
  unfold plainB at h
  simp only [Bool.not_eq_false', Bool.or_eq_true, beq_iff_eq] at h
  rcases h with ((((h | h) | h) | h) | h) | h
  all_goals simp [h]
theorem lx_plain (m : Md) (s : ByteArray) : ∀ (R : List UInt8) (f : Nat) (A : List UInt8) (T : List Tp), s.data.toList = A ++ R.flatMap encP → (∀ x ∈ R, x.toNat < 128) → s.size < f + A.length →
    ∃ T', lx m s f A.length T = .ok (T ++ T') ∧ T'.length = R.length ∧ ∀ (i : Nat) (x : UInt8), R[i]? = some x → ∃ a e, T'[i]? = some (setT m [((x.toNat : Int), (x.toNat : Int))] false, a, e)
  | R, 0, A, T, h, hR, hf => by
    have := congrArg List.length h
    rw [size_list, List.length_append] at this
    omega
  | [], f + 1, A, T, h, hR, hf => by
    have hz : s.size = A.length := by rw [← size_list, h]; simp
    exact ⟨[], by rw [lx, if_neg (by omega)]; simp, rfl, fun i x hx => by simp at hx⟩
  | x :: R, f + 1, A, T, h, hR, hf => by
    have hx := hR x (by simp)
    have key : tok m s A.length (lastK T) = .ok (setT m [((x.toNat : Int), (x.toNat : Int))] false, A.length + (encP x).length) ∧ A.length < s.size := by
      cases hp : plainB x with
      | true =>
        have e : encP x = [x] := by unfold encP; rw [hp]; rfl
        have h1 : s.data.toList = A ++ x :: R.flatMap encP := by rw [h, List.flatMap_cons, e]; rfl
        obtain ⟨hlt, hb⟩ := bt_at.1 (show s.data.toList[A.length]? = some x by rw [h1]; simp)
        obtain ⟨n1, n2, n3, n4, n5, n6⟩ := plain_not hp
        refine ⟨?_, hlt⟩
        have sd : ∀ c : UInt8, x.toNat ≠ c.toNat → sees s A.length [c] = false := fun c hc => by rw [sees_dec hlt, hb]; exact decide_eq_false hc
        unfold tok
        rw [sd 92 n1, sd 42 n4, sd 94 n5, sd 36 n6, sd 46 n3, sd 91 n2, chr_ascii m (by omega), hb, e]
        rfl
      | false =>
        have e : encP x = [92, x] := by unfold encP; rw [hp]; rfl
        have h1 : s.data.toList = A ++ 92 :: x :: R.flatMap encP := by rw [h, List.flatMap_cons, e]; rfl
        obtain ⟨hlt, hb⟩ := bt_at.1 (show s.data.toList[A.length]? = some 92 by rw [h1]; simp)
        obtain ⟨hlt2, hb2⟩ := bt_at.1 (show s.data.toList[A.length + 1]? = some x by rw [h1]; simp)
        refine ⟨?_, hlt⟩
        have ht : tok m s A.length (lastK T) = esc m s A.length (lastK T) := by
          unfold tok
          rw [if_pos (sees_one.2 ⟨hlt, hb⟩)]
        rw [ht, esc_set m s A.length (lastK T) (by omega) (by rw [hb2]; rcases special hp with rfl | rfl | rfl | rfl | rfl | rfl <;> decide), hb2, e]
        rfl
    obtain ⟨T', q1, q2, q3⟩ := lx_plain m s R f (A ++ encP x) (T ++ [(setT m [((x.toNat : Int), (x.toNat : Int))] false, A.length, A.length + (encP x).length)]) (by rw [h, List.flatMap_cons, List.append_assoc]) (fun y hy => hR y (by simp [hy])) (by
      have : 0 < (encP x).length := by unfold encP; split <;> simp
      rw [List.length_append]; omega)
    refine ⟨(setT m [((x.toNat : Int), (x.toNat : Int))] false, A.length, A.length + (encP x).length) :: T', ?_, by simp [q2], ?_⟩
    · rw [lx, if_pos key.2, key.1]
      simp only
      rw [List.length_append] at q1
      rw [q1, List.append_assoc]
      rfl
    · intro i y hy
      cases i with
      | zero => simp at hy; subst hy; exact ⟨_, _, rfl⟩
      | succ i => simp at hy; simpa using q3 i y hy
theorem lex_plain (m : Md) (s : ByteArray) (R : List UInt8) (h : s.data.toList = R.flatMap encP) (hR : ∀ x ∈ R, x.toNat < 128) (hs : s.size ≤ 2000) :
    ∃ T, lexM m s = .ok T ∧ T.length = R.length ∧ ∀ (i : Nat) (x : UInt8), R[i]? = some x → ∃ a e, T[i]? = some (setT m [((x.toNat : Int), (x.toNat : Int))] false, a, e) := by
  obtain ⟨T, h1, h2, h3⟩ := lx_plain m s R (s.size + 1) [] [] (by rw [h]; rfl) hR (by simp)
  refine ⟨T, ?_, h2, h3⟩
  unfold lexM
  rw [if_neg (by omega)]
  simpa using h1
/-- The class of a byte below 128. -/
theorem cls_one {m : Md} {C : List (Int × Int)} {x : Int} (h : IsC C (setQ m [(x, x)] false)) (h0 : 0 ≤ x) (h1 : x < 128) (hf : m.f = false ∨ ¬ (65 ≤ x ∧ x ≤ 90) ∧ ¬ (97 ≤ x ∧ x ≤ 122)) : C = [(x, x)] := by
  refine cls_unique _ _ h.cls ⟨by simp, by simp⟩ fun y => (h.mem y).trans ?_
  simp only [setQ, Bool.false_eq_true, if_false, foldQ, in_one]
  constructor
  · rintro ⟨-, k⟩
    cases hm : m.f with
    | false => rw [hm] at k; simpa using k
    | true =>
      rw [hm] at k hf
      simp only [if_true] at k
      simp only [Bool.true_eq_false, false_or] at hf
      omega
  · intro k
    have hy : y = x := by omega
    subst hy
    refine ⟨⟨h0, ?_, fun _ => by omega⟩, ?_⟩
    · unfold top; split <;> omega
    · cases m.f with
      | false => simp
      | true => simp
theorem cls_two {m : Md} {C : List (Int × Int)} {x l : Int} (h : IsC C (setQ m [(x, x)] false)) (hf : m.f = true) (hl : 65 ≤ l ∧ l ≤ 90) (hx : x = l ∨ x = l + 32) : C = [(l, l), (l + 32, l + 32)] := by
  refine cls_unique _ _ h.cls ⟨by simp, by simp⟩ fun y => (h.mem y).trans ?_
  have e1 : In [(l, l), (l + 32, l + 32)] y ↔ y = l ∨ y = l + 32 := by
    rw [in_cons, in_one]
    simp only
    omega
  have e2 : foldQ (In [(x, x)]) y ↔ y = l ∨ y = l + 32 := by
    unfold foldQ
    rw [in_one, in_one, in_one]
    simp only
    omega
  rw [e1]
  unfold setQ
  rw [hf]
  simp only [Bool.false_eq_true, if_false, if_true]
  rw [e2]
  constructor
  · exact fun k => k.2
  · intro k
    refine ⟨⟨by omega, ?_, fun _ => by omega⟩, k⟩
    unfold top; split <;> omega
end Go.Proofs.YtloeajhmmjdlgaaDoor
