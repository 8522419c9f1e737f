/-
  Parts of the proof.
-/
import Derived.Test.YtbghleihgcenmaaC9
set_option linter.unusedSimpArgs false
namespace Go.Proofs.Ytbghleihgcenmaa
open Go Go.RowKit
def putsN (n : Nat) (L xs : List Int) : List Int := xs.foldl (putL n) L
def bgOf (l : List Int) (a : Int) : Int := l[a.toNat]?.getD 0
abbrev sL (s : ByteArray) : List UInt8 := s.data.toList
theorem sL_len (s : ByteArray) : (sL s).length = s.size := Array.length_toList
theorem nodup_at {L : List Int} (h : L.Nodup) {j k : Nat} {z : Int} (hj : L[j]? = some z) (hk : L[k]? = some z) : j = k := by
  obtain ⟨j1, j2⟩ := List.getElem?_eq_some_iff.1 hj
  obtain ⟨k1, k2⟩ := List.getElem?_eq_some_iff.1 hk
  have hp := List.pairwise_iff_getElem.1 (List.nodup_iff_pairwise_ne.1 h)
  rcases Nat.lt_trichotomy j k with q | q | q
  · exact absurd (j2.trans k2.symm) (hp j k j1 k1 q)
  · exact q
  · exact absurd (k2.trans j2.symm) (hp k j k1 j1 q)
theorem putL_app (n : Nat) (L : List Int) (x : Int) : ∃ M, putL n L x = L ++ M ∧ (0 ≤ x → x < n → x ∈ L ++ M) ∧ (∀ z ∈ M, z = x) := by
  unfold putL
  split
  · exact ⟨[x], rfl, fun _ _ => by simp, fun z hz => by simpa using hz⟩
  · rename_i h
    refine ⟨[], by simp, fun h0 h1 => ?_, fun z hz => by cases hz⟩
    rw [List.append_nil]
    exact Classical.byContradiction fun q => h ⟨h0, h1, q⟩
theorem putsN_app (n : Nat) : ∀ (xs L : List Int), ∃ M, putsN n L xs = L ++ M ∧ (∀ z ∈ xs, 0 ≤ z → z < n → z ∈ L ++ M) ∧ ∀ z ∈ M, z ∈ xs
  | [], L => ⟨[], by simp [putsN], fun _ h => by (cases h), fun _ h => by (cases h)⟩
  | x :: r, L => by
    obtain ⟨M1, e1, h1, h2⟩ := putL_app n L x
    obtain ⟨M2, e2, h3, h4⟩ := putsN_app n r (L ++ M1)
    refine ⟨M1 ++ M2, ?_, fun z hz p0 p1 => ?_, fun z hz => ?_⟩
    · show putsN n (putL n L x) r = _
      rw [e1, e2, List.append_assoc]
    · rw [← List.append_assoc]
      rcases List.mem_cons.1 hz with rfl | hz
      · exact List.mem_append_left _ (h1 p0 p1)
      · exact h3 z hz p0 p1
    · rcases List.mem_append.1 hz with hz | hz
      · rw [h2 z hz]
        simp
      · exact List.mem_cons_of_mem _ (h4 z hz)
structure EnI (P : List Ins) (s : List UInt8) (pl : Nat) (X N : List Int) (x : Int) (k : Nat) (l0 l1 : List Int) (b : Int) : Prop where
  lo : X.length ≤ k
  hi : k ≤ (X ++ N).length
  mem : x ∈ X ++ N
  src : ∀ y ∈ N, ∀ Q : Int → Prop, Q x → (∀ a i z, Q a → P[a.toNat]? = some i → z ∈ epsP s i a pl → Q z) → Q y
  clo : ∀ (j : Nat) y i z, X.length ≤ j → j < k → (X ++ N)[j]? = some y → P[y.toNat]? = some i → z ∈ epsP s i y pl → z ∈ X ++ N
  bgn : ∀ (j : Nat) y, X.length ≤ j → j < k → (X ++ N)[j]? = some y → bgOf l1 y = b
  old : ∀ y ∈ X, bgOf l1 y = bgOf l0 y
section
variable {P : List Ins} {s : List UInt8} {pl : Nat} {X N : List Int} {x b : Int} {k n : Nat} {l0 l1 : List Int}
theorem enI_start (h0 : 0 ≤ x) (h1 : x < n) : ∃ N, putL n X x = X ++ N ∧ EnI P s pl X N x X.length l0 l0 b := by
  obtain ⟨M, e, q1, q2⟩ := putL_app n X x
  exact ⟨M, e, Nat.le_refl _, by simp, q1 h0 h1, fun y hy Q hx _ => by rw [q2 y hy]; exact hx, fun j _ _ _ a c => by omega, fun j _ a c => by omega, fun _ _ => rfl⟩
theorem enI_step (h : EnI P s pl X N x k l0 l1 b) {y : Int} {i : Ins} (hy : (X ++ N)[k]? = some y) (hi : P[y.toNat]? = some i) (hr : ∀ z ∈ epsP s i y pl, 0 ≤ z ∧ z < n) (hd : (X ++ N).Nodup) (hp : ∀ z ∈ X ++ N, 0 ≤ z) (hl : y.toNat < l1.length) :
    ∃ N', putsN n (X ++ N) (epsP s i y pl) = X ++ N' ∧ EnI P s pl X N' x (k + 1) l0 (l1.set y.toNat b) b := by
  obtain ⟨M, e, q1, q2⟩ := putsN_app n (epsP s i y pl) (X ++ N)
  have hk := (List.getElem?_eq_some_iff.1 hy).1
  have hlo := h.lo
  have hym : y ∈ N := by
    rw [List.getElem?_append_right hlo] at hy
    exact List.mem_of_getElem? hy
  have hy0 := hp y (List.mem_append_right _ hym)
  have pre : ∀ (j : Nat) (z : Int), j < (X ++ N).length → (X ++ (N ++ M))[j]? = some z → (X ++ N)[j]? = some z := fun j z hj hz => by
    rw [← List.append_assoc, List.getElem?_append_left hj] at hz
    exact hz
  have ne : ∀ (j : Nat) (z : Int), j ≠ k → (X ++ N)[j]? = some z → bgOf (l1.set y.toNat b) z = bgOf l1 z := fun j z hj hz => by
    have hzy : z ≠ y := fun e => hj (nodup_at hd hz (e ▸ hy))
    have hz0 := hp z (List.mem_of_getElem? hz)
    unfold bgOf
    rw [List.getElem?_set_ne (by omega)]
  refine ⟨N ++ M, by rw [e, List.append_assoc], by omega, by rw [← List.append_assoc, List.length_append]; omega, ?_, fun z hz Q hx hQ => ?_, fun j z i' u h1 h2 h3 h4 h5 => ?_, fun j z h1 h2 h3 => ?_, fun z hz => ?_⟩
  · rw [← List.append_assoc]
    exact List.mem_append_left _ h.mem
  · rcases List.mem_append.1 hz with hz | hz
    · exact h.src z hz Q hx hQ
    · exact hQ y i z (h.src y hym Q hx hQ) hi (q2 z hz)
  · have h3 := pre j z (by omega) h3
    rw [← List.append_assoc]
    rcases Nat.lt_or_ge j k with r | r
    · exact List.mem_append_left _ (h.clo j z i' u h1 r h3 h4 h5)
    · obtain rfl : j = k := by omega
      rw [hy] at h3
      cases h3
      rw [hi] at h4
      cases h4
      obtain ⟨r1, r2⟩ := hr u h5
      exact q1 u h5 r1 r2
  · have h3 := pre j z (by omega) h3
    rcases Nat.lt_or_ge j k with r | r
    · rw [ne j z (by omega) h3]
      exact h.bgn j z h1 r h3
    · obtain rfl : j = k := by omega
      rw [hy] at h3
      cases h3
      unfold bgOf
      simp [hl]
  · obtain ⟨j, hj⟩ := List.getElem?_of_mem hz
    have hjl := (List.getElem?_eq_some_iff.1 hj).1
    rw [ne j z (by omega) (by rw [List.getElem?_append_left hjl]; exact hj)]
    exact h.old z hz
theorem enI_end (h : EnI P s pl X N x k l0 l1 b) (hk : (X ++ N).length ≤ k) : EnQ P s pl X N x ∧ (∀ y ∈ N, bgOf l1 y = b) ∧ ∀ y ∈ X, bgOf l1 y = bgOf l0 y := by
  have at_ : ∀ y ∈ N, ∃ j, X.length ≤ j ∧ j < k ∧ (X ++ N)[j]? = some y := fun y hy => by
    obtain ⟨j, hj⟩ := List.getElem?_of_mem hy
    have hjl := (List.getElem?_eq_some_iff.1 hj).1
    refine ⟨X.length + j, by omega, by simp at hk; omega, ?_⟩
    rw [List.getElem?_append_right (by omega), show X.length + j - X.length = j by omega]
    exact hj
  refine ⟨⟨h.mem, h.src, fun y hy i z hi hz => ?_⟩, fun y hy => ?_, h.old⟩
  · obtain ⟨j, h1, h2, h3⟩ := at_ y hy
    exact h.clo j y i z h1 h2 h3 hi hz
  · obtain ⟨j, h1, h2, h3⟩ := at_ y hy
    exact h.bgn j y h1 h2 h3
end
end Go.Proofs.Ytbghleihgcenmaa
