/-
  Parts of the proof.
-/
import Derived.Test.YtbfhahhcacnckaaGreatDoorSamesProofB25
import Derived.Test.YtbfhahhcacnckaaGreatDoorSamesProofB26
import Derived.Test.YtbfhahhcacnckaaGreatDoorSamesProofB32
set_option linter.unusedSimpArgs false
namespace Go.Proofs.YtbfhahhcacnckaaGreatDoor
open Go Go.RowKit
attribute [local go_sem] Oper.semAt_some
def tsL (k : Nat) : List UInt8 := (smL.drop k).flatMap lnI
theorem tsL_c0 : cutL 10 (tsL 0) = (Lib.join (wds ⟨2, 1, 3, 0, 0, 0, 0#256⟩) [32], tsL 1, true) := by kernel_rfl
theorem tsL_c1 : cutL 10 (tsL 1) = (Lib.join (wds ⟨1, 0, 0, 0, 0, 0, aS⟩) [32], tsL 2, true) := by kernel_rfl
theorem tsL_c2 : cutL 10 (tsL 2) = (Lib.join (wds ⟨3, 0, 0, 0, 0, 0, 0#256⟩) [32], tsL 3, true) := by kernel_rfl
theorem tsL_c3 : cutL 10 (tsL 3) = (Lib.join (wds ⟨11, 0, 0, 0, 0, 0, 0#256⟩) [32], tsL 4, true) := by kernel_rfl
theorem tsL_cut {k : Nat} (hk : k < 4) {i : Ins} (hi : smL[k]? = some i) : cutL 10 (tsL k) = (Lib.join (wds i) [32], tsL (k + 1), true) := by
  obtain rfl | rfl | rfl | rfl : k = 0 ∨ k = 1 ∨ k = 2 ∨ k = 3 := by omega
  · obtain rfl := Option.some.inj hi; exact tsL_c0
  · obtain rfl := Option.some.inj hi; exact tsL_c1
  · obtain rfl := Option.some.inj hi; exact tsL_c2
  · obtain rfl := Option.some.inj hi; exact tsL_c3
theorem tsL_len : ∀ k, k < 5 → (tsL k).length ≤ 1000 := by decide +kernel
theorem tsL_ne : ∀ k, k < 4 → tsL k ≠ [] := by decide +kernel
theorem inst_all {w : World} {b : Nat} {a : Int} {i : Ins} (hT : z1_Tab w) (h : LB w b (Lib.join (wds i) [32]) true a) (h2 : 2 < b) (hi : i ∈ smL) : Calls Tryz.prog 55 #[.pointer (some ⟨b, 0, none⟩)] w (InP w b a i) := by
  simp only [smL, List.mem_cons, List.not_mem_nil, or_false] at hi
  rcases hi with rfl | rfl | rfl | rfl
  · exact inst_2 hT ((show Lib.join (wds ⟨2, 1, 3, 0, 0, 0, 0#256⟩) [32] = [115, 112, 108, 105, 116, 32, 49, 32, 51] by kernel_rfl) ▸ h) h2
  · exact inst_1 hT ((show Lib.join (wds ⟨1, 0, 0, 0, 0, 0, aS⟩) [32] = [98, 121, 116, 101, 32, 54, 49] by kernel_rfl) ▸ h) h2
  · exact inst_3 hT ((show Lib.join (wds ⟨3, 0, 0, 0, 0, 0, 0#256⟩) [32] = [106, 117, 109, 112, 32, 48] by kernel_rfl) ▸ h) h2
  · exact inst_11 hT ((show Lib.join (wds ⟨11, 0, 0, 0, 0, 0, 0#256⟩) [32] = [109, 97, 116, 99, 104] by kernel_rfl) ▸ h) h2
def ceI14 (L : List Ins) : List Value := L.flatMap inC
theorem ceI14_len (L : List Ins) : (ceI14 L).length = L.length * 10 := by
  induction L with
  | nil => rfl
  | cons x L ih => simp only [ceI14, List.flatMap_cons, List.length_append, List.length_cons] at ih ⊢; rw [ih, inC_len]; omega
theorem ceI14_app (L M : List Ins) : ceI14 (L ++ M) = ceI14 L ++ ceI14 M := by simp [ceI14]
theorem ceI14_at {L : List Ins} {j : Nat} {i : Ins} (h : L[j]? = some i) (m : Nat) (v : Value) (hm : (inC i)[m]? = some v) : (ceI14 L)[j * 10 + m]? = some v := by
  induction L generalizing j with
  | nil => cases h
  | cons x L ih =>
    have hm10 : m < 10 := by have := (List.getElem?_eq_some_iff.1 hm).1; rwa [inC_len] at this
    cases j with
    | zero =>
      cases h
      show (inC i ++ ceI14 L)[0 * 10 + m]? = some v
      rw [List.getElem?_append_left (by rw [inC_len]; omega), Nat.zero_mul, Nat.zero_add]
      exact hm
    | succ j =>
      show (inC x ++ ceI14 L)[(j + 1) * 10 + m]? = some v
      rw [List.getElem?_append_right (by rw [inC_len]; omega), inC_len, show (j + 1) * 10 + m - 10 = j * 10 + m by omega]
      exact ih h
theorem LI.of_row {w : World} {base c n : Nat} {q : Option Addr} {L : List Ins} (h : w.ownsRow base 35 10 (.slice q n c) n (ceI14 L)) : LI w q L := fun j i hi => by
  rcases h.2 with ⟨e, hn⟩ | ⟨g, cap, cur, e, h1, h2, h3, h4, h5, h6⟩
  · have := h.1
    rw [ceI14_len, hn] at this
    have := (List.getElem?_eq_some_iff.1 hi).1
    omega
  · cases e
    refine ⟨g, 0, rfl, lt_of_heap h2, fun m v hm => ?_⟩
    have h8 := h.cells (g := g) rfl (j * 10 + m) v (ceI14_at hi m v hm)
    rw [Nat.zero_add]
    have e2 : (⟨g, 0, none⟩ : Addr).add (j * 10 + m) = ⟨g, j * 10 + m, none⟩ := by
      unfold Addr.add
      split
      · next hz => simp_all
      · simp
    rw [e2] at h8
    exact h8
end Go.Proofs.YtbfhahhcacnckaaGreatDoor
