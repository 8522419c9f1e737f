/-
  Parts of the proof.
-/
import Derived.Test.YtaikcnoiaaiopaaDoorPlaysProofB26
set_option linter.unusedSimpArgs false
namespace Go.Proofs.YtaikcnoiaaiopaaDoor
open Go Go.RowKit
open Classical in
noncomputable def allAt (f : Bool) (ws : List ByteArray) (line : ByteArray) (p : Nat) : List Nat := (List.range ws.length).filter fun k => decide (Sd f ws line p k)
noncomputable def allM (f : Bool) (ws : List ByteArray) (line : ByteArray) (n : Nat) : List (Nat × Nat) := (List.range n).flatMap fun p => (allAt f ws line p).map fun k => (p, k)
section
variable {f : Bool} {ws : List ByteArray} {line : ByteArray}
theorem allAt_mem {p k : Nat} : k ∈ allAt f ws line p ↔ Sd f ws line p k := by
  simp only [allAt, List.mem_filter, List.mem_range, decide_eq_true_eq]
  exact ⟨fun h => h.2, fun h => ⟨by obtain ⟨s, h1, _⟩ := h; exact (List.getElem?_eq_some_iff.1 h1).1, h⟩⟩
theorem allM_next (n : Nat) : allM f ws line (n + 1) = allM f ws line n ++ (allAt f ws line n).map fun k => (n, k) := by simp [allM, List.range_succ]
theorem allM_le {n m : Nat} (h : n ≤ m) : allM f ws line n <+: allM f ws line m := by
  obtain ⟨k, rfl⟩ : ∃ k, m = n + k := ⟨m - n, by omega⟩
  clear h
  induction k with
  | zero => exact List.prefix_refl _
  | succ k ih => exact ih.trans (by rw [show n + (k + 1) = n + k + 1 by omega, allM_next]; exact List.prefix_append _ _)
theorem elems_nat (s : z1_S) : (z1_elems s).map (fun x => x.1.toNat) = (List.range 256).filter fun n => s.getLsbD n := by
  unfold z1_elems
  have key : ∀ l : List Nat, (∀ n ∈ l, n < 256) → (l.filterMap fun n => if h : n < 256 ∧ s.getLsbD n = true then some (⟨(n : Int), z1_b8_of h.1⟩ : z1_B8) else none).map (fun x => x.1.toNat) = l.filter fun n => s.getLsbD n := by
    intro l
    induction l with
    | nil => intro _; rfl
    | cons n l ih =>
      intro h
      have hn := h n (by simp)
      have ih := ih (fun m hm => h m (by simp [hm]))
      by_cases hb : s.getLsbD n = true
      · have hc : n < 256 ∧ s.getLsbD n = true := ⟨hn, hb⟩
        rw [List.filterMap_cons, dif_pos hc, List.filter_cons, if_pos hb, List.map_cons, ih]
        simp
      · have hc : ¬ (n < 256 ∧ s.getLsbD n = true) := fun q => hb q.2
        rw [List.filterMap_cons, dif_neg hc, List.filter_cons, if_neg hb]
        exact ih
  exact key _ (fun n hn => List.mem_range.1 hn)
open Classical in
theorem elems_at (hw : ws.length ≤ 256) {p : Nat} {s : z1_S} (h : ∀ k, s.getLsbD k = true ↔ Sd f ws line p k) : (z1_elems s).map (fun x => x.1.toNat) = allAt f ws line p := by
  rw [elems_nat]
  unfold allAt
  have e1 : (List.range 256).filter (fun n => s.getLsbD n) = (List.range 256).filter (fun k => decide (Sd f ws line p k)) := by
    refine List.filter_congr (fun k _ => ?_)
    rw [Bool.eq_iff_iff, h k, decide_eq_true_eq]
  rw [e1]
  obtain ⟨d, hd⟩ : ∃ d, 256 = ws.length + d := ⟨256 - ws.length, by omega⟩
  rw [hd, List.range_add, List.filter_append]
  have : (List.map (fun x => ws.length + x) (List.range d)).filter (fun k => decide (Sd f ws line p k)) = [] := by
    rw [List.filter_eq_nil_iff]
    intro k hk hd'
    obtain ⟨j, _, rfl⟩ := List.mem_map.1 hk
    rw [decide_eq_true_eq] at hd'
    obtain ⟨s, h1, _⟩ := hd'
    have := (List.getElem?_eq_some_iff.1 h1).1
    omega
  rw [this, List.append_nil]
def WaitI (f : Bool) (ws : List ByteArray) (line : ByteArray) (i q m : Nat) (cs : List z1_S) : Prop := ∀ p, q ≤ p → p < q + m → ∃ s, cs[p % m]? = some s ∧ ∀ k, s.getLsbD k = true ↔ SdE f ws line 0 i p k
theorem WaitI.next (hok : mayB ws = true) {i q m : Nat} {cs : List z1_S} (h : WaitI f ws line i q m cs) (hi : i ≤ q + m) (hm : 0 < m) (hl : cs.length = m) : WaitI f ws line i (q + 1) m (cs.set (q % m) 0#256) := fun p h1 h2 => by
  by_cases he : p = q + m
  · subst he
    rw [Nat.add_mod_right]
    refine ⟨0#256, by rw [List.getElem?_set_self (by rw [hl]; exact Nat.mod_lt _ hm)], fun k => ?_⟩
    rw [BitVec.getLsbD_zero]
    refine ⟨fun q => (by cases q), fun ⟨_, s, q1, q2, q3⟩ => ?_⟩
    have := ((mayB_of hok).1 s (List.mem_of_getElem? q1)).1
    omega
  · obtain ⟨s, q1, q2⟩ := h p (by omega) (by omega)
    refine ⟨s, ?_, q2⟩
    rw [List.getElem?_set_ne, q1]
    intro e
    have h3 : p % m = q % m := e.symm
    have h4 : p < q + m := by omega
    have h5 : q < p := by omega
    have h6 := Nat.div_add_mod p m
    have h7 := Nat.div_add_mod q m
    have h8 : m * (p / m) < m * (q / m) + m := by omega
    have h9 : m * (q / m) < m * (p / m) := by omega
    have h10 : q / m < p / m := Nat.lt_of_mul_lt_mul_left h9
    have h11 : m * (q / m + 1) ≤ m * (p / m) := Nat.mul_le_mul_left m h10
    rw [Nat.mul_add, Nat.mul_one] at h11
    omega
end
end Go.Proofs.YtaikcnoiaaiopaaDoor
