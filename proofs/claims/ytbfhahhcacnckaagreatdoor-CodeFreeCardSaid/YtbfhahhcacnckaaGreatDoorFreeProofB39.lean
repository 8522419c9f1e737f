/-
  Parts of the proof.
-/
import Derived.Test.YtbfhahhcacnckaaGreatDoorFreeProofB28
import Derived.Test.YtbfhahhcacnckaaGreatDoorFreeProofB29
import Derived.Test.YtbfhahhcacnckaaGreatDoorFreeProofB31
import Derived.Test.YtbfhahhcacnckaaGreatDoorFreeProofB38
set_option linter.unusedSimpArgs false
namespace Go.Proofs.YtbfhahhcacnckaaGreatDoor
open Go Go.RowKit
attribute [local go_sem] Oper.semAt_some ext_cell
theorem pg_own {w : World} {base g c n : Nat} {M : List Ins} {f : Bool} (h : w.ownsRow base 35 10 (.slice (some ⟨g, 0, none⟩) n c) n (ceI14 M)) : PgI w ⟨some ⟨g, 0, none⟩, M, c, 2, 2, f⟩ := by
  refine ⟨?_, LI.of_row h⟩
  have hl := h.1
  rw [ceI14_len] at hl
  rcases h.2 with ⟨_, hz⟩ | ⟨_, cap, _, hv, _, _, h3, h4, _⟩
  · show M.length ≤ _
    omega
  · show M.length ≤ _
    unfold maxLen at h4
    omega
theorem own_len {w : World} {base g c n : Nat} {M : List Ins} (h : w.ownsRow base 35 10 (.slice (some ⟨g, 0, none⟩) n c) n (ceI14 M)) : M.length = n := by
  have hl := h.1
  rw [ceI14_len] at hl
  omega
theorem own_kept {w w' : World} {base : Nat} {t : TypeId} {s n : Nat} {v : Value} {xs : List Value} (h : w.ownsRow base t s v n xs) (hb : Below w.heap.size w w') : w'.ownsRow base t s v n xs := ownsRow_fr h (Fr.of_below (S := fun _ => False) hb) (fun _ _ e => e)
structure MB (n0 : Nat) (W : World) (b g c : Nat) (M : List Ins) (f : Bool) : Prop where
  box : W.heap[b]? = some (.cells #[.slice (some ⟨g, 0, none⟩) M.length c, .int .i64 2, .int .i64 2, .bool f] 24 (0, 0))
  own : W.ownsRow n0 35 10 (.slice (some ⟨g, 0, none⟩) M.length c) M.length (ceI14 M)
  lb : n0 ≤ b
theorem MB.kept {n0 : Nat} {W W' : World} {b g c : Nat} {M : List Ins} {f : Bool} (h : MB n0 W b g c M f) (hb : Below W.heap.size W W') : MB n0 W' b g c M f := ⟨(hb.block _ (lt_of_heap h.box)).trans h.box, own_kept h.own hb, h.lb⟩
theorem MB.pg {n0 : Nat} {W : World} {b g c : Nat} {M : List Ins} {f : Bool} (h : MB n0 W b g c M f) : PgI W ⟨some ⟨g, 0, none⟩, M, c, 2, 2, f⟩ := pg_own h.own
theorem MB.fr {n0 : Nat} {W W' : World} {b g c j : Nat} {M : List Ins} {f : Bool} {i : Ins} (h : MB n0 W b g c M f) (ho : W'.ownsRow n0 35 10 (.slice (some ⟨g, 0, none⟩) M.length c) M.length (ceI14 (M.set j i))) (hf : Fr (At1 g) W W') : MB n0 W' b g c (M.set j i) f := by
  refine ⟨?_, ?_, h.lb⟩
  · rw [List.length_set]
    exact (hf.block _ (lt_of_heap h.box) (fun e => ownsRow_not h.own h.box (by decide) (by rw [show b = g from e]; rfl))).trans h.box
  · rw [List.length_set]
    exact ho
theorem MB.new {n0 : Nat} {W : World} {g c : Nat} {M : List Ins} {f : Bool} (h : W.ownsRow n0 35 10 (.slice (some ⟨g, 0, none⟩) M.length c) M.length (ceI14 M)) (hn : n0 ≤ W.heap.size) : MB n0 (W.alloc (.cells #[.slice (some ⟨g, 0, none⟩) M.length c, .int .i64 2, .int .i64 2, .bool f] 24)) W.heap.size g c M f := ⟨alloc_new W _, World.ownsRow.alloc h _, hn⟩
theorem MB.gle {n0 : Nat} {W : World} {b g c : Nat} {M : List Ins} {f : Bool} (h : MB n0 W b g c M f) : n0 ≤ g ∧ g < W.heap.size ∧ g ≠ b := ⟨(own_ten h.own).2.1, (own_ten h.own).1, fun e => ownsRow_not h.own h.box (by decide) (by rw [← e]; rfl)⟩
abbrev tenW (W : World) (g o : Nat) (i : Ins) : World := (((((((((W.setCell ⟨g, o, none⟩ (.int .i64 i.op)).setCell ⟨g, o + 1, none⟩ (.int .i64 i.x)).setCell ⟨g, o + 2, none⟩ (.int .i64 i.y)).setCell ⟨g, o + 3, none⟩ (.int .i64 i.n)).setCell ⟨g, o + 4, none⟩ (.int .i64 i.mn)).setCell ⟨g, o + 5, none⟩ (.int .i64 i.mx)).setCell ⟨g, o + 6, none⟩ (.int .u64 (z1_wd i.s 0))).setCell ⟨g, o + 7, none⟩ (.int .u64 (z1_wd i.s 1))).setCell ⟨g, o + 8, none⟩ (.int .u64 (z1_wd i.s 2))).setCell ⟨g, o + 9, none⟩ (.int .u64 (z1_wd i.s 3))
theorem tenW_set (W : World) (g o : Nat) (i : Ins) : tenW W g o i = W.setCells g o (inC i) := by simp [World.setCells, inC]
theorem MB.ten {n0 : Nat} {W : World} {b g c m : Nat} {M : List Ins} {f : Bool} (h : MB n0 W b g c M f) (hm : m < M.length) (i : Ins) : MB n0 (tenW W g (m * 10) i) b g c (M.set m i) f ∧ Fr (At1 g) W (tenW W g (m * 10) i) := by
  rw [tenW_set]
  exact ⟨h.fr (own_set h.own hm i) (setA_fr g (inC i) (m * 10) W), setA_fr g (inC i) (m * 10) W⟩
end Go.Proofs.YtbfhahhcacnckaaGreatDoor
