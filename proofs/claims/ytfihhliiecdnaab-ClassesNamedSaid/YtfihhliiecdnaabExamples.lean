/-
  examples: the chapter's own.
-/
import Derived.Test.YtfihhliiecdnaabCount
import Derived.Test.YtfihhliiecdnaabNamedN
import Derived.Test.YtfihhliiecdnaabAlike
import Derived.Test.YtfihhliiecdnaabHas
namespace Go.Proofs.Ytfihhliiecdnaab
open Go Go.RowKit

theorem lit_rr (W : World) (L : List (Int × Int)) (hl : L.length ≤ 1000) : RR W.heap.size (W.alloc (.cells (cellsR L).toArray 33)) (.slice (some ⟨W.heap.size, 0, none⟩) L.length L.length) L := by
  have := World.ownsRow_lit (base := W.heap.size) (e := 33) (size := 2) W (cellsR L).toArray L.length (Nat.le_refl _) (by unfold maxLen; omega) (by simp [cellsR_length])
  exact this
theorem below_alloc (W : World) (o : Obj) : Below W.heap.size W (W.alloc o) := (Below.refl _ _).alloc (Nat.le_refl _) _
theorem ex_norm (W : World) : Calls Try.prog 11 #[.slice (some ⟨W.heap.size, 0, none⟩) 4 4, .bool false] (W.alloc (.cells #[.int .i64 5, .int .i64 7, .int .i64 1, .int .i64 2, .int .i64 3, .int .i64 3, .int .i64 9, .int .i64 8] 33)) fun e w' => ∃ v, e = .returned v ∧ ArgR w' v [(1, 3), (5, 7)] ∧ Below W.heap.size W w' :=
  (norm_c (m := false) (lit_rr W [(5, 7), (1, 2), (3, 3), (9, 8)] (by simp)).arg (lit_fit (by decide)) (by simp)).mono fun e w' ⟨v, C, h1, h2, h3, _, h5⟩ => ⟨v, h1, by
    have e : C = [(1, 3), (5, 7)] := h3.one (lit_is (by decide) (by decide) (by decide)) fun c => by
      simp only [in_cons, in_nil_iff, or_false, isChar, top]
      simp
      omega
    rw [← e]
    exact h2.arg, chain (below_alloc W _) h5 (Nat.le_refl _)⟩
theorem ex_fold (W : World) : Calls Try.prog 12 #[.slice (some ⟨W.heap.size, 0, none⟩) 1 1] (W.alloc (.cells #[.int .i64 64, .int .i64 66] 33)) fun e w' => ∃ v, e = .returned v ∧ ArgR w' v [(64, 66), (97, 98)] ∧ Below W.heap.size W w' :=
  (fold_c (lit_rr W [(64, 66)] (by simp)).arg (lit_fit (by decide)) (by simp)).mono fun e w' ⟨v, C, h1, h2, h3, _, h5⟩ => ⟨v, h1, by
    have e : C = [(64, 66), (97, 98)] := h3.one (lit_is (by decide) (by decide) (by decide)) fun c => by
      simp only [foldP, in_cons, in_nil_iff, or_false]
      omega
    rw [← e]
    exact h2.arg, chain (below_alloc W _) h5 (Nat.le_refl _)⟩
theorem alike_lit {W : World} {v : Value} {L : List (Int × Int)} {cs : Array Value} {n : Nat} (h : ArgR W v L) (hl : L.length ≤ 1000) (hn : L.length = n) (hc : (cellsR L).toArray = cs) :
    Calls Try.prog 9 #[v, .slice (some ⟨W.heap.size, 0, none⟩) n n] (W.alloc (.cells cs 33)) fun e w' => e = .returned (.bool true) ∧ Below W.heap.size W w' := by
  subst hn hc
  refine (alike_c (h.kept (below_alloc W _)) (lit_rr W L hl).arg).mono fun e w' ⟨h1, h2⟩ => ⟨by rw [h1]; simp, chain (below_alloc W _) h2 (Nat.le_refl _)⟩
theorem ex_count {W : World} {v : Value} (h : ArgR W v [(1, 3), (5, 7)]) : Calls Try.prog 14 #[v] W fun e w' => e = .returned (.int .i64 6) ∧ Below W.heap.size W w' :=
  (count_c h (lit_fit (by decide)) (by simp)).mono fun e w' ⟨C, h1, h2, h3⟩ => ⟨by
    have e : C = [(1, 3), (5, 7)] := h1.one (lit_is (by decide) (by decide) (by decide)) fun c => Iff.rfl
    rw [h2, e]
    rfl, h3⟩
theorem ex_has6 {W : World} {v : Value} (h : ArgR W v [(1, 3), (5, 7)]) : Calls Try.prog 15 #[v, .int .i64 6] W fun e w' => e = .returned (.bool true) ∧ Below W.heap.size W w' := has_c h
theorem ex_has4 {W : World} {v : Value} (h : ArgR W v [(1, 3), (5, 7)]) : Calls Try.prog 15 #[v, .int .i64 4] W fun e w' => e = .returned (.bool false) ∧ Below W.heap.size W w' := has_c h
theorem top_f (w : World) : Calls Try.prog 13 #[.bool false] w fun e w' => e = .returned (.int .i64 255) ∧ w' = w := top_c false w
theorem top_t (w : World) : Calls Try.prog 13 #[.bool true] w fun e w' => e = .returned (.int .i64 1114111) ∧ w' = w := top_c true w

set_option maxRecDepth 100000 in
set_option maxHeartbeats 2000000 in
theorem examples_c (w : World) : Calls Try.prog 4 #[] w fun e w' => e = .returned (.bool true) ∧ Below w.heap.size w w' := by
  go_enter Try.func4, Try.ntmps4
  go_wp2_with first
    | (have hx := X11.out; clear hx; go_at_call 15; refine (ex_has4 X11.out.1).mono ?_; rintro e w12 ⟨rfl, h1⟩; have X12 : Hid (Below w.heap.size w w12) := chain X11.out.2 h1 (Nat.le_refl _); clear h1)
    | (have hx := X10.out; clear hx; go_at_call 15; refine (ex_has6 X10.out.1).mono ?_; rintro e w11 ⟨rfl, h1⟩; have X11 : Hid (ArgR w11 va [(1, 3), (5, 7)] ∧ Below w.heap.size w w11) := ⟨X10.out.1.kept h1, chain X10.out.2 h1 (Nat.le_refl _)⟩; clear h1)
    | (go_at_call 14; refine (ex_count X7.out.1).mono ?_; rintro e w10 ⟨rfl, h1⟩; have X10 : Hid (ArgR w10 va [(1, 3), (5, 7)] ∧ Below w.heap.size w w10) := ⟨X7.out.1.kept h1, chain X7.out.2 h1 (Nat.le_refl _)⟩; clear h1)
    | (go_at_call 13; (first | (with_reducible refine (top_f _).mono ?_) | (with_reducible refine (top_t _).mono ?_)); rintro e w9 ⟨rfl, h9⟩; subst w9)
    | (have hx := X6.out; clear hx; go_at_call 9; refine (alike_lit X6.out.2.1 (by simp) rfl rfl).mono ?_; rintro e w7 ⟨rfl, h1⟩; have X7 : Hid (ArgR w7 va [(1, 3), (5, 7)] ∧ Below w.heap.size w w7) := ⟨X6.out.1.kept h1, chain X6.out.2.2 h1 (Nat.le_refl _)⟩; clear h1)
    | (have hx := X5.out; clear hx; go_at_call 9; refine (alike_lit X5.out.2.1 (by simp) rfl rfl).mono ?_; rintro e w6 ⟨rfl, h1⟩; have X6 : Hid (ArgR w6 va [(1, 3), (5, 7)] ∧ ArgR w6 vc [(64, 66), (97, 98)] ∧ Below w.heap.size w w6) := ⟨X5.out.1.kept h1, X5.out.2.2.1.kept h1, chain X5.out.2.2.2 h1 (Nat.le_refl _)⟩; clear h1)
    | (go_at_call 9; refine (alike_lit X4.out.1 (by simp) rfl rfl).mono ?_; rintro e w5 ⟨rfl, h1⟩; have X5 : Hid (ArgR w5 va [(1, 3), (5, 7)] ∧ ArgR w5 vb [(9, 9), (32, 32)] ∧ ArgR w5 vc [(64, 66), (97, 98)] ∧ Below w.heap.size w w5) := ⟨X4.out.1.kept h1, X4.out.2.1.kept h1, X4.out.2.2.1.kept h1, chain X4.out.2.2.2 h1 (Nat.le_refl _)⟩; clear h1)
    | (go_at_call 12; refine (ex_fold _).mono ?_; rintro e w4 ⟨vc, rfl, h1, h2⟩; have X4 : Hid (ArgR w4 va [(1, 3), (5, 7)] ∧ ArgR w4 vb [(9, 9), (32, 32)] ∧ ArgR w4 vc [(64, 66), (97, 98)] ∧ Below w.heap.size w w4) := ⟨X2.out.1.kept h2, X2.out.2.1.kept h2, h1, chain X2.out.2.2 h2 (Nat.le_refl _)⟩; clear h1 h2)
    | (have hx := X2.out; clear hx; go_at_call 7; refine (named_Blank _).mono ?_; rintro e w3 ⟨rfl, h3⟩; subst w3)
    | (go_at_call 7; refine (named_blank _).mono ?_; rintro e w2 ⟨vb, rfl, h1, h2⟩; have X2 : Hid (ArgR w2 va [(1, 3), (5, 7)] ∧ ArgR w2 vb [(9, 9), (32, 32)] ∧ Below w.heap.size w w2) := ⟨X1.out.1.kept h2, h1.arg, chain X1.out.2 h2 (Nat.le_refl _)⟩; clear h1 h2)
    | (go_at_call 11; refine (ex_norm _).mono ?_; rintro e w1 ⟨va, rfl, h1, h2⟩; have X1 : Hid (ArgR w1 va [(1, 3), (5, 7)] ∧ Below w.heap.size w w1) := ⟨h1, h2⟩; clear h1 h2)
  go_ret
  exact ⟨rfl, X12.out⟩
end Go.Proofs.Ytfihhliiecdnaab
