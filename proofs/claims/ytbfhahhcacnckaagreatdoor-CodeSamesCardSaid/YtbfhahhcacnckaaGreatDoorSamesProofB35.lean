/-
  Parts of the proof.
-/
import Derived.Test.YtbfhahhcacnckaaGreatDoorSamesProofB34
import Derived.Recover
set_option linter.unusedSimpArgs false
namespace Go.Proofs.YtbfhahhcacnckaaGreatDoor
open Go Go.RowKit
attribute [local go_sem] Oper.semAt_some
theorem run_bad_assert {P : Program} (w : World) (t xT e : TypeId) (v : Value) (h : P.underlying t = some (.pointer e)) : (Instr.typeAssert (.iface t v) xT t false).run P w = .ok v w := by
  simp [Instr.typeAssert, run_underlying h, go_sem, Result.andThen]
theorem und_bad : Tryz.prog.underlying 84 = some (.pointer 89) := by kernel_rfl
abbrev pnc (g : Nat) : PanicEntry := { v := .iface 84 (.pointer (some ⟨g, 0, none⟩)), recovered := false }
set_option maxRecDepth 100000 in
set_option maxHeartbeats 1000000 in
theorem rcatch_idle (p q : Addr) (w : World) :
    CallsD Tryz.prog 37 #[.pointer (some p), .pointer (some q)] .returning w fun e u' w' => e = .returned (.tuple #[]) ∧ u' = .returning ∧ w' = w := by
  refine callsD_of_wpS Tryz.func37 rfl fun c₀ cs hu => ?_
  apply wpS_seq
  apply wpS_region
  simp [wpOpsS, go_sem, recoverD, hu, Tryz.ntmps37, Exit.thenS]
  refine wpS_of_wp ?_
  rw [show (#[Value.pointer (some p), Value.pointer (some q)] ++ ((Array.replicate 8 undef).setIfInBounds 1 Value.nilIface).setIfInBounds 0 Value.nilIface) = #[Value.pointer (some p), Value.pointer (some q), .nilIface, .nilIface, undef, undef, undef, undef, undef, undef] from rfl]
  go_wp2
  cases c₀
  simp_all [bodyPostS, results, Tryz.results37]
set_option maxRecDepth 100000 in
set_option maxHeartbeats 1000000 in
theorem rcatch_panicking (p q g : Nat) (older : List PanicEntry) (w : World) (hp : w.heap[p]? = some (.cells #[.slice none 0 0, .int .i64 0, .int .i64 0, .bool false] 24 (0, 0))) (hq : w.heap[q]? = some (.cells #[.nilIface] 53 (0, 0))) (hpq : p ≠ q) :
    CallsD Tryz.prog 37 #[.pointer (some ⟨p, 0, none⟩), .pointer (some ⟨q, 0, none⟩)] (.panicking (pnc g :: older)) w fun e u' w' =>
      e = .returned (.tuple #[]) ∧ u' = .panicking ({ v := .iface 84 (.pointer (some ⟨g, 0, none⟩)), recovered := true } :: older) ∧ w'.heap[p]? = some (.cells #[.slice none 0 0, .int .i64 0, .int .i64 0, .bool false] 24 (0, 0)) ∧ w'.heap[q]? = some (.cells #[.iface 84 (.pointer (some ⟨g, 0, none⟩))] 53 (0, 0)) ∧ Fr (fun k => k = p ∨ k = q) w w' := by
  refine callsD_of_wpS Tryz.func37 rfl fun c₀ cs hu => ?_
  apply wpS_seq
  apply wpS_region
  simp [wpOpsS, go_sem, recoverD, hu, Tryz.ntmps37, Exit.thenS]
  refine wpS_of_wp ?_
  rw [show (#[Value.pointer (some ⟨p, 0, none⟩), Value.pointer (some ⟨q, 0, none⟩)] ++ ((Array.replicate 8 undef).setIfInBounds 1 (.iface 84 (.pointer (some ⟨g, 0, none⟩)))).setIfInBounds 0 (.iface 84 (.pointer (some ⟨g, 0, none⟩)))) = #[Value.pointer (some ⟨p, 0, none⟩), Value.pointer (some ⟨q, 0, none⟩), .iface 84 (.pointer (some ⟨g, 0, none⟩)), .iface 84 (.pointer (some ⟨g, 0, none⟩)), undef, undef, undef, undef, undef, undef] from rfl]
  have p0 := cell_row hp (i := 0) rfl
  have p1 := cell_row hp (i := 1) rfl
  have p2 := cell_row hp (i := 2) rfl
  have p3 := cell_row hp (i := 3) rfl
  have q0 := cell_row hq (i := 0) rfl
  have pf0 := frz_row hp 0
  have pf1 := frz_row hp 1
  have pf2 := frz_row hp 2
  have pf3 := frz_row hp 3
  have qf := frz_row hq 0
  have hta : ∀ W, (Instr.typeAssert (.iface 84 (.pointer (some ⟨g, 0, none⟩))) 20 84 false).run Tryz.prog W = .ok (.pointer (some ⟨g, 0, none⟩)) W := fun W => run_bad_assert W _ _ _ _ und_bad
  go_wp2
  go_region
  refine ⟨rfl, _, rfl, .tuple #[], by simp [results, Tryz.results37], rfl, rfl, ?_, ?_, ?_⟩
  · exact keep_setD (heap_set_in (heap_set_in (heap_set_in (heap_set_in hp 0 _) 1 _) 2 _) 3 _) hpq 0 _
  · exact heap_set_in (keep_setD (keep_setD (keep_setD (keep_setD hq hpq.symm 0 _) hpq.symm 1 _) hpq.symm 2 _) hpq.symm 3 _) 0 _
  · exact Fr.drew (Fr.setCell (S := fun k => k = p ∨ k = q) (Fr.setCell (S := fun k => k = p ∨ k = q) (Fr.setCell (S := fun k => k = p ∨ k = q) (Fr.setCell (S := fun k => k = p ∨ k = q) (Fr.setCell (S := fun k => k = p ∨ k = q) (Fr.refl _ _) (p := ⟨p, 0, none⟩) (.inl rfl) _) (p := ⟨p, 1, none⟩) (.inl rfl) _) (p := ⟨p, 2, none⟩) (.inl rfl) _) (p := ⟨p, 3, none⟩) (.inl rfl) _) (p := ⟨q, 0, none⟩) (.inr rfl) _)
set_option maxRecDepth 100000 in
set_option maxHeartbeats 1000000 in
theorem giveUp_c {w : World} {b : Nat} {s : List UInt8} {m : Bool} {a : Int} (h : LB w b s m a) : Calls Tryz.prog 66 #[.pointer (some ⟨b, 0, none⟩)] w fun e w' => e = .panicked [pnc w.heap.size] ∧ w'.heap[w.heap.size]? = some (.cells #[.int .i64 61, .int .i64 a] 89 (0, 0)) ∧ Below w.heap.size w w' := by
  have c2 := cell_row h (i := 2) rfl
  go_enter Tryz.func66, Tryz.ntmps66
  go_wp2
  exact ⟨rfl, rfl, alloc_new w _, (Below.refl _ _).alloc (Nat.le_refl _) _⟩
set_option maxRecDepth 100000 in
set_option maxHeartbeats 2000000 in
theorem rline_bad {w : World} {b : Nat} {s : List UInt8} {a : Int} {v : Value} (h : RB w b s a v) (hs : cutL 10 s = (s, [], false)) (hl : s.length ≤ 1000000) : Calls Tryz.prog 53 #[.pointer (some ⟨b, 0, none⟩)] w fun e w' => ∃ g, e = .panicked [pnc g] ∧ w.heap.size ≤ g ∧ Below w.heap.size w w' := by
  have H := hide h
  have c0 := cell_row h (i := 0) rfl
  have HX := hide (cut_c s 10 (by omega) w)
  rw [hs] at HX
  clear h hs
  go_enter Tryz.func53, Tryz.ntmps53
  go_upto_region 3 with (go_at_call 65; (with_reducible refine (HX.out).mono ?_); rintro e w5 ⟨rfl, h5⟩; have B5 := hide h5; have H5 := hide (H.out.kept h5); have d1 := cell_row H5.out (i := 1) rfl; clear h5)
  have L6 : Hid (LB (w5.alloc (.cells #[.string (txt s), .bool true, .int .i64 a] 110)) w5.heap.size s true a) := alloc_new w5 _
  have B6 : Hid (Below w.heap.size w (w5.alloc (.cells #[.string (txt s), .bool true, .int .i64 a] 110))) := chain B5.out ((Below.refl _ _).alloc (Nat.le_refl _) _) (Nat.le_refl _)
  generalize (w5.alloc (.cells #[.string (txt s), .bool true, .int .i64 a] 110)) = w6 at L6 B6 ⊢
  have GU := hide (giveUp_c L6.out)
  go_wp2_with (go_at_call 66; (with_reducible refine (GU.out).mono ?_); rintro e w7 ⟨rfl, h71, h72⟩; have B7 := hide (chain B6.out h72 (Nat.le_refl _)); clear h71 h72)
  exact ⟨rfl, _, rfl, B6.out.size, B7.out⟩
set_option maxRecDepth 100000 in
set_option maxHeartbeats 2000000 in
theorem rprogram_bad {w : World} {b : Nat} {s : List UInt8} {a : Int} {v : Value} (h : RB w b s a v) (hs : cutL 10 s = (s, [], false)) (hl : s.length ≤ 1000000) : Calls Tryz.prog 38 #[.pointer (some ⟨b, 0, none⟩)] w fun e w' => ∃ g, e = .panicked [pnc g] ∧ w.heap.size ≤ g ∧ Below w.heap.size w w' := by
  have B1 : Hid (Below w.heap.size w (w.alloc (.cells #[.slice none 0 0, .int .i64 0, .int .i64 0, .bool false] 24))) := (Below.refl _ _).alloc (Nat.le_refl _) _
  have HL := hide (rline_bad (h.kept B1.out) hs hl)
  clear h hs
  go_enter Tryz.func38, Tryz.ntmps38
  go_upto_region 1 with fail
  generalize (w.alloc (.cells #[.slice none 0 0, .int .i64 0, .int .i64 0, .bool false] 24)) = w1 at B1 HL ⊢
  go_wp2_with (go_at_call 53; (with_reducible refine (HL.out).mono ?_); rintro e w7 ⟨g, rfl, h71, h72⟩; have G7 := hide h71; have B7 := hide (chain B1.out h72 (Nat.le_refl _)); clear h71 h72)
  exact ⟨rfl, _, rfl, Nat.le_trans B1.out.size G7.out, B7.out⟩
end Go.Proofs.YtbfhahhcacnckaaGreatDoor
