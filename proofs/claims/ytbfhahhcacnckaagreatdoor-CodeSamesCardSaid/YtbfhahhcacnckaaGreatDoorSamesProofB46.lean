/-
  Parts of the proof.
-/
import Derived.Test.YtbfhahhcacnckaaGreatDoorSamesProofB36
import Derived.Test.YtbfhahhcacnckaaGreatDoorSamesProofB44
import Derived.Test.YtbfhahhcacnckaaGreatDoorSamesProofB45
set_option linter.unusedSimpArgs false
namespace Go.Proofs.YtbfhahhcacnckaaGreatDoor
open Go Go.RowKit
attribute [local go_sem] Oper.semAt_some
def SmP (w : World) (e : Ending) (w' : World) : Prop := ∃ g, e = .returned (.agg #[.slice (some ⟨g, 0, none⟩) 4 4, .int .i64 0, .int .i64 0, .bool false]) ∧ w'.ownsRow w.heap.size 35 10 (.slice (some ⟨g, 0, none⟩) 4 4) 4 (ceI14 smL) ∧ Below w.heap.size w w'
set_option maxRecDepth 100000 in
set_option maxHeartbeats 4000000 in
theorem small_c (w : World) : Calls Tryz.prog 19 #[] w (SmP w) := by
  go_enter Tryz.func19, Tryz.ntmps19
  go_wp2
  refine bodyPost_ret (v := .agg #[.slice (some ⟨w.heap.size + 1 + 1, 0, none⟩) 4 4, .int .i64 0, .int .i64 0, .bool false]) (by simp [results, Tryz.results19, go_sem]) rfl ?_
  refine ⟨_, rfl, ⟨by simp [ceI14_len]; rfl, .inr ⟨w.heap.size + 1 + 1, 4, #[.int .i64 2, .int .i64 1, .int .i64 3, .int .i64 0, .int .i64 0, .int .i64 0, .int .u64 0, .int .u64 0, .int .u64 0, .int .u64 0, .int .i64 1, .int .i64 0, .int .i64 0, .int .i64 0, .int .i64 0, .int .i64 0, .int .u64 0, .int .u64 8589934592, .int .u64 0, .int .u64 0, .int .i64 3, .int .i64 0, .int .i64 0, .int .i64 0, .int .i64 0, .int .i64 0, .int .u64 0, .int .u64 0, .int .u64 0, .int .u64 0, .int .i64 11, .int .i64 0, .int .i64 0, .int .i64 0, .int .i64 0, .int .i64 0, .int .u64 0, .int .u64 0, .int .u64 0, .int .u64 0], rfl, by omega, ?_, Nat.le_refl _, by unfold maxLen; omega, ?_, ?_⟩⟩, (((Below.refl _ _).alloc (Nat.le_refl _) _).alloc (by simp) _).alloc (by simp; omega) _⟩
  rotate_left
  · rfl
  · simp [ceI14, smL, inC, aS_w, z1_wd_nil]
  · have := alloc_new ((w.alloc (.cells #[.slice (some ⟨w.heap.size + 1 + 1, 0, none⟩) 4 4, .int .i64 0, .int .i64 0, .bool false] 24)).alloc (.cells #[.int .u64 0, .int .u64 8589934592, .int .u64 0, .int .u64 0] 33)) (.cells #[.int .i64 2, .int .i64 1, .int .i64 3, .int .i64 0, .int .i64 0, .int .i64 0, .int .u64 0, .int .u64 0, .int .u64 0, .int .u64 0, .int .i64 1, .int .i64 0, .int .i64 0, .int .i64 0, .int .i64 0, .int .i64 0, .int .u64 0, .int .u64 8589934592, .int .u64 0, .int .u64 0, .int .i64 3, .int .i64 0, .int .i64 0, .int .i64 0, .int .i64 0, .int .i64 0, .int .u64 0, .int .u64 0, .int .u64 0, .int .u64 0, .int .i64 11, .int .i64 0, .int .i64 0, .int .i64 0, .int .i64 0, .int .i64 0, .int .u64 0, .int .u64 0, .int .u64 0, .int .u64 0] 35)
    rw [World.size_alloc, World.size_alloc] at this
    exact this
theorem rcM_small (q : Option Addr) (c : Nat) : rcM ⟨q, smL, c, 0, 0, false⟩ = [0, 1, 3, 2] := by kernel_rfl
theorem free_small (q : Option Addr) (c : Nat) : freeB ⟨q, smL, c, 0, 0, false⟩ = true := by kernel_rfl
theorem same_small (q r : Option Addr) (c d : Nat) : smB ⟨q, smL, c, 0, 0, false⟩ ⟨r, smL, d, 0, 0, false⟩ = true := by simp [smB]
theorem pg_small {w : World} {base c : Nat} {q : Option Addr} (h : w.ownsRow base 35 10 (.slice q 4 c) 4 (ceI14 smL)) : PgI w ⟨q, smL, c, 0, 0, false⟩ := ⟨(by decide : (4 : Nat) ≤ 9223372036854775807), LI.of_row h⟩
set_option maxRecDepth 100000 in
set_option maxHeartbeats 8000000 in
theorem known_c {w : World} (hT : z1_Tab w) : Calls Tryz.prog 7 #[] w fun e w' => e = .returned (.bool true) ∧ Below w.heap.size w w' := by
  have HT := hide hT
  clear hT
  go_enter Tryz.func7, Tryz.ntmps7
  go_upto_region 2 with (go_at_call 19; (with_reducible refine (small_c _).mono ?_); rintro e w1 ⟨g, rfl, h11, h12⟩; have G1 := hide (pg_small h11); have B1 := hide h12; clear h11 h12)
  have BA : Below w1.heap.size w1 (w1.alloc (.cells #[.slice (some ⟨g, 0, none⟩) 4 4, .int .i64 0, .int .i64 0, .bool false] 24)) := (Below.refl _ _).alloc (Nat.le_refl _) _
  have B2 := hide (chain B1.out BA (Nat.le_refl _))
  have G2 := hide (G1.out.kept BA)
  have X2 : Hid ((w1.alloc (.cells #[.slice (some ⟨g, 0, none⟩) 4 4, .int .i64 0, .int .i64 0, .bool false] 24)).heap[w1.heap.size]? = some (.cells #[.slice (some ⟨g, 0, none⟩) 4 4, .int .i64 0, .int .i64 0, .bool false] 24)) := alloc_new w1 _
  clear BA
  generalize (w1.alloc (.cells #[.slice (some ⟨g, 0, none⟩) 4 4, .int .i64 0, .int .i64 0, .bool false] 24)) = w2 at B2 G2 X2 ⊢
  have RT : Hid (Calls Tryz.prog 14 #[.agg #[.slice (some ⟨g, 0, none⟩) 4 4, .int .i64 0, .int .i64 0, .bool false]] w2 fun e w' => e = .returned (.tuple #[.int .i64 0, .int .i64 0]) ∧ Below w2.heap.size w2 w') := by
    have h := right_c G2.out
    unfold RtP at h
    rw [rt_small] at h
    exact h
  have p0 := cell_row X2.out (i := 0) rfl
  have p1 := cell_row X2.out (i := 1) rfl
  have p2 := cell_row X2.out (i := 2) rfl
  have p3 := cell_row X2.out (i := 3) rfl
  go_upto_region 3 with (go_at_call 14; (with_reducible refine (RT.out).mono ?_); rintro e w3 ⟨rfl, h3⟩; have B3 := hide (chain B2.out h3 (Nat.le_refl _)); have G3 := hide (G2.out.kept h3); have X3 := hide ((h3.block _ (lt_of_heap X2.out)).trans X2.out); clear h3)
  clear p0 p1 p2 p3
  have p0 := cell_row X3.out (i := 0) rfl
  have p1 := cell_row X3.out (i := 1) rfl
  have p2 := cell_row X3.out (i := 2) rfl
  have p3 := cell_row X3.out (i := 3) rfl
  have TX : Hid (Calls Tryz.prog 15 #[.agg #[.slice (some ⟨g, 0, none⟩) 4 4, .int .i64 0, .int .i64 0, .bool false]] w3 fun e w' => e = .returned (.tuple #[.string ⟨#[112, 114, 111, 103, 114, 97, 109, 32, 48, 32, 48, 10, 115, 112, 108, 105, 116, 32, 49, 32, 51, 10, 98, 121, 116, 101, 32, 54, 49, 10, 106, 117, 109, 112, 32, 48, 10, 109, 97, 116, 99, 104, 10]⟩, .int .i64 0]) ∧ Below w3.heap.size w3 w') := by
    have h := text_small (p := ⟨some ⟨g, 0, none⟩, smL, 4, 0, 0, false⟩) G3.out (HT.out.below B3.out) rfl rfl rfl rfl
    exact h
  go_upto_region 4 with (go_at_call 15; (with_reducible refine (TX.out).mono ?_); rintro e w4 ⟨rfl, h3⟩; have B4 := hide (chain B3.out h3 (Nat.le_refl _)); have G4 := hide (G3.out.kept h3); have X4 := hide ((h3.block _ (lt_of_heap X3.out)).trans X3.out); clear h3)
  clear p0 p1 p2 p3
  have RO := hide (read_ok (HT.out.below B4.out) ⟨#[112, 114, 111, 103, 114, 97, 109, 32, 48, 32, 48, 10, 115, 112, 108, 105, 116, 32, 49, 32, 51, 10, 98, 121, 116, 101, 32, 54, 49, 10, 106, 117, 109, 112, 32, 48, 10, 109, 97, 116, 99, 104, 10]⟩ rfl)
  go_upto_region 5 with (go_at_call 20; (with_reducible refine (RO.out).mono ?_); rintro e w5 ⟨q, c, rfl, h51, h52⟩; have B5 := hide (chain B4.out h52 (Nat.le_refl _)); have G5 := hide (G4.out.kept h52); have X5 := hide ((h52.block _ (lt_of_heap X4.out)).trans X4.out); have Q5 := hide (pg_small h51); clear h51 h52)
  have BA : Below w5.heap.size w5 (w5.alloc (.cells #[.slice q 4 c, .int .i64 0, .int .i64 0, .bool false] 24)) := (Below.refl _ _).alloc (Nat.le_refl _) _
  have B6 := hide (chain B5.out BA (Nat.le_refl _))
  have G6 := hide (G5.out.kept BA)
  have Q6 := hide (Q5.out.kept BA)
  have X6 := hide ((BA.block _ (lt_of_heap X5.out)).trans X5.out)
  have Y6 : Hid ((w5.alloc (.cells #[.slice q 4 c, .int .i64 0, .int .i64 0, .bool false] 24)).heap[w5.heap.size]? = some (.cells #[.slice q 4 c, .int .i64 0, .int .i64 0, .bool false] 24)) := alloc_new w5 _
  clear BA
  generalize (w5.alloc (.cells #[.slice q 4 c, .int .i64 0, .int .i64 0, .bool false] 24)) = w6 at B6 G6 Q6 X6 Y6 ⊢
  have p0 := cell_row X6.out (i := 0) rfl
  have p1 := cell_row X6.out (i := 1) rfl
  have p2 := cell_row X6.out (i := 2) rfl
  have p3 := cell_row X6.out (i := 3) rfl
  have RC : Hid (Calls Tryz.prog 16 #[.agg #[.slice (some ⟨g, 0, none⟩) 4 4, .int .i64 0, .int .i64 0, .bool false]] w6 fun e w' => Below w6.heap.size w6 w' ∧ ∃ k, e = .returned (.tuple #[.slice (some ⟨k, 0, none⟩) 4 4, .int .i64 0])) := by
    have h := reach_ok G6.out (by rw [rt_small])
    unfold RcP at h
    rw [rcM_small] at h
    exact h.mono fun e w' ⟨h1, k, h2, _⟩ => ⟨h1, k, h2⟩
  go_upto_region 6 with (go_at_call 16; (with_reducible refine (RC.out).mono ?_); rintro e w7 ⟨h3, k7, rfl⟩; have B7 := hide (chain B6.out h3 (Nat.le_refl _)); have G7 := hide (G6.out.kept h3); have Q7 := hide (Q6.out.kept h3); have X7 := hide ((h3.block _ (lt_of_heap X6.out)).trans X6.out); have Y7 := hide ((h3.block _ (lt_of_heap Y6.out)).trans Y6.out); clear h3)
  clear p0 p1 p2 p3
  have RN := hide (read_bad (w := w7) ⟨#[112, 114, 111, 103, 114, 97, 109, 32, 48, 32, 48]⟩ [112, 114, 111, 103, 114, 97, 109, 32, 48, 32, 48] rfl (by decide) (by decide))
  go_upto_region 7 with (go_at_call 20; (with_reducible refine (RN.out).mono ?_); rintro e w8 ⟨g8, rfl, h3⟩; have B8 := hide (chain B7.out h3 (Nat.le_refl _)); have G8 := hide (G7.out.kept h3); have Q8 := hide (Q7.out.kept h3); have X8 := hide ((h3.block _ (lt_of_heap X7.out)).trans X7.out); have Y8 := hide ((h3.block _ (lt_of_heap Y7.out)).trans Y7.out); clear h3)
  have BA : Below w8.heap.size w8 (w8.alloc (.cells #[.slice none 0 0, .int .i64 0, .int .i64 0, .bool false] 24)) := (Below.refl _ _).alloc (Nat.le_refl _) _
  have B9 := hide (chain B8.out BA (Nat.le_refl _))
  have G9 := hide (G8.out.kept BA)
  have Q9 := hide (Q8.out.kept BA)
  have X9 := hide ((BA.block _ (lt_of_heap X8.out)).trans X8.out)
  have Y9 := hide ((BA.block _ (lt_of_heap Y8.out)).trans Y8.out)
  clear BA
  generalize (w8.alloc (.cells #[.slice none 0 0, .int .i64 0, .int .i64 0, .bool false] 24)) = w9 at B9 G9 Q9 X9 Y9 ⊢
  have p0 := cell_row X9.out (i := 0) rfl
  have p1 := cell_row X9.out (i := 1) rfl
  have p2 := cell_row X9.out (i := 2) rfl
  have p3 := cell_row X9.out (i := 3) rfl
  have q0 := cell_row Y9.out (i := 0) rfl
  have q1 := cell_row Y9.out (i := 1) rfl
  have q2 := cell_row Y9.out (i := 2) rfl
  have q3 := cell_row Y9.out (i := 3) rfl
  have SM : Hid (Calls Tryz.prog 9 #[.agg #[.slice (some ⟨g, 0, none⟩) 4 4, .int .i64 0, .int .i64 0, .bool false], .agg #[.slice q 4 c, .int .i64 0, .int .i64 0, .bool false]] w9 fun e w' => e = .returned (.bool true) ∧ Below w9.heap.size w9 w') := by
    have h := same_c G9.out Q9.out
    rw [same_small] at h
    exact h
  go_upto_region 8 with (go_at_call 9; (with_reducible refine (SM.out).mono ?_); rintro e wA ⟨rfl, h3⟩; have BB := hide (chain B9.out h3 (Nat.le_refl _)); have GB := hide (G9.out.kept h3); have XB := hide ((h3.block _ (lt_of_heap X9.out)).trans X9.out); clear h3)
  clear p0 p1 p2 p3 q0 q1 q2 q3
  have p0 := cell_row XB.out (i := 0) rfl
  have p1 := cell_row XB.out (i := 1) rfl
  have p2 := cell_row XB.out (i := 2) rfl
  have p3 := cell_row XB.out (i := 3) rfl
  have FR : Hid (Calls Tryz.prog 18 #[.agg #[.slice (some ⟨g, 0, none⟩) 4 4, .int .i64 0, .int .i64 0, .bool false]] wA fun e w' => e = .returned (.bool true) ∧ Below wA.heap.size wA w') := by
    have h := free_c GB.out
    rw [free_small] at h
    exact h
  go_wp2_with (go_at_call 18; (with_reducible refine (FR.out).mono ?_); rintro e wC ⟨rfl, h3⟩; have BC := hide (chain BB.out h3 (Nat.le_refl _)); clear h3)
  go_ret
  exact ⟨rfl, BC.out⟩
end Go.Proofs.YtbfhahhcacnckaaGreatDoor
