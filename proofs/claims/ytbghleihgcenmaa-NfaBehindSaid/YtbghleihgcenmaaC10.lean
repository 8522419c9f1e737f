/-
  Parts of the proof.
-/
import Derived.Test.YtbghleihgcenmaaC9
import Derived.Deep.RegionWith
import Derived.Deep.RegionHeld
set_option linter.unusedSimpArgs false
namespace Go.Proofs.Ytbghleihgcenmaa
open Go Go.RowKit
attribute [local go_sem] Oper.semAt_some
def RunB (w : World) (rb : Nat) (p : Pg) (s : ByteArray) (A B : Cr4) (st : Int) : Prop := w.heap[rb]? = some (.cells #[.slice p.q p.L.length p.c, .string s, .pointer (some ⟨A.mb, 0, none⟩), .slice (some ⟨A.gb, 0, none⟩) p.L.length p.L.length, .pointer (some ⟨B.mb, 0, none⟩), .slice (some ⟨B.gb, 0, none⟩) p.L.length p.L.length, .int .i64 st] 53 (0, 0))
structure RunP (p : Pg) (s : ByteArray) (base : Nat) (w' : World) (rb : Nat) (A B : Cr4) (la lb : List Int) : Prop where
  r : RunB w' rb p s A B 0
  a : CrB w' A p.L.length [] la
  b : CrB w' B p.L.length [] lb
  na : ∀ k, ownC A k → base ≤ k
  nb : ∀ k, ownC B k → base ≤ k
  ab : ∀ k, ownC A k → ¬ ownC B k
  nr : base ≤ rb ∧ ¬ ownC A rb ∧ ¬ ownC B rb
theorem runP_of {p : Pg} {s : ByteArray} {base n : Nat} {w2 w3 : World} {A B : Cr4} {la lb : List Int} (h2 : CrB w2 A p.L.length [] la) (n2 : ∀ k, ownC A k → n ≤ k) (hb : Below w2.heap.size w2 w3) (h3 : CrB w3 B p.L.length [] lb) (n3 : ∀ k, ownC B k → w2.heap.size ≤ k) (b1 : base ≤ n) (b2 : base ≤ w2.heap.size) :
    RunP p s base (w3.alloc (.cells #[.slice p.q p.L.length p.c, .string s, .pointer (some ⟨A.mb, 0, none⟩), .slice (some ⟨A.gb, 0, none⟩) p.L.length p.L.length, .pointer (some ⟨B.mb, 0, none⟩), .slice (some ⟨B.gb, 0, none⟩) p.L.length p.L.length, .int .i64 0] 53)) w3.heap.size A B la lb := by
  have bA : Below w3.heap.size w3 (w3.alloc (.cells #[.slice p.q p.L.length p.c, .string s, .pointer (some ⟨A.mb, 0, none⟩), .slice (some ⟨A.gb, 0, none⟩) p.L.length p.L.length, .pointer (some ⟨B.mb, 0, none⟩), .slice (some ⟨B.gb, 0, none⟩) p.L.length p.L.length, .int .i64 0] 53)) := (Below.refl _ _).alloc (Nat.le_refl _) _
  have hs := hb.size
  refine ⟨alloc_new w3 _, (h2.kept hb).kept bA, h3.kept bA, fun k hk => by have := n2 k hk; omega, fun k hk => by have := n3 k hk; omega, fun k h4 h5 => ?_, by omega, fun q => ?_, fun q => ?_⟩
  · have := h2.lt k h4
    have := n3 k h5
    omega
  · have := h2.lt _ q
    omega
  · have := h3.lt _ q
    omega
set_option maxRecDepth 100000 in
set_option maxHeartbeats 4000000 in
theorem newRun_c {w : World} {p : Pg} (hl : p.L.length ≤ 40000) (s : ByteArray) : Calls Try.prog 13 #[.agg #[.slice p.q p.L.length p.c, .int .i64 p.g, .int .i64 p.k, .bool p.f], .string s] w fun e w' => ∃ rb A B la lb, e = .returned (.pointer (some ⟨rb, 0, none⟩)) ∧ RunP p s w.heap.size w' rb A B la lb ∧ Below w.heap.size w w' := by
  have B1 : Hid (Below w.heap.size w (w.alloc (.cells #[.slice p.q p.L.length p.c, .int .i64 p.g, .int .i64 p.k, .bool p.f] 24))) := (Below.refl _ _).alloc (Nat.le_refl _) _
  have X1 : Hid ((w.alloc (.cells #[.slice p.q p.L.length p.c, .int .i64 p.g, .int .i64 p.k, .bool p.f] 24)).heap[w.heap.size]? = some (.cells #[.slice p.q p.L.length p.c, .int .i64 p.g, .int .i64 p.k, .bool p.f] 24 (0, 0))) := alloc_new w _
  go_enter Try.func13, Try.ntmps13
  go_upto_region 1 with fail
  generalize (w.alloc (.cells #[.slice p.q p.L.length p.c, .int .i64 p.g, .int .i64 p.k, .bool p.f] 24)) = w1 at B1 X1 ⊢
  have D1 : Hid (Below w.heap.size w w1.drew) := hide B1.out.drew
  have Y1 : Hid (w1.drew.heap[w.heap.size]? = some (.cells #[.slice p.q p.L.length p.c, .int .i64 p.g, .int .i64 p.k, .bool p.f] 24 (0, 0))) := X1.out
  have HS : Hid (w1.drew.cell? ⟨w.heap.size, 0, none⟩ = some (.slice p.q p.L.length p.c)) := cell_row Y1.out (i := 0) rfl
  have l1 := lt_of_heap Y1.out
  refine wp_region_held_drew (S := fun w' => w'.cell? ⟨w.heap.size, 0, none⟩ = some (.slice p.q p.L.length p.c)) (by kernel_rfl) HS.out ?_
  intro hS0
  refine wpAnyH_take (i := 0) (oi := _) (v := ?_) rfl (by kernel_rfl) (by kernel_rfl) (by kernel_rfl) (fun _ _ _ h => h) (Or.inl ⟨by rfl, ?_⟩) (by assumption) ?_
  rotate_left
  · intro wz hSw
    have hs0 : wz.cell? ⟨w.heap.size, 0, none⟩ = some (.slice p.q p.L.length p.c) := hSw
    go_simp
    try with_reducible rfl
  dsimp only [Act.put, List.getElem_toArray, List.getElem_cons_zero, List.getElem_cons_succ]
  simp only [List.setIfInBounds_toArray, List.set_cons_zero, List.set_cons_succ]
  refine wpAnyH_take (i := 1) (oi := _) (v := ?_) rfl (by kernel_rfl) (by kernel_rfl) (by kernel_rfl) (fun _ _ _ h => h) (Or.inl ⟨by rfl, ?_⟩) (by assumption) ?_
  rotate_left
  · intro wz hSw
    have hs0 : wz.cell? ⟨w.heap.size, 0, none⟩ = some (.slice p.q p.L.length p.c) := hSw
    go_simp
    try with_reducible rfl
  dsimp only [Act.put, List.getElem_toArray, List.getElem_cons_zero, List.getElem_cons_succ]
  simp only [List.setIfInBounds_toArray, List.set_cons_zero, List.set_cons_succ]
  refine wpAnyH_take (i := 2) (oi := _) (v := ?_) rfl (by kernel_rfl) (by kernel_rfl) (by kernel_rfl) (fun _ _ _ h => h) (Or.inl ⟨by rfl, ?_⟩) (by assumption) ?_
  rotate_left
  · intro wz hSw
    have hs0 : wz.cell? ⟨w.heap.size, 0, none⟩ = some (.slice p.q p.L.length p.c) := hSw
    go_simp
    try with_reducible rfl
  dsimp only [Act.put, List.getElem_toArray, List.getElem_cons_zero, List.getElem_cons_succ]
  simp only [List.setIfInBounds_toArray, List.set_cons_zero, List.set_cons_succ]
  refine wpAnyH_take (i := 3) (oi := _) (v := ?_) rfl (by kernel_rfl) (by kernel_rfl) (by kernel_rfl) (fun _ _ _ h => h) (Or.inl ⟨by rfl, ?_⟩) (by assumption) ?_
  rotate_left
  · intro wz hSw
    have hs0 : wz.cell? ⟨w.heap.size, 0, none⟩ = some (.slice p.q p.L.length p.c) := hSw
    go_simp
    try with_reducible rfl
  dsimp only [Act.put, List.getElem_toArray, List.getElem_cons_zero, List.getElem_cons_succ]
  simp only [List.setIfInBounds_toArray, List.set_cons_zero, List.set_cons_succ]
  refine wpAnyH_take (i := 4) (oi := _) (v := ?_) rfl (by kernel_rfl) (by kernel_rfl) (by kernel_rfl) (fun _ _ _ h => h) (Or.inl ⟨by rfl, ?_⟩) (by assumption) ?_
  rotate_left
  · intro wz hSw
    have hs0 : wz.cell? ⟨w.heap.size, 0, none⟩ = some (.slice p.q p.L.length p.c) := hSw
    go_simp
    try with_reducible rfl
  dsimp only [Act.put, List.getElem_toArray, List.getElem_cons_zero, List.getElem_cons_succ]
  simp only [List.setIfInBounds_toArray, List.set_cons_zero, List.set_cons_succ]
  refine wpAnyH_take (i := 5) (oi := _) (v := ?_) rfl (by kernel_rfl) (by kernel_rfl) (by kernel_rfl) (fun _ _ _ h => h) (Or.inl ⟨by rfl, ?_⟩) (by assumption) ?_
  rotate_left
  · intro wz hSw
    have hs0 : wz.cell? ⟨w.heap.size, 0, none⟩ = some (.slice p.q p.L.length p.c) := hSw
    go_simp
    try with_reducible rfl
  dsimp only [Act.put, List.getElem_toArray, List.getElem_cons_zero, List.getElem_cons_succ]
  simp only [List.setIfInBounds_toArray, List.set_cons_zero, List.set_cons_succ]
  refine wpAnyH_take (i := 7) (oi := _) (v := ?_) rfl (by kernel_rfl) (by kernel_rfl) (by kernel_rfl) (fun _ _ _ h => h) (Or.inl ⟨by rfl, ?_⟩) (by assumption) ?_
  rotate_left
  · intro wz hSw
    have hs0 : wz.cell? ⟨w.heap.size, 0, none⟩ = some (.slice p.q p.L.length p.c) := hSw
    go_simp
    try with_reducible rfl
  dsimp only [Act.put, List.getElem_toArray, List.getElem_cons_zero, List.getElem_cons_succ]
  simp only [List.setIfInBounds_toArray, List.set_cons_zero, List.set_cons_succ]
  refine wpAnyH_take (i := 8) (oi := _) (v := ?_) rfl (by kernel_rfl) (by kernel_rfl) (by kernel_rfl) (fun _ _ _ h => h) (Or.inl ⟨by rfl, ?_⟩) (by assumption) ?_
  rotate_left
  · intro wz hSw
    have hs0 : wz.cell? ⟨w.heap.size, 0, none⟩ = some (.slice p.q p.L.length p.c) := hSw
    go_simp
    try with_reducible rfl
  dsimp only [Act.put, List.getElem_toArray, List.getElem_cons_zero, List.getElem_cons_succ]
  simp only [List.setIfInBounds_toArray, List.set_cons_zero, List.set_cons_succ]
  refine wpAnyH_take (i := 9) (oi := _) (v := ?_) rfl (by kernel_rfl) (by kernel_rfl) (by kernel_rfl) (fun _ _ _ h => h) (Or.inl ⟨by rfl, ?_⟩) (by assumption) ?_
  rotate_left
  · intro wz hSw
    have hs0 : wz.cell? ⟨w.heap.size, 0, none⟩ = some (.slice p.q p.L.length p.c) := hSw
    go_simp
    try with_reducible rfl
  dsimp only [Act.put, List.getElem_toArray, List.getElem_cons_zero, List.getElem_cons_succ]
  simp only [List.setIfInBounds_toArray, List.set_cons_zero, List.set_cons_succ]
  refine wpAnyH_ready (rs := [6]) (by kernel_rfl) (by simp) ?_
  refine AllReadyH.cons rfl (fun K hK => ?_) AllReadyH.nil
  go_simp
  go_at_call 17
  refine (newCrowd_c p.L.length hl _).mono ?_
  rintro e w2 ⟨CA, la, rfl, h1, h2, h3⟩
  have C2 := hide h1
  have N2 := hide h2
  have B2 := hide (chain D1.out h3 (Nat.le_refl _))
  have X2 := hide ((h3.block _ l1).trans Y1.out)
  clear h1 h2 h3
  refine hK.out _ _ (cell_row X2.out (i := 0) rfl) (fun hS1 => ?_)
  clear hK K
  refine wpAnyH_ready (rs := [10]) (by kernel_rfl) (by simp) ?_
  refine AllReadyH.cons rfl (fun K hK => ?_) AllReadyH.nil
  go_simp
  go_at_call 17
  refine (newCrowd_c p.L.length hl _).mono ?_
  rintro e w3 ⟨CB, lb, rfl, h1, h2, h3⟩
  have C3 := hide h1
  have N3 := hide h2
  have K3 := hide h3
  have B3 := hide (chain B2.out h3 (Nat.le_refl _))
  have X3 := hide ((h3.block _ (lt_of_heap X2.out)).trans X2.out)
  clear h1 h2 h3
  refine hK.out _ _ (cell_row X3.out (i := 0) rfl) (fun hS2 => ?_)
  clear hK K
  refine wpAnyH_ready (rs := [11]) (by kernel_rfl) (by simp) ?_
  refine AllReadyH.cons rfl (fun K hK => ?_) AllReadyH.nil
  go_simp
  refine hK.out _ _ (cell_row X3.out (i := 0) rfl) (fun hS3 => ?_)
  clear hK K
  refine wpAnyH_ready (rs := [12]) (by kernel_rfl) (by simp) ?_
  refine AllReadyH.cons rfl (fun K hK => ?_) AllReadyH.nil
  go_simp
  have RP := hide (runP_of (p := p) (s := s) (base := w.heap.size) C2.out N2.out K3.out C3.out N3.out D1.out.size B2.out.size)
  have BA : Below w3.heap.size w3 (w3.alloc (.cells #[.slice p.q p.L.length p.c, .string s, .pointer (some ⟨CA.mb, 0, none⟩), .slice (some ⟨CA.gb, 0, none⟩) p.L.length p.L.length, .pointer (some ⟨CB.mb, 0, none⟩), .slice (some ⟨CB.gb, 0, none⟩) p.L.length p.L.length, .int .i64 0] 53)) := (Below.refl _ _).alloc (Nat.le_refl _) _
  have BZ := hide (chain B3.out BA (Nat.le_refl _))
  have X4 := hide ((BA.block _ (lt_of_heap X3.out)).trans X3.out)
  refine hK.out _ _ (cell_row X4.out (i := 0) rfl) (fun hS4 => ?_)
  clear hK K
  refine wpAnyH_ready (rs := [13]) (by kernel_rfl) (by simp) ?_
  refine AllReadyH.cons rfl (fun K hK => ?_) AllReadyH.nil
  go_simp
  refine hK.out _ _ (cell_row X4.out (i := 0) rfl) (fun hS5 => ?_)
  clear hK K
  refine wpAnyH_done (by kernel_rfl) ?_ _
  go_wp2
  go_ret
  exact ⟨_, _, _, _, _, rfl, RP.out, BZ.out⟩
end Go.Proofs.Ytbghleihgcenmaa
