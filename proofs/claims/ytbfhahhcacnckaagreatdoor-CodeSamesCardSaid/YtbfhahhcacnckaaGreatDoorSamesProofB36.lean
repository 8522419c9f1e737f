/-
  Parts of the proof.
-/
import Derived.Test.YtbfhahhcacnckaaGreatDoorSamesProofB35
set_option linter.unusedSimpArgs false
namespace Go.Proofs.YtbfhahhcacnckaaGreatDoor
open Go Go.RowKit
attribute [local go_sem] Oper.semAt_some
def RdP (w : World) (e : Ending) (w' : World) : Prop := ∃ q c, e = .returned (.tuple #[.agg #[.slice q 4 c, .int .i64 0, .int .i64 0, .bool false], .nilIface]) ∧ w'.ownsRow w.heap.size 35 10 (.slice q 4 c) 4 (ceI14 smL) ∧ Below w.heap.size w w'
abbrev rface (w : World) (s : ByteArray) : World := ((w.alloc (.cells #[.slice none 0 0, .int .i64 0, .int .i64 0, .bool false] 24)).alloc (.cells #[.nilIface] 53)).alloc (.cells #[.string s, .int .i64 0, .slice none 0 0] 86)
structure RFc (w wr : World) : Prop where
  p : wr.heap[w.heap.size]? = some (.cells #[.slice none 0 0, .int .i64 0, .int .i64 0, .bool false] 24 (0, 0))
  q : wr.heap[w.heap.size + 1]? = some (.cells #[.nilIface] 53 (0, 0))
  low : Below w.heap.size w wr
theorem rface_new (w : World) (s : ByteArray) : RFc w (rface w s) ∧ (rface w s).heap[w.heap.size + 1 + 1]? = some (.cells #[.string s, .int .i64 0, .slice none 0 0] 86 (0, 0)) := by
  have e1 : (w.alloc (.cells #[.slice none 0 0, .int .i64 0, .int .i64 0, .bool false] 24)).heap.size = w.heap.size + 1 := by simp
  have e2 : ((w.alloc (.cells #[.slice none 0 0, .int .i64 0, .int .i64 0, .bool false] 24)).alloc (.cells #[.nilIface] 53)).heap.size = w.heap.size + 1 + 1 := by simp
  have h1 := alloc_new w (.cells #[.slice none 0 0, .int .i64 0, .int .i64 0, .bool false] 24)
  have h2 := alloc_new (w.alloc (.cells #[.slice none 0 0, .int .i64 0, .int .i64 0, .bool false] 24)) (.cells #[.nilIface] 53)
  have h3 := alloc_new ((w.alloc (.cells #[.slice none 0 0, .int .i64 0, .int .i64 0, .bool false] 24)).alloc (.cells #[.nilIface] 53)) (.cells #[.string s, .int .i64 0, .slice none 0 0] 86)
  rw [e1] at h2
  rw [e2] at h3
  refine ⟨⟨?_, ?_, ?_⟩, h3⟩
  · exact (Below.heap_alloc _ _ _ (by rw [e2]; omega)).trans ((Below.heap_alloc _ _ _ (by rw [e1]; omega)).trans h1)
  · exact (Below.heap_alloc _ _ _ (by rw [e2]; omega)).trans h2
  · exact (((Below.refl _ _).alloc (Nat.le_refl _) _).alloc (by omega) _).alloc (by omega) _
set_option maxRecDepth 100000 in
set_option maxHeartbeats 4000000 in
theorem read_ok {w : World} (hT : z1_Tab w) (s : ByteArray) (hs : s = txt tx0) : Calls Tryz.prog 20 #[.string s] w (RdP w) := by
  have hmf : ∀ (fn : Fn) (first cap : Array Value) (w : World), (Instr.makeFunc fn first cap).run Tryz.prog w = .ok (.func fn first cap) w := fun _ _ _ _ => rfl
  have FN := hide (rface_new w s)
  have TB := hide (hT.below (show Below w.heap.size w (rface w s) from FN.out.1.low))
  have t2 := hT.1
  have HS := hide hs
  clear hs hT
  go_enter_defers Tryz.func20, Tryz.ntmps20
  go_upto_region 3 with fail
  have e0 : (((w.alloc (.cells #[.slice none 0 0, .int .i64 0, .int .i64 0, .bool false] 24)).alloc (.cells #[.nilIface] 53)).alloc (.cells #[.string s, .int .i64 0, .slice none 0 0] 86)) = rface w s := rfl
  have sz0 : (rface w s).heap.size = w.heap.size + 1 + 1 + 1 := by simp
  generalize (((w.alloc (.cells #[.slice none 0 0, .int .i64 0, .int .i64 0, .bool false] 24)).alloc (.cells #[.nilIface] 53)).alloc (.cells #[.string s, .int .i64 0, .slice none 0 0] 86)) = w3 at e0 ⊢
  rw [← e0] at FN TB sz0
  clear e0
  have R3 : Hid (RB w3 (w.heap.size + 1 + 1) tx0 0 (.slice none 0 0)) := hide (by have := FN.out.2; rw [HS.out] at this; exact this)
  have HP := hide (rprogram_c TB.out R3.out (by omega))
  go_upto_region 4 with (go_at_call 38; (with_reducible refine (HP.out).mono ?_); rintro e w4 ⟨q, c, rfl, h41, h42⟩; have P4 := hide ((h42.block _ (lt_of_heap FN.out.1.p) (by show ¬ (w.heap.size = w.heap.size + 1 + 1); omega)).trans FN.out.1.p); have Q4 := hide ((h42.block _ (lt_of_heap FN.out.1.q) (by show ¬ (w.heap.size + 1 = w.heap.size + 1 + 1); omega)).trans FN.out.1.q); have O4 := hide h41; have B4 : Hid (Below w.heap.size w w4) := hide (FN.out.1.low.trans (h42.below FN.out.1.low.size (fun k hk => by have : k = w.heap.size + 1 + 1 := hk; omega))); have c0 := cell_row P4.out (i := 0) rfl; have c1 := cell_row P4.out (i := 1) rfl; have c2 := cell_row P4.out (i := 2) rfl; have c3 := cell_row P4.out (i := 3) rfl; have f0 := frz_row P4.out 0; have f1 := frz_row P4.out 1; have f2 := frz_row P4.out 2; have f3 := frz_row P4.out 3; clear h41 h42)
  have FZ := hide (set4_fr w4 w.heap.size (.slice q 4 c) (.int .i64 0) (.int .i64 0) (.bool false))
  have P5 : Hid (((((w4.setCell ⟨w.heap.size, 0, none⟩ (.slice q 4 c)).setCell ⟨w.heap.size, 1, none⟩ (.int .i64 0)).setCell ⟨w.heap.size, 2, none⟩ (.int .i64 0)).setCell ⟨w.heap.size, 3, none⟩ (.bool false)).heap[w.heap.size]? = some (.cells #[.slice q 4 c, .int .i64 0, .int .i64 0, .bool false] 24 (0, 0))) := heap_set_in (heap_set_in (heap_set_in (heap_set_in P4.out 0 _) 1 _) 2 _) 3 _
  clear c0 c1 c2 c3 f0 f1 f2 f3
  generalize ((((w4.setCell ⟨w.heap.size, 0, none⟩ (.slice q 4 c)).setCell ⟨w.heap.size, 1, none⟩ (.int .i64 0)).setCell ⟨w.heap.size, 2, none⟩ (.int .i64 0)).setCell ⟨w.heap.size, 3, none⟩ (.bool false)) = w5 at FZ P5 ⊢
  have Q5 := hide ((FZ.out.block _ (lt_of_heap Q4.out) (by show ¬ (w.heap.size + 1 = w.heap.size); omega)).trans Q4.out)
  have O5 := hide (ownsRow_fr (ownsRow_mono O4.out (show w.heap.size ≤ w3.heap.size by omega)) FZ.out (fun z hz e => ownsRow_not O4.out P4.out (by decide) (by rw [hz, show z = _ from e])))
  have B5 : Hid (Below w.heap.size w w5) := hide (B4.out.trans (FZ.out.below B4.out.size (fun k hk => by have : k = w.heap.size := hk; omega)))
  have HR : Hid (Calls Tryz.prog 14 #[.agg #[.slice q 4 c, .int .i64 0, .int .i64 0, .bool false]] w5 (RtP ⟨q, smL, c, 0, 0, false⟩ w5)) := right_c (p := ⟨q, smL, c, 0, 0, false⟩) ⟨(by decide : (4 : Nat) ≤ 9223372036854775807), LI.of_row O5.out⟩
  unfold RtP at HR
  rw [rt_small] at HR
  have d0 := cell_row P5.out (i := 0) rfl
  have d1 := cell_row P5.out (i := 1) rfl
  have d2 := cell_row P5.out (i := 2) rfl
  have d3 := cell_row P5.out (i := 3) rfl
  go_wp2_with (go_at_call 14; (with_reducible refine (HR.out).mono ?_); rintro e w6 ⟨rfl, h6⟩; have P6 := hide ((h6.block _ (lt_of_heap P5.out)).trans P5.out); have Q6 := hide ((h6.block _ (lt_of_heap Q5.out)).trans Q5.out); have O6 := hide (ownsRow_fr O5.out (Fr.of_below (S := fun _ => False) h6) (fun _ _ q => q)); have B6 := hide (chain B5.out h6 (Nat.le_refl _)); have g0 := cell_row P6.out (i := 0) rfl; have g1 := cell_row P6.out (i := 1) rfl; have g2 := cell_row P6.out (i := 2) rfl; have g3 := cell_row P6.out (i := 3) rfl; have k0 := frz_row P6.out 0; have k1 := frz_row P6.out 1; have k2 := frz_row P6.out 2; have k3 := frz_row P6.out 3; have n0 := cell_row Q6.out (i := 0) rfl; have nf := frz_row Q6.out 0; clear h6)
  have FY := hide (set4_fr w6 w.heap.size (.slice q 4 c) (.int .i64 0) (.int .i64 0) (.bool false))
  have P7a : Hid (((((w6.setCell ⟨w.heap.size, 0, none⟩ (.slice q 4 c)).setCell ⟨w.heap.size, 1, none⟩ (.int .i64 0)).setCell ⟨w.heap.size, 2, none⟩ (.int .i64 0)).setCell ⟨w.heap.size, 3, none⟩ (.bool false)).heap[w.heap.size]? = some (.cells #[.slice q 4 c, .int .i64 0, .int .i64 0, .bool false] 24 (0, 0))) := heap_set_in (heap_set_in (heap_set_in (heap_set_in P6.out 0 _) 1 _) 2 _) 3 _
  clear g0 g1 g2 g3 k0 k1 k2 k3 n0 nf d0 d1 d2 d3
  generalize ((((w6.setCell ⟨w.heap.size, 0, none⟩ (.slice q 4 c)).setCell ⟨w.heap.size, 1, none⟩ (.int .i64 0)).setCell ⟨w.heap.size, 2, none⟩ (.int .i64 0)).setCell ⟨w.heap.size, 3, none⟩ (.bool false)) = w7 at FY P7a ⊢
  have Q7a := hide ((FY.out.block _ (lt_of_heap Q6.out) (by show ¬ (w.heap.size + 1 = w.heap.size); omega)).trans Q6.out)
  have O7a := hide (ownsRow_fr O6.out FY.out (fun z hz e => ownsRow_not O6.out P6.out (by decide) (by rw [hz, show z = _ from e])))
  have B7a : Hid (Below w.heap.size w w7) := hide (B6.out.trans (FY.out.below B6.out.size (fun k hk => by have : k = w.heap.size := hk; omega)))
  have FX : Hid (Fr (At1 (w.heap.size + 1)) w7 (w7.setCell ⟨w.heap.size + 1, 0, none⟩ .nilIface)) := Fr.setCell (S := At1 (w.heap.size + 1)) (Fr.refl _ _) (p := ⟨w.heap.size + 1, 0, none⟩) rfl _
  have Q8 : Hid ((w7.setCell ⟨w.heap.size + 1, 0, none⟩ .nilIface).heap[w.heap.size + 1]? = some (.cells #[.nilIface] 53 (0, 0))) := heap_set_in Q7a.out 0 _
  generalize (w7.setCell ⟨w.heap.size + 1, 0, none⟩ .nilIface) = w8 at FX Q8 ⊢
  have P8 := hide ((FX.out.block _ (lt_of_heap P7a.out) (by show ¬ (w.heap.size = w.heap.size + 1); omega)).trans P7a.out)
  have O8 := hide (ownsRow_fr O7a.out FX.out (fun z hz e => ownsRow_not O7a.out Q7a.out (by decide) (by rw [hz, show z = _ from e])))
  have B8 : Hid (Below w.heap.size w w8) := hide (B7a.out.trans (FX.out.below B7a.out.size (fun k hk => by have : k = w.heap.size + 1 := hk; omega)))
  have z0 := cell_row P8.out (i := 0) rfl
  have z1 := cell_row P8.out (i := 1) rfl
  have z2 := cell_row P8.out (i := 2) rfl
  have z3 := cell_row P8.out (i := 3) rfl
  have y0 := cell_row Q8.out (i := 0) rfl
  have hL : RdP w (.returned (.tuple #[.agg #[.slice q 4 c, .int .i64 0, .int .i64 0, .bool false], .nilIface])) w8 := ⟨q, c, rfl, O8.out, B8.out⟩
  refine leaves_cons (f := 37) (args := #[.pointer (some ⟨w.heap.size, 0, none⟩), .pointer (some ⟨w.heap.size + 1, 0, none⟩)]) (by simp) (by simp [go_sem]) ?_
  refine (rcatch_idle ⟨w.heap.size, 0, none⟩ ⟨w.heap.size + 1, 0, none⟩ _).mono ?_
  rintro e u' w'' ⟨rfl, rfl, rfl⟩
  generalize RdP w = R at *
  simp [Leaves, settle, results, Tryz.results20, go_sem, z0, z1, z2, z3, y0]
  exact hL
def RdQ (w : World) (e : Ending) (w' : World) : Prop := ∃ g, e = .returned (.tuple #[.agg #[.slice none 0 0, .int .i64 0, .int .i64 0, .bool false], .iface 84 (.pointer (some ⟨g, 0, none⟩))]) ∧ Below w.heap.size w w'
set_option maxRecDepth 100000 in
set_option maxHeartbeats 4000000 in
theorem read_bad {w : World} (s : ByteArray) (l : List UInt8) (hs : s = txt l) (hc : cutL 10 l = (l, [], false)) (hl : l.length ≤ 1000000) : Calls Tryz.prog 20 #[.string s] w (RdQ w) := by
  have hmf : ∀ (fn : Fn) (first cap : Array Value) (w : World), (Instr.makeFunc fn first cap).run Tryz.prog w = .ok (.func fn first cap) w := fun _ _ _ _ => rfl
  have FN := hide (rface_new w s)
  have HS := hide hs
  clear hs
  go_enter_defers Tryz.func20, Tryz.ntmps20
  go_upto_region 3 with fail
  have e0 : (((w.alloc (.cells #[.slice none 0 0, .int .i64 0, .int .i64 0, .bool false] 24)).alloc (.cells #[.nilIface] 53)).alloc (.cells #[.string s, .int .i64 0, .slice none 0 0] 86)) = rface w s := rfl
  generalize (((w.alloc (.cells #[.slice none 0 0, .int .i64 0, .int .i64 0, .bool false] 24)).alloc (.cells #[.nilIface] 53)).alloc (.cells #[.string s, .int .i64 0, .slice none 0 0] 86)) = w3 at e0 ⊢
  rw [← e0] at FN
  clear e0
  have R3 : Hid (RB w3 (w.heap.size + 1 + 1) l 0 (.slice none 0 0)) := hide (by have := FN.out.2; rw [HS.out] at this; exact this)
  have HP := hide (rprogram_bad R3.out hc hl)
  clear hc
  go_wp2_with (go_at_call 38; (with_reducible refine (HP.out).mono ?_); rintro e w4 ⟨g, rfl, h41, h42⟩; have P4 := hide ((h42.block _ (lt_of_heap FN.out.1.p)).trans FN.out.1.p); have Q4 := hide ((h42.block _ (lt_of_heap FN.out.1.q)).trans FN.out.1.q); have B4 : Hid (Below w.heap.size w w4) := hide (chain FN.out.1.low h42 (Nat.le_refl _)); clear h41 h42)
  refine leaves_cons (f := 37) (args := #[.pointer (some ⟨w.heap.size, 0, none⟩), .pointer (some ⟨w.heap.size + 1, 0, none⟩)]) (by simp) (by simp [go_sem]) ?_
  refine (rcatch_panicking w.heap.size (w.heap.size + 1) g [] w4 P4.out Q4.out (by omega)).mono ?_
  rintro e u' w'' ⟨rfl, rfl, h1, h2, h3⟩
  have hL : RdQ w (.returned (.tuple #[.agg #[.slice none 0 0, .int .i64 0, .int .i64 0, .bool false], .iface 84 (.pointer (some ⟨g, 0, none⟩))])) w'' := ⟨g, rfl, B4.out.trans (h3.below B4.out.size (fun k hk => by omega))⟩
  have z0 := cell_row h1 (i := 0) rfl
  have z1 := cell_row h1 (i := 1) rfl
  have z2 := cell_row h1 (i := 2) rfl
  have z3 := cell_row h1 (i := 3) rfl
  have y0 := cell_row h2 (i := 0) rfl
  generalize RdQ w = R at *
  simp [Leaves, settle, results, Tryz.results20, go_sem, z0, z1, z2, z3, y0]
  exact hL
end Go.Proofs.YtbfhahhcacnckaaGreatDoor
