/-
  Parts of the proof.
-/
import Derived.Test.YtbfhahhcacnckaaGreatDoorIdleProofB39
set_option linter.unusedSimpArgs false
namespace Go.Proofs.YtbfhahhcacnckaaGreatDoor
open Go Go.RowKit
attribute [local go_sem] Oper.semAt_some ext_cell
set_option maxRecDepth 100000 in
set_option maxHeartbeats 8000000 in
theorem idle_law {w : World} {q : Option Addr} {L : List Rw} {c : Nat} {f : Bool} {at_ which : Int} (hT : z1_Tab w) (h : LR w q L) (hm : L.length ≤ maxLen) (ha : (Lit.int .i64 at_).wf = true) :
    Calls Tryz.prog 4 #[.slice q L.length c, .bool f, .int .i64 at_, .int .i64 which] w fun e w' => e = .returned (.bool true) ∧ Below w.heap.size w w' := by
  have H := hide h
  have HT := hide hT
  have HM := hide hm
  have HA := hide ha
  clear h hT hm ha
  go_enter Tryz.func4, Tryz.ntmps4
  go_upto_region 2 with (go_at_call 7; (with_reducible refine (known_c HT.out).mono ?_); rintro e w1 ⟨rfl, h1⟩; have B1 := hide h1; have H1 := hide (H.out.kept h1); clear h1)
  go_upto_region 3 with (go_at_call 11; (with_reducible refine (made_c H1.out HM.out).mono ?_); rintro e w2 ⟨g, c2, rfl, h21, h22⟩; have O2 := hide h21; have B2 := hide (chain B1.out h22 (Nat.le_refl _)); have S2 := hide h22.size; clear h21 h22)
  have M3 := hide (MB.new (f := f) O2.out S2.out)
  have B3 : Hid (Below w.heap.size w (w2.alloc (.cells #[.slice (some ⟨g, 0, none⟩) (mdL L).length c2, .int .i64 2, .int .i64 2, .bool f] 24))) := hide (B2.out.alloc B2.out.size _)
  have S1 := B1.out.size
  clear O2 H H1 HT HM
  generalize (w2.alloc (.cells #[.slice (some ⟨g, 0, none⟩) (mdL L).length c2, .int .i64 2, .int .i64 2, .bool f] 24)) = W3 at M3 B3 ⊢
  have hl := mdL_len L
  obtain ⟨K, hK⟩ : ∃ K, mdL L = K := ⟨_, rfl⟩
  have HK := hide hK
  rw [hK] at M3 hl ⊢
  have hk0 : 0 < K.length := by omega
  have hk1 : K.length ≤ 1000000 := by omega
  obtain ⟨m, hm⟩ : ∃ m : Nat, (m : Int) = pk at_ K.length := ⟨(pk at_ K.length).toNat, by have := pk_range (c := at_) hk0; omega⟩
  have hmk : m < K.length := by have := pk_range (c := at_) hk0; omega
  have PI := fun V => pick_c at_ K.length hk0 hk1 HA.out V
  rw [← hm] at PI
  have y0 := cell_row M3.out.box (i := 0) rfl
  have ly := lt_of_heap M3.out.box
  clear hK hm HA hl
  go_upto_region 4 with (go_at_call 12; (with_reducible refine (PI _).mono ?_); rintro e w5 ⟨rfl, h5⟩; subst w5)
  obtain ⟨i, hi⟩ : ∃ i, K[m]? = some i := ⟨_, List.getElem?_eq_getElem hmk⟩
  have HI := hide hi
  have HO := hide (mdL_op (HK.out ▸ hi))
  obtain ⟨i2, hi2⟩ : ∃ i2, idl i which = i2 := ⟨_, rfl⟩
  have IC := fun V => idl_all i which HO.out.1 HO.out.2 V
  rw [hi2] at IC
  unfold IdP at IC
  have HI2 := hide hi2
  have T3 := hide (own_ten M3.out.own)
  have lg := M3.out.gle.2.1
  have c0 := T3.out.2.2.2 m i HI.out 0 _ rfl
  have c1 := T3.out.2.2.2 m i HI.out 1 _ rfl
  have c2' := T3.out.2.2.2 m i HI.out 2 _ rfl
  have c3 := T3.out.2.2.2 m i HI.out 3 _ rfl
  have c4 := T3.out.2.2.2 m i HI.out 4 _ rfl
  have c5 := T3.out.2.2.2 m i HI.out 5 _ rfl
  have c6 := T3.out.2.2.2 m i HI.out 6 _ rfl
  have c7 := T3.out.2.2.2 m i HI.out 7 _ rfl
  have c8 := T3.out.2.2.2 m i HI.out 8 _ rfl
  have c9 := T3.out.2.2.2 m i HI.out 9 _ rfl
  rw [Nat.add_zero] at c0
  have m0 : (0 : Int) ≤ (m : Int) := by omega
  have m1 : (m : Int) < (K.length : Int) := by omega
  clear hi hi2
  go_cut [11] (fun u wx => u = .int .i64 (m : Int) ∧ MB w1.heap.size wx w2.heap.size g c2 (K.set m i2) f ∧ Below w.heap.size w wx)
  case first =>
    have M4 := hide (M3.out.kept (Below.refl _ W3).drew)
    have B4 := hide (chain B3.out (Below.refl _ W3).drew (Nat.le_refl _))
    go_region_with (go_at_call 13; (with_reducible refine (IC _).mono ?_); rintro e w5 ⟨rfl, h5⟩; have M5 := hide (M4.out.kept h5); have B5 := hide (chain B4.out h5 (Nat.le_refl _)); have T5 := hide (own_ten M5.out.own); have lg5 := M5.out.gle.2.1; have z0 := cell_row M5.out.box (i := 0) rfl; have d0 := T5.out.2.2.2 m i HI.out 0 _ rfl; have d1 := T5.out.2.2.2 m i HI.out 1 _ rfl; have d2 := T5.out.2.2.2 m i HI.out 2 _ rfl; have d3 := T5.out.2.2.2 m i HI.out 3 _ rfl; have d4 := T5.out.2.2.2 m i HI.out 4 _ rfl; have d5 := T5.out.2.2.2 m i HI.out 5 _ rfl; have d6 := T5.out.2.2.2 m i HI.out 6 _ rfl; have d7 := T5.out.2.2.2 m i HI.out 7 _ rfl; have d8 := T5.out.2.2.2 m i HI.out 8 _ rfl; have d9 := T5.out.2.2.2 m i HI.out 9 _ rfl; rw [Nat.add_zero] at d0; have f0 := T5.out.2.2.1 (m * 10); have f1 := T5.out.2.2.1 (m * 10 + 1); have f2 := T5.out.2.2.1 (m * 10 + 2); have f3 := T5.out.2.2.1 (m * 10 + 3); have f4 := T5.out.2.2.1 (m * 10 + 4); have f5 := T5.out.2.2.1 (m * 10 + 5); have f6 := T5.out.2.2.1 (m * 10 + 6); have f7 := T5.out.2.2.1 (m * 10 + 7); have f8 := T5.out.2.2.1 (m * 10 + 8); have f9 := T5.out.2.2.1 (m * 10 + 9); clear h5)
    all_goals (try dsimp only [Act.put])
    all_goals go_wp2
    all_goals go_meet
    all_goals exact ⟨rfl, (M5.out.ten hmk i2).1, B5.out.trans ((M5.out.ten hmk i2).2.below B5.out.size (fun k hk => by have h1 : k = g := hk; have h2 := M5.out.gle.1; omega))⟩
  case rest =>
    obtain ⟨rfl, hM, hB⟩ := hcut
    have M6 := hide hM
    have B6 := hide hB
    have RT := hide (rt_idle (HK.out ▸ HI.out) which (some ⟨g, 0, none⟩) c2 f)
    rw [HK.out, HI2.out] at RT
    have RC : Hid (∀ V, PgI V ⟨some ⟨g, 0, none⟩, K.set m i2, c2, 2, 2, f⟩ → Calls Tryz.prog 14 #[.agg #[.slice (some ⟨g, 0, none⟩) K.length c2, .int .i64 2, .int .i64 2, .bool f]] V fun e w' => e = .returned (.tuple #[.int .i64 60, .int .i64 (m : Int)]) ∧ Below V.heap.size V w') := hide fun V hV => by
      have := right_c hV
      unfold RtP at this
      rw [RT.out] at this
      have e : (K.set m i2).length = K.length := List.length_set
      change Calls _ _ #[.agg #[.slice (some ⟨g, 0, none⟩) (K.set m i2).length c2, .int .i64 2, .int .i64 2, .bool f]] _ _ at this
      rw [e] at this
      exact this
    have TC : Hid (∀ V, PgI V ⟨some ⟨g, 0, none⟩, K.set m i2, c2, 2, 2, f⟩ → Calls Tryz.prog 15 #[.agg #[.slice (some ⟨g, 0, none⟩) K.length c2, .int .i64 2, .int .i64 2, .bool f]] V fun e w' => e = .returned (.tuple #[.string ⟨#[]⟩, .int .i64 60]) ∧ Below V.heap.size V w') := hide fun V hV => by
      have := text_bad hV RT.out (by decide)
      have e : (K.set m i2).length = K.length := List.length_set
      change Calls _ _ #[.agg #[.slice (some ⟨g, 0, none⟩) (K.set m i2).length c2, .int .i64 2, .int .i64 2, .bool f]] _ _ at this
      rw [e] at this
      exact this
    clear hM hB M3 B3 T3 c0 c1 c2' c3 c4 c5 c6 c7 c8 c9 y0 IC PI RT
    have y0 := cell_row M6.out.box (i := 0) rfl
    have y1 := cell_row M6.out.box (i := 1) rfl
    have y2 := cell_row M6.out.box (i := 2) rfl
    have y3 := cell_row M6.out.box (i := 3) rfl
    have ly6 := lt_of_heap M6.out.box
    go_wp2_with first
      | (go_at_call 14; (with_reducible refine (RC.out _ M6.out.pg).mono ?_); rintro e w7 ⟨rfl, h7⟩; have M7 := hide (M6.out.kept h7); have B7 := hide (chain B6.out h7 (Nat.le_refl _)); have z0 := cell_row M7.out.box (i := 0) rfl; have z1 := cell_row M7.out.box (i := 1) rfl; have z2 := cell_row M7.out.box (i := 2) rfl; have z3 := cell_row M7.out.box (i := 3) rfl; have lz := lt_of_heap M7.out.box; clear h7)
      | (go_at_call 15; (with_reducible refine (TC.out _ M7.out.pg).mono ?_); rintro e w8 ⟨rfl, h8⟩; have B8 := hide (chain B7.out h8 (Nat.le_refl _)); clear h8)
    go_ret
    exact ⟨rfl, B8.out⟩
end Go.Proofs.YtbfhahhcacnckaaGreatDoor
