/-
  Parts of the proof.
-/
import Derived.Test.YtbfhahhcacnckaaGreatDoorFreeProofB39
set_option linter.unusedSimpArgs false
namespace Go.Proofs.YtbfhahhcacnckaaGreatDoor
open Go Go.RowKit
attribute [local go_sem] Oper.semAt_some ext_cell
def bgI : Ins := ⟨4, 0, 0, 0, 0, 0, 0#256⟩
def clI (i : Ins) : Ins := if isRef i then bgI else i
def clL (K : List Ins) (j : Nat) : List Ins := (K.take j).map clI ++ K.drop j
theorem clL_len (K : List Ins) (j : Nat) : (clL K j).length = K.length := by simp [clL]; omega
theorem clL_0 (K : List Ins) : clL K 0 = K := by simp [clL]
theorem clL_all (K : List Ins) : clL K K.length = K.map clI := by simp [clL]
theorem clL_get {K : List Ins} {j : Nat} {i : Ins} (h : K[j]? = some i) : (clL K j)[j]? = some i := by
  have hl := (List.getElem?_eq_some_iff.1 h).1
  unfold clL
  rw [List.getElem?_append_right (by simp; omega)]
  simp [Nat.min_eq_left (Nat.le_of_lt hl), h]
theorem clL_next {K : List Ins} {j : Nat} {i : Ins} (h : K[j]? = some i) : clL K (j + 1) = (clL K j).set j (clI i) := by
  have hl := (List.getElem?_eq_some_iff.1 h).1
  have e : K.drop j = i :: K.drop (j + 1) := by rw [List.drop_eq_getElem_cons hl, (List.getElem?_eq_some_iff.1 h).2]
  unfold clL
  rw [List.take_add_one, h, e]
  have hz : ((K.take j).map clI).length = j := by simp; omega
  rw [List.set_append, if_neg (by omega), hz, Nat.sub_self]
  simp
theorem clL_keep {K : List Ins} {j : Nat} {i : Ins} (h : K[j]? = some i) (hr : isRef i = false) : clL K (j + 1) = clL K j := by
  rw [clL_next h, clI, hr]
  have hg := clL_get h
  have hl := (List.getElem?_eq_some_iff.1 hg).1
  have he := (List.getElem?_eq_some_iff.1 hg).2
  simp only [Bool.false_eq_true, if_false]
  rw [← he]
  simp
theorem clI_free (i : Ins) : isRef (clI i) = false := by
  unfold clI
  cases h : isRef i
  · simpa using h
  · rfl
theorem any_false {K : List Ins} : (K.map clI).any isRef = false := by
  rw [List.any_eq_false]
  intro x hx
  obtain ⟨y, _, rfl⟩ := List.mem_map.1 hx
  rw [clI_free]
  decide
theorem any_set {K : List Ins} {m : Nat} {i : Ins} (hm : m < K.length) (h : isRef i = true) : (K.set m i).any isRef = true := List.any_eq_true.2 ⟨i, List.mem_of_getElem? (i := m) (by simp [hm]), h⟩
abbrev tenZ (W : World) (g o : Nat) (op : Int) : World := (((((((((W.setCell ⟨g, o, none⟩ (.int .i64 op)).setCell ⟨g, o + 1, none⟩ (.int .i64 0)).setCell ⟨g, o + 2, none⟩ (.int .i64 0)).setCell ⟨g, o + 3, none⟩ (.int .i64 0)).setCell ⟨g, o + 4, none⟩ (.int .i64 0)).setCell ⟨g, o + 5, none⟩ (.int .i64 0)).setCell ⟨g, o + 6, none⟩ (.int .u64 0)).setCell ⟨g, o + 7, none⟩ (.int .u64 0)).setCell ⟨g, o + 8, none⟩ (.int .u64 0)).setCell ⟨g, o + 9, none⟩ (.int .u64 0)
theorem tenZ_eq (W : World) (g o : Nat) (op : Int) : tenZ W g o op = tenW W g o ⟨op, 0, 0, 0, 0, 0, 0#256⟩ := by simp only [tenZ, tenW, z1_wd_nil]
theorem MB.tenz {n0 : Nat} {W : World} {b g c m : Nat} {M : List Ins} {f : Bool} (h : MB n0 W b g c M f) (hm : m < M.length) (op : Int) : MB n0 (tenZ W g (m * 10) op) b g c (M.set m ⟨op, 0, 0, 0, 0, 0, 0#256⟩) f ∧ Fr (At1 g) W (tenZ W g (m * 10) op) := by
  rw [tenZ_eq]
  exact h.ten hm _
set_option maxRecDepth 100000 in
set_option maxHeartbeats 8000000 in
theorem free_law {w : World} {q : Option Addr} {L : List Rw} {c : Nat} {f : Bool} {at_ : Int} (hT : z1_Tab w) (h : LR w q L) (hm : L.length ≤ maxLen) (ha : (Lit.int .i64 at_).wf = true) :
    Calls Tryz.prog 6 #[.slice q L.length c, .bool f, .int .i64 at_] w fun e w' => e = .returned (.bool true) ∧ Below w.heap.size w w' := by
  have H := hide h
  have HT := hide hT
  have HM := hide hm
  have HA := hide ha
  clear h hT hm ha
  go_enter Tryz.func6, Tryz.ntmps6
  go_upto_region 2 with (go_at_call 7; (with_reducible refine (known_c HT.out).mono ?_); rintro e w1 ⟨rfl, h1⟩; have B1 := hide h1; have H1 := hide (H.out.kept h1); clear h1)
  go_upto_region 3 with (go_at_call 11; (with_reducible refine (made_c H1.out HM.out).mono ?_); rintro e w2 ⟨g, c2, rfl, h21, h22⟩; have O2 := hide h21; have B2 := hide (chain B1.out h22 (Nat.le_refl _)); have S2 := hide h22.size; clear h21 h22)
  have M3 := hide (MB.new (f := f) O2.out S2.out)
  have B3 : Hid (Below w.heap.size w (w2.alloc (.cells #[.slice (some ⟨g, 0, none⟩) (mdL L).length c2, .int .i64 2, .int .i64 2, .bool f] 24))) := hide (B2.out.alloc B2.out.size _)
  have S1 := B1.out.size
  clear O2 H1 HT
  generalize (w2.alloc (.cells #[.slice (some ⟨g, 0, none⟩) (mdL L).length c2, .int .i64 2, .int .i64 2, .bool f] 24)) = W3 at M3 B3 ⊢
  have hl := mdL_len L
  obtain ⟨K, hK⟩ : ∃ K, mdL L = K := ⟨_, rfl⟩
  have HK := hide hK
  rw [hK] at M3 hl ⊢
  have hk0 : 0 < K.length := by omega
  have hk1 : K.length ≤ 1000000 := by omega
  clear hK hl
  go_wp2
  go_loopg [9, 10] K.length (fun k u i wr => ∃ j : Nat, j + k = K.length ∧ u = .bool (!(K.take j).any isRef) ∧ i = .int .i64 (j : Int) ∧ MB w1.heap.size wr w2.heap.size g c2 (clL K j) f ∧ Below w.heap.size w wr)
  case atStart => exact ⟨0, by omega, rfl, rfl, by rw [clL_0]; exact M3.out, B3.out⟩
  case round =>
    obtain ⟨j, hjk, rfl, rfl, hM, hB⟩ := hrel
    have M := hide hM
    have B := hide hB
    have lk := clL_len K j
    have y0 := cell_row M.out.box (i := 0) rfl
    rw [lk] at y0
    have ly := lt_of_heap M.out.box
    have lg := M.out.gle.2.1
    clear hM hB M3 B3
    by_cases hj : j < K.length
    · obtain ⟨i, hi⟩ : ∃ i, K[j]? = some i := ⟨_, List.getElem?_eq_getElem hj⟩
      have HI := hide hi
      have T := hide (own_ten M.out.own)
      have d0 := T.out.2.2.2 j i (clL_get hi) 0 _ rfl
      rw [Nat.add_zero] at d0
      have d1 := T.out.2.2.2 j i (clL_get hi) 1 _ rfl
      have d2 := T.out.2.2.2 j i (clL_get hi) 2 _ rfl
      have d3 := T.out.2.2.2 j i (clL_get hi) 3 _ rfl
      have d4 := T.out.2.2.2 j i (clL_get hi) 4 _ rfl
      have d5 := T.out.2.2.2 j i (clL_get hi) 5 _ rfl
      have d6 := T.out.2.2.2 j i (clL_get hi) 6 _ rfl
      have d7 := T.out.2.2.2 j i (clL_get hi) 7 _ rfl
      have d8 := T.out.2.2.2 j i (clL_get hi) 8 _ rfl
      have d9 := T.out.2.2.2 j i (clL_get hi) 9 _ rfl
      have f0 := T.out.2.2.1 (j * 10)
      have f1 := T.out.2.2.1 (j * 10 + 1)
      have f2 := T.out.2.2.1 (j * 10 + 2)
      have f3 := T.out.2.2.1 (j * 10 + 3)
      have f4 := T.out.2.2.1 (j * 10 + 4)
      have f5 := T.out.2.2.1 (j * 10 + 5)
      have f6 := T.out.2.2.1 (j * 10 + 6)
      have f7 := T.out.2.2.1 (j * 10 + 7)
      have f8 := T.out.2.2.1 (j * 10 + 8)
      have f9 := T.out.2.2.1 (j * 10 + 9)
      have j0 : (0 : Int) ≤ (j : Int) := by omega
      have j1 : (j : Int) < (K.length : Int) := by omega
      have TA : Hid ((K.take (j + 1)).any isRef = ((K.take j).any isRef || isRef i)) := hide (by rw [List.take_add_one, hi, List.any_append]; simp)
      obtain ⟨o, ho⟩ : ∃ o, i.op = o := ⟨_, rfl⟩
      rw [ho] at d0
      clear hi
      by_cases hr : o = 8 ∨ o = 9 ∨ o = 10
      · have HR : Hid (isRef i = true) := hide (by unfold isRef; rw [ho]; rcases hr with rfl | rfl | rfl <;> rfl)
        have M9 := hide (M.out.tenz (show j < (clL K j).length by omega) 4)
        have HC : Hid (clL K (j + 1) = (clL K j).set j bgI) := hide (by rw [clL_next HI.out, clI, if_pos HR.out])
        clear ho
        rcases hr with rfl | rfl | rfl
        · go_wp2
          go_roundg (K.length - (j + 1))
          case measure => omega
          case rel => exact ⟨j + 1, by omega, by rw [TA.out, HR.out, Bool.or_true]; rfl, by go_num, by rw [HC.out]; exact M9.out.1, B.out.trans (M9.out.2.below B.out.size (fun k hk => by have h1 : k = g := hk; have h2 := M.out.gle.1; omega))⟩
        · go_wp2
          go_roundg (K.length - (j + 1))
          case measure => omega
          case rel => exact ⟨j + 1, by omega, by rw [TA.out, HR.out, Bool.or_true]; rfl, by go_num, by rw [HC.out]; exact M9.out.1, B.out.trans (M9.out.2.below B.out.size (fun k hk => by have h1 : k = g := hk; have h2 := M.out.gle.1; omega))⟩
        · go_wp2
          go_roundg (K.length - (j + 1))
          case measure => omega
          case rel => exact ⟨j + 1, by omega, by rw [TA.out, HR.out, Bool.or_true]; rfl, by go_num, by rw [HC.out]; exact M9.out.1, B.out.trans (M9.out.2.below B.out.size (fun k hk => by have h1 : k = g := hk; have h2 := M.out.gle.1; omega))⟩
      · have HR : Hid (isRef i = false) := hide (by unfold isRef; rw [ho]; simp; omega)
        have h8 : ¬ o = 8 := fun e => hr (.inl e)
        have h9 : ¬ o = 9 := fun e => hr (.inr (.inl e))
        have h10 : ¬ o = 10 := fun e => hr (.inr (.inr e))
        have b8 : (o == 8) = false := by simp [h8]
        have b9 : (o == 9) = false := by simp [h9]
        have b10 : (o == 10) = false := by simp [h10]
        clear ho hr h8 h9 h10 d1 d2 d3 d4 d5 d6 d7 d8 d9 f0 f1 f2 f3 f4 f5 f6 f7 f8 f9
        go_wp2
        go_roundg (K.length - (j + 1))
        case measure => omega
        case rel => exact ⟨j + 1, by omega, by rw [TA.out, HR.out, Bool.or_false], by go_num, by rw [clL_keep HI.out HR.out]; exact M.out, B.out⟩
    · have j0 : ¬ (j : Int) < (K.length : Int) := by omega
      obtain rfl : j = K.length := by omega
      rw [List.take_length]
      rw [clL_all] at M
      have HL := hide (H.out.kept B.out)
      obtain ⟨rf, hrf⟩ : ∃ rf, (!K.any isRef) = rf := ⟨_, rfl⟩
      have F1 : Hid (∀ (V : World) (g' c' : Nat), PgI V ⟨some ⟨g', 0, none⟩, mdL L, c', 2, 2, f⟩ → Calls Tryz.prog 18 #[.agg #[.slice (some ⟨g', 0, none⟩) (mdL L).length c', .int .i64 2, .int .i64 2, .bool f]] V fun e w' => e = .returned (.bool rf) ∧ Below V.heap.size V w') := hide fun V g' c' hV => by
        have := free_c hV
        have e : freeB ⟨some ⟨g', 0, none⟩, mdL L, c', 2, 2, f⟩ = rf := by show (!(mdL L).any isRef) = _; rw [HK.out, hrf]
        rw [e] at this
        exact this
      have F2 : Hid (∀ V, PgI V ⟨some ⟨g, 0, none⟩, K.map clI, c2, 2, 2, f⟩ → Calls Tryz.prog 18 #[.agg #[.slice (some ⟨g, 0, none⟩) K.length c2, .int .i64 2, .int .i64 2, .bool f]] V fun e w' => e = .returned (.bool true) ∧ Below V.heap.size V w') := hide fun V hV => by
        have := free_c hV
        have e : freeB ⟨some ⟨g, 0, none⟩, K.map clI, c2, 2, 2, f⟩ = true := by show (!(K.map clI).any isRef) = _; rw [any_false]; rfl
        rw [e] at this
        change Calls _ _ #[.agg #[.slice (some ⟨g, 0, none⟩) (K.map clI).length c2, .int .i64 2, .int .i64 2, .bool f]] _ _ at this
        rw [List.length_map] at this
        exact this
      rw [hrf]
      clear hrf
      go_upto_region 12 with first
        | (go_at_call 11; (with_reducible refine (made_c HL.out HM.out).mono ?_); rintro e w4 ⟨g4, c4, rfl, h41, h42⟩; have M4 := hide (M.out.kept h42); have B4 := hide (chain B.out h42 (Nat.le_refl _)); have P4 := hide (pg_own (f := f) h41); clear h41 h42)
        | (go_at_call 18; (with_reducible refine (F1.out _ _ _ P4.out).mono ?_); rintro e w5 ⟨rfl, h5⟩; have M5 := hide (M4.out.kept h5); have B5 := hide (chain B4.out h5 (Nat.le_refl _)); clear h5)
      clear y0 ly lg
      have y0 := cell_row M5.out.box (i := 0) rfl
      have y1 := cell_row M5.out.box (i := 1) rfl
      have y2 := cell_row M5.out.box (i := 2) rfl
      have y3 := cell_row M5.out.box (i := 3) rfl
      rw [show (K.map clI).length = K.length from List.length_map ..] at y0
      have ly5 := lt_of_heap M5.out.box
      go_upto_region 13 with (go_at_call 18; (with_reducible refine (F2.out _ M5.out.pg).mono ?_); rintro e w6 ⟨rfl, h6⟩; have M6 := hide (M5.out.kept h6); have B6 := hide (chain B5.out h6 (Nat.le_refl _)); clear h6)
      clear y0 y1 y2 y3
      obtain ⟨m, hm⟩ : ∃ m : Nat, (m : Int) = pk at_ K.length := ⟨(pk at_ K.length).toNat, by have := pk_range (c := at_) hk0; omega⟩
      have hmk : m < K.length := by have := pk_range (c := at_) hk0; omega
      have PI := fun V => pick_c at_ K.length hk0 hk1 HA.out V
      rw [← hm] at PI
      have PJ := fun V => pick_i at_ 3 (by decide) (by decide) HA.out V
      have hp3 := pk_range (c := at_) (n := 3) (by decide)
      rw [show pk at_ ((3 : Nat) : Int) = pk at_ 3 from rfl] at hp3
      obtain ⟨o, ho⟩ : ∃ o, 8 + pk at_ 3 = o := ⟨_, rfl⟩
      have e3 : IntKind.i64.wrap (8 + pk at_ 3) = o := by rw [ho, IntKind.wrap_i64]; omega
      have HR : Hid (isRef ⟨o, 0, 0, 0, 0, 0, 0#256⟩ = true) := hide (by
        have h3 : o = 8 ∨ o = 9 ∨ o = 10 := by omega
        rcases h3 with rfl | rfl | rfl <;> rfl)
      have lk : (K.map clI).length = K.length := List.length_map ..
      obtain ⟨i, hi⟩ : ∃ i, (K.map clI)[m]? = some i := ⟨_, List.getElem?_eq_getElem (by omega)⟩
      have HI := hide hi
      have y0 := cell_row M6.out.box (i := 0) rfl
      rw [lk] at y0
      have ly6 := lt_of_heap M6.out.box
      have m0 : (0 : Int) ≤ (m : Int) := by omega
      have m1 : (m : Int) < (K.length : Int) := by omega
      clear hi ho hp3 hm j0 hjk
      have PK : ∀ V : World, Calls Tryz.prog 12 #[.int .i64 at_, .int .i64 (K.length : Int)] V fun e w' => e = .returned (.int .i64 (m : Int)) ∧ Below V.heap.size V w' := fun V => (PI V).mono fun e w' ⟨h1, h2⟩ => ⟨h1, h2 ▸ Below.refl _ _⟩
      have PL : ∀ V : World, Calls Tryz.prog 12 #[.int .i64 at_, .int .i64 3] V fun e w' => e = .returned (.int .i64 (pk at_ 3)) ∧ Below V.heap.size V w' := fun V => (PJ V).mono fun e w' ⟨h1, h2⟩ => ⟨h1, h2 ▸ Below.refl _ _⟩
      refine wp_region_last_lit (List.cons_ne_nil _ _) (by kernel_rfl) (by kernel_rfl) (by kernel_rfl) ?_
      dsimp only [List.dropLast, List.getLast]
      repeat (go_big_quiet_step (first | exact rfl | (go_at_call 12; (with_reducible exact ext_call (PK _))) | (go_at_call 12; (with_reducible exact ext_call (PL _)))))
      refine wpQuiet_nil ?_
      intro w9 hw
      have hb9 := ext_of hw
      clear hw
      have M9 := hide (M6.out.kept hb9)
      have B9 := hide (chain B6.out hb9 (Nat.le_refl _))
      clear y0 ly6 hb9
      have Z9 := hide (M9.out.tenz (m := m) (by omega) o)
      have T := hide (own_ten M9.out.own)
      have lg := M9.out.gle.2.1
      have d0 := T.out.2.2.2 m i HI.out 0 _ rfl
      rw [Nat.add_zero] at d0
      have d1 := T.out.2.2.2 m i HI.out 1 _ rfl
      have d2 := T.out.2.2.2 m i HI.out 2 _ rfl
      have d3 := T.out.2.2.2 m i HI.out 3 _ rfl
      have d4 := T.out.2.2.2 m i HI.out 4 _ rfl
      have d5 := T.out.2.2.2 m i HI.out 5 _ rfl
      have d6 := T.out.2.2.2 m i HI.out 6 _ rfl
      have d7 := T.out.2.2.2 m i HI.out 7 _ rfl
      have d8 := T.out.2.2.2 m i HI.out 8 _ rfl
      have d9 := T.out.2.2.2 m i HI.out 9 _ rfl
      have f0 := T.out.2.2.1 (m * 10)
      have f1 := T.out.2.2.1 (m * 10 + 1)
      have f2 := T.out.2.2.1 (m * 10 + 2)
      have f3 := T.out.2.2.1 (m * 10 + 3)
      have f4 := T.out.2.2.1 (m * 10 + 4)
      have f5 := T.out.2.2.1 (m * 10 + 5)
      have f6 := T.out.2.2.1 (m * 10 + 6)
      have f7 := T.out.2.2.1 (m * 10 + 7)
      have f8 := T.out.2.2.1 (m * 10 + 8)
      have f9 := T.out.2.2.1 (m * 10 + 9)
      go_upto_region 14 with fail
      have M7 := hide Z9.out.1
      have B7 := hide (B9.out.trans (Z9.out.2.below B9.out.size (fun k hk => by have h1 : k = g := hk; have h2 := M9.out.gle.1; omega)))
      clear T Z9 PI PJ PK PL e3
      have F3 : Hid (∀ V, PgI V ⟨some ⟨g, 0, none⟩, (K.map clI).set m ⟨o, 0, 0, 0, 0, 0, 0#256⟩, c2, 2, 2, f⟩ → Calls Tryz.prog 18 #[.agg #[.slice (some ⟨g, 0, none⟩) K.length c2, .int .i64 2, .int .i64 2, .bool f]] V fun e w' => e = .returned (.bool false) ∧ Below V.heap.size V w') := hide fun V hV => by
        have := free_c hV
        have e : freeB ⟨some ⟨g, 0, none⟩, (K.map clI).set m ⟨o, 0, 0, 0, 0, 0, 0#256⟩, c2, 2, 2, f⟩ = false := by show (!((K.map clI).set m ⟨o, 0, 0, 0, 0, 0, 0#256⟩).any isRef) = _; rw [any_set (by omega) HR.out]; rfl
        rw [e] at this
        change Calls _ _ #[.agg #[.slice (some ⟨g, 0, none⟩) ((K.map clI).set m ⟨o, 0, 0, 0, 0, 0, 0#256⟩).length c2, .int .i64 2, .int .i64 2, .bool f]] _ _ at this
        rw [List.length_set, List.length_map] at this
        exact this
      obtain ⟨W7, hW7⟩ : ∃ W7, W7 = tenZ w9 g (m * 10) o := ⟨_, rfl⟩
      rw [← hW7] at M7 B7
      unfold tenZ at hW7
      rw [← hW7]
      clear hW7
      clear d0 d1 d2 d3 d4 d5 d6 d7 d8 d9 f0 f1 f2 f3 f4 f5 f6 f7 f8 f9
      have y0 := cell_row M7.out.box (i := 0) rfl
      rw [show ((K.map clI).set m ⟨o, 0, 0, 0, 0, 0, 0#256⟩).length = K.length by rw [List.length_set, List.length_map]] at y0
      have y1 := cell_row M7.out.box (i := 1) rfl
      have y2 := cell_row M7.out.box (i := 2) rfl
      have y3 := cell_row M7.out.box (i := 3) rfl
      have ly7 := lt_of_heap M7.out.box
      go_wp2_with (go_at_call 18; (with_reducible refine (F3.out _ M7.out.pg).mono ?_); rintro e w8 ⟨rfl, h8⟩; have B8 := hide (chain B7.out h8 (Nat.le_refl _)); clear h8)
      go_ret
      exact ⟨rfl, B8.out⟩
end Go.Proofs.YtbfhahhcacnckaaGreatDoor
