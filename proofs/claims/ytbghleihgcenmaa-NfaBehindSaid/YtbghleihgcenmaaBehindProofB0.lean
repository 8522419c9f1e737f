/-
  Parts of the proof.
-/
import Derived.Test.YtbghleihgcenmaaC22
import Derived.Deep.RegionHeld
set_option linter.unusedSimpArgs false
namespace Go.Proofs.Ytbghleihgcenmaa
open Go Go.RowKit
attribute [local go_sem] Oper.semAt_some
theorem sL_app (s t : ByteArray) : sL (s ++ t) = sL s ++ sL t := by
  unfold sL
  rw [ByteArray.data_append, Array.toList_append]
theorem sL_take (s : ByteArray) (n : Nat) : sL (s.extract 0 n) = (sL s).take n := by
  unfold sL
  rw [ByteArray.data_extract, Array.toList_extract, List.extract_eq_take_drop]
  simp
theorem size_app (s t : ByteArray) : (s ++ t).size = s.size + t.size := by
  have := congrArg List.length (sL_app s t)
  rw [List.length_append, sL_len, sL_len, sL_len] at this
  exact this
theorem epsL_en {i : Ins} {a : Int} {bg e1 e2 : Bool} (h : i.op ≠ 5) : epsL i a bg e1 = epsL i a bg e2 := by
  unfold epsL
  rw [if_neg (c := i.op = 5) h, if_neg (c := i.op = 5) h]
theorem epsL_bg {i : Ins} {a : Int} {b1 b2 en : Bool} (h : i.op ≠ 4) : epsL i a b1 en = epsL i a b2 en := by
  unfold epsL
  rw [if_neg (c := i.op = 4) h, if_neg (c := i.op = 4) h]
theorem rc_more {P : List Ins} {s t : List UInt8} {b pl : Nat} {a : Int} (hno : ∀ i ∈ P, i.op ≠ 5) (h : Rc P s b pl a) : Rc P (s ++ t) b pl a := by
  refine h.ind (Q := fun pl a => Rc P (s ++ t) b pl a) Rc.start (fun pl a i x _ q hi hx => q.eps hi ?_) (fun pl a i c _ q hi ho hc hs => q.byte hi ho ?_ hs)
  · unfold epsP at hx ⊢
    rw [epsL_en (hno i (List.mem_of_getElem? hi))]
    exact hx
  · rw [List.getElem?_append_left (List.getElem?_eq_some_iff.1 hc).1]
    exact hc
theorem rc_less {P : List Ins} {s : List UInt8} {b pl n : Nat} {a : Int} (hno : ∀ i ∈ P, i.op ≠ 5) (h : Rc P s b pl a) (hn : pl ≤ n) : Rc P (s.take n) b pl a := by
  refine h.ind (Q := fun pl a => pl ≤ n → Rc P (s.take n) b pl a) (fun _ => Rc.start) (fun pl a i x _ q hi hx hl => (q hl).eps hi ?_) (fun pl a i c _ q hi ho hc hs hl => (q (by omega)).byte hi ho ?_ hs) hn
  · unfold epsP at hx ⊢
    rw [epsL_en (hno i (List.mem_of_getElem? hi))]
    exact hx
  · rw [List.getElem?_take_of_lt (by omega)]
    exact hc
theorem lgs_more {P : List Ins} {s t : List UInt8} {n m : Int} {ok2 : Bool} (hno : ∀ i ∈ P, i.op ≠ 5) (h : LgS P s 0 n true) (h2 : LgS P (s ++ t) 0 m ok2) : ok2 = true ∧ n ≤ m := by
  rcases h with ⟨q, _⟩ | ⟨_, e, rfl, ⟨a, i, hr, hi, ho⟩, _⟩
  · cases q
  · have hm : Mt P (s ++ t) 0 e := ⟨a, i, rc_more hno hr, hi, ho⟩
    rcases h2 with ⟨_, _, q⟩ | ⟨rfl, e2, rfl, _, q⟩
    · exact absurd hm (q e)
    · exact ⟨rfl, by have := q e hm; omega⟩
theorem lgs_less {P : List Ins} {s : List UInt8} {e : Nat} {k : Int} {ok3 : Bool} (hno : ∀ i ∈ P, i.op ≠ 5) (hm : Mt P s 0 e) (h2 : LgS P (s.take e) 0 k ok3) : ok3 = true ∧ k = e := by
  obtain ⟨a, i, hr, hi, ho⟩ := hm
  have hm : Mt P (s.take e) 0 e := ⟨a, i, rc_less hno hr (Nat.le_refl _), hi, ho⟩
  rcases h2 with ⟨_, _, q⟩ | ⟨rfl, e2, rfl, h3, q⟩
  · exact absurd hm (q e)
  · have h4 := q e hm
    have h5 := h3.le (Nat.zero_le _)
    rw [List.length_take] at h5
    exact ⟨rfl, by omega⟩
theorem lgs_true {P : List Ins} {s : List UInt8} {n : Int} (h : LgS P s 0 n true) : ∃ e : Nat, n = e ∧ Mt P s 0 e ∧ e ≤ s.length := by
  rcases h with ⟨q, _⟩ | ⟨_, e, rfl, h1, _⟩
  · cases q
  · exact ⟨e, rfl, h1, h1.le (Nat.zero_le _)⟩
set_option maxRecDepth 100000 in
set_option maxHeartbeats 8000000 in
theorem behind_c {w : World} {p : Pg} (h : PgI w p) (s t : ByteArray) (hs : s.size ≤ 140737488355328) (ht : t.size ≤ 140737488355328) : Calls Try.prog 5 #[.agg #[.slice p.q p.L.length p.c, .int .i64 p.g, .int .i64 p.k, .bool p.f], .string s, .string t] w fun e w' => e = .returned (.bool true) ∧ Below w.heap.size w w' := by
  have B1 : Hid (Below w.heap.size w (w.alloc (.cells #[.slice p.q p.L.length p.c, .int .i64 p.g, .int .i64 p.k, .bool p.f] 24))) := (Below.refl _ _).alloc (Nat.le_refl _) _
  have X1 : Hid ((w.alloc (.cells #[.slice p.q p.L.length p.c, .int .i64 p.g, .int .i64 p.k, .bool p.f] 24)).heap[w.heap.size]? = some (.cells #[.slice p.q p.L.length p.c, .int .i64 p.g, .int .i64 p.k, .bool p.f] 24 (0, 0))) := alloc_new w _
  have H := hide h
  have HO := hide (fun (V : World) (hV : Below w.heap.size w V) => has_op (h.kept hV) 5)
  have hno := hide (fun (q : hasO p 5 = false) => hasO_no q)
  obtain ⟨rd, hrd⟩ : ∃ r, hasO p 5 = r := ⟨_, rfl⟩
  rw [hrd] at HO hno
  have HS := hide hs
  have HT := hide ht
  have g1 : ¬ 9223372036854775807 < s.size + t.size := by omega
  clear h hrd hs ht
  go_enter Try.func5, Try.ntmps5
  go_upto_region 1 with fail
  generalize (w.alloc (.cells #[.slice p.q p.L.length p.c, .int .i64 p.g, .int .i64 p.k, .bool p.f] 24)) = w1 at B1 X1 ⊢
  go_upto_region 2 with (go_at_call 7; (with_reducible refine (known_c _).mono ?_); rintro e w2 ⟨rfl, h2⟩; have B2 := hide (chain B1.out h2 (Nat.le_refl _)); have X2 := hide ((h2.block _ (lt_of_heap X1.out)).trans X1.out); clear h2)
  have p0 := cell_row X2.out (i := 0) rfl
  have p1 := cell_row X2.out (i := 1) rfl
  have p2 := cell_row X2.out (i := 2) rfl
  have p3 := cell_row X2.out (i := 3) rfl
  go_upto_region 3 with (go_at_call 10; (with_reducible refine (HO.out _ B2.out).mono ?_); rintro e w3 ⟨rfl, h2⟩; have B3 := hide (chain B2.out h2 (Nat.le_refl _)); have X3 := hide ((h2.block _ (lt_of_heap X2.out)).trans X2.out); clear h2)
  clear p0 p1 p2 p3
  have p0 := cell_row X3.out (i := 0) rfl
  have p1 := cell_row X3.out (i := 1) rfl
  have p2 := cell_row X3.out (i := 2) rfl
  have p3 := cell_row X3.out (i := 3) rfl
  by_cases hz : wrM p s.size 0 = 0
  case neg =>
    have LB := hide (longest_bad (H.out.kept B3.out) s 0 hz)
    obtain ⟨v, hv⟩ : ∃ v, wrM p s.size 0 = v := ⟨_, rfl⟩
    rw [hv] at LB hz
    have z0 : (v != 0) = true := by simp [hz]
    clear hv hz
    go_wp2_with (go_at_call 8; (with_reducible refine (LB.out).mono ?_); rintro e w4 ⟨rfl, h2⟩; have B4 := hide (chain B3.out h2 (Nat.le_refl _)); clear h2)
    go_ret
    exact ⟨rfl, B4.out⟩
  case pos =>
    obtain ⟨hr, hf, -, -⟩ := wrM_ok hz
    have LO : Hid (Calls Try.prog 8 #[.agg #[.slice p.q p.L.length p.c, .int .i64 p.g, .int .i64 p.k, .bool p.f], .string s, .int .i64 0] w3 fun e w' => (∃ n ok st, e = .returned (.tuple #[.int .i64 n, .bool ok, .int .i64 st, .int .i64 0]) ∧ LgS p.L (sL s) 0 n ok) ∧ Below w3.heap.size w3 w') := longest_ok (H.out.kept B3.out) s 0 hz (by have := HS.out; omega)
    have HZ := hide (fun n => wrM_0 (p := p) (n := n) (pl := 0) hr hf (Int.le_refl _) (by omega))
    clear hz hr hf
    cases rd with
    | true =>
      go_wp2_with (go_at_call 8; (with_reducible refine (LO.out).mono ?_); rintro e w4 ⟨⟨n, ok, st, rfl, h1⟩, h2⟩; have B4 := hide (chain B3.out h2 (Nat.le_refl _)); clear h1 h2)
      go_ret
      exact ⟨rfl, B4.out⟩
    | false =>
      go_upto_region 4 with (go_at_call 8; (with_reducible refine (LO.out).mono ?_); rintro e w4 ⟨⟨n, ok, st, rfl, h1⟩, h2⟩; have S4 := hide h1; have B4 := hide (chain B3.out h2 (Nat.le_refl _)); have X4 := hide ((h2.block _ (lt_of_heap X3.out)).trans X3.out); clear h1 h2)
      clear p0 p1 p2 p3 LO
      cases ok with
      | false =>
        go_wp2
        go_ret
        exact ⟨rfl, B4.out⟩
      | true =>
        have p0 := cell_row X4.out (i := 0) rfl
        have p1 := cell_row X4.out (i := 1) rfl
        have p2 := cell_row X4.out (i := 2) rfl
        have p3 := cell_row X4.out (i := 3) rfl
        have L2 := hide (longest_ok (H.out.kept B4.out) (s ++ t) 0 (HZ.out _) (by rw [size_app]; have := HS.out; have := HT.out; omega))
        have L2' : Hid (Calls Try.prog 8 #[.agg #[.slice p.q p.L.length p.c, .int .i64 p.g, .int .i64 p.k, .bool p.f], .string (s ++ t), .int .i64 0] w4 fun e w' => (∃ n ok st, e = .returned (.tuple #[.int .i64 n, .bool ok, .int .i64 st, .int .i64 0]) ∧ LgS p.L (sL s ++ sL t) 0 n ok) ∧ Below w4.heap.size w4 w') := hide (by rw [← sL_app]; exact L2.out)
        clear L2
        obtain ⟨e4, he4, hm4, hl4⟩ := lgs_true S4.out
        have HM := hide hm4
        rw [sL_len] at hl4
        subst he4
        go_upto_region 7 with (go_at_call 8; (with_reducible refine (L2'.out).mono ?_); rintro e w5 ⟨⟨n2, ok2, st2, rfl, h1⟩, h2⟩; have S5 := hide (lgs_more (by have := hno.out; simpa using this) S4.out h1); have B5 := hide (chain B4.out h2 (Nat.le_refl _)).drew; have X5 : Hid (w5.drew.heap[w.heap.size]? = some (.cells #[.slice p.q p.L.length p.c, .int .i64 p.g, .int .i64 p.k, .bool p.f] 24 (0, 0))) := hide ((h2.block _ (lt_of_heap X4.out)).trans X4.out); clear h1 h2)
        obtain ⟨hk2, hnm⟩ := S5.out
        subst hk2
        clear p0 p1 p2 p3 L2' S5 hm4
        have SZ : Hid (w5.drew.cell? ⟨w.heap.size, 0, none⟩ = some (.slice p.q p.L.length p.c) ∧ w5.drew.cell? ⟨w.heap.size, 1, none⟩ = some (.int .i64 p.g) ∧ w5.drew.cell? ⟨w.heap.size, 2, none⟩ = some (.int .i64 p.k) ∧ w5.drew.cell? ⟨w.heap.size, 3, none⟩ = some (.bool p.f)) := hide ⟨cell_row X5.out (i := 0) rfl, cell_row X5.out (i := 1) rfl, cell_row X5.out (i := 2) rfl, cell_row X5.out (i := 3) rfl⟩
        have i0 : (0 : Int) ≤ (e4 : Int) := by omega
        have i1 : (e4 : Int) ≤ (s.size : Int) := by omega
        have L3 : Hid (Calls Try.prog 8 #[.agg #[.slice p.q p.L.length p.c, .int .i64 p.g, .int .i64 p.k, .bool p.f], .string (s.extract 0 e4), .int .i64 0] w5.drew fun e w' => (∃ n ok st, e = .returned (.tuple #[.int .i64 n, .bool ok, .int .i64 st, .int .i64 0]) ∧ LgS p.L ((sL s).take e4) 0 n ok) ∧ Below w5.drew.heap.size w5.drew w') := hide (by rw [← sL_take]; exact longest_ok (H.out.kept B5.out) (s.extract 0 e4) 0 (HZ.out _) (by have := HS.out; rw [ByteArray.size_extract]; omega))
        refine wp_region_held_drew (S := fun w' => w'.cell? ⟨w.heap.size, 0, none⟩ = some (.slice p.q p.L.length p.c) ∧ w'.cell? ⟨w.heap.size, 1, none⟩ = some (.int .i64 p.g) ∧ w'.cell? ⟨w.heap.size, 2, none⟩ = some (.int .i64 p.k) ∧ w'.cell? ⟨w.heap.size, 3, none⟩ = some (.bool p.f)) (by kernel_rfl) SZ.out ?_
        intro hS0
        refine wpAnyH_take (i := 0) (oi := _) (v := ?_) rfl (by kernel_rfl) (by kernel_rfl) (by kernel_rfl) (fun _ _ _ h => h) (Or.inl ⟨by rfl, ?_⟩) (by assumption) ?_
        rotate_left
        · intro wz hSw
          obtain ⟨hs0, hs1, hs2, hs3⟩ := hSw
          go_simp
          try with_reducible rfl
        dsimp only [Act.put, List.getElem_toArray, List.getElem_cons_zero, List.getElem_cons_succ]
        simp only [List.setIfInBounds_toArray, List.set_cons_zero, List.set_cons_succ]
        refine wpAnyH_take (i := 1) (oi := _) (v := ?_) rfl (by kernel_rfl) (by kernel_rfl) (by kernel_rfl) (fun _ _ _ h => h) (Or.inl ⟨by rfl, ?_⟩) (by assumption) ?_
        rotate_left
        · intro wz hSw
          obtain ⟨hs0, hs1, hs2, hs3⟩ := hSw
          go_simp
          try with_reducible rfl
        dsimp only [Act.put, List.getElem_toArray, List.getElem_cons_zero, List.getElem_cons_succ]
        simp only [List.setIfInBounds_toArray, List.set_cons_zero, List.set_cons_succ]
        refine wpAnyH_take (i := 2) (oi := _) (v := ?_) rfl (by kernel_rfl) (by kernel_rfl) (by kernel_rfl) (fun _ _ _ h => h) (Or.inl ⟨by rfl, ?_⟩) (by assumption) ?_
        rotate_left
        · intro wz hSw
          obtain ⟨hs0, hs1, hs2, hs3⟩ := hSw
          go_simp
          try with_reducible rfl
        dsimp only [Act.put, List.getElem_toArray, List.getElem_cons_zero, List.getElem_cons_succ]
        simp only [List.setIfInBounds_toArray, List.set_cons_zero, List.set_cons_succ]
        refine wpAnyH_take (i := 3) (oi := _) (v := ?_) rfl (by kernel_rfl) (by kernel_rfl) (by kernel_rfl) (fun _ _ _ h => h) (Or.inl ⟨by rfl, ?_⟩) (by assumption) ?_
        rotate_left
        · intro wz hSw
          obtain ⟨hs0, hs1, hs2, hs3⟩ := hSw
          go_simp
          try with_reducible rfl
        dsimp only [Act.put, List.getElem_toArray, List.getElem_cons_zero, List.getElem_cons_succ]
        simp only [List.setIfInBounds_toArray, List.set_cons_zero, List.set_cons_succ]
        refine wpAnyH_ready (rs := [4]) (by kernel_rfl) (by simp) ?_
        refine AllReadyH.cons rfl (fun K hK => ?_) AllReadyH.nil
        go_simp
        go_at_call 8
        refine (L3.out).mono ?_
        rintro e w6 ⟨⟨n3, ok3, st3, rfl, h1⟩, h2⟩
        have S6 := hide h1
        have B6 := hide (chain B5.out h2 (Nat.le_refl _))
        have X6 := hide ((h2.block _ (by exact lt_of_heap X5.out)).trans X5.out)
        clear h1 h2
        have SX : Hid (w6.cell? ⟨w.heap.size, 0, none⟩ = some (.slice p.q p.L.length p.c) ∧ w6.cell? ⟨w.heap.size, 1, none⟩ = some (.int .i64 p.g) ∧ w6.cell? ⟨w.heap.size, 2, none⟩ = some (.int .i64 p.k) ∧ w6.cell? ⟨w.heap.size, 3, none⟩ = some (.bool p.f)) := hide ⟨cell_row X6.out (i := 0) rfl, cell_row X6.out (i := 1) rfl, cell_row X6.out (i := 2) rfl, cell_row X6.out (i := 3) rfl⟩
        refine hK.out _ _ SX.out (fun hSx => ?_)
        clear hK K hSx
        refine wpAnyH_take (i := 5) (oi := _) (v := ?_) rfl (by kernel_rfl) (by kernel_rfl) (by kernel_rfl) (fun _ _ _ h => h) (Or.inl ⟨by rfl, ?_⟩) (by assumption) ?_
        rotate_left
        · intro wz hSw
          obtain ⟨hs0, hs1, hs2, hs3⟩ := hSw
          go_simp
          try with_reducible rfl
        dsimp only [Act.put, List.getElem_toArray, List.getElem_cons_zero, List.getElem_cons_succ]
        simp only [List.setIfInBounds_toArray, List.set_cons_zero, List.set_cons_succ]
        refine wpAnyH_take (i := 6) (oi := _) (v := ?_) rfl (by kernel_rfl) (by kernel_rfl) (by kernel_rfl) (fun _ _ _ h => h) (Or.inl ⟨by rfl, ?_⟩) (by assumption) ?_
        rotate_left
        · intro wz hSw
          obtain ⟨hs0, hs1, hs2, hs3⟩ := hSw
          go_simp
          try with_reducible rfl
        dsimp only [Act.put, List.getElem_toArray, List.getElem_cons_zero, List.getElem_cons_succ]
        simp only [List.setIfInBounds_toArray, List.set_cons_zero, List.set_cons_succ]
        refine wpAnyH_take (i := 7) (oi := _) (v := ?_) rfl (by kernel_rfl) (by kernel_rfl) (by kernel_rfl) (fun _ _ _ h => h) (Or.inl ⟨by rfl, ?_⟩) (by assumption) ?_
        rotate_left
        · intro wz hSw
          obtain ⟨hs0, hs1, hs2, hs3⟩ := hSw
          go_simp
          try with_reducible rfl
        dsimp only [Act.put, List.getElem_toArray, List.getElem_cons_zero, List.getElem_cons_succ]
        simp only [List.setIfInBounds_toArray, List.set_cons_zero, List.set_cons_succ]
        refine wpAnyH_take (i := 8) (oi := _) (v := ?_) rfl (by kernel_rfl) (by kernel_rfl) (by kernel_rfl) (fun _ _ _ h => h) (Or.inl ⟨by rfl, ?_⟩) (by assumption) ?_
        rotate_left
        · intro wz hSw
          obtain ⟨hs0, hs1, hs2, hs3⟩ := hSw
          go_simp
          try with_reducible rfl
        dsimp only [Act.put, List.getElem_toArray, List.getElem_cons_zero, List.getElem_cons_succ]
        simp only [List.setIfInBounds_toArray, List.set_cons_zero, List.set_cons_succ]
        refine wpAnyH_take (i := 9) (oi := _) (v := ?_) rfl (by kernel_rfl) (by kernel_rfl) (by kernel_rfl) (fun _ _ _ h => h) (Or.inl ⟨by rfl, ?_⟩) (by assumption) ?_
        rotate_left
        · intro wz hSw
          obtain ⟨hs0, hs1, hs2, hs3⟩ := hSw
          go_simp
          try with_reducible rfl
        dsimp only [Act.put, List.getElem_toArray, List.getElem_cons_zero, List.getElem_cons_succ]
        simp only [List.setIfInBounds_toArray, List.set_cons_zero, List.set_cons_succ]
        refine wpAnyH_ready (rs := [10]) (by kernel_rfl) (by simp) ?_
        refine AllReadyH.cons rfl (fun K hK => ?_) AllReadyH.nil
        go_simp
        refine hK.out _ _ SX.out (fun hSx => ?_)
        clear hK K hSx
        refine wpAnyH_ready (rs := [11]) (by kernel_rfl) (by simp) ?_
        refine AllReadyH.cons rfl (fun K hK => ?_) AllReadyH.nil
        go_simp
        refine hK.out _ _ SX.out (fun hSx => ?_)
        clear hK K hSx
        refine wpAnyH_ready (rs := [12]) (by kernel_rfl) (by simp) ?_
        refine AllReadyH.cons rfl (fun K hK => ?_) AllReadyH.nil
        go_simp
        refine hK.out _ _ SX.out (fun hSx => ?_)
        clear hK K hSx
        refine wpAnyH_ready (rs := [13]) (by kernel_rfl) (by simp) ?_
        refine AllReadyH.cons rfl (fun K hK => ?_) AllReadyH.nil
        go_simp
        refine hK.out _ _ SX.out (fun hSx => ?_)
        clear hK K hSx
        refine wpAnyH_done (by kernel_rfl) ?_ _
        obtain ⟨hk3, hn3⟩ := lgs_less (by have := hno.out; simpa using this) HM.out S6.out
        subst hk3
        subst hn3
        have c1 : (e4 : Int) ≤ n2 := hnm
        clear S6 HM L3 SX SZ hS0
        go_wp2
        go_ret
        exact ⟨rfl, B6.out⟩
end Go.Proofs.Ytbghleihgcenmaa
