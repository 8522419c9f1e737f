/-
  A call on the law's pile, beside its list.
-/
import Derived.Test.YtobeiigmeflbjaaPlayW
namespace Go.Proofs.Ytobeiigmeflbjaa
open Go Go.RowKit Go.Shelf
attribute [local go_sem] ext_cell

set_option maxRecDepth 100000 in
set_option maxHeartbeats 4000000 in
theorem does_else {n wb pb ab : Nat} {v lv : Value} {L : List Th} {W : World} (h : HW n wb pb ab v lv L L W) (_hn : n ≤ W.heap.size) (_hl : (L).length ≤ 100000) (k m : Int) (s : ByteArray) (h1 : (k == 1) = false) (h2 : (k == 2) = false) (h3 : (k == 3) = false) (h4 : (k == 4) = false) (h5 : (k == 5) = false) :
    Calls Try.prog 13 #[.pointer (some ⟨wb, 0, none⟩), .int .i64 k, .int .i64 m, .string s] W fun e W' => e = .returned (.bool true) ∧ DP n wb pb ab v lv L W W' := by
  have H : Hid (HW n wb pb ab v lv L L W) := h
  clear h
  go_enter Try.func13, Try.ntmps13
  obtain ⟨qt, ct, hqt⟩ := ownsRow_shape H.out.o
  have t0 := H.out.c0
  have t1 := H.out.c1
  rw [hqt] at t1
  have tl : wb < W.heap.size := lt_of_heap H.out.hw
  have te : (((L).length : Int) == ((L).length : Int)) = true := by simp
  clear hqt
  go_upto_region 27 with fail
  refine wp_region_ext (by kernel_rfl) (by kernel_rfl) ?_
  repeat (go_big_quiet_step (first | exact rfl | (go_at_call 15; with_reducible exact ext_call_same (lenT (H.out.p.kept (ext_below _))))))
  refine wpQuiet_nil ?_
  intro w8 hw
  have B8 : Hid (Below W.heap.size W w8) := ext_of hw
  clear hw t0 t1 tl
  go_wp2
  go_ret
  exact ⟨by first | rfl | simp, H.out.same B8.out⟩

set_option maxRecDepth 100000 in
set_option maxHeartbeats 4000000 in
theorem does_push {n wb pb ab : Nat} {v lv : Value} {L : List Th} {W : World} (h : HW n wb pb ab v lv L L W) (hn : n ≤ W.heap.size) (hl : (L).length ≤ 100000) (m : Int) (s : ByteArray) :
    Calls Try.prog 13 #[.pointer (some ⟨wb, 0, none⟩), .int .i64 1, .int .i64 m, .string s] W fun e W' => e = .returned (.bool true) ∧ DP n wb pb ab v lv L W W' := by
  obtain ⟨ql, cl, rfl⟩ := ownsRow_shape h.o
  have H : Hid (HW n wb pb ab v (.slice ql L.length cl) L L W) := h
  have c0 := h.c0
  obtain ⟨t0', hi, hz0, hz1, hz2⟩ := info_parts size_T
  clear h
  go_enter Try.func13, Try.ntmps13
  go_upto_region 4 with (go_at_call 14; (with_reducible refine (pushT H.out.p hn (by omega) ((m, s) : Th)).mono ?_); rintro e W1 ⟨rfl, v1, hp1, hm1, hf1⟩; have H1 : Hid (HW n wb pb ab v1 (.slice ql L.length cl) (L ++ [((m, s) : Th)]) L W1) := H.out.pile hp1 hm1 hf1; have M1 : Hid (moved v v1 W.heap.size ∧ Fr (foot pb v) W W1) := ⟨hm1, hf1⟩; have hn1 : n ≤ W1.heap.size := Nat.le_trans hn hf1.size; clear hp1 hm1 hf1 c0)
  have c1 := H1.out.c1
  have lb := lt_of_heap H1.out.hw
  go_upto_region 27 with (at_builtin; refine wpList_append_own_at _ rfl _ _ 29 rfl n 28 t0' (.agg #[.int .i64 0, .string ⟨#[]⟩]) 2 24 und_T hi hz0 hz1 hz2 rfl (by decide) (.slice ql L.length cl) L.length (cellsT L) rfl (World.ownsRow.alloc H1.out.o (.cells #[.int .i64 m, .string s] 28)) ⟨W1.heap.size, 0, none⟩ 1 1 [.int .i64 m, .string s] rfl rfl (news2 _ _ _ _) (by simp [Value.oneCell']) (by unfold maxLen; omega) (by omega) (by simp; omega) ?_; intro v' W2 hown' hgrow _ hblk; obtain ⟨g6, cap6, rfl⟩ := ownsRow_some hown' (Nat.succ_pos _); have F2 : Hid (Fr (fun z => (Value.slice ql L.length cl).ownBlock = some z) W1 W2) := ((Fr.refl _ W1).alloc _).grown hgrow (fun z hz => hz); have H3 : Hid (HW n wb pb ab v1 (.slice (some ⟨g6, 0, none⟩) (L.length + 1) cap6) (L ++ [((m, s) : Th)]) (L ++ [((m, s) : Th)]) (W2.setCell ⟨wb, 1, none⟩ (.slice (some ⟨g6, 0, none⟩) (L.length + 1) cap6))) := H1.out.list (by rw [List.length_append, List.length_singleton, cellsT_append]; exact hown') (by rcases hblk with z | z; exact .inl z; exact .inr (.inr ⟨_, by simp, z⟩)) F2.out; have MV : Hid (moved (.slice ql L.length cl) (.slice (some ⟨g6, 0, none⟩) (L.length + 1) cap6) W1.heap.size) := (by rcases hblk with z | z; exact .inl z; exact .inr (.inr ⟨_, by simp, z⟩)); have hw2 := (F2.out.block _ (lt_of_heap H1.out.hw) (ownsRow_not H1.out.o H1.out.hw (by decide))).trans H1.out.hw; have d1 : W2.cell? ⟨wb, 1, none⟩ = some (.slice ql L.length cl) := cell_row hw2 (i := 1) rfl; have d2 := frz_row hw2 1; clear hown' hgrow hblk hw2 c1)
  have FF : Hid (Fr (wfoot wb pb v (.slice ql L.length cl)) W (W2.setCell ⟨wb, 1, none⟩ (.slice (some ⟨g6, 0, none⟩) (L.length + 1) cap6))) := (M1.out.2.mono (fun _ z => .inr (.inl z))).trans ((F2.out.mono (fun _ z => .inr (.inr z))).setCell (p := ⟨wb, 1, none⟩) (.inl rfl) _)
  generalize (W2.setCell ⟨wb, 1, none⟩ (.slice (some ⟨g6, 0, none⟩) (L.length + 1) cap6)) = W3 at H3 FF ⊢
  clear d1 d2
  obtain ⟨qt, ct, hqt⟩ := ownsRow_shape H3.out.o
  have t0 := H3.out.c0
  have t1 := H3.out.c1
  rw [hqt] at t1
  have tl : wb < W3.heap.size := lt_of_heap H3.out.hw
  have te : (((L ++ [((m, s) : Th)]).length : Int) == ((L ++ [((m, s) : Th)]).length : Int)) = true := by simp
  clear hqt
  go_upto_region 27 with fail
  refine wp_region_ext (by kernel_rfl) (by kernel_rfl) ?_
  repeat (go_big_quiet_step (first | exact rfl | (go_at_call 15; with_reducible exact ext_call_same (lenT (H3.out.p.kept (ext_below _))))))
  refine wpQuiet_nil ?_
  intro w8 hw
  have B8 : Hid (Below W3.heap.size W3 w8) := ext_of hw
  clear hw t0 t1 tl
  go_wp2
  go_ret
  exact ⟨by first | rfl | simp, DP.then ⟨v1, _, L ++ [((m, s) : Th)], H3.out, by simp, M1.out.1, moved_le MV.out M1.out.2.size, FF.out⟩ B8.out⟩

set_option maxRecDepth 100000 in
set_option maxHeartbeats 4000000 in
theorem does_pop {n wb pb ab : Nat} {v lv : Value} {L : List Th} {x : Th} {W : World} (h : HW n wb pb ab v lv (L ++ [x]) (L ++ [x]) W) (hn : n ≤ W.heap.size) (hl : ((L ++ [x])).length ≤ 100000) (m : Int) (s : ByteArray) :
    Calls Try.prog 13 #[.pointer (some ⟨wb, 0, none⟩), .int .i64 2, .int .i64 m, .string s] W fun e W' => e = .returned (.bool true) ∧ DP n wb pb ab v lv (L ++ [x]) W W' := by
  obtain ⟨g, cl, rfl⟩ := ownsRow_some h.o (by simp)
  have H : Hid (HW n wb pb ab v (.slice (some ⟨g, 0, none⟩) (L ++ [x]).length cl) (L ++ [x]) (L ++ [x]) W) := h
  have c0 := h.c0
  obtain ⟨t0', hi, hz0, hz1, hz2⟩ := info_parts size_T
  have hcl := (ownsRow_cap h.o).1
  rw [List.length_append, List.length_singleton] at hcl hl
  clear h
  go_enter Try.func13, Try.ntmps13
  go_upto_region 7 with (go_at_call 28; (with_reducible refine (popT H.out.p).mono ?_); rintro e W1 ⟨rfl, v1, hp1, hm1, hf1⟩; have H1 : Hid (HW n wb pb ab v1 (.slice (some ⟨g, 0, none⟩) (L ++ [x]).length cl) L (L ++ [x]) W1) := H.out.pile hp1 (.inl hm1) hf1; have M1 : Hid (moved v v1 W.heap.size ∧ Fr (foot pb v) W W1) := ⟨.inl hm1, hf1⟩; have hn1 : n ≤ W1.heap.size := Nat.le_trans hn hf1.size; clear hp1 hm1 hf1 c0)
  have H2 : Hid (HW n wb pb ab v1 (.slice (some ⟨g, 0, none⟩) (L ++ [x]).length cl) L (L ++ [x]) (W1.alloc (.cells #[.int .i64 x.1, .string x.2] 28))) := H1.out.kept ((Below.refl _ _).alloc (Nat.le_refl _) _)
  have EW2 : Hid (Below W1.heap.size W1 (W1.alloc (.cells #[.int .i64 x.1, .string x.2] 28))) := (Below.refl _ _).alloc (Nat.le_refl _) _
  have NW2 := alloc_new W1 (.cells #[.int .i64 x.1, .string x.2] 28)
  generalize (W1.alloc (.cells #[.int .i64 x.1, .string x.2] 28)) = W2 at H2 EW2 NW2 ⊢
  generalize W1.heap.size = b2 at NW2 ⊢
  go_upto_region 8 with (go_at_call 41; (with_reducible refine (last_c H2.out).mono ?_); rintro e W3 ⟨rfl, hb3⟩; have H3 : Hid (HW n wb pb ab v1 (.slice (some ⟨g, 0, none⟩) (L ++ [x]).length cl) L (L ++ [x]) W3) := H2.out.kept hb3; have N3 := (hb3.block _ (lt_of_heap NW2)).trans NW2; have B3 : Hid (Below W1.heap.size W1 W3) := chain EW2.out hb3 (Nat.le_refl _); clear hb3 NW2)
  have H4 : Hid (HW n wb pb ab v1 (.slice (some ⟨g, 0, none⟩) (L ++ [x]).length cl) L (L ++ [x]) (W3.alloc (.cells #[.int .i64 x.1, .string x.2] 28))) := H3.out.kept ((Below.refl _ _).alloc (Nat.le_refl _) _)
  have EW4 : Hid (Below W3.heap.size W3 (W3.alloc (.cells #[.int .i64 x.1, .string x.2] 28))) := (Below.refl _ _).alloc (Nat.le_refl _) _
  have NW4 := alloc_new W3 (.cells #[.int .i64 x.1, .string x.2] 28)
  generalize (W3.alloc (.cells #[.int .i64 x.1, .string x.2] 28)) = W4 at H4 EW4 NW4 ⊢
  generalize W3.heap.size = b4 at NW4 ⊢
  have N5 := (EW4.out.block _ (lt_of_heap N3)).trans N3
  have k0 : W4.cell? ⟨b2, 0, none⟩ = some (.int .i64 x.1) := cell_row N5 (i := 0) rfl
  have k1 : W4.cell? ⟨b2, 1, none⟩ = some (.string x.2) := cell_row N5 (i := 1) rfl
  have k2 : W4.cell? ⟨b4, 0, none⟩ = some (.int .i64 x.1) := cell_row NW4 (i := 0) rfl
  have k3 : W4.cell? ⟨b4, 1, none⟩ = some (.string x.2) := cell_row NW4 (i := 1) rfl
  have B4 : Hid (Below W1.heap.size W1 W4) := chain B3.out EW4.out (Nat.le_refl _)
  have hn4 : n ≤ W4.heap.size := Nat.le_trans hn1 B4.out.size
  have c1 := H4.out.c1
  rw [List.length_append, List.length_singleton] at c1
  have lb := lt_of_heap H4.out.hw
  have lg : g < W4.heap.size := (ownsRow_at H4.out.o (g := g) rfl).2.1
  have HG : Hid (∀ j u, (cellsT L)[j]? = some u → W4.drew.cell? ((⟨g, 0, none⟩ : Addr).add j) = some u) := fun j u hj => by
    rw [Addr.add_lit, Nat.zero_add]
    refine ownsRow_cell H4.out.o (?_ : (cellsT (L ++ [x]))[j]? = some u)
    rw [cellsT_append, List.getElem?_append_left ((List.getElem?_eq_some_iff.1 hj).1)]
    exact hj
  have i1 : (L.length : Int) ≤ (cl : Int) := by omega
  have i2 : (0 : Int) ≤ (L.length : Int) := by omega
  have i3 : (L.length : Int) ≤ 100000 := by omega
  have iw : IntKind.i64.wrap (L.length : Int) = (L.length : Int) := by rw [IntKind.wrap_i64]; omega
  clear N3 N5 NW4
  go_upto_region 11 with fail
  go_region_law (refine step_append_at rfl _ _ 29 rfl n 28 t0' (.agg #[.int .i64 0, .string ⟨#[]⟩]) 2 24 und_T hi hz0 hz1 hz2 rfl (by decide) (.slice none 0 0) 0 [] (by simp [Act.eval]) (World.ownsRow_nil _ _ _ _) ⟨g, 0, none⟩ L.length cl (cellsT L) (by simp [Act.eval, Act.put]) (by rw [cellsT_length]) HG.out (cellsT_one L) (by unfold maxLen; omega) (by omega) (by simpa using hn4) ?_; intro v' W6 hown' hgrow hblk; obtain ⟨q6, cap6, rfl⟩ := ownsRow_shape hown'; have F6 : Hid (Fr (fun z => (Value.slice (some ⟨g, 0, none⟩) (L ++ [x]).length cl).ownBlock = some z) W4 W6) := ((Fr.refl _ W4).drew).grown hgrow (fun z hz => by cases hz); have MV : Hid (moved (.slice (some ⟨g, 0, none⟩) (L ++ [x]).length cl) (.slice q6 (0 + L.length) cap6) W4.heap.size) := (by rcases hblk with z | z; exact .inr (.inl z); exact .inr (.inr ⟨_, by simp, z⟩)); have O6 : Hid (W6.ownsRow n 28 2 (.slice q6 (0 + L.length) cap6) (0 + L.length) ([] ++ cellsT L)) := hown'; have hw6 := (F6.out.block _ (lt_of_heap H4.out.hw) (ownsRow_not H4.out.o H4.out.hw (by decide))).trans H4.out.hw; have d1 : W6.cell? ⟨wb, 1, none⟩ = some (.slice (some ⟨g, 0, none⟩) (L ++ [x]).length cl) := cell_row hw6 (i := 1) rfl; have d2 := frz_row hw6 1; clear hown' hgrow hblk hw6 c1)
  all_goals
    have O7 := O6.out
    rw [Nat.zero_add, List.nil_append] at O7
    have MV7 := MV.out
    rw [Nat.zero_add] at MV7
    have H7 : Hid (HW n wb pb ab v1 (.slice q6 L.length cap6) L L (W6.setCell ⟨wb, 1, none⟩ (.slice q6 L.length cap6))) := H4.out.list O7 MV7 F6.out
    have FF : Hid (Fr (wfoot wb pb v (.slice (some ⟨g, 0, none⟩) (L ++ [x]).length cl)) W (W6.setCell ⟨wb, 1, none⟩ (.slice q6 L.length cap6))) := ((M1.out.2.mono (fun _ z => .inr (.inl z))).trans (Fr.of_below B4.out)).trans ((F6.out.mono (fun _ z => .inr (.inr z))).setCell (p := ⟨wb, 1, none⟩) (.inl rfl) _)
    have MVH : Hid (moved (.slice (some ⟨g, 0, none⟩) (L ++ [x]).length cl) (.slice q6 L.length cap6) W4.heap.size) := MV7
    clear O7 MV7
    go_upto_region 27 with fail
    generalize (W6.setCell ⟨wb, 1, none⟩ (.slice q6 L.length cap6)) = W7 at H7 FF ⊢
    clear d1 d2 k0 k1 k2 k3
    obtain ⟨qt, ct, hqt⟩ := ownsRow_shape H7.out.o
    have t0 := H7.out.c0
    have t1 := H7.out.c1
    rw [hqt] at t1
    have tl : wb < W7.heap.size := lt_of_heap H7.out.hw
    have te : (((L).length : Int) == ((L).length : Int)) = true := by simp
    clear hqt
    go_upto_region 27 with fail
    refine wp_region_ext (by kernel_rfl) (by kernel_rfl) ?_
    repeat (go_big_quiet_step (first | exact rfl | (go_at_call 15; with_reducible exact ext_call_same (lenT (H7.out.p.kept (ext_below _))))))
    refine wpQuiet_nil ?_
    intro w8 hw
    have B8 : Hid (Below W7.heap.size W7 w8) := ext_of hw
    clear hw t0 t1 tl
    go_wp2
    go_ret
    exact ⟨by first | rfl | simp, DP.then ⟨v1, _, L, H7.out, by simp; omega, M1.out.1, moved_le MVH.out (Nat.le_trans M1.out.2.size B4.out.size), FF.out⟩ B8.out⟩

set_option maxRecDepth 100000 in
set_option maxHeartbeats 4000000 in
theorem does_pop_none {n wb pb ab : Nat} {v lv : Value} {W : World} (h : HW n wb pb ab v lv ([] : List Th) ([] : List Th) W) (_hn : n ≤ W.heap.size) (_hl : (([] : List Th)).length ≤ 100000) (m : Int) (s : ByteArray) :
    Calls Try.prog 13 #[.pointer (some ⟨wb, 0, none⟩), .int .i64 2, .int .i64 m, .string s] W fun e W' => e = .returned (.bool true) ∧ DP n wb pb ab v lv ([] : List Th) W W' := by
  have H : Hid (HW n wb pb ab v lv [] [] W) := h
  have c0 := h.c0
  clear h
  go_enter Try.func13, Try.ntmps13
  go_upto_region 7 with (go_at_call 28; (with_reducible refine (popT_none H.out.p).mono ?_); rintro e W1 ⟨rfl, hb1⟩; have H1 : Hid (HW n wb pb ab v lv [] [] W1) := H.out.kept hb1; have B1 : Hid (Below W.heap.size W W1) := hb1; clear hb1 c0)
  have H2 : Hid (HW n wb pb ab v lv [] [] (W1.alloc (.cells #[.int .i64 0, .string ⟨#[]⟩] 28))) := H1.out.kept ((Below.refl _ _).alloc (Nat.le_refl _) _)
  have EW2 : Hid (Below W1.heap.size W1 (W1.alloc (.cells #[.int .i64 0, .string ⟨#[]⟩] 28))) := (Below.refl _ _).alloc (Nat.le_refl _) _
  have NW2 := alloc_new W1 (.cells #[.int .i64 0, .string ⟨#[]⟩] 28)
  generalize (W1.alloc (.cells #[.int .i64 0, .string ⟨#[]⟩] 28)) = W2 at H2 EW2 NW2 ⊢
  generalize W1.heap.size = b2 at NW2 ⊢
  go_upto_region 8 with (go_at_call 41; (with_reducible refine (last_none H2.out).mono ?_); rintro e W3 ⟨rfl, hb3⟩; have H3 : Hid (HW n wb pb ab v lv [] [] W3) := H2.out.kept hb3; have N3 := (hb3.block _ (lt_of_heap NW2)).trans NW2; have B3 : Hid (Below W.heap.size W W3) := chain (chain B1.out EW2.out (Nat.le_refl _)) hb3 (Nat.le_refl _); clear hb3 NW2)
  have H4 : Hid (HW n wb pb ab v lv [] [] (W3.alloc (.cells #[.int .i64 0, .string ⟨#[]⟩] 28))) := H3.out.kept ((Below.refl _ _).alloc (Nat.le_refl _) _)
  have EW4 : Hid (Below W3.heap.size W3 (W3.alloc (.cells #[.int .i64 0, .string ⟨#[]⟩] 28))) := (Below.refl _ _).alloc (Nat.le_refl _) _
  have NW4 := alloc_new W3 (.cells #[.int .i64 0, .string ⟨#[]⟩] 28)
  generalize (W3.alloc (.cells #[.int .i64 0, .string ⟨#[]⟩] 28)) = W4 at H4 EW4 NW4 ⊢
  generalize W3.heap.size = b4 at NW4 ⊢
  have N5 := (EW4.out.block _ (lt_of_heap N3)).trans N3
  have k0 : W4.cell? ⟨b2, 0, none⟩ = some (.int .i64 0) := cell_row N5 (i := 0) rfl
  have k1 : W4.cell? ⟨b2, 1, none⟩ = some (.string ⟨#[]⟩) := cell_row N5 (i := 1) rfl
  have k2 : W4.cell? ⟨b4, 0, none⟩ = some (.int .i64 0) := cell_row NW4 (i := 0) rfl
  have k3 : W4.cell? ⟨b4, 1, none⟩ = some (.string ⟨#[]⟩) := cell_row NW4 (i := 1) rfl
  have B4 : Hid (Below W.heap.size W W4) := chain B3.out EW4.out (Nat.le_refl _)
  clear N3 N5 NW4
  obtain ⟨qt, ct, hqt⟩ := ownsRow_shape H4.out.o
  have t0 := H4.out.c0
  have t1 := H4.out.c1
  rw [hqt] at t1
  have tl : wb < W4.heap.size := lt_of_heap H4.out.hw
  have te : ((0 : Int) == 0) = true := by simp
  clear hqt
  go_upto_region 27 with fail
  refine wp_region_ext (by kernel_rfl) (by kernel_rfl) ?_
  repeat (go_big_quiet_step (first | exact rfl | (go_at_call 15; with_reducible exact ext_call_same (lenT (H4.out.p.kept (ext_below _))))))
  refine wpQuiet_nil ?_
  intro w8 hw
  have B8 : Hid (Below W4.heap.size W4 w8) := ext_of hw
  clear hw t0 t1 tl
  go_wp2
  go_ret
  exact ⟨by first | rfl | simp, (H.out.same B4.out).then B8.out⟩

set_option maxRecDepth 100000 in
set_option maxHeartbeats 4000000 in
theorem does_top_none {n wb pb ab : Nat} {v lv : Value} {W : World} (h : HW n wb pb ab v lv ([] : List Th) ([] : List Th) W) (_hn : n ≤ W.heap.size) (_hl : (([] : List Th)).length ≤ 100000) (m : Int) (s : ByteArray) :
    Calls Try.prog 13 #[.pointer (some ⟨wb, 0, none⟩), .int .i64 3, .int .i64 m, .string s] W fun e W' => e = .returned (.bool true) ∧ DP n wb pb ab v lv ([] : List Th) W W' := by
  have H : Hid (HW n wb pb ab v lv [] [] W) := h
  have c0 := h.c0
  clear h
  go_enter Try.func13, Try.ntmps13
  go_upto_region 14 with (go_at_call 42; (with_reducible refine (topT_none H.out.p).mono ?_); rintro e W1 ⟨rfl, hb1⟩; have H1 : Hid (HW n wb pb ab v lv [] [] W1) := H.out.kept hb1; have B1 : Hid (Below W.heap.size W W1) := hb1; clear hb1 c0)
  have H2 : Hid (HW n wb pb ab v lv [] [] (W1.alloc (.cells #[.int .i64 0, .string ⟨#[]⟩] 28))) := H1.out.kept ((Below.refl _ _).alloc (Nat.le_refl _) _)
  have EW2 : Hid (Below W1.heap.size W1 (W1.alloc (.cells #[.int .i64 0, .string ⟨#[]⟩] 28))) := (Below.refl _ _).alloc (Nat.le_refl _) _
  have NW2 := alloc_new W1 (.cells #[.int .i64 0, .string ⟨#[]⟩] 28)
  generalize (W1.alloc (.cells #[.int .i64 0, .string ⟨#[]⟩] 28)) = W2 at H2 EW2 NW2 ⊢
  generalize W1.heap.size = b2 at NW2 ⊢
  go_upto_region 15 with (go_at_call 41; (with_reducible refine (last_none H2.out).mono ?_); rintro e W3 ⟨rfl, hb3⟩; have H3 : Hid (HW n wb pb ab v lv [] [] W3) := H2.out.kept hb3; have N3 := (hb3.block _ (lt_of_heap NW2)).trans NW2; have B3 : Hid (Below W.heap.size W W3) := chain (chain B1.out EW2.out (Nat.le_refl _)) hb3 (Nat.le_refl _); clear hb3 NW2)
  have H4 : Hid (HW n wb pb ab v lv [] [] (W3.alloc (.cells #[.int .i64 0, .string ⟨#[]⟩] 28))) := H3.out.kept ((Below.refl _ _).alloc (Nat.le_refl _) _)
  have EW4 : Hid (Below W3.heap.size W3 (W3.alloc (.cells #[.int .i64 0, .string ⟨#[]⟩] 28))) := (Below.refl _ _).alloc (Nat.le_refl _) _
  have NW4 := alloc_new W3 (.cells #[.int .i64 0, .string ⟨#[]⟩] 28)
  generalize (W3.alloc (.cells #[.int .i64 0, .string ⟨#[]⟩] 28)) = W4 at H4 EW4 NW4 ⊢
  generalize W3.heap.size = b4 at NW4 ⊢
  have N5 := (EW4.out.block _ (lt_of_heap N3)).trans N3
  have k0 : W4.cell? ⟨b2, 0, none⟩ = some (.int .i64 0) := cell_row N5 (i := 0) rfl
  have k1 : W4.cell? ⟨b2, 1, none⟩ = some (.string ⟨#[]⟩) := cell_row N5 (i := 1) rfl
  have k2 : W4.cell? ⟨b4, 0, none⟩ = some (.int .i64 0) := cell_row NW4 (i := 0) rfl
  have k3 : W4.cell? ⟨b4, 1, none⟩ = some (.string ⟨#[]⟩) := cell_row NW4 (i := 1) rfl
  have B4 : Hid (Below W.heap.size W W4) := chain B3.out EW4.out (Nat.le_refl _)
  clear N3 N5 NW4
  go_wp2
  go_ret
  exact ⟨by first | rfl | simp, H.out.same B4.out⟩

set_option maxRecDepth 100000 in
set_option maxHeartbeats 4000000 in
theorem does_top {n wb pb ab : Nat} {v lv : Value} {L : List Th} {x : Th} {W : World} (h : HW n wb pb ab v lv (L ++ [x]) (L ++ [x]) W) (_hn : n ≤ W.heap.size) (_hl : ((L ++ [x])).length ≤ 100000) (m : Int) (s : ByteArray) :
    Calls Try.prog 13 #[.pointer (some ⟨wb, 0, none⟩), .int .i64 3, .int .i64 m, .string s] W fun e W' => e = .returned (.bool true) ∧ DP n wb pb ab v lv (L ++ [x]) W W' := by
  have H : Hid (HW n wb pb ab v lv (L ++ [x]) (L ++ [x]) W) := h
  have c0 := h.c0
  clear h
  go_enter Try.func13, Try.ntmps13
  go_upto_region 14 with (go_at_call 42; (with_reducible refine (topT H.out.p).mono ?_); rintro e W1 ⟨rfl, hb1⟩; have H1 : Hid (HW n wb pb ab v lv (L ++ [x]) (L ++ [x]) W1) := H.out.kept hb1; have B1 : Hid (Below W.heap.size W W1) := hb1; clear hb1 c0)
  have H2 : Hid (HW n wb pb ab v lv (L ++ [x]) (L ++ [x]) (W1.alloc (.cells #[.int .i64 x.1, .string x.2] 28))) := H1.out.kept ((Below.refl _ _).alloc (Nat.le_refl _) _)
  have EW2 : Hid (Below W1.heap.size W1 (W1.alloc (.cells #[.int .i64 x.1, .string x.2] 28))) := (Below.refl _ _).alloc (Nat.le_refl _) _
  have NW2 := alloc_new W1 (.cells #[.int .i64 x.1, .string x.2] 28)
  generalize (W1.alloc (.cells #[.int .i64 x.1, .string x.2] 28)) = W2 at H2 EW2 NW2 ⊢
  generalize W1.heap.size = b2 at NW2 ⊢
  go_upto_region 15 with (go_at_call 41; (with_reducible refine (last_c H2.out).mono ?_); rintro e W3 ⟨rfl, hb3⟩; have H3 : Hid (HW n wb pb ab v lv (L ++ [x]) (L ++ [x]) W3) := H2.out.kept hb3; have N3 := (hb3.block _ (lt_of_heap NW2)).trans NW2; have B3 : Hid (Below W.heap.size W W3) := chain (chain B1.out EW2.out (Nat.le_refl _)) hb3 (Nat.le_refl _); clear hb3 NW2)
  have H4 : Hid (HW n wb pb ab v lv (L ++ [x]) (L ++ [x]) (W3.alloc (.cells #[.int .i64 x.1, .string x.2] 28))) := H3.out.kept ((Below.refl _ _).alloc (Nat.le_refl _) _)
  have EW4 : Hid (Below W3.heap.size W3 (W3.alloc (.cells #[.int .i64 x.1, .string x.2] 28))) := (Below.refl _ _).alloc (Nat.le_refl _) _
  have NW4 := alloc_new W3 (.cells #[.int .i64 x.1, .string x.2] 28)
  generalize (W3.alloc (.cells #[.int .i64 x.1, .string x.2] 28)) = W4 at H4 EW4 NW4 ⊢
  generalize W3.heap.size = b4 at NW4 ⊢
  have N5 := (EW4.out.block _ (lt_of_heap N3)).trans N3
  have k0 : W4.cell? ⟨b2, 0, none⟩ = some (.int .i64 x.1) := cell_row N5 (i := 0) rfl
  have k1 : W4.cell? ⟨b2, 1, none⟩ = some (.string x.2) := cell_row N5 (i := 1) rfl
  have k2 : W4.cell? ⟨b4, 0, none⟩ = some (.int .i64 x.1) := cell_row NW4 (i := 0) rfl
  have k3 : W4.cell? ⟨b4, 1, none⟩ = some (.string x.2) := cell_row NW4 (i := 1) rfl
  have B4 : Hid (Below W.heap.size W W4) := chain B3.out EW4.out (Nat.le_refl _)
  clear N3 N5 NW4
  go_wp2
  go_ret
  exact ⟨by first | rfl | simp, H.out.same B4.out⟩

set_option maxRecDepth 100000 in
set_option maxHeartbeats 4000000 in
theorem does_at {n wb pb ab : Nat} {v lv : Value} {L : List Th} {W : World} (h : HW n wb pb ab v lv L L W) (_hn : n ≤ W.heap.size) (_hl : (L).length ≤ 100000) {j : Nat} {x : Th} (hj : L[j]? = some x) (s : ByteArray) :
    Calls Try.prog 13 #[.pointer (some ⟨wb, 0, none⟩), .int .i64 4, .int .i64 (j : Int), .string s] W fun e W' => e = .returned (.bool true) ∧ DP n wb pb ab v lv L W W' := by
  have hjl : j < L.length := (List.getElem?_eq_some_iff.1 hj).1
  obtain ⟨g, cl, rfl⟩ := ownsRow_some h.o (by omega)
  have H : Hid (HW n wb pb ab v (.slice (some ⟨g, 0, none⟩) L.length cl) L L W) := h
  have HJ : Hid (L[j]? = some x) := hj
  have c0 := h.c0
  clear h hj
  go_enter Try.func13, Try.ntmps13
  go_upto_region 18 with (go_at_call 29; (with_reducible refine (atT H.out.p HJ.out).mono ?_); rintro e W1 ⟨rfl, hb1⟩; have H1 : Hid (HW n wb pb ab v (.slice (some ⟨g, 0, none⟩) L.length cl) L L W1) := H.out.kept hb1; have B1 : Hid (Below W.heap.size W W1) := hb1; clear hb1 c0)
  have H2 : Hid (HW n wb pb ab v (.slice (some ⟨g, 0, none⟩) L.length cl) L L (W1.alloc (.cells #[.int .i64 x.1, .string x.2] 28))) := H1.out.kept ((Below.refl _ _).alloc (Nat.le_refl _) _)
  have EW2 : Hid (Below W1.heap.size W1 (W1.alloc (.cells #[.int .i64 x.1, .string x.2] 28))) := (Below.refl _ _).alloc (Nat.le_refl _) _
  have NW2 := alloc_new W1 (.cells #[.int .i64 x.1, .string x.2] 28)
  generalize (W1.alloc (.cells #[.int .i64 x.1, .string x.2] 28)) = W2 at H2 EW2 NW2 ⊢
  generalize W1.heap.size = b2 at NW2 ⊢
  have k0 : W2.cell? ⟨b2, 0, none⟩ = some (.int .i64 x.1) := cell_row NW2 (i := 0) rfl
  have k1 : W2.cell? ⟨b2, 1, none⟩ = some (.string x.2) := cell_row NW2 (i := 1) rfl
  have B2 : Hid (Below W.heap.size W W2) := chain B1.out EW2.out (Nat.le_refl _)
  have c1 := H2.out.c1
  have k2 : W2.cell? ⟨g, j * 2, none⟩ = some (.int .i64 x.1) := ownsRow_cell H2.out.o (cellsT_get HJ.out).1
  have k3 : W2.cell? ⟨g, j * 2 + 1, none⟩ = some (.string x.2) := ownsRow_cell H2.out.o (cellsT_get HJ.out).2
  have l1 : wb < W2.heap.size := lt_of_heap H2.out.hw
  have l2 : b2 < W2.heap.size := lt_of_heap NW2
  have l3 : g < W2.heap.size := (ownsRow_at H2.out.o (g := g) rfl).2.1
  have i1 : (j : Int) < (L.length : Int) := by omega
  have i2 : ¬ (j : Int) < 0 := by omega
  have i3 : ¬ (L.length : Int) ≤ (j : Int) := by omega
  have i4 : (0 : Int) ≤ (j : Int) := by omega
  clear NW2
  go_upto_region 20 with fail
  refine wp_region_ext (by kernel_rfl) (by kernel_rfl) ?_
  repeat (go_big_quiet_step (first | exact rfl))
  refine wpQuiet_nil ?_
  intro w8 hw
  have B8 : Hid (Below W2.heap.size W2 w8) := ext_of hw
  clear hw c1 k0 k1 k2 k3
  go_wp2
  go_ret
  exact ⟨by first | rfl | simp, (H.out.same B2.out).then B8.out⟩

set_option maxRecDepth 100000 in
set_option maxHeartbeats 4000000 in
theorem does_at_out {n wb pb ab : Nat} {v lv : Value} {L : List Th} {W : World} (h : HW n wb pb ab v lv L L W) (_hn : n ≤ W.heap.size) (_hl : (L).length ≤ 100000) {m : Int} (hm : m < 0 ∨ (L.length : Int) ≤ m) (s : ByteArray) :
    Calls Try.prog 13 #[.pointer (some ⟨wb, 0, none⟩), .int .i64 4, .int .i64 m, .string s] W fun e W' => e = .returned (.bool true) ∧ DP n wb pb ab v lv L W W' := by
  obtain ⟨ql, cl, rfl⟩ := ownsRow_shape h.o
  have H : Hid (HW n wb pb ab v (.slice ql L.length cl) L L W) := h
  have HM : Hid (m < 0 ∨ (L.length : Int) ≤ m) := hm
  have c0 := h.c0
  clear h
  go_enter Try.func13, Try.ntmps13
  go_upto_region 18 with (go_at_call 29; (with_reducible refine (atT_bad H.out.p HM.out).mono ?_); rintro e W1 ⟨rfl, hb1⟩; have H1 : Hid (HW n wb pb ab v (.slice ql L.length cl) L L W1) := H.out.kept hb1; have B1 : Hid (Below W.heap.size W W1) := hb1; clear hb1 c0)
  have H2 : Hid (HW n wb pb ab v (.slice ql L.length cl) L L (W1.alloc (.cells #[.int .i64 0, .string ⟨#[]⟩] 28))) := H1.out.kept ((Below.refl _ _).alloc (Nat.le_refl _) _)
  have EW2 : Hid (Below W1.heap.size W1 (W1.alloc (.cells #[.int .i64 0, .string ⟨#[]⟩] 28))) := (Below.refl _ _).alloc (Nat.le_refl _) _
  have NW2 := alloc_new W1 (.cells #[.int .i64 0, .string ⟨#[]⟩] 28)
  generalize (W1.alloc (.cells #[.int .i64 0, .string ⟨#[]⟩] 28)) = W2 at H2 EW2 NW2 ⊢
  generalize W1.heap.size = b2 at NW2 ⊢
  have k0 : W2.cell? ⟨b2, 0, none⟩ = some (.int .i64 0) := cell_row NW2 (i := 0) rfl
  have k1 : W2.cell? ⟨b2, 1, none⟩ = some (.string ⟨#[]⟩) := cell_row NW2 (i := 1) rfl
  have B2 : Hid (Below W.heap.size W W2) := chain B1.out EW2.out (Nat.le_refl _)
  have c1 := H2.out.c1
  clear NW2
  rcases (show m < 0 ∨ (¬ m < 0 ∧ (L.length : Int) ≤ m) by omega) with hm0 | ⟨hm0, hm1⟩
  · clear hm
    go_wp2
    go_ret
    exact ⟨by first | rfl | simp, H.out.same B2.out⟩
  · clear hm
    go_wp2
    go_ret
    exact ⟨by first | rfl | simp, H.out.same B2.out⟩

set_option maxRecDepth 100000 in
set_option maxHeartbeats 4000000 in
theorem does_cut_out {n wb pb ab : Nat} {v lv : Value} {L : List Th} {W : World} (h : HW n wb pb ab v lv L L W) (_hn : n ≤ W.heap.size) (_hl : (L).length ≤ 100000) {m : Int} (hm : m < 0 ∨ (L.length : Int) < m) (s : ByteArray) :
    Calls Try.prog 13 #[.pointer (some ⟨wb, 0, none⟩), .int .i64 5, .int .i64 m, .string s] W fun e W' => e = .returned (.bool true) ∧ DP n wb pb ab v lv L W W' := by
  obtain ⟨ql, cl, rfl⟩ := ownsRow_shape h.o
  have H : Hid (HW n wb pb ab v (.slice ql L.length cl) L L W) := h
  have HM : Hid (m < 0 ∨ (L.length : Int) < m) := hm
  have c0 := h.c0
  have c1 := h.c1
  have l1 : wb < W.heap.size := lt_of_heap h.hw
  have te : ((L.length : Int) == (L.length : Int)) = true := by simp
  clear h
  go_enter Try.func13, Try.ntmps13
  rcases (show m < 0 ∨ (¬ m < 0 ∧ (L.length : Int) < m) by omega) with hm0 | ⟨hm0, hm1⟩
  all_goals
    clear hm
    go_upto_region 24 with (go_at_call 30; (with_reducible refine (cutT_bad H.out.p HM.out).mono ?_); rintro e w9 ⟨rfl, h9⟩; subst w9)
    refine wp_region_ext (by kernel_rfl) (by kernel_rfl) ?_
    repeat (go_big_quiet_step (first | exact rfl | (go_at_call 15; with_reducible exact ext_call_same (lenT (H.out.p.kept (ext_below _))))))
    refine wpQuiet_nil ?_
    intro w8 hw
    have B8 : Hid (Below W.heap.size W w8) := ext_of hw
    clear hw
    go_wp2
    go_ret
    exact ⟨by first | rfl | simp, H.out.same B8.out⟩

set_option maxRecDepth 100000 in
set_option maxHeartbeats 4000000 in
theorem does_cut {n wb pb ab : Nat} {v lv : Value} {L : List Th} {W : World} (h : HW n wb pb ab v lv L L W) (hn : n ≤ W.heap.size) (hl : (L).length ≤ 100000) {c : Nat} (hc : c ≤ L.length) (s : ByteArray) :
    Calls Try.prog 13 #[.pointer (some ⟨wb, 0, none⟩), .int .i64 5, .int .i64 (c : Int), .string s] W fun e W' => e = .returned (.bool true) ∧ DP n wb pb ab v lv L W W' := by
  have hlc : (L.take c).length = c := by simp; omega
  have LN : Hid (∀ {W' : World} {v1 : Value}, PT n W' pb v1 (L.take c) → Calls Try.prog 15 #[.pointer (some ⟨pb, 0, none⟩)] W' fun e w' => e = .returned (.int .i64 (c : Int)) ∧ w' = W') := fun {W' v1} h => by
    have := lenT h
    rw [hlc] at this
    exact this
  have H : Hid (HW n wb pb ab v lv L L W) := h
  have c0 := h.c0
  obtain ⟨t0', hi, hz0, hz1, hz2⟩ := info_parts size_T
  have i1 : ¬ (c : Int) < 0 := by omega
  have i2 : ¬ (L.length : Int) < (c : Int) := by omega
  have i3 : (0 : Int) ≤ (c : Int) := by omega
  have te : ((c : Int) == (c : Int)) = true := by simp
  rcases h.o.2 with ⟨rfl, hl0⟩ | ⟨g, cl, cur, rfl, hlo, hg, hcap, hmx, hsz, htk⟩
  · obtain rfl : c = 0 := by omega
    have hLn : L = [] := List.eq_nil_of_length_eq_zero hl0
    subst hLn
    have CC : Hid (Calls Try.prog 30 #[.pointer (some ⟨pb, 0, none⟩), .int .i64 0] W fun e w' => e = .returned (.int .i64 0) ∧ ∃ v', PT n w' pb v' [] ∧ v'.ownBlock = v.ownBlock ∧ Fr (foot pb v) W w') := cutT H.out.p (n := 0) (Nat.zero_le _)
    have LN0 : Hid (∀ {W' : World} {v1 : Value}, PT n W' pb v1 [] → Calls Try.prog 15 #[.pointer (some ⟨pb, 0, none⟩)] W' fun e w' => e = .returned (.int .i64 0) ∧ w' = W') := fun {W' v1} h => lenT h
    clear h LN
    go_enter Try.func13, Try.ntmps13
    go_upto_region 23 with (go_at_call 30; (with_reducible refine CC.out.mono ?_); rintro e W1 ⟨rfl, v1, hp1, hm1, hf1⟩; have H1 : Hid (HW n wb pb ab v1 (.slice none 0 0) [] [] W1) := H.out.pile hp1 (.inl hm1) hf1; have M1 : Hid (moved v v1 W.heap.size ∧ Fr (foot pb v) W W1) := ⟨.inl hm1, hf1⟩; clear hp1 hm1 hf1 c0)
    have c1 := H1.out.c1
    have f1 := frz_row H1.out.hw 1
    have H3 : Hid (HW n wb pb ab v1 (.slice none 0 0) [] [] (W1.setCell ⟨wb, 1, none⟩ (.slice none 0 0))) := H1.out.list (World.ownsRow_nil _ _ _ _) (.inl rfl) (Fr.refl _ _)
    have FF : Hid (Fr (wfoot wb pb v (.slice none 0 0)) W (W1.setCell ⟨wb, 1, none⟩ (.slice none 0 0))) := (M1.out.2.mono (fun _ z => .inr (.inl z))).setCell (p := ⟨wb, 1, none⟩) (.inl rfl) _
    go_upto_region 26 with fail
    generalize (W1.setCell ⟨wb, 1, none⟩ (.slice none 0 0)) = W3 at H3 FF ⊢
    clear c1 f1
    have c3 := H3.out.c0
    have l3 : wb < W3.heap.size := lt_of_heap H3.out.hw
    go_wp2_with (go_at_call 15; (with_reducible refine (LN0.out H3.out.p).mono ?_); rintro e w9 ⟨rfl, h9⟩; subst w9)
    go_ret
    exact ⟨by first | rfl | simp, v1, _, [], H3.out, by simp, M1.out.1, .inl rfl, FF.out⟩
  · have hcl : c ≤ cl := by omega
    clear h hg hsz htk hlo
    go_enter Try.func13, Try.ntmps13
    go_upto_region 23 with (go_at_call 30; (with_reducible refine (cutT H.out.p hc).mono ?_); rintro e W1 ⟨rfl, v1, hp1, hm1, hf1⟩; have H1 : Hid (HW n wb pb ab v1 (.slice (some ⟨g, 0, none⟩) L.length cl) (L.take c) L W1) := H.out.pile hp1 (.inl hm1) hf1; have M1 : Hid (moved v v1 W.heap.size ∧ Fr (foot pb v) W W1) := ⟨.inl hm1, hf1⟩; have hn1 : n ≤ W1.heap.size := Nat.le_trans hn hf1.size; clear hp1 hm1 hf1 c0)
    have c1 := H1.out.c1
    have i4 : (c : Int) ≤ (cl : Int) := by omega
    have HG : Hid (∀ j u, (cellsT (L.take c))[j]? = some u → W1.cell? ((⟨g, 0, none⟩ : Addr).add j) = some u) := fun j u hj => by
      rw [Addr.add_lit, Nat.zero_add]
      rw [cellsT_take] at hj
      refine ownsRow_cell H1.out.o (?_ : (cellsT L)[j]? = some u)
      rw [List.getElem?_take] at hj
      split at hj
      · exact hj
      · cases hj
    go_upto_region 26 with (at_builtin; refine wpList_append_own_at _ rfl _ _ 29 rfl n 28 t0' (.agg #[.int .i64 0, .string ⟨#[]⟩]) 2 24 und_T hi hz0 hz1 hz2 rfl (by decide) (.slice none 0 0) 0 [] rfl (World.ownsRow_nil _ _ _ _) ⟨g, 0, none⟩ c cl (cellsT (L.take c)) rfl (by rw [cellsT_length, hlc]) HG.out (cellsT_one _) (by unfold maxLen; omega) (by omega) hn1 ?_; intro v' W6 hown' hgrow _ hblk; obtain ⟨q6, cap6, rfl⟩ := ownsRow_shape hown'; have F6 : Hid (Fr (fun z => (Value.slice (some ⟨g, 0, none⟩) L.length cl).ownBlock = some z) W1 W6) := (Fr.refl _ W1).grown hgrow (fun z hz => by cases hz); have MV : Hid (moved (.slice (some ⟨g, 0, none⟩) L.length cl) (.slice q6 (0 + c) cap6) W1.heap.size) := (by rcases hblk with z | z; exact .inr (.inl z); exact .inr (.inr ⟨_, by simp, z⟩)); have O6 : Hid (W6.ownsRow n 28 2 (.slice q6 (0 + c) cap6) (0 + c) ([] ++ cellsT (L.take c))) := hown'; have hw6 := (F6.out.block _ (lt_of_heap H1.out.hw) (ownsRow_not H1.out.o H1.out.hw (by decide))).trans H1.out.hw; have d1 : W6.cell? ⟨wb, 1, none⟩ = some (.slice (some ⟨g, 0, none⟩) L.length cl) := cell_row hw6 (i := 1) rfl; have d2 := frz_row hw6 1; clear hown' hgrow hblk hw6 c1)
    have O7 := O6.out
    rw [Nat.zero_add, List.nil_append] at O7
    have MV7 := MV.out
    rw [Nat.zero_add] at MV7
    have H3 : Hid (HW n wb pb ab v1 (.slice q6 c cap6) (L.take c) (L.take c) (W6.setCell ⟨wb, 1, none⟩ (.slice q6 c cap6))) := H1.out.list (by rw [hlc]; exact O7) MV7 F6.out
    have FF : Hid (Fr (wfoot wb pb v (.slice (some ⟨g, 0, none⟩) L.length cl)) W (W6.setCell ⟨wb, 1, none⟩ (.slice q6 c cap6))) := (M1.out.2.mono (fun _ z => .inr (.inl z))).trans ((F6.out.mono (fun _ z => .inr (.inr z))).setCell (p := ⟨wb, 1, none⟩) (.inl rfl) _)
    have MVH : Hid (moved (.slice (some ⟨g, 0, none⟩) L.length cl) (.slice q6 c cap6) W1.heap.size) := MV7
    clear O7 MV7
    generalize (W6.setCell ⟨wb, 1, none⟩ (.slice q6 c cap6)) = W3 at H3 FF ⊢
    clear d1 d2
    have c3 := H3.out.c0
    go_wp2_with (go_at_call 15; (with_reducible refine (LN.out H3.out.p).mono ?_); rintro e w9 ⟨rfl, h9⟩; subst w9)
    go_ret
    exact ⟨by first | rfl | simp, v1, _, L.take c, H3.out, by simp; omega, M1.out.1, moved_le MVH.out M1.out.2.size, FF.out⟩

/-- Whatever the kind. -/
theorem does_c {n wb pb ab : Nat} {v lv : Value} {L : List Th} {W : World} (h : HW n wb pb ab v lv L L W) (hn : n ≤ W.heap.size) (hl : L.length ≤ 100000) (k m : Int) (s : ByteArray) :
    Calls Try.prog 13 #[.pointer (some ⟨wb, 0, none⟩), .int .i64 k, .int .i64 m, .string s] W fun e W' => e = .returned (.bool true) ∧ DP n wb pb ab v lv L W W' := by
  by_cases h1 : k = 1
  · subst h1; exact does_push h hn hl m s
  by_cases h2 : k = 2
  · subst h2
    rcases List.eq_nil_or_concat L with rfl | ⟨M, x, rfl⟩
    · exact does_pop_none h hn hl m s
    · rw [List.concat_eq_append] at h hl ⊢
      exact does_pop h hn hl m s
  by_cases h3 : k = 3
  · subst h3
    rcases List.eq_nil_or_concat L with rfl | ⟨M, x, rfl⟩
    · exact does_top_none h hn hl m s
    · rw [List.concat_eq_append] at h hl ⊢
      exact does_top h hn hl m s
  by_cases h4 : k = 4
  · subst h4
    by_cases hm : 0 ≤ m ∧ m < (L.length : Int)
    · obtain ⟨j, rfl⟩ : ∃ j : Nat, m = j := ⟨m.toNat, by omega⟩
      exact does_at h hn hl (List.getElem?_eq_getElem (by omega)) s
    · exact does_at_out h hn hl (by omega) s
  by_cases h5 : k = 5
  · subst h5
    by_cases hm : 0 ≤ m ∧ m ≤ (L.length : Int)
    · obtain ⟨j, rfl⟩ : ∃ j : Nat, m = j := ⟨m.toNat, by omega⟩
      exact does_cut h hn hl (by omega) s
    · exact does_cut_out h hn hl (by omega) s
  exact does_else h hn hl k m s (by simpa using h1) (by simpa using h2) (by simpa using h3) (by simpa using h4) (by simpa using h5)
end Go.Proofs.Ytobeiigmeflbjaa
