/-
  The law's world: a pile beside its list; last.
-/
import Derived.Test.YtobeiigmeflbjaaRnd4
import Derived.Test.YtobeiigmeflbjaaArgL
namespace Go.Proofs.Ytobeiigmeflbjaa
open Go Go.RowKit Go.Shelf
attribute [local go_sem] ext_cell

/-- The world of the law: its struct in block wb, the pile of L, the list of M, the iterator's box ab. -/
structure HW (n wb pb ab : Nat) (v lv : Value) (L M : List Th) (W : World) : Prop where
  p : PT n W pb v L
  hw : W.heap[wb]? = some (.cells #[.pointer (some ⟨pb, 0, none⟩), lv, .func (.func 38) #[] #[.pointer (some ⟨ab, 0, none⟩)]] 33 (0, 0))
  lw : n ≤ wb
  o : W.ownsRow n 28 2 lv M.length (cellsT M)
  d : ∀ g, v.ownBlock = some g → lv.ownBlock ≠ some g
  ha : W.heap[ab]? = some (.cells #[.pointer (some ⟨pb, 0, none⟩)] 25 (0, 0))
/-- What a call may change. -/
def wfoot (wb pb : Nat) (v lv : Value) (k : Nat) : Prop := k = wb ∨ foot pb v k ∨ lv.ownBlock = some k
section
variable {n wb pb ab : Nat} {v v' lv lv' : Value} {L L' M M' : List Th} {W W' W1 : World}
theorem HW.lo (h : HW n wb pb ab v lv L M W) : ∀ k, wfoot wb pb v lv k → n ≤ k := fun k hk => by
  rcases hk with rfl | hk | hk
  · exact h.lw
  · exact h.p.foot k hk
  · exact (ownsRow_at h.o hk).1
theorem HW.lt (h : HW n wb pb ab v lv L M W) : ∀ k, wfoot wb pb v lv k → k < W.heap.size := fun k hk => by
  rcases hk with rfl | hk | hk
  · exact lt_of_heap h.hw
  · exact h.p.lt k hk
  · exact (ownsRow_at h.o hk).2.1
theorem HW.fr {S : Nat → Prop} (h : HW n wb pb ab v lv L M W) (hf : Fr S W W') (hs : ∀ k, wfoot wb pb v lv k → ¬ S k) (ha : ¬ S ab) : HW n wb pb ab v lv L M W' :=
  ⟨h.p.fr hf (fun k hk => hs k (.inr (.inl hk))), (hf.block _ (lt_of_heap h.hw) (hs _ (.inl rfl))).trans h.hw, h.lw, ownsRow_fr h.o hf (fun k hk => hs k (.inr (.inr hk))), h.d, (hf.block _ (lt_of_heap h.ha) ha).trans h.ha⟩
theorem HW.kept (h : HW n wb pb ab v lv L M W) (hb : Below W.heap.size W W') : HW n wb pb ab v lv L M W' := h.fr (S := fun _ => False) (Fr.of_below hb) (fun _ _ q => q) (fun q => q)
theorem HW.sep (h : HW n wb pb ab v lv L M W) : ∀ k, lv.ownBlock = some k → ¬ foot pb v k := fun k hk q => by
  rcases q with rfl | q
  · exact ownsRow_not h.o h.p.hb (by decide) hk
  · exact h.d k q hk
theorem HW.pile (h : HW n wb pb ab v lv L M W) (hp : PT n W' pb v' L') (hm : moved v v' W.heap.size) (hf : Fr (foot pb v) W W') : HW n wb pb ab v' lv L' M W' :=
  ⟨hp, (hf.block _ (lt_of_heap h.hw) (pt_other h.p h.hw (by decide) (by decide))).trans h.hw, h.lw, ownsRow_fr h.o hf h.sep, fun g hg q => h.d g (moved_in hm (ownsRow_at h.o q).2.1 hg) q, (hf.block _ (lt_of_heap h.ha) (pt_other h.p h.ha (by decide) (by decide))).trans h.ha⟩
/-- A list that was made anew, or grown, and laid into the world. -/
theorem HW.list (h : HW n wb pb ab v lv L M W) (ho : W1.ownsRow n 28 2 lv' M'.length (cellsT M')) (hm : moved lv lv' W.heap.size) (hf : Fr (fun k => lv.ownBlock = some k) W W1) : HW n wb pb ab v lv' L M' (W1.setCell ⟨wb, 1, none⟩ lv') := by
  have nw : lv.ownBlock ≠ some wb := ownsRow_not h.o h.hw (by decide)
  have hw1 := (hf.block _ (lt_of_heap h.hw) nw).trans h.hw
  have p1 : PT n W1 pb v L := h.p.fr hf (fun k hk q => h.sep k q hk)
  have ha1 := (hf.block _ (lt_of_heap h.ha) (ownsRow_not h.o h.ha (by decide))).trans h.ha
  have hf2 : Fr (fun k => k = wb) W1 (W1.setCell ⟨wb, 1, none⟩ lv') := (Fr.refl (fun k => k = wb) W1).setCell (p := ⟨wb, 1, none⟩) rfl _
  have nw' : lv'.ownBlock ≠ some wb := ownsRow_not ho hw1 (by decide)
  exact ⟨p1.fr hf2 (fun k hk e => pt_other p1 hw1 (by decide) (by decide) (e ▸ hk)), heap_set_in hw1 1 _, h.lw, ownsRow_fr ho hf2 (fun k hk e => nw' (e ▸ hk)), fun g hg q => h.d g hg (moved_in hm (h.p.lt g (.inr hg)) q), (hf2.block _ (lt_of_heap ha1) (ne_type ha1 hw1 (by decide))).trans ha1⟩
theorem HW.list_fr (hf : Fr (fun k => lv.ownBlock = some k) W W1) (u : Value) : Fr (wfoot wb pb v lv) W (W1.setCell ⟨wb, 1, none⟩ u) :=
  (hf.mono (fun _ q => .inr (.inr q))).setCell (p := ⟨wb, 1, none⟩) (.inl rfl) _
theorem HW.c0 (h : HW n wb pb ab v lv L M W) : W.cell? ⟨wb, 0, none⟩ = some (.pointer (some ⟨pb, 0, none⟩)) := cell_row h.hw (i := 0) rfl
theorem HW.c1 (h : HW n wb pb ab v lv L M W) : W.cell? ⟨wb, 1, none⟩ = some lv := cell_row h.hw (i := 1) rfl
theorem HW.c2 (h : HW n wb pb ab v lv L M W) : W.cell? ⟨wb, 2, none⟩ = some (.func (.func 38) #[] #[.pointer (some ⟨ab, 0, none⟩)]) := cell_row h.hw (i := 2) rfl
/-- What a call leaves. -/
def DP (n wb pb ab : Nat) (v lv : Value) (L : List Th) (W W' : World) : Prop := ∃ (v' lv' : Value) (L' : List Th), HW n wb pb ab v' lv' L' L' W' ∧ L'.length ≤ L.length + 1 ∧ moved v v' W.heap.size ∧ moved lv lv' W.heap.size ∧ Fr (wfoot wb pb v lv) W W'
theorem HW.same (h : HW n wb pb ab v lv L L W) (hb : Below W.heap.size W W') : DP n wb pb ab v lv L W W' := ⟨v, lv, L, h.kept hb, Nat.le_succ _, .inl rfl, .inl rfl, Fr.of_below hb⟩
theorem DP.then (h : DP n wb pb ab v lv L W W') (hb : Below W'.heap.size W' W1) : DP n wb pb ab v lv L W W1 := by
  obtain ⟨v1, l1, L1, h1, h2, h3, h4, h5⟩ := h
  exact ⟨v1, l1, L1, h1.kept hb, h2, h3, h4, h5.trans (Fr.of_below hb)⟩
end

set_option maxRecDepth 100000 in
set_option maxHeartbeats 2000000 in
theorem last_c {n wb pb ab : Nat} {v lv : Value} {L M : List Th} {x : Th} {W : World} (h : HW n wb pb ab v lv L (M ++ [x]) W) :
    Calls Try.prog 41 #[.pointer (some ⟨wb, 0, none⟩)] W fun e W' => e = .returned (.tuple #[.agg #[.int .i64 x.1, .string x.2], .bool true]) ∧ Below W.heap.size W W' := by
  obtain ⟨g, c, rfl⟩ := ownsRow_some h.o (by simp)
  have hL : (M.length : Int) ≤ 9223372036854775806 := by have := ownsRow_len h.o; simp [maxLen] at this; omega
  have H0 : Hid (HW n wb pb ab v (.slice (some ⟨g, 0, none⟩) (M ++ [x]).length c) L (M ++ [x]) W) := h
  clear h
  go_enter Try.func41, Try.ntmps41
  go_upto_region 1 with fail
  have B1 : Hid (Below W.heap.size W (W.alloc (.cells #[.int .i64 0, .string ⟨#[]⟩] 28))) := (Below.refl _ _).alloc (Nat.le_refl _) _
  have N1 := alloc_new W (.cells #[.int .i64 0, .string ⟨#[]⟩] 28)
  have H : Hid (HW n wb pb ab v (.slice (some ⟨g, 0, none⟩) (M ++ [x]).length c) L (M ++ [x]) (W.alloc (.cells #[.int .i64 0, .string ⟨#[]⟩] 28))) := H0.out.kept B1.out
  generalize (W.alloc (.cells #[.int .i64 0, .string ⟨#[]⟩] 28)) = W1 at B1 N1 H ⊢
  have c1 := H.out.c1
  rw [List.length_append, List.length_singleton] at c1
  have hx : (M ++ [x])[M.length]? = some x := by simp
  have k0 : W1.cell? ⟨g, M.length * 2, none⟩ = some (.int .i64 x.1) := ownsRow_cell H.out.o (cellsT_get hx).1
  have k1 : W1.cell? ⟨g, M.length * 2 + 1, none⟩ = some (.string x.2) := ownsRow_cell H.out.o (cellsT_get hx).2
  have f0 := frz_row N1 0
  have f1 := frz_row N1 1
  have r0 : W1.cell? ⟨W.heap.size, 0, none⟩ = some (.int .i64 0) := cell_row N1 (i := 0) rfl
  have r1 : W1.cell? ⟨W.heap.size, 1, none⟩ = some (.string ⟨#[]⟩) := cell_row N1 (i := 1) rfl
  obtain ⟨q0, q1, -⟩ := set2_cells N1 (.int .i64 x.1) (.string x.2)
  have e0 : ((M.length : Int) + 1 == 0) = false := by simp; omega
  clear N1 hx
  go_wp2
  go_region
  all_goals go_wp2
  all_goals exact bodyPost_ret (v := .tuple #[.agg #[.int .i64 x.1, .string x.2], .bool true]) (by simp [results, Try.results41, go_sem, q0, q1]) rfl ⟨rfl, (below_set2 B1.out _ _).drew⟩

set_option maxRecDepth 100000 in
set_option maxHeartbeats 2000000 in
theorem last_none {n wb pb ab : Nat} {v lv : Value} {L : List Th} {W : World} (h : HW n wb pb ab v lv L [] W) :
    Calls Try.prog 41 #[.pointer (some ⟨wb, 0, none⟩)] W fun e W' => e = .returned (.tuple #[.agg #[.int .i64 0, .string ⟨#[]⟩], .bool false]) ∧ Below W.heap.size W W' := by
  obtain ⟨q, c, rfl⟩ := ownsRow_shape h.o
  have H0 : Hid (HW n wb pb ab v (.slice q 0 c) L [] W) := h
  clear h
  go_enter Try.func41, Try.ntmps41
  go_upto_region 1 with fail
  have B1 : Hid (Below W.heap.size W (W.alloc (.cells #[.int .i64 0, .string ⟨#[]⟩] 28))) := (Below.refl _ _).alloc (Nat.le_refl _) _
  have N1 := alloc_new W (.cells #[.int .i64 0, .string ⟨#[]⟩] 28)
  have H : Hid (HW n wb pb ab v (.slice q 0 c) L [] (W.alloc (.cells #[.int .i64 0, .string ⟨#[]⟩] 28))) := H0.out.kept B1.out
  generalize (W.alloc (.cells #[.int .i64 0, .string ⟨#[]⟩] 28)) = W1 at B1 N1 H ⊢
  have c1 := H.out.c1
  have f0 := frz_row N1 0
  have f1 := frz_row N1 1
  have r0 : W1.cell? ⟨W.heap.size, 0, none⟩ = some (.int .i64 0) := cell_row N1 (i := 0) rfl
  have r1 : W1.cell? ⟨W.heap.size, 1, none⟩ = some (.string ⟨#[]⟩) := cell_row N1 (i := 1) rfl
  obtain ⟨q0, q1, -⟩ := set2_cells N1 (.int .i64 0) (.string ⟨#[]⟩)
  clear N1
  go_wp2
  exact bodyPost_ret (v := .tuple #[.agg #[.int .i64 0, .string ⟨#[]⟩], .bool false]) (by simp [results, Try.results41, go_sem, q0, q1]) rfl ⟨rfl, below_set2 B1.out _ _⟩
end Go.Proofs.Ytobeiigmeflbjaa
