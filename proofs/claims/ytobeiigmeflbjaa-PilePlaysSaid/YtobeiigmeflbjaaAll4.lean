/-
  All of a pile of things: each from the top down.
-/
import Derived.Test.YtobeiigmeflbjaaIter4
namespace Go.Proofs.Ytobeiigmeflbjaa
open Go Go.RowKit Go.Shelf
attribute [local go_sem] Oper.semAt_some

set_option maxHeartbeats 1000000 in
theorem allT (b : Nat) (w : World) :
    Calls Try.prog 11 #[.pointer (some ⟨b, 0, none⟩)] w fun e w' => e = .returned (.func (.func 38) #[] #[.pointer (some ⟨w.heap.size, 0, none⟩)]) ∧ w' = w.alloc (.cells #[.pointer (some ⟨b, 0, none⟩)] 25) := by
  go_enter Try.func11, Try.ntmps11
  go_wp2
  go_ret
  exact ⟨rfl, rfl⟩

theorem cells_kept {W W' : World} {row : Option Nat} {B : Nat} (hg : W.grownBy W' row) (hr : ∀ r, row = some r → B ≤ r ∧ ∃ o : Obj, W.heap[r]? = some o ∧ o.isCells = false) {k : Nat} {cur : Array Value} {t : TypeId} {fr : Nat × Nat} (hc : W.heap[k]? = some (.cells cur t fr)) :
    W'.heap[k]? = some (.cells cur t fr) := by
  refine (hg.block k (lt_of_heap hc) (fun e => ?_)).trans hc
  obtain ⟨_, o, ho, hq⟩ := hr k e.symm
  rw [hc] at ho
  cases ho
  cases hq
def encT (x : Th) : Array Value := #[.agg #[.int .i64 x.1, .string x.2]]
def ToldT (L : List Th) (pre : List Th) (x : Th) (_ : World) : Prop := pre = L.reverse.take pre.length ∧ L.reverse[pre.length]? = some x

set_option maxRecDepth 100000 in
set_option maxHeartbeats 2000000 in
theorem allT_tells (n : Nat) (hn : 2 ≤ n) {base : Nat} {w : World} {B b : Nat} {v : Value} {L : List Th} (hB : w.heap[B]? = some (.cells #[.pointer (some ⟨b, 0, none⟩)] 25 (0, 0))) (hP : PT base w b v L) (hl : L.length ≤ 1000000) :
    Tells n Try.prog 38 #[.pointer (some ⟨B, 0, none⟩)] encT (fun k => w.heap.size ≤ k) (ToldT L) (fun xs => xs = L.reverse) (fun pre => pre <+: L.reverse) w := by
  intro l J Jx V hV hJ hJx hY h0
  have hfn : ∀ f, Fence.wide.fn f := fun _ => trivial
  obtain ⟨q, cp, rfl⟩ := ownsRow_shape hP.own
  have HP : Hid (PT base V b (.slice q L.length cp) L) := hP.fr (S := fun k => w.heap.size ≤ k) ⟨hV.os, hV.tape, hV.output, hV.size, fun k hk _ => hV.block k hk⟩ (fun k hk z => by have := hP.lt k hk; omega)
  have HBX : Hid (V.heap[B]? = some (.cells #[.pointer (some ⟨b, 0, none⟩)] 25 (0, 0))) := (hV.block B (lt_of_heap hB)).trans hB
  have J0 : Hid (J [] V) := h0
  have HJ : Hid (OwnFrom V.heap.size J) := hJ
  have HJX : Hid (OwnFrom V.heap.size Jx) := hJx
  have HVS : Hid (w.heap.size ≤ V.heap.size) := hV.size
  have lB := lt_of_heap HBX.out
  clear hB hP hV h0 hJ hJx
  refine callsIn_of_wp_marks Try.func38 rfl trivial ?_ rfl
  simp only [Try.ntmps38, List.size_toArray, List.length_cons, List.length_nil, Nat.reduceAdd, Nat.reduceSub, Array.replicate_succ, Array.replicate_zero, List.push_toArray, List.append_toArray, List.nil_append, List.cons_append]
  have B1 : Hid (Below V.heap.size V (V.alloc (.cells #[.func (.yield l) #[] #[]] 76))) := (Below.refl _ _).alloc (Nat.le_refl _) _
  have N1 : Hid ((V.alloc (.cells #[.func (.yield l) #[] #[]] 76)).heap[V.heap.size]? = some (.cells #[.func (.yield l) #[] #[]] 76 (0, 0))) := alloc_new V _
  refine wpIn_wide.2 ?_
  go_upto_region 1 with fail
  generalize (V.alloc (.cells #[.func (.yield l) #[] #[]] 76)) = V1 at B1 N1 ⊢
  have P1 : Hid (PT base V1 b (.slice q L.length cp) L) := HP.out.kept B1.out
  have c0 : V1.cell? ⟨B, 0, none⟩ = some (.pointer (some ⟨b, 0, none⟩)) := cell_row ((B1.out.block B lB).trans HBX.out) (i := 0) rfl
  have c1 : V1.cell? ⟨b, 0, none⟩ = some (.slice q L.length cp) := cell_row P1.out.hb (i := 0) rfl
  go_wp2_with first | (go_at_call 40; (with_reducible refine (cloneT P1.out.own hl).mono ?_); rintro e V2 ⟨v2, rfl, ho2, hb2⟩; obtain ⟨q2, cp2, rfl⟩ := ownsRow_shape ho2; have O2 : Hid (V2.ownsRow V1.heap.size 28 2 (.slice q2 L.length cp2) L.length (cellsT L)) := ho2; have B2 : Hid (Below V.heap.size V V2) := chain B1.out hb2 (Nat.le_refl _); have N2 : Hid (V2.heap[V.heap.size]? = some (.cells #[.func (.yield l) #[] #[]] 76 (0, 0))) := (hb2.block _ (lt_of_heap N1.out)).trans N1.out; clear ho2 hb2) | (go_at_call 39; (with_reducible refine (backwardT _ _ _ _).mono ?_); rintro e V3 ⟨rfl, rfl⟩)
  have N3 : Hid ((V2.alloc (.cells #[.slice q2 L.length cp2] 29)).heap[V2.heap.size]? = some (.cells #[.slice q2 L.length cp2] 29 (0, 0))) := alloc_new V2 _
  have E3 : Hid (Below V2.heap.size V2 (V2.alloc (.cells #[.slice q2 L.length cp2] 29))) := (Below.refl _ _).alloc (Nat.le_refl _) _
  generalize (V2.alloc (.cells #[.slice q2 L.length cp2] 29)) = V3 at N3 E3 ⊢
  have B3 : Hid (Below V.heap.size V V3) := chain B2.out E3.out (Nat.le_refl _)
  have Y3 : Hid (V3.heap[V.heap.size]? = some (.cells #[.func (.yield l) #[] #[]] 76 (0, 0))) := (E3.out.block _ (lt_of_heap N2.out)).trans N2.out
  have O3 : Hid (V3.ownsRow V1.heap.size 28 2 (.slice q2 L.length cp2) L.length (cellsT L)) := ownsRow_fr O2.out (Fr.of_below (S := fun _ => False) E3.out) (fun _ _ z => z)
  refine (wpIn_wide (n := n)).1 ?_
  refine range_told (α := Hb) (by omega) (gf := 48) rfl (enters_of Try.func48 (by kernel_rfl) rfl) (encs := encB) (fun _ => rfl)
    (back_tells (n - 1) (by omega) N3.out O3.out hl (N := fun k => V.heap.size ≤ k) (Nat.le_trans B2.out.size (Nat.le_refl _)) (fun k hk => Nat.le_trans B1.out.size (ownsRow_at O3.out hk).1))
    (fun pre W => J (pre.map (·.2)) W ∧ W.heap[V.heap.size]? = some (.cells #[.func (.yield l) #[] #[]] 76 (0, 0))) (fun c pre W => c = .ret ∧ Jx (pre.map (·.2)) W) ?_ ?_ ?_ ?_
    (fun x a' W => ∃ bx, W.heap[bx]? = some (.cells #[.int .i64 x.2.1, .string x.2.2] 28 (0, 0)) ∧ ∃ i y z, a' = { tmps := #[.func (.yield l) #[] #[], .pointer (some ⟨B, 0, none⟩), .pointer (some ⟨V.heap.size, 0, none⟩), undef, .pointer (some ⟨bx, 0, none⟩), .pointer (some ⟨b, 0, none⟩), .pointer (some ⟨b, 0, none⟩), .pointer (some ⟨b, 0, none⟩), .slice q L.length cp, .slice q2 L.length cp2, z, i, y, undef, undef, undef, undef], defers := [] }) ?_ ?_ ?_ ?_ ?_
  · intro pre A A' row hi hg hr
    exact ⟨ownFrom_le HJ.out B3.out.size _ A A' row hi.1 hg hr, cells_kept hg hr hi.2⟩
  · intro c pre A A' row hi hg hr
    exact ⟨hi.1, ownFrom_le HJX.out B3.out.size _ A A' row hi.2 hg hr⟩
  · exact fun pre x _ _ _ _ h _ _ => h
  · exact ⟨ownFrom_below HJ.out J0.out B3.out, Y3.out⟩
  · intro x a' _ A A' row hi hg hr
    obtain ⟨bx, h1, h2⟩ := hi
    exact ⟨bx, cells_kept hg hr h1, h2⟩
  · intro l' pre x W K _ _ hK
    simp [encB]
    gi_wp2
    exact hK _ _ ((Below.refl _ _).alloc (Nat.le_refl _) _) ⟨_, alloc_new W _, _, _, _, rfl⟩
  · rintro l' pre x a' W ⟨hj, hy⟩ ht ⟨bx, hbx, i, y, z, rfl⟩
    obtain ⟨xi, x1, x2⟩ := x
    have HYB : Hid (W.heap[V.heap.size]? = some (.cells #[.func (.yield l) #[] #[]] 76 (0, 0))) := hy
    have k0 : W.cell? ⟨bx, 0, none⟩ = some (.int .i64 x1) := cell_row hbx (i := 0) rfl
    have k1 : W.cell? ⟨bx, 1, none⟩ = some (.string x2) := cell_row hbx (i := 1) rfl
    have c5 : W.cell? ⟨V.heap.size, 0, none⟩ = some (.func (.yield l) #[] #[]) := cell_row hy (i := 0) rfl
    obtain ⟨fn, tmps, assign, body, hyy, hR⟩ := hY (pre.map (·.2)) (x1, x2) W hj ⟨by rw [List.length_map]; exact ht.1, by rw [List.length_map]; exact ht.2⟩
    simp only [encT] at hyy
    clear hj hy ht hbx c0 c1
    gi_wp2
    refine ⟨(fun z => by cases z), (round_any hR).mono ?_⟩
    rintro e W3 ⟨hk3, (⟨rfl, hJ3, hc3⟩ | ⟨rfl, hJx3⟩)⟩
    · have HE : Hid (KeepsFrom V3.heap.size W W3 ∧ CKeep (fun k => V.heap.size ≤ k) W W3 ∧ J ((pre ++ [((xi, x1, x2) : Hb)]).map (·.2)) W3 ∧ W3.heap[V.heap.size]? = some (.cells #[.func (.yield l) #[] #[]] 76 (0, 0))) :=
        ⟨keeps_le hk3 B3.out.size, ⟨hc3.size, fun k cur t fr hk hc => hc3.same k cur t fr (Nat.le_trans HVS.out hk) hc⟩, by rw [List.map_append]; exact hJ3, hc3.same _ _ _ _ HVS.out HYB.out⟩
      clear hJ3 hc3 hk3 hyy hR hY
      gi_wp2
      exact HE.out
    · have HE : Hid (KeepsFrom V3.heap.size W W3 ∧ Jx ((pre ++ [((xi, x1, x2) : Hb)]).map (·.2)) W3) := ⟨keeps_le hk3 B3.out.size, by rw [List.map_append]; exact hJx3⟩
      clear hJx3 hk3 hyy hR hY
      gi_wp2
      exact ⟨HE.out.1, rfl, HE.out.2⟩
  · rintro D xs W hD hS ⟨hj, -⟩ hK
    go_wp2
    refine ⟨by simp, .inl ⟨_, _, rfl, run_takeDeferred hK, ?_⟩⟩
    exact ⟨.tuple #[], by simp [results, Try.results38, go_sem], ⟨_, rfl⟩, .inl ⟨_, hS, HJ.out.putObj _ hj (Nat.le_trans B3.out.size hD) hK rfl⟩⟩
  · rintro D c pre W hD hSp ⟨rfl, hj⟩ hK
    refine (wpIn_wide (n := n)).2 ?_
    go_wp2
    refine ⟨by simp, .inl ⟨_, _, rfl, run_takeDeferred hK, ?_⟩⟩
    exact ⟨.tuple #[], by simp [results, Try.results38, go_sem], ⟨_, rfl⟩, .inr ⟨_, hSp, HJX.out.putObj _ hj (Nat.le_trans B3.out.size hD) hK rfl⟩⟩
end Go.Proofs.Ytobeiigmeflbjaa
