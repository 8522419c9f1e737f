/-
  All of a pile of things: a clone, gone over backward.
-/
import Derived.Test.YtobeiigmeflbjaaTold4
import Derived.Laws.AppendOwnNone
namespace Go.Proofs.Ytobeiigmeflbjaa
open Go Go.RowKit Go.Shelf

abbrev Th := Int × ByteArray
def thV (x : Th) : Value := .agg #[.int .i64 x.1, .string x.2]
theorem cellsT_one (L : List Th) : ∀ u ∈ cellsT L, u.oneCell' = true := by
  induction L with
  | nil => intro u hu; cases hu
  | cons p L ih =>
    intro u hu
    simp only [cellsT, List.mem_cons] at hu
    rcases hu with rfl | rfl | hu
    · rfl
    · rfl
    · exact ih u hu

theorem eql_nil_T (W : World) (a : Option Addr) (l c : Nat) : (binOp .eql 29 (.slice a l c) (.slice none 0 0)).run Try.prog W = .ok (.bool a.isNone) W := by
  unfold binOp
  simp [run_equal_slice_nil W _ _ a l c und_T]
set_option maxRecDepth 100000 in
set_option maxHeartbeats 1000000 in
theorem cloneT {base : Nat} {w : World} {v : Value} {L : List Th} (h : w.ownsRow base 28 2 v L.length (cellsT L)) (hl : L.length ≤ 1000000) :
    Calls Try.prog 40 #[v] w fun e w' => ∃ v', e = .returned v' ∧ w'.ownsRow w.heap.size 28 2 v' L.length (cellsT L) ∧ Below w.heap.size w w' := by
  have H : Hid (w.ownsRow base 28 2 v L.length (cellsT L)) := h
  obtain ⟨t0, hi, hz0, hz1, hz2⟩ := info_parts size_T
  rcases h.2 with ⟨rfl, hl0⟩ | ⟨g, cap, cur, rfl, hlo, hg, hcap, hmx, hsz, htk⟩
  · have hLn : L = [] := List.eq_nil_of_length_eq_zero hl0
    subst hLn
    have hq := fun W => eql_nil_T W none 0 0
    clear h
    go_enter Try.func40, Try.ntmps40
    go_wp2
    go_ret
    exact ⟨_, rfl, World.ownsRow_nil _ _ _ _, Below.refl _ _⟩
  · have lg := lt_of_heap hg
    have hq := fun W => eql_nil_T W (some ⟨g, 0, none⟩) L.length cap
    have OW : Hid ((w.alloc (.cells #[] 28)).ownsRow w.heap.size 28 2 (.slice (some ⟨w.heap.size, 0, none⟩) 0 0) 0 []) := ⟨rfl, .inr ⟨w.heap.size, 0, #[], rfl, Nat.le_refl _, alloc_new w _, Nat.le_refl _, Nat.zero_le _, rfl, rfl⟩⟩
    have HG : Hid (∀ j u, (cellsT L)[j]? = some u → (w.alloc (.cells #[] 28)).cell? ((⟨g, 0, none⟩ : Addr).add j) = some u) := fun j u hj => by
      rw [Addr.add_lit, Nat.zero_add]
      exact (((Below.refl w.heap.size w).alloc (Nat.le_refl _) _).cell (p := ⟨g, j, none⟩) lg).trans (ownsRow_cell H.out hj)
    clear h hg hsz htk hlo
    go_enter Try.func40, Try.ntmps40
    go_wp2_with (at_builtin; refine wpList_append_own_at _ rfl _ _ 29 rfl w.heap.size 28 t0 (.agg #[.int .i64 0, .string ⟨#[]⟩]) 2 24 und_T hi hz0 hz1 hz2 rfl (by decide) (.slice (some ⟨w.heap.size, 0, none⟩) 0 0) 0 [] rfl OW.out ⟨g, 0, none⟩ L.length cap (cellsT L) rfl (by rw [cellsT_length]) HG.out (cellsT_one L) (by unfold maxLen; omega) (by omega) (by simp) ?_; intro v' w6 hown' hgrow _ hblk; obtain ⟨q6, cap6, rfl⟩ := ownsRow_shape hown'; have O6 : Hid (w6.ownsRow w.heap.size 28 2 (.slice q6 (0 + L.length) cap6) (0 + L.length) ([] ++ cellsT L)) := hown'; have B6 : Hid (Below w.heap.size w w6) := ((((Fr.refl (fun k => k = w.heap.size) w).alloc _).grown hgrow (fun k hk => by (simp [Value.ownBlock] at hk; exact hk.symm))).below (Nat.le_refl _) (fun k hk => by omega)); clear hown' hgrow hblk)
    go_ret
    refine ⟨_, rfl, ?_, B6.out⟩
    have := O6.out
    rw [Nat.zero_add, List.nil_append] at this
    exact this

set_option maxHeartbeats 1000000 in
theorem backwardT (q : Option Addr) (l c : Nat) (w : World) :
    Calls Try.prog 39 #[.slice q l c] w fun e w' => e = .returned (.func (.func 48) #[] #[.pointer (some ⟨w.heap.size, 0, none⟩)]) ∧ w' = w.alloc (.cells #[.slice q l c] 29) := by
  go_enter Try.func39, Try.ntmps39
  go_wp2
  go_ret
  exact ⟨rfl, rfl⟩

/-- What a range over Backward is handed. -/
abbrev Hb := Int × Th
def encB (x : Hb) : Array Value := #[.int .i64 x.1, .agg #[.int .i64 x.2.1, .string x.2.2]]
/-- What is known of it. -/
def ToldB (L : List Th) (pre : List Hb) (x : Hb) (_ : World) : Prop := pre.map (·.2) = L.reverse.take pre.length ∧ L.reverse[pre.length]? = some x.2
theorem rev_get {L : List Th} {k : Nat} {x : Th} (h : L[k]? = some x) : L.reverse[L.length - (k + 1)]? = some x := by
  have hk := (List.getElem?_eq_some_iff.1 h).1
  rw [List.getElem?_reverse (by omega), show L.length - 1 - (L.length - (k + 1)) = k by omega]
  exact h

set_option maxRecDepth 100000 in
set_option maxHeartbeats 2000000 in
theorem back_tells (n : Nat) (hn : 1 ≤ n) {w : World} {B g cap : Nat} {q : Option Addr} {L : List Th} (hB : w.heap[B]? = some (.cells #[.slice q L.length cap] 29 (0, 0))) (hO : w.ownsRow g 28 2 (.slice q L.length cap) L.length (cellsT L)) (hl : L.length ≤ 1000000) {N : Nat → Prop} (hNB : N B) (hNg : ∀ k, (Value.slice q L.length cap).ownBlock = some k → N k) :
    Tells n Try.prog 48 #[.pointer (some ⟨B, 0, none⟩)] encB N (ToldB L) (fun xs => xs.map (·.2) = L.reverse) (fun pre => pre.map (·.2) <+: L.reverse) w := by
  intro l J Jx V hV hJ hJx hY h0
  have hfn : ∀ f, Fence.wide.fn f := fun _ => trivial
  have HB : Hid (V.heap[B]? = some (.cells #[.slice q L.length cap] 29 (0, 0))) := (hV.block B (lt_of_heap hB)).trans hB
  have HO : Hid (V.ownsRow g 28 2 (.slice q L.length cap) L.length (cellsT L)) := ownsRow_fr hO (Fr.of_below (S := fun _ => False) hV) (fun _ _ z => z)
  have J0 : Hid (J [] V) := h0
  have c0 : V.cell? ⟨B, 0, none⟩ = some (.slice q L.length cap) := cell_row HB.out (i := 0) rfl
  clear hB hO hV h0 hJ hJx
  refine callsIn_of_wp Try.func48 rfl trivial ?_ rfl
  simp only [Try.ntmps48, List.size_toArray, List.length_cons, List.length_nil, Nat.reduceAdd, Nat.reduceSub, Array.replicate_succ, Array.replicate_zero, List.push_toArray, List.append_toArray, List.nil_append, List.cons_append]
  gi_wp2
  gi_loopw [3] (fun i wr => ∃ (k : Nat) (pre : List Hb), k ≤ L.length ∧ i = .int .i64 ((k : Int) - 1) ∧ pre.length = L.length - k ∧ pre.map (·.2) = L.reverse.take (L.length - k) ∧ J pre wr ∧ wr.heap[B]? = some (.cells #[.slice q L.length cap] 29 (0, 0)) ∧ wr.ownsRow g 28 2 (.slice q L.length cap) L.length (cellsT L)) (fun i _ => (intOf i + 1).toNat)
  case atStart => exact ⟨L.length, [], Nat.le_refl _, rfl, by simp, by simp, J0.out, HB.out, HO.out⟩
  case round =>
    clear J0 HB HO c0
    obtain ⟨k, pre, hk, rfl, hpl, hpm, hj, hB, hO⟩ := hrel
    have HB : Hid (wr.heap[B]? = some (.cells #[.slice q L.length cap] 29 (0, 0))) := hB
    have HO : Hid (wr.ownsRow g 28 2 (.slice q L.length cap) L.length (cellsT L)) := hO
    have HP : Hid (pre.map (·.2) = L.reverse.take (L.length - k)) := hpm
    have HJ : Hid (J pre wr) := hj
    have c0 : wr.cell? ⟨B, 0, none⟩ = some (.slice q L.length cap) := cell_row hB (i := 0) rfl
    clear hpm hj hB hO
    cases k with
    | zero =>
      have e0 : ¬ (0 : Int) ≤ ((0 : Nat) : Int) - 1 := by omega
      gi_wp2
      go_end0
      exact ⟨⟨_, rfl⟩, .inl ⟨pre, by have := HP.out; rw [List.take_of_length_le (by simp)] at this; exact this, HJ.out⟩⟩
    | succ j =>
      obtain ⟨x, hx⟩ : ∃ x, L[j]? = some x := ⟨_, List.getElem?_eq_getElem (by omega)⟩
      have HX : Hid (L[j]? = some x) := hx
      obtain ⟨gg, cc, hq⟩ := ownsRow_some HO.out (by omega)
      injection hq with hq1 _ hq2
      subst hq1 hq2
      have k0 := ownsRow_cell HO.out (cellsT_get hx).1
      have k1 := ownsRow_cell HO.out (cellsT_get hx).2
      obtain ⟨x1, x2⟩ := x
      simp only at k0 k1
      have e1 : ((j + 1 : Nat) : Int) - 1 = (j : Int) := by omega
      have e2 : (0 : Int) ≤ (j : Int) := by omega
      have e3 : (j : Int) < (L.length : Int) := by omega
      rw [e1]
      have NX : Hid ((pre ++ [(((j : Int), (x1, x2)) : Hb)]).map (·.2) = L.reverse.take (L.length - j)) := (by
        rw [List.map_append, HP.out, show L.length - j = (L.length - (j + 1)) + 1 by omega, take_last (rev_get HX.out)]
        rfl)
      obtain ⟨fn, tmps, assign, body, hy, hR⟩ := hY pre ((j : Int), (x1, x2)) wr HJ.out ⟨by rw [hpl]; exact HP.out, by rw [hpl]; exact rev_get HX.out⟩
      simp only [encB] at hy
      clear hx e1
      gi_wp2
      refine hR.mono ?_
      rintro e W3 ⟨-, (⟨rfl, hJ3, hk3⟩ | ⟨rfl, hJx3⟩)⟩
      · have HB3 : Hid (W3.heap[B]? = some (.cells #[.slice (some ⟨gg, 0, none⟩) L.length cap] 29 (0, 0))) := hk3.same _ _ _ _ hNB HB.out
        have HO3 : Hid (W3.ownsRow g 28 2 (.slice (some ⟨gg, 0, none⟩) L.length cap) L.length (cellsT L)) := (by
          obtain ⟨h1, ⟨z, _⟩ | ⟨g', cap', cur, z1, z2, z3, z4⟩⟩ := HO.out
          · cases z
          · cases z1
            exact ⟨h1, .inr ⟨gg, cap, cur, rfl, z2, hk3.same _ _ _ _ (hNg gg rfl) z3, z4⟩⟩)
        have HJ3 : Hid (J (pre ++ [(((j : Int), (x1, x2)) : Hb)]) W3) := hJ3
        clear hJ3 hk3 hY hy hR
        gi_wp2
        go_roundw
        case rel => exact ⟨j, pre ++ [(((j : Int), (x1, x2)) : Hb)], by omega, by go_num, by simp; omega, NX.out, HJ3.out, HB3.out, HO3.out⟩
        case measure => simp only [intOf]; omega
      · gi_wp2
        refine bodyPost_ret (results_none rfl _ _ _) rfl ?_
        exact ⟨⟨_, rfl⟩, .inr ⟨_, by rw [NX.out]; exact List.take_prefix _ _, hJx3⟩⟩
end Go.Proofs.Ytobeiigmeflbjaa
