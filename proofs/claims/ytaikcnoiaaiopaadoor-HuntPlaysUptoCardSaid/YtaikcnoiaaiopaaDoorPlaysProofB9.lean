/-
  Parts of the proof.
-/
import Derived.Test.YtaikcnoiaaiopaaDoorPlaysProofB8
import Derived.Deep.QuietTactic
import Derived.BigQuiet
import Derived.Sort.CutIn
set_option linter.unusedSimpArgs false
namespace Go.Proofs.YtaikcnoiaaiopaaDoor
open Go Go.RowKit Go.Shelf
attribute [local go_sem] Oper.semAt_some
open Classical in
noncomputable def kidsL (D : List Nat → Prop) (r : List Nat) (n : Nat) : List Nat := (List.range n).filter fun b => decide (D (b :: r))
def encK (T : Pt) (r : List Nat) (b : Nat) : Array Value := #[.int .u8 (b : Int), nodeP T (b :: r)]
def ToldK (D : List Nat → Prop) (r : List Nat) (pre : List Nat) (b : Nat) (V0 V : World) : Prop := Below V0.heap.size V0 V ∧ pre = kidsL D r b ∧ b < 256 ∧ D (b :: r)
def keepK (_ : Nat) (t : TypeId) : Prop := t = 112
theorem kidsL_next (D : List Nat → Prop) (r : List Nat) (n : Nat) : (D (n :: r) → kidsL D r (n + 1) = kidsL D r n ++ [n]) ∧ (¬ D (n :: r) → kidsL D r (n + 1) = kidsL D r n) := by
  constructor
  · intro h; simp [kidsL, List.range_succ, List.filter_append, h]
  · intro h; simp [kidsL, List.range_succ, List.filter_append, h]
theorem kidsL_skip {D : List Nat → Prop} {r : List Nat} {n m : Nat} (hnm : n ≤ m) (h : ∀ b, n ≤ b → b < m → ¬ D (b :: r)) : kidsL D r m = kidsL D r n := by
  obtain ⟨k, rfl⟩ : ∃ k, m = n + k := ⟨m - n, by omega⟩
  clear hnm
  induction k with
  | zero => rfl
  | succ k ih =>
    rw [show n + (k + 1) = (n + k) + 1 by omega, (kidsL_next D r (n + k)).2 (h _ (by omega) (by omega))]
    exact ih (fun b h1 h2 => h b h1 (by omega))
theorem shl_or (u l : Nat) (hu : u < 16) (hl : l < 16) : bits .or .i64 ((u : Int) * 16) (l : Int) % 256 = ((u * 16 + l : Nat) : Int) := by
  have : ∀ u l : Fin 16, bits .or .i64 (((u.1 : Nat) : Int) * 16) ((l.1 : Nat) : Int) % 256 = ((u.1 * 16 + l.1 : Nat) : Int) := by decide
  exact this ⟨u, hu⟩ ⟨l, hl⟩
theorem kidsL_mem {D : List Nat → Prop} {r : List Nat} {n b : Nat} : b ∈ kidsL D r n ↔ b < n ∧ D (b :: r) := by simp [kidsL]
set_option maxHeartbeats 1000000 in
theorem nall_c (T : Pt) (r : List Nat) (w : World) :
    Calls Tryd.prog 39 #[nodeP T r] w fun e w' => e = .returned (.func (.func 48) #[] #[.pointer (some ⟨w.heap.size, 0, none⟩)]) ∧ w' = w.alloc (.cells #[nodeP T r] 57) := by
  go_enter Tryd.func39, Tryd.ntmps39
  go_wp2
  go_ret
  exact ⟨rfl, rfl⟩
theorem below_drewN (w : World) (k : Nat) : Below w.heap.size w (w.drewN k) := ⟨rfl, rfl, rfl, Nat.le_refl _, fun _ _ => rfl⟩
theorem run_fan {A : Array Value} {u : Nat} {v : Value} (hu : u < 16) (h : A[u]? = some v) (w : World) : Sem.run Tryd.prog (Instr.index 60 (.agg A) (.int .i64 (u : Int))) w = .ok v w := by
  have hun : Tryd.prog.underlying 60 = some (.array 16 58) := by kernel_rfl
  simp [Instr.index, run_underlying hun, asIntOf, go_sem]
  rw [if_pos hu, h]
  rfl
set_option maxRecDepth 100000 in
set_option maxHeartbeats 4000000 in
theorem nall_tells (n : Nat) (hn : 1 ≤ n) {base : Nat} {w : World} {T : Pt} {D : List Nat → Prop} {R : List Nat → Nat → Prop} {K : List Nat → Kn} {B : Nat} {r : List Nat} (hB : w.heap[B]? = some (.cells #[nodeP T r] 57 (0, 0))) (h : TrM base w T D R K) (hr : D r) :
    Tells6 n Tryd.prog 48 #[.pointer (some ⟨B, 0, none⟩)] (encK T r) (fun _ => True) (fun _ => False) keepK (ToldK D r) (fun xs => xs = kidsL D r 256) (fun pre => ∃ b, pre = kidsL D r b) w := by
  intro l J Jx J' W hW hJ hJx hJ' hInv hFT hT hY h0
  have hfn : ∀ f, Fence.wide.fn f := fun _ => trivial
  have c0 := cell_row ((hW.block B (lt_of_heap hB)).trans hB) (i := 0) rfl
  have hTW := h.below hW
  have H := hide hTW
  have k0 := hTW.cRow hr (u := 0) (by omega)
  have k1 := hTW.cRow hr (u := 1) (by omega)
  have k2 := hTW.cRow hr (u := 2) (by omega)
  have k3 := hTW.cRow hr (u := 3) (by omega)
  have k4 := hTW.cRow hr (u := 4) (by omega)
  have k5 := hTW.cRow hr (u := 5) (by omega)
  have k6 := hTW.cRow hr (u := 6) (by omega)
  have k7 := hTW.cRow hr (u := 7) (by omega)
  have k8 := hTW.cRow hr (u := 8) (by omega)
  have k9 := hTW.cRow hr (u := 9) (by omega)
  have k10 := hTW.cRow hr (u := 10) (by omega)
  have k11 := hTW.cRow hr (u := 11) (by omega)
  have k12 := hTW.cRow hr (u := 12) (by omega)
  have k13 := hTW.cRow hr (u := 13) (by omega)
  have k14 := hTW.cRow hr (u := 14) (by omega)
  have k15 := hTW.cRow hr (u := 15) (by omega)
  have HJ := hide hJ
  have J0 := hide h0
  have HT := hide hT
  clear hB hW h hTW hJ h0 hT hInv hFT hJx hJ'
  refine callsIn_of_wp Tryd.func48 rfl trivial ?_ rfl
  simp only [Tryd.ntmps48, List.size_toArray, List.length_cons, List.length_nil, Nat.reduceAdd, Nat.reduceSub, Array.replicate_succ, Array.replicate_zero, List.push_toArray, List.append_toArray, List.nil_append, List.cons_append]
  gi_wp2
  have HA : Hid (∀ u, u < 16 → (#[rowV T R r 0, rowV T R r 1, rowV T R r 2, rowV T R r 3, rowV T R r 4, rowV T R r 5, rowV T R r 6, rowV T R r 7, rowV T R r 8, rowV T R r 9, rowV T R r 10, rowV T R r 11, rowV T R r 12, rowV T R r 13, rowV T R r 14, rowV T R r 15] : Array Value)[u]? = some (rowV T R r u)) := hide (fun u hu => by
    rcases (by omega : u = 0 ∨ u = 1 ∨ u = 2 ∨ u = 3 ∨ u = 4 ∨ u = 5 ∨ u = 6 ∨ u = 7 ∨ u = 8 ∨ u = 9 ∨ u = 10 ∨ u = 11 ∨ u = 12 ∨ u = 13 ∨ u = 14 ∨ u = 15) with rfl | rfl | rfl | rfl | rfl | rfl | rfl | rfl | rfl | rfl | rfl | rfl | rfl | rfl | rfl | rfl <;> rfl)
  generalize (#[rowV T R r 0, rowV T R r 1, rowV T R r 2, rowV T R r 3, rowV T R r 4, rowV T R r 5, rowV T R r 6, rowV T R r 7, rowV T R r 8, rowV T R r 9, rowV T R r 10, rowV T R r 11, rowV T R r 12, rowV T R r 13, rowV T R r 14, rowV T R r 15] : Array Value) = A at HA ⊢
  clear k0 k1 k2 k3 k4 k5 k6 k7 k8 k9 k10 k11 k12 k13 k14 k15 c0
  gi_loopw [11] (fun i wr => ∃ (u : Nat), i = .int .i64 (u : Int) ∧ u ≤ 16 ∧ J (kidsL D r (u * 16)) wr ∧ TKeep keepK W wr) (fun i _ => 17 - (intOf i).toNat)
  case atStart => exact ⟨0, rfl, by omega, J0.out, TKeep.refl _ _⟩
  case round =>
    obtain ⟨u, rfl, hu, hj, hk⟩ := hrel
    have J1 := hide hj
    have K1 := hide hk
    clear hj hk
    by_cases hlt : u < 16
    · have i0 : (u : Int) < 16 := by omega
      have i00 : (0 : Int) ≤ (u : Int) := by omega
      have hAu := HA.out u hlt
      have RF := run_fan hlt hAu wr
      by_cases hR : R r u
      · rw [rowV, if_pos hR] at RF
        obtain ⟨cur, hrow, hcs, hck⟩ := H.out.row r u hR
        have HRow := hide hrow
        have HCK := hide hck
        clear hrow hck hAu
        gi_wp2
        gi_loopw [18] (fun i wx => ∃ (j : Nat), i = .int .i64 (j : Int) ∧ j ≤ 16 ∧ J (kidsL D r (u * 16 + j)) wx ∧ TKeep keepK W wx) (fun i _ => 17 - (intOf i).toNat)
        case atStart => exact ⟨0, rfl, by omega, J1.out, K1.out⟩
        case round =>
          obtain ⟨j, rfl, hj16, hj2, hk2⟩ := hrel
          have J2 := hide hj2
          have K2 := hide hk2
          clear hj2 hk2 J1 K1 RF
          by_cases hjl : j < 16
          · have j0 : (j : Int) < 16 := by omega
            have j00 : (0 : Int) ≤ (j : Int) := by omega
            have RW := hide (K2.out.same _ _ _ _ (show keepK _ _ from rfl) HRow.out)
            have cj := cell_row RW.out (HCK.out j hjl)
            have fj := frz_row RW.out j
            by_cases hd : D ((u * 16 + j) :: r)
            · rw [kidV, if_pos hd] at cj
              have TD := hide (fun k => HT.out _ (u * 16 + j) wr (wr.drewN k) J2.out ⟨below_drewN wr k, rfl, by omega, hd⟩)
              have SO := shl_or u j hlt hjl
              have KN := hide ((kidsL_next D r (u * 16 + j)).1 hd)
              gi_upto_region 6 with fail
              refine (wpIn_wide (n := n)).2 ?_
              go_quiet (fail)
              gi_upto_region 7 with fail
              have BD := hide (below_drewN wr nq)
              have TDq := hide (TD.out nq)
              generalize wr.drewN nq = wd at BD TDq ⊢
              obtain ⟨fn, tmps, assign, body, hy, hR2⟩ := hY _ _ _ TDq.out
              simp only [encK] at hy
              rw [show ((u * 16 + j : Nat) : Int) = (u : Int) * 16 + (j : Int) by omega] at hy
              have HR2 := hide hR2
              clear hR2 hY cj fj
              gi_wp2
              refine HR2.out.mono ?_
              rintro e W3 ⟨hkf, (⟨rfl, hJ3, hc3⟩ | ⟨rfl, hJx3⟩)⟩
              · have J3 := hide hJ3
                have K3 := hide (K2.out.trans ((TKeep.below BD.out).trans hc3))
                clear hJ3 hc3 hkf hy HR2 TD TDq
                gi_wp2
                go_roundw
                case rel => exact ⟨j + 1, by go_num, by omega, by rw [show u * 16 + (j + 1) = u * 16 + j + 1 by omega, KN.out]; exact J3.out, K3.out⟩
                case measure => simp [intOf]; omega
              · have J3 := hide hJx3
                clear hJx3 hkf hy HR2 TD TDq
                gi_wp2
                refine bodyPost_ret (results_none rfl _ _ _) rfl ?_
                exact ⟨⟨_, rfl⟩, .inr ⟨_, ⟨u * 16 + j + 1, KN.out.symm⟩, J3.out⟩⟩
            · rw [kidV, if_neg hd] at cj
              have KN := hide ((kidsL_next D r (u * 16 + j)).2 hd)
              gi_upto_region 6 with fail
              refine (wpIn_wide (n := n)).2 ?_
              go_quiet (fail)
              gi_wp2
              go_roundw
              case rel => exact ⟨j + 1, by go_num, by omega, by rw [show u * 16 + (j + 1) = u * 16 + j + 1 by omega, KN.out]; exact ownFrom_below HJ.out J2.out (below_drewN _ _), K2.out.trans (TKeep.below (below_drewN _ _))⟩
              case measure => simp [intOf]; omega
          · have hj16' : j = 16 := by omega
            subst hj16'
            gi_wp2
            go_roundw
            case rel => exact ⟨u + 1, by go_num, by omega, by rw [show (u + 1) * 16 = u * 16 + 16 by omega]; exact J2.out, K2.out⟩
            case measure => simp [intOf]; omega
      · rw [rowV, if_neg hR] at RF
        clear hAu
        gi_wp2
        go_roundw
        case rel =>
          refine ⟨u + 1, by go_num, by omega, ?_, K1.out⟩
          rw [kidsL_skip (n := u * 16) (m := (u + 1) * 16) (by omega) (fun b h1 h2 hd => hR (by have := (H.out.byte b r hd).2; rwa [show b / 16 = u by omega] at this))]
          exact J1.out
        case measure => simp [intOf]; omega
    · have hu16 : u = 16 := by omega
      subst hu16
      gi_wp2
      go_end0
      exact ⟨⟨_, rfl⟩, .inl ⟨_, rfl, J1.out⟩⟩
end Go.Proofs.YtaikcnoiaaiopaaDoor
