/-
  Parts of the proof.
-/
import Derived.Test.YtaikcnoiaaiopaaDoorPlaysProofB34
import Derived.BigQuiet
set_option linter.unusedSimpArgs false
namespace Go.Proofs.YtaikcnoiaaiopaaDoor
open Go Go.RowKit Go.Shelf
attribute [local go_sem] Oper.semAt_some
set_option maxHeartbeats 1000000 in
theorem low1_c (a : Nat) (ha : a < 256) (w : World) : Calls Tryd.prog 53 #[.int .u8 (a : Int)] w fun e w' => e = .returned (.int .u8 ((cB true a : Nat) : Int)) ∧ w' = w := by
  by_cases h65 : 65 ≤ a
  · have j0 : (65 : Int) ≤ (a : Int) := by omega
    by_cases h90 : a ≤ 90
    · have j1 : (a : Int) ≤ 90 := by omega
      have wb : IntKind.wrap .u8 ((a : Int) + 32) = (a : Int) + 32 := by rw [IntKind.wrap_u8]; omega
      have EQ := hide (show cB true a = a + 32 by unfold cB; rw [if_pos ⟨rfl, h65, h90⟩])
      clear h65 h90
      go_enter Tryd.func53, Tryd.ntmps53
      go_wp2
      go_ret
      exact ⟨by rw [EQ.out]; rfl, rfl⟩
    · have j1 : ¬ (a : Int) ≤ 90 := by omega
      have EQ := hide (show cB true a = a by unfold cB; rw [if_neg (fun q => h90 q.2.2)])
      clear h65 h90
      go_enter Tryd.func53, Tryd.ntmps53
      go_wp2
      go_ret
      exact ⟨by rw [EQ.out]; rfl, rfl⟩
  · have j0 : ¬ (65 : Int) ≤ (a : Int) := by omega
    have EQ := hide (show cB true a = a by unfold cB; rw [if_neg (fun q => h65 q.2.1)])
    clear h65
    go_enter Tryd.func53, Tryd.ntmps53
    go_wp2
    go_ret
    exact ⟨by rw [EQ.out]; rfl, rfl⟩
set_option maxHeartbeats 1000000 in
theorem alike1_c (f : Bool) (a b : Nat) (ha : a < 256) (hb : b < 256) (w : World) : Calls Tryd.prog 43 #[.int .u8 (a : Int), .int .u8 (b : Int), .bool f] w fun e w' => e = .returned (.bool (decide (cB f a = cB f b))) ∧ w' = w := by
  by_cases hab : a = b
  · subst hab
    go_enter Tryd.func43, Tryd.ntmps43
    go_wp2
    go_ret
    exact ⟨by simp, rfl⟩
  · have i0 : ¬ (a : Int) = (b : Int) := by omega
    have e0 : ((a : Int) == (b : Int)) = false := by rw [beq_eq_false_iff_ne]; exact i0
    cases f with
    | false =>
      have EQ := hide (show decide (cB false a = cB false b) = false by simp [cB, hab])
      go_enter Tryd.func43, Tryd.ntmps43
      go_wp2
      go_ret
      exact ⟨by rw [EQ.out]; rfl, rfl⟩
    | true =>
      have LC := hide (fun a ha W => low1_c a ha W)
      by_cases hxy : cB true a = cB true b
      · have i1 : ((cB true a : Nat) : Int) = ((cB true b : Nat) : Int) := by omega
        have EQ := hide (show decide (cB true a = cB true b) = true from decide_eq_true hxy)
        clear hxy
        go_enter Tryd.func43, Tryd.ntmps43
        go_wp2_with (go_at_call 53; refine (LC.out _ (by omega) _).mono ?_; rintro e w' ⟨rfl, rfl⟩)
        go_ret
        exact ⟨by rw [EQ.out]; rfl, rfl⟩
      · have i1 : ¬ ((cB true a : Nat) : Int) = ((cB true b : Nat) : Int) := by omega
        have e1 : (((cB true a : Nat) : Int) == ((cB true b : Nat) : Int)) = false := by rw [beq_eq_false_iff_ne]; exact i1
        have EQ := hide (show decide (cB true a = cB true b) = false from decide_eq_false hxy)
        clear hxy
        go_enter Tryd.func43, Tryd.ntmps43
        go_wp2_with (go_at_call 53; refine (LC.out _ (by omega) _).mono ?_; rintro e w' ⟨rfl, rfl⟩)
        go_ret
        exact ⟨by rw [EQ.out]; rfl, rfl⟩
theorem pre_iff {f : Bool} {s line : ByteArray} {p : Nat} (h : p + s.size ≤ line.size) : cL f s <+: (cL f line).drop p ↔ ∀ (j : Nat) (hj : j < s.size), cB f (s[j]'hj).toNat = cB f (line[p + j]'(by omega)).toNat := by
  constructor
  · rintro ⟨t, ht⟩ j hj
    have h3 := cL_get f s hj
    have h4 := cL_get f line (i := p + j) (by omega)
    have h5 : ((cL f line).drop p)[j]? = (cL f line)[p + j]? := by rw [List.getElem?_drop]
    rw [← ht, List.getElem?_append_left (by rw [cL_len]; exact hj), h3, h4] at h5
    injection h5
  · intro h2
    rw [List.prefix_iff_eq_take]
    refine List.ext_getElem? fun j => ?_
    rw [List.getElem?_take, cL_len]
    by_cases hj : j < s.size
    · rw [if_pos hj, cL_get f s hj, List.getElem?_drop, cL_get f line (i := p + j) (by omega), h2 j hj]
    · rw [if_neg hj, List.getElem?_eq_none (by rw [cL_len]; omega)]
set_option maxRecDepth 100000 in
set_option maxHeartbeats 2000000 in
theorem stands_c (f : Bool) (s line : ByteArray) (p : Nat) (hp : p ≤ line.size) (hs : s.size ≤ 140737488355328) (hl : line.size ≤ 140737488355328) (w : World) :
    Calls Tryd.prog 29 #[.string s, .bool f, .string line, .int .i64 (p : Int)] w fun e w' => e = .returned (.bool (decide (cL f s <+: (cL f line).drop p))) ∧ Below w.heap.size w w' := by
  have w0 : IntKind.wrap .i64 ((line.size : Int) - (p : Int)) = (line.size : Int) - (p : Int) := wrap_small _ (by omega) (by omega)
  by_cases hfit : p + s.size ≤ line.size
  · have i0 : ¬ ((line.size : Int) - (p : Int) < (s.size : Int)) := by omega
    have PI := hide (pre_iff (f := f) hfit)
    go_enter Tryd.func29, Tryd.ntmps29
    go_wp2
    go_loopw [9] (fun i wr => ∃ (k : Nat), i = .int .i64 (k : Int) ∧ k ≤ s.size ∧ Below w.heap.size w wr ∧ ∀ (j : Nat) (hj : j < s.size), j < k → cB f (s[j]'hj).toNat = cB f (line[p + j]'(by omega)).toNat) (fun i _ => s.size + 1 - (intOf i).toNat)
    case atStart => exact ⟨0, rfl, by omega, Below.refl _ _, fun j _ h => by omega⟩
    case round =>
      obtain ⟨k, rfl, hk, hb, ha⟩ := hrel
      have HB := hide hb
      have HA := hide ha
      clear hb ha
      by_cases hlt : k < s.size
      · have j0 : (k : Int) < (s.size : Int) := by omega
        have j1 : (0 : Int) ≤ (k : Int) := by omega
        have wk : IntKind.wrap .i64 ((k : Int) + 1) = (k : Int) + 1 := wrap_small _ (by omega) (by omega)
        have wp : IntKind.wrap .i64 ((p : Int) + (k : Int)) = (p : Int) + (k : Int) := wrap_small _ (by omega) (by omega)
        have j2 : (p : Int) + (k : Int) < (line.size : Int) := by omega
        have j3 : (0 : Int) ≤ (p : Int) + (k : Int) := by omega
        have j4 : p + k < line.size := by omega
        have j5 : ((p : Int) + (k : Int)).toNat = p + k := by omega
        have AC := hide (fun W => alike1_c f (s[k]'hlt).toNat (line[p + k]'j4).toNat (s[k]'hlt).toNat_lt (line[p + k]'j4).toNat_lt W)
        go_upto_region 6 with fail
        go_quiet (first | (go_at_call 43; exact Calls.quiet_of_same (AC.out _)))
        have FIN := hide (show Below w.heap.size w (wr.drewN nq) from chain HB.out (below_drewN _ _) (Nat.le_refl _))
        by_cases hE : cB f (s[k]'hlt).toNat = cB f (line[p + k]'j4).toNat
        · have hd : decide (cB f (s[k]'hlt).toNat = cB f (line[p + k]'j4).toNat) = true := decide_eq_true hE
          have HE := hide hE
          clear hE
          go_wp2
          go_roundw
          case rel => exact ⟨k + 1, by go_num, by omega, FIN.out, fun j hj h => by
            by_cases e : j = k
            · subst e; exact HE.out
            · exact HA.out j hj (by omega)⟩
          case measure => simp [intOf]; omega
        · have hd : decide (cB f (s[k]'hlt).toNat = cB f (line[p + k]'j4).toNat) = false := decide_eq_false hE
          have HE := hide (show decide (cL f s <+: (cL f line).drop p) = false from decide_eq_false (fun q => hE (PI.out.1 q k hlt)))
          clear hE
          go_wp2
          go_ret
          exact ⟨by rw [HE.out]; rfl, FIN.out⟩
      · have j0 : ¬ (k : Int) < (s.size : Int) := by omega
        have HE := hide (show decide (cL f s <+: (cL f line).drop p) = true from decide_eq_true (PI.out.2 (fun j hj => HA.out j hj (by omega))))
        go_wp2
        go_ret
        exact ⟨by rw [HE.out]; rfl, HB.out⟩
  · have i0 : (line.size : Int) - (p : Int) < (s.size : Int) := by omega
    have HE := hide (show decide (cL f s <+: (cL f line).drop p) = false from decide_eq_false (fun q => by
      have := q.length_le
      rw [cL_len, List.length_drop, cL_len] at this
      omega))
    go_enter Tryd.func29, Tryd.ntmps29
    go_wp2
    go_ret
    exact ⟨by rw [HE.out]; rfl, Below.refl _ _⟩
end Go.Proofs.YtaikcnoiaaiopaaDoor
