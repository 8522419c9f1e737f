/-
  The chapter's examples.
-/
import Derived.Test.YtobeiigmeflbjaaHelp4
namespace Go.Proofs.Ytobeiigmeflbjaa
open Go Go.RowKit

/-- A pile of numbers beside two new cells. -/
structure PC (n : Nat) (w : World) (b : Nat) (v : Value) (L : List Int) (c g ub : Nat) : Prop where
  p : PI n w b v L
  a : CA n w c g ub (.slice none 0 0) [-1, -1] []
  d : v.ownBlock ≠ some g
  hn : n ≤ w.heap.size
theorem pi_sep {n n' : Nat} {w : World} {b : Nat} {v : Value} {L : List Int} {c g ub : Nat} {uv : Value} {V : List Int} {U : List (Int × Int)} (p : PI n w b v L) (a : CA n' w c g ub uv V U) (d : v.ownBlock ≠ some g) : ∀ k, clies c g ub uv k → ¬ foot b v k := fun k hk q => by
  rcases hk with rfl | rfl | hk
  · rcases q with rfl | q
    · exact ne_type a.hb p.hb (by decide) rfl
    · exact ownsRow_not p.own a.hb (by decide) q
  · rcases q with rfl | q
    · exact ne_type a.hg p.hb (by decide) rfl
    · exact d q
  · rcases hk with rfl | hk
    · rcases q with rfl | q
      · exact ne_type a.u.hb p.hb (by decide) rfl
      · exact ownsRow_not p.own a.u.hb (by decide) q
    · obtain ⟨_, _, cur, hcur⟩ := ownsRow_at a.u.own hk
      rcases q with rfl | q
      · exact ne_type hcur p.hb (by decide) rfl
      · exact ownsRow_not p.own hcur (by decide) q
theorem moved_ne {v v' : Value} {n g : Nat} (h : moved v v' n) (hd : v.ownBlock ≠ some g) (hg : g < n) : v'.ownBlock ≠ some g := fun q => hd (moved_in h hg q)
theorem PC.go {n : Nat} {w w' : World} {b : Nat} {v v' : Value} {L L' : List Int} {c g ub : Nat} (h : PC n w b v L c g ub) (hp : PI n w' b v' L') (hm : moved v v' w.heap.size) (hf : Fr (foot b v) w w') : PC n w' b v' L' c g ub :=
  ⟨hp, h.a.fr hf (pi_sep h.p h.a h.d), moved_ne hm h.d (h.a.lt g (.inr (.inl rfl))), Nat.le_trans h.hn hf.size⟩

set_option maxRecDepth 100000 in
set_option maxHeartbeats 4000000 in
theorem known_c (w : World) : Calls Try.prog 9 #[] w fun e w' => e = .returned (.bool true) ∧ Below w.heap.size w w' := by
  have nc := newCells (n := 2) (by decide)
  have NC : Hid (∀ W : World, Calls Try.prog 16 #[.int .i64 2] W fun e w' => ∃ b g ub, e = .returned (.tuple #[.pointer (some ⟨b, 0, none⟩), .int .i64 0]) ∧ CA W.heap.size w' b g ub (.slice none 0 0) [-1, -1] [] ∧ Below W.heap.size W w') := nc
  clear nc
  go_enter Try.func9, Try.ntmps9
  go_upto_region 2 with (go_at_call 31; (with_reducible refine (newI _).mono ?_); rintro e w1 ⟨rfl, hp, hb, hs⟩; have P1 : Hid (PI w.heap.size w1 w.heap.size (.slice none 0 0) []) := hp; have B1 : Hid (Below w.heap.size w w1) := hb; clear hp hb hs)
  go_upto_region 3 with (go_at_call 16; (with_reducible refine (NC.out _).mono ?_); rintro e w2 ⟨c, g, ub, rfl, ha, hb⟩; have X2 : Hid (PC w.heap.size w2 w.heap.size (.slice none 0 0) [] c g ub) := ⟨P1.out.kept hb, ha.mono B1.out.size, by simp [Value.ownBlock], Nat.le_trans B1.out.size hb.size⟩; have B2 : Hid (Below w.heap.size w w2) := chain B1.out hb (Nat.le_refl _); clear ha hb)
  go_upto_region 6 with (go_at_call 32; (with_reducible refine (pushI X2.out.p X2.out.hn (by decide) _).mono ?_); rintro e w3 ⟨rfl, v3, hp, hm, hf⟩; have X3 : Hid (PC w.heap.size w3 w.heap.size v3 [1] c g ub) := X2.out.go hp hm hf; have B3 : Hid (Below w.heap.size w w3) := chainF B2.out hf (Nat.le_refl _) X2.out.p.foot; clear hp hm hf)
  go_upto_region 7 with (go_at_call 32; (with_reducible refine (pushI X3.out.p X3.out.hn (by decide) _).mono ?_); rintro e w4 ⟨rfl, v4, hp, hm, hf⟩; have X4 : Hid (PC w.heap.size w4 w.heap.size v4 [1, 2] c g ub) := X3.out.go hp hm hf; have B4 : Hid (Below w.heap.size w w4) := chainF B3.out hf (Nat.le_refl _) X3.out.p.foot; clear hp hm hf)
  go_upto_region 8 with (go_at_call 32; (with_reducible refine (pushI X4.out.p X4.out.hn (by decide) _).mono ?_); rintro e w5 ⟨rfl, v5, hp, hm, hf⟩; have X5 : Hid (PC w.heap.size w5 w.heap.size v5 [1, 2, 3] c g ub) := X4.out.go hp hm hf; have B5 : Hid (Below w.heap.size w w5) := chainF B4.out hf (Nat.le_refl _) X4.out.p.foot; clear hp hm hf)
  go_upto_region 9 with (go_at_call 33; (with_reducible refine (cutI_bad X5.out.p (n := 4) (.inr (by decide))).mono ?_); rintro e w6 ⟨rfl, h6⟩; subst w6)
  have CT : Hid (Calls Try.prog 33 #[.pointer (some ⟨w.heap.size, 0, none⟩), .int .i64 1] w5 fun e w' => e = .returned (.int .i64 0) ∧ ∃ v', PI w.heap.size w' w.heap.size v' [1] ∧ v'.ownBlock = v5.ownBlock ∧ Fr (foot w.heap.size v5) w5 w') := cutI X5.out.p (n := 1) (by decide)
  go_upto_region 10 with (go_at_call 33; (with_reducible refine CT.out.mono ?_); rintro e w6 ⟨rfl, v6, hp, hm, hf⟩; have X6 : Hid (PC w.heap.size w6 w.heap.size v6 [1] c g ub) := X5.out.go hp (.inl hm) hf; have B6 : Hid (Below w.heap.size w w6) := chainF B5.out hf (Nat.le_refl _) X5.out.p.foot; clear hp hm hf)
  go_upto_region 11 with (go_at_call 36; (with_reducible refine (topI (L := []) (x := 1) X6.out.p).mono ?_); rintro e w7 ⟨rfl, h7⟩; subst w7)
  go_upto_region 12 with (go_at_call 37; (with_reducible refine (popI (L := []) (x := 1) X6.out.p).mono ?_); rintro e w7 ⟨rfl, v7, hp, hm, hf⟩; have X7 : Hid (PC w.heap.size w7 w.heap.size v7 [] c g ub) := X6.out.go hp (.inl hm) hf; have B7 : Hid (Below w.heap.size w w7) := chainF B6.out hf (Nat.le_refl _) X6.out.p.foot; clear hp hm hf)
  go_upto_region 13 with (go_at_call 37; (with_reducible refine (popI_none X7.out.p).mono ?_); rintro e w8 ⟨rfl, h8⟩; subst w8)
  have S1 : Hid (Calls Try.prog 19 #[.pointer (some ⟨c, 0, none⟩), .int .i64 0, .int .i64 5] w7 fun e w' => e = .returned (.int .i64 0) ∧ ∃ uv', CA w.heap.size w' c g ub uv' [5, -1] [(0, -1)] ∧ moved (.slice none 0 0) uv' w7.heap.size ∧ Fr (cfoot g ub (.slice none 0 0)) w7 w') := set_in X7.out.a X7.out.hn (by decide) (i := 0) (y := -1) rfl 5
  go_upto_region 14 with (go_at_call 19; (with_reducible refine S1.out.mono ?_); rintro e w8 ⟨rfl, u8, hp, hm, hf⟩; have A8 : Hid (CA w.heap.size w8 c g ub u8 [5, -1] [(0, -1)]) := hp; have B8 : Hid (Below w.heap.size w w8) := chainF B7.out hf (Nat.le_refl _) X7.out.a.lof; clear hp hm hf)
  go_upto_region 15 with (go_at_call 27; (with_reducible refine (mark_c A8.out).mono ?_); rintro e w9 ⟨rfl, h9⟩; subst w9)
  have S2 : Hid (Calls Try.prog 19 #[.pointer (some ⟨c, 0, none⟩), .int .i64 0, .int .i64 7] w8 fun e w' => e = .returned (.int .i64 0) ∧ ∃ uv', CA w.heap.size w' c g ub uv' [7, -1] [(0, -1), (0, 5)] ∧ moved u8 uv' w8.heap.size ∧ Fr (cfoot g ub u8) w8 w') := set_in A8.out B8.out.size (by decide) (i := 0) (y := 5) rfl 7
  go_upto_region 16 with (go_at_call 19; (with_reducible refine S2.out.mono ?_); rintro e w9 ⟨rfl, u9, hp, hm, hf⟩; have A9 : Hid (CA w.heap.size w9 c g ub u9 [7, -1] [(0, -1), (0, 5)]) := hp; have B9 : Hid (Below w.heap.size w w9) := chainF B8.out hf (Nat.le_refl _) A8.out.lof; clear hp hm hf)
  have G1 : Hid (Calls Try.prog 21 #[.pointer (some ⟨c, 0, none⟩), .int .i64 0] w9 fun e w' => e = .returned (.tuple #[.int .i64 7, .bool true]) ∧ w' = w9) := get_in A9.out (i := 0) (x := 7) rfl
  go_upto_region 17 with (go_at_call 21; (with_reducible refine G1.out.mono ?_); rintro e w10 ⟨rfl, h10⟩; subst w10)
  have BK : Hid (Calls Try.prog 23 #[.pointer (some ⟨c, 0, none⟩), .int .i64 1] w9 fun e w' => e = .returned (.int .i64 0) ∧ ∃ uv', CA w.heap.size w' c g ub uv' [5, -1] [(0, -1)] ∧ uv'.ownBlock = u9.ownBlock ∧ Fr (cfoot g ub u9) w9 w') := back_c A9.out (m := 1) (by decide)
  go_upto_region 18 with (go_at_call 23; (with_reducible refine BK.out.mono ?_); rintro e w10 ⟨rfl, u10, hp, hm, hf⟩; have A10 : Hid (CA w.heap.size w10 c g ub u10 [5, -1] [(0, -1)]) := hp; have B10 : Hid (Below w.heap.size w w10) := chainF B9.out hf (Nat.le_refl _) A9.out.lof; clear hp hm hf)
  have G2 : Hid (Calls Try.prog 21 #[.pointer (some ⟨c, 0, none⟩), .int .i64 0] w10 fun e w' => e = .returned (.tuple #[.int .i64 5, .bool true]) ∧ w' = w10) := get_in A10.out (i := 0) (x := 5) rfl
  go_wp2_with (go_at_call 21; (with_reducible refine G2.out.mono ?_); rintro e w11 ⟨rfl, h11⟩; subst w11)
  go_ret
  exact ⟨rfl, B10.out⟩
end Go.Proofs.Ytobeiigmeflbjaa
