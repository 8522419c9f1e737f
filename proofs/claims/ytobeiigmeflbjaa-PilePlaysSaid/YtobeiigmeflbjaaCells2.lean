/-
  Cells: Set and Back.
-/
import Derived.Test.YtobeiigmeflbjaaCells
namespace Go.Proofs.Ytobeiigmeflbjaa
open Go Go.RowKit

theorem CA.undo {base : Nat} {w w' : World} {b g ub : Nat} {uv uv' : Value} {V : List Int} {U U' : List (Int × Int)} (h : CA base w b g ub uv V U) (hf : Fr (foot ub uv) w w') (hu : PU base w' ub uv' U') (hok : ∀ p ∈ U', ∃ k : Nat, p.1 = k ∧ k < V.length) : CA base w' b g ub uv' V U' :=
  ⟨(hf.block b (lt_of_heap h.hb) h.nub).trans h.hb, (hf.block g (lt_of_heap h.hg) h.nug).trans h.hg, h.lb, h.lg, hu, hok, h.few⟩

set_option maxRecDepth 100000 in
set_option maxHeartbeats 1000000 in
theorem set_out {base : Nat} {w : World} {b g ub : Nat} {uv : Value} {V : List Int} {U : List (Int × Int)} (h : CA base w b g ub uv V U) {i : Int} (hi : i < 0 ∨ (V.length : Int) ≤ i) (x : Int) :
    Calls Try.prog 19 #[.pointer (some ⟨b, 0, none⟩), .int .i64 i, .int .i64 x] w fun e w' => e = .returned (.int .i64 1) ∧ w' = w := by
  have H : Hid (CA base w b g ub uv V U) := h
  have HI : Hid (i < 0 ∨ (V.length : Int) ≤ i) := hi
  clear h hi
  go_enter Try.func19, Try.ntmps19
  go_wp2_with (go_at_call 44; (with_reducible refine (has_out H.out HI.out).mono ?_); rintro e w5 ⟨rfl, h5⟩; subst w5)
  go_ret
  exact ⟨rfl, rfl⟩

set_option maxRecDepth 100000 in
set_option maxHeartbeats 4000000 in
theorem set_in {base : Nat} {w : World} {b g ub : Nat} {uv : Value} {V : List Int} {U : List (Int × Int)} (h : CA base w b g ub uv V U) (hbase : base ≤ w.heap.size) (hl : U.length ≤ 1000000) {i : Nat} {y : Int} (hi : V[i]? = some y) (x : Int) :
    Calls Try.prog 19 #[.pointer (some ⟨b, 0, none⟩), .int .i64 i, .int .i64 x] w fun e w' => e = .returned (.int .i64 0) ∧ ∃ uv', CA base w' b g ub uv' (V.set i x) (U ++ [((i : Int), y)]) ∧ moved uv uv' w.heap.size ∧ Fr (cfoot g ub uv) w w' := by
  have hil : i < V.length := (List.getElem?_eq_some_iff.1 hi).1
  have H : Hid (CA base w b g ub uv V U) := h
  have HV : Hid (V[i]? = some y) := hi
  have c0 := h.c0
  have c1 := h.c1
  have ci := h.cell hi
  have e1 : (i : Int) < (V.length : Int) := by omega
  have e0 : (0 : Int) ≤ (i : Int) := by omega
  clear h hi
  go_enter Try.func19, Try.ntmps19
  go_upto_region 3 with (go_at_call 44; (with_reducible refine (has_in H.out hil).mono ?_); rintro e w5 ⟨rfl, h5⟩; subst w5)
  have PH : Hid (Calls Try.prog 45 #[.pointer (some ⟨ub, 0, none⟩), .agg #[.int .i64 (i : Int), .int .i64 y]] w.drew fun e w' => e = .returned (.tuple #[]) ∧ ∃ v', PU base w' ub v' (U ++ [((i : Int), y)]) ∧ moved uv v' w.heap.size ∧ Fr (foot ub uv) w w') :=
    (pushU (H.out.u.kept (Below.refl _ _).drew) (by simpa using hbase) hl ((i : Int), y)).mono fun e w' ⟨q1, v', q2, q3, q4⟩ => ⟨q1, v', q2, by simpa using q3, ((Fr.refl _ w).drew).trans q4⟩
  go_region_with (go_at_call 45; (with_reducible refine PH.out.mono ?_); rintro e w6 ⟨rfl, v', hp6, hm6, hf6⟩; have H6 : Hid (CA base w6 b g ub v' V (U ++ [((i : Int), y)])) := H.out.undo hf6 hp6 (fun p hp => by rcases List.mem_append.1 hp with q | q; exact H.out.ok p q; obtain rfl := List.mem_singleton.1 q; exact ⟨i, rfl, hil⟩); have M6 : Hid (moved uv v' w.heap.size ∧ Fr (foot ub uv) w w6) := ⟨hm6, hf6⟩; clear hp6 hm6 hf6 c0 c1 ci; have c0 := H6.out.c0; have ci := H6.out.cell HV.out; have fi := H6.out.frz i)
  all_goals go_wp2
  all_goals go_ret
  all_goals exact ⟨rfl, v', H6.out.set i x, M6.out.1, (M6.out.2.mono (fun k q => .inr q)).setCell (p := ⟨g, i, none⟩) (.inl rfl) _⟩

/-- The values behind a mark, taken back, the last one ahead. -/
def backV (V : List Int) (U : List (Int × Int)) (m : Nat) : List Int := (U.drop m).foldr (fun p A => A.set p.1.toNat p.2) V
theorem backV_length (V : List Int) (U : List (Int × Int)) (m : Nat) : (backV V U m).length = V.length := by
  unfold backV
  induction U.drop m with
  | nil => rfl
  | cons p R ih => simp [ih]
theorem backV_all (V : List Int) (U : List (Int × Int)) : backV V U U.length = V := by simp [backV]
theorem backV_step (V : List Int) (U : List (Int × Int)) {k : Nat} {p : Int × Int} (hk : U[k]? = some p) : backV V U k = (backV V U (k + 1)).set p.1.toNat p.2 := by
  have hl := (List.getElem?_eq_some_iff.1 hk)
  obtain ⟨h1, h2⟩ := hl
  unfold backV
  rw [List.drop_eq_getElem_cons h1, h2]
  rfl
/-- How long the list of a pile is, by its memory. -/
def lenAt (w : World) (ub : Nat) : Nat := match w.cell? ⟨ub, 0, none⟩ with | some (.slice _ n _) => n | _ => 0
theorem PU.lenAt {base : Nat} {w : World} {b : Nat} {v : Value} {L : List (Int × Int)} (h : PU base w b v L) : lenAt w b = L.length := by
  obtain ⟨q, c, rfl⟩ := ownsRow_shape h.own
  have : w.cell? ⟨b, 0, none⟩ = some (.slice q L.length c) := cell_row h.hb (i := 0) rfl
  simp [Go.Proofs.Ytobeiigmeflbjaa.lenAt, this]

set_option maxRecDepth 100000 in
set_option maxHeartbeats 1000000 in
theorem back_bad {base : Nat} {w : World} {b g ub : Nat} {uv : Value} {V : List Int} {U : List (Int × Int)} (h : CA base w b g ub uv V U) {m : Int} (hm : m < 0 ∨ (U.length : Int) < m) :
    Calls Try.prog 23 #[.pointer (some ⟨b, 0, none⟩), .int .i64 m] w fun e w' => e = .returned (.int .i64 1) ∧ w' = w := by
  have H : Hid (CA base w b g ub uv V U) := h
  clear h
  rcases hm with hm | hm
  · go_enter Try.func23, Try.ntmps23
    go_wp2
    go_ret
    exact ⟨rfl, rfl⟩
  · have n0 : ¬ m < 0 := by omega
    go_enter Try.func23, Try.ntmps23
    go_wp2_with (go_at_call 27; (with_reducible refine (mark_c H.out).mono ?_); rintro e w5 ⟨rfl, h5⟩; subst w5)
    go_ret
    exact ⟨rfl, rfl⟩
end Go.Proofs.Ytobeiigmeflbjaa
