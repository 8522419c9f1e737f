/-
  Cells: how they lie in memory; New, Get, Mark, Values.
-/
import Derived.Test.YtobeiigmeflbjaaPileU2
namespace Go.Proofs.Ytobeiigmeflbjaa
open Go Go.RowKit

/-- Cells in memory: their struct in block b, their values in g, their undos' pile in ub with the list uv. -/
structure CA (base : Nat) (w : World) (b g ub : Nat) (uv : Value) (V : List Int) (U : List (Int × Int)) : Prop where
  hb : w.heap[b]? = some (.cells #[.slice (some ⟨g, 0, none⟩) V.length V.length, .pointer (some ⟨ub, 0, none⟩)] 86 (0, 0))
  hg : w.heap[g]? = some (.cells (ints V).toArray 3 (0, 0))
  lb : base ≤ b
  lg : base ≤ g
  u : PU base w ub uv U
  ok : ∀ p ∈ U, ∃ k : Nat, p.1 = k ∧ k < V.length
  few : V.length ≤ 100000
/-- What cells may change. -/
def cfoot (g ub : Nat) (uv : Value) (k : Nat) : Prop := k = g ∨ foot ub uv k
/-- Where cells lie. -/
def clies (b g ub : Nat) (uv : Value) (k : Nat) : Prop := k = b ∨ cfoot g ub uv k
theorem CA.lo {base : Nat} {w : World} {b g ub : Nat} {uv : Value} {V : List Int} {U : List (Int × Int)} (h : CA base w b g ub uv V U) : ∀ k, clies b g ub uv k → base ≤ k := fun k hk => by
  rcases hk with rfl | rfl | q
  · exact h.lb
  · exact h.lg
  · exact h.u.foot k q
theorem CA.lof {base : Nat} {w : World} {b g ub : Nat} {uv : Value} {V : List Int} {U : List (Int × Int)} (h : CA base w b g ub uv V U) : ∀ k, cfoot g ub uv k → base ≤ k := fun k hk => h.lo k (.inr hk)
theorem CA.lt {base : Nat} {w : World} {b g ub : Nat} {uv : Value} {V : List Int} {U : List (Int × Int)} (h : CA base w b g ub uv V U) : ∀ k, clies b g ub uv k → k < w.heap.size := fun k hk => by
  rcases hk with rfl | rfl | q
  · exact lt_of_heap h.hb
  · exact lt_of_heap h.hg
  · exact h.u.lt k q
theorem CA.fr {base : Nat} {w w' : World} {b g ub : Nat} {uv : Value} {V : List Int} {U : List (Int × Int)} {S : Nat → Prop} (h : CA base w b g ub uv V U) (hf : Fr S w w') (hs : ∀ k, clies b g ub uv k → ¬ S k) : CA base w' b g ub uv V U :=
  ⟨(hf.block b (lt_of_heap h.hb) (hs b (.inl rfl))).trans h.hb, (hf.block g (lt_of_heap h.hg) (hs g (.inr (.inl rfl)))).trans h.hg, h.lb, h.lg, h.u.fr hf (fun k hk => hs k (.inr (.inr hk))), h.ok, h.few⟩
theorem CA.kept {base : Nat} {w w' : World} {b g ub : Nat} {uv : Value} {V : List Int} {U : List (Int × Int)} (h : CA base w b g ub uv V U) (hb : Below w.heap.size w w') : CA base w' b g ub uv V U := h.fr (S := fun _ => False) (Fr.of_below hb) (fun _ _ q => q)
theorem CA.mono {base base' : Nat} {w : World} {b g ub : Nat} {uv : Value} {V : List Int} {U : List (Int × Int)} (h : CA base w b g ub uv V U) (hb : base' ≤ base) : CA base' w b g ub uv V U :=
  ⟨h.hb, h.hg, Nat.le_trans hb h.lb, Nat.le_trans hb h.lg, ⟨h.u.hb, Nat.le_trans hb h.u.lo, ownsRow_mono h.u.own hb⟩, h.ok, h.few⟩
theorem CA.nbg {base : Nat} {w : World} {b g ub : Nat} {uv : Value} {V : List Int} {U : List (Int × Int)} (h : CA base w b g ub uv V U) : b ≠ g := ne_type h.hb h.hg (by decide)
theorem CA.nug {base : Nat} {w : World} {b g ub : Nat} {uv : Value} {V : List Int} {U : List (Int × Int)} (h : CA base w b g ub uv V U) : ¬ foot ub uv g := fun q => by
  rcases q with q | q
  · exact ne_type h.hg h.u.hb (by decide) q
  · exact ownsRow_not h.u.own h.hg (by decide) q
theorem CA.nub {base : Nat} {w : World} {b g ub : Nat} {uv : Value} {V : List Int} {U : List (Int × Int)} (h : CA base w b g ub uv V U) : ¬ foot ub uv b := fun q => by
  rcases q with q | q
  · exact ne_type h.hb h.u.hb (by decide) q
  · exact ownsRow_not h.u.own h.hb (by decide) q
theorem CA.c0 {base : Nat} {w : World} {b g ub : Nat} {uv : Value} {V : List Int} {U : List (Int × Int)} (h : CA base w b g ub uv V U) : w.cell? ⟨b, 0, none⟩ = some (.slice (some ⟨g, 0, none⟩) V.length V.length) := cell_row h.hb (i := 0) rfl
theorem CA.c1 {base : Nat} {w : World} {b g ub : Nat} {uv : Value} {V : List Int} {U : List (Int × Int)} (h : CA base w b g ub uv V U) : w.cell? ⟨b, 1, none⟩ = some (.pointer (some ⟨ub, 0, none⟩)) := cell_row h.hb (i := 1) rfl
theorem CA.cell {base : Nat} {w : World} {b g ub : Nat} {uv : Value} {V : List Int} {U : List (Int × Int)} (h : CA base w b g ub uv V U) {i : Nat} {x : Int} (hi : V[i]? = some x) : w.cell? ⟨g, i, none⟩ = some (.int .i64 x) := cell_row h.hg (by simpa using ints_get hi)
theorem CA.frz {base : Nat} {w : World} {b g ub : Nat} {uv : Value} {V : List Int} {U : List (Int × Int)} (h : CA base w b g ub uv V U) (i : Nat) : w.frozen? ⟨g, i, none⟩ = false := frz_row h.hg i
theorem ints_set (V : List Int) (i : Nat) (x : Int) : ints (V.set i x) = (ints V).set i (.int .i64 x) := by simp [ints, List.map_set]
theorem CA.set {base : Nat} {w : World} {b g ub : Nat} {uv : Value} {V : List Int} {U : List (Int × Int)} (h : CA base w b g ub uv V U) (i : Nat) (x : Int) : CA base (w.setCell ⟨g, i, none⟩ (.int .i64 x)) b g ub uv (V.set i x) U := by
  have hf : Fr (fun k => k = g) w (w.setCell ⟨g, i, none⟩ (.int .i64 x)) := (Fr.refl (fun k => k = g) w).setCell (p := ⟨g, i, none⟩) rfl _
  refine ⟨?_, ?_, h.lb, h.lg, h.u.fr hf (fun k hk e => h.nug (e ▸ hk)), ?_, by simpa using h.few⟩
  · rw [List.length_set]
    exact (hf.block b (lt_of_heap h.hb) h.nbg).trans h.hb
  · have := heap_set_in h.hg i (.int .i64 x)
    rw [this, ints_set]
    simp
  · intro p hp
    obtain ⟨k, h1, h2⟩ := h.ok p hp
    exact ⟨k, h1, by simpa using h2⟩

theorem make_ints (n : Nat) (h : n ≤ 1000000) (w : World) :
    (Instr.makeSlice 60 (.int .i64 (n : Int)) (.int .i64 (n : Int))).run Try.prog w = .ok (.slice (some ⟨w.heap.size, 0, none⟩) n n) (w.alloc (.cells (madeCells #[.int .i64 0] n) 3)) := by
  obtain ⟨i0, hi, hz0, hz1, hz2⟩ := info_parts size_int
  have := run_make (P := Try.prog) w 60 3 i0 (.int .i64 0) und_ints hi hz0 .i64 .i64 (n : Int) (n : Int) (by omega) (by omega) (by rw [hz2]; omega) (by omega)
  rw [hz1] at this
  simpa [Value.cells] using this
theorem splice_all {α : Type} (a b : List α) (h : a.length = b.length) : splice a 0 b = b := by
  simp [splice, ← h]
theorem made_zero (n : Nat) : madeCells #[.int .i64 0] n = (ints (List.replicate n 0)).toArray := by
  apply Array.ext
  · simp [madeCells, ints]
  intro i h1 h2
  simp [madeCells, ints, Nat.mod_one]

set_option maxRecDepth 100000 in
set_option maxHeartbeats 400000 in
theorem newCells_bad {n : Int} (hn : n < 0 ∨ 100000 < n) (w : World) :
    Calls Try.prog 16 #[.int .i64 n] w fun e w' => e = .returned (.tuple #[.pointer none, .int .i64 1]) ∧ w' = w := by
  rcases hn with hn | hn
  · go_enter Try.func16, Try.ntmps16
    go_wp2
    go_ret2
    exact ⟨rfl, rfl⟩
  · have n0 : ¬ n < 0 := by omega
    go_enter Try.func16, Try.ntmps16
    go_wp2
    go_ret2
    exact ⟨rfl, rfl⟩

/-- New cells, ahead of the loop. -/
structure NewC (w w' : World) (b g ub n : Nat) : Prop where
  a : CA w.heap.size w' b g ub (.slice none 0 0) (List.replicate n 0) []
  bel : Below w.heap.size w w'

theorem newC_mk {w W : World} {b g ub n : Nat} (hn : n ≤ 100000) (hb : W.heap[b]? = some (.cells #[.slice (some ⟨g, 0, none⟩) n n, .pointer (some ⟨ub, 0, none⟩)] 86 (0, 0))) (hg : W.heap[g]? = some (.cells (madeCells #[.int .i64 0] n) 3 (0, 0)))
    (hu : PU w.heap.size W ub (.slice none 0 0) []) (lb : w.heap.size ≤ b) (lg : w.heap.size ≤ g) (bel : Below w.heap.size w W) : NewC w W b g ub n :=
  ⟨⟨(by rw [List.length_replicate]; exact hb), (by rw [← made_zero]; exact hg), lb, lg, hu, (fun p hp => by cases hp), by simpa using hn⟩, bel⟩
theorem PU.mono {base base' : Nat} {w : World} {b : Nat} {v : Value} {L : List (Int × Int)} (h : PU base w b v L) (hb : base' ≤ base) : PU base' w b v L := ⟨h.hb, Nat.le_trans hb h.lo, ownsRow_mono h.own hb⟩
theorem newC_a {w w2 : World} {n : Nat} (hn : n ≤ 100000) (hp : PU (w.alloc (.cells (madeCells #[.int .i64 0] n) 3)).drew.heap.size w2 (w.alloc (.cells (madeCells #[.int .i64 0] n) 3)).drew.heap.size (.slice none 0 0) [])
    (hb : Below (w.alloc (.cells (madeCells #[.int .i64 0] n) 3)).drew.heap.size (w.alloc (.cells (madeCells #[.int .i64 0] n) 3)).drew w2) (hs : w2.heap.size = (w.alloc (.cells (madeCells #[.int .i64 0] n) 3)).drew.heap.size + 1) :
    NewC w (w2.alloc (.cells #[.slice (some ⟨w.heap.size, 0, none⟩) n n, .pointer (some ⟨w.heap.size + 1, 0, none⟩)] 86)) w2.heap.size w.heap.size (w.heap.size + 1) n := by
  have e1 : (w.alloc (.cells (madeCells #[.int .i64 0] n) 3)).drew.heap.size = w.heap.size + 1 := by simp
  rw [e1] at hp hb hs
  have g0 : (w.alloc (.cells (madeCells #[.int .i64 0] n) 3)).drew.heap[w.heap.size]? = some (.cells (madeCells #[.int .i64 0] n) 3 (0, 0)) := alloc_new w _
  have b2 : Below w.heap.size w w2 := ((Below.refl _ _).alloc (Nat.le_refl _) _).drew.trans (hb.mono (by omega))
  exact newC_mk hn (alloc_new w2 _) ((Below.heap_alloc _ _ _ (by omega)).trans ((hb.block _ (by omega)).trans g0)) ((hp.mono (by omega)).kept ((Below.refl _ _).alloc (Nat.le_refl _) _)) (by omega) (Nat.le_refl _) (b2.alloc (by omega) _)
theorem newC_b {w w2 : World} {n : Nat} (hn : n ≤ 100000) (hp : PU w.drew.heap.size w2 w.drew.heap.size (.slice none 0 0) [])
    (hb : Below w.drew.heap.size w.drew w2) (hs : w2.heap.size = w.drew.heap.size + 1) :
    NewC w ((w2.alloc (.cells (madeCells #[.int .i64 0] n) 3)).alloc (.cells #[.slice (some ⟨w2.heap.size, 0, none⟩) n n, .pointer (some ⟨w.heap.size, 0, none⟩)] 86)) (w2.heap.size + 1) w2.heap.size w.heap.size n := by
  have e1 : w.drew.heap.size = w.heap.size := by simp
  rw [e1] at hp hb hs
  have b2 : Below w.heap.size w w2 := (Below.refl _ _).drew.trans hb
  have e2 : (w2.alloc (.cells (madeCells #[.int .i64 0] n) 3)).heap.size = w2.heap.size + 1 := by simp
  have k : Below w2.heap.size w2 ((w2.alloc (.cells (madeCells #[.int .i64 0] n) 3)).alloc (.cells #[.slice (some ⟨w2.heap.size, 0, none⟩) n n, .pointer (some ⟨w.heap.size, 0, none⟩)] 86)) := ((Below.refl _ _).alloc (Nat.le_refl _) _).alloc (by rw [e2]; omega) _
  refine newC_mk hn ?_ ((Below.heap_alloc _ _ _ (by rw [e2]; omega)).trans (alloc_new w2 _)) (hp.kept k) (by omega) (by omega) (chain b2 k (Nat.le_refl _))
  have := alloc_new (w2.alloc (.cells (madeCells #[.int .i64 0] n) 3)) (.cells #[.slice (some ⟨w2.heap.size, 0, none⟩) n n, .pointer (some ⟨w.heap.size, 0, none⟩)] 86)
  rw [e2] at this
  exact this

set_option maxRecDepth 100000 in
set_option maxHeartbeats 1000000 in
theorem newCells {n : Nat} (hn : n ≤ 100000) (w : World) :
    Calls Try.prog 16 #[.int .i64 n] w fun e w' => ∃ b g ub, e = .returned (.tuple #[.pointer (some ⟨b, 0, none⟩), .int .i64 0]) ∧ CA w.heap.size w' b g ub (.slice none 0 0) (List.replicate n (-1)) [] ∧ Below w.heap.size w w' := by
  have m0 := make_ints n (by omega)
  have h0 : (0 : Int) ≤ (n : Int) := by omega
  have h1 : (n : Int) ≤ 100000 := by omega
  have h0' : ¬ (n : Int) < 0 := by omega
  go_enter Try.func16, Try.ntmps16
  go_upto_region 3 with fail
  go_cut [4] (fun t wr => ∃ b g ub, t = .pointer (some ⟨b, 0, none⟩) ∧ NewC w wr b g ub n)
  case first =>
    go_region_with (go_at_call 43; (with_reducible refine (newU _).mono ?_); rintro e w2 ⟨rfl, hp, hb, hs⟩; have HP : Hid _ := hp; have HB : Hid _ := hb; have HS : Hid _ := hs; clear hp hb hs)
    all_goals go_wp2
    all_goals go_meet
    all_goals first | exact ⟨_, _, _, rfl, newC_a hn HP.out HB.out HS.out⟩ | exact ⟨_, _, _, rfl, newC_b hn HP.out HB.out HS.out⟩
  case rest =>
    obtain ⟨b, g, ub, rfl, hN⟩ := hcut
    have HA : Hid (CA w.heap.size wc b g ub (.slice none 0 0) (List.replicate n 0) []) := hN.a
    have BL : Hid (Below w.heap.size w wc) := hN.bel
    have c0 := hN.a.c0
    rw [List.length_replicate] at c0
    clear hN
    go_wp2
    go_loopw [22] (fun i wr => ∃ k : Nat, k ≤ n ∧ i = .int .i64 k ∧ CA w.heap.size wr b g ub (.slice none 0 0) (List.replicate k (-1) ++ List.replicate (n - k) 0) [] ∧ Below w.heap.size w wr) (fun i _ => n - (intOf i).toNat)
    case atStart => exact ⟨0, Nat.zero_le _, rfl, HA.out, BL.out⟩
    case round =>
      obtain ⟨k, hk, rfl, hA, hB⟩ := hrel
      have HK : Hid (CA w.heap.size wr b g ub (.slice none 0 0) (List.replicate k (-1) ++ List.replicate (n - k) 0) []) := hA
      have BK : Hid (Below w.heap.size w wr) := hB
      clear hA hB
      have hlen : (List.replicate k (-1 : Int) ++ List.replicate (n - k) 0).length = n := by simp; omega
      have c0 := HK.out.c0
      rw [hlen] at c0
      by_cases hkn : k < n
      · have e1 : (k : Int) < (n : Int) := by omega
        have ck : wr.cell? ⟨g, k, none⟩ = some (.int .i64 0) := HK.out.cell (by rw [List.getElem?_append_right (by simp), List.length_replicate, Nat.sub_self, List.getElem?_replicate, if_pos (by omega)])
        have fk := HK.out.frz k
        have HS : Hid (CA w.heap.size (wr.setCell ⟨g, k, none⟩ (.int .i64 (-1))) b g ub (.slice none 0 0) (List.replicate (k + 1) (-1) ++ List.replicate (n - (k + 1)) 0) []) := by
          have he : (List.replicate k (-1 : Int) ++ List.replicate (n - k) 0).set k (-1) = List.replicate (k + 1) (-1) ++ List.replicate (n - (k + 1)) 0 := by
            rw [show n - k = (n - (k + 1)) + 1 by omega, List.replicate_succ, List.set_append_right _ _ (by simp)]
            simp [List.replicate_succ', List.append_assoc]
          have := HK.out.set k (-1)
          rw [he] at this
          exact this
        have SB : Hid (Below w.heap.size w (wr.setCell ⟨g, k, none⟩ (.int .i64 (-1)))) := BK.out.setCell HK.out.lg _
        clear hlen
        go_wp2
        go_roundw
        case rel => exact ⟨k + 1, by omega, by go_num, HS.out, SB.out⟩
        case measure => simp only [intOf]; omega
      · have e1 : ¬ (k : Int) < (n : Int) := by omega
        obtain rfl : k = n := by omega
        have HS : Hid (CA w.heap.size wr b g ub (.slice none 0 0) (List.replicate k (-1)) []) := by
          have := HK.out
          rw [Nat.sub_self, List.replicate_zero, List.append_nil] at this
          exact this
        clear hlen
        go_wp2
        go_ret2
        exact ⟨b, rfl, ⟨g, ub, HS.out⟩, BK.out⟩

set_option maxRecDepth 100000 in
set_option maxHeartbeats 400000 in
theorem has_in {base : Nat} {w : World} {b g ub : Nat} {uv : Value} {V : List Int} {U : List (Int × Int)} (h : CA base w b g ub uv V U) {i : Nat} (hi : i < V.length) :
    Calls Try.prog 44 #[.pointer (some ⟨b, 0, none⟩), .int .i64 i] w fun e w' => e = .returned (.bool true) ∧ w' = w := by
  have c0 := h.c0
  have e0 : (0 : Int) ≤ (i : Int) := by omega
  have e1 : (i : Int) < (V.length : Int) := by omega
  clear h
  go_enter Try.func44, Try.ntmps44
  go_wp2
  go_ret
  exact ⟨rfl, rfl⟩
set_option maxRecDepth 100000 in
set_option maxHeartbeats 400000 in
theorem has_out {base : Nat} {w : World} {b g ub : Nat} {uv : Value} {V : List Int} {U : List (Int × Int)} (h : CA base w b g ub uv V U) {i : Int} (hi : i < 0 ∨ (V.length : Int) ≤ i) :
    Calls Try.prog 44 #[.pointer (some ⟨b, 0, none⟩), .int .i64 i] w fun e w' => e = .returned (.bool false) ∧ w' = w := by
  have c0 := h.c0
  clear h
  rcases hi with hi | hi
  · have e0 : ¬ (0 : Int) ≤ i := by omega
    go_enter Try.func44, Try.ntmps44
    go_wp2
    go_ret
    exact ⟨rfl, rfl⟩
  · have e0 : (0 : Int) ≤ i := by omega
    have e1 : ¬ i < (V.length : Int) := by omega
    go_enter Try.func44, Try.ntmps44
    go_wp2
    go_ret
    exact ⟨rfl, rfl⟩
set_option maxRecDepth 100000 in
set_option maxHeartbeats 400000 in
theorem get_in {base : Nat} {w : World} {b g ub : Nat} {uv : Value} {V : List Int} {U : List (Int × Int)} (h : CA base w b g ub uv V U) {i : Nat} {x : Int} (hi : V[i]? = some x) :
    Calls Try.prog 21 #[.pointer (some ⟨b, 0, none⟩), .int .i64 i] w fun e w' => e = .returned (.tuple #[.int .i64 x, .bool true]) ∧ w' = w := by
  have hil : i < V.length := (List.getElem?_eq_some_iff.1 hi).1
  have H : Hid (CA base w b g ub uv V U) := h
  have c0 := h.c0
  have ci := h.cell hi
  have e1 : (i : Int) < (V.length : Int) := by omega
  have e0 : (0 : Int) ≤ (i : Int) := by omega
  clear h hi
  go_enter Try.func21, Try.ntmps21
  go_wp2_with (go_at_call 44; (with_reducible refine (has_in H.out hil).mono ?_); rintro e w5 ⟨rfl, h5⟩; subst w5)
  go_ret2
  exact ⟨rfl, rfl⟩
set_option maxRecDepth 100000 in
set_option maxHeartbeats 400000 in
theorem get_out {base : Nat} {w : World} {b g ub : Nat} {uv : Value} {V : List Int} {U : List (Int × Int)} (h : CA base w b g ub uv V U) {i : Int} (hi : i < 0 ∨ (V.length : Int) ≤ i) :
    Calls Try.prog 21 #[.pointer (some ⟨b, 0, none⟩), .int .i64 i] w fun e w' => e = .returned (.tuple #[.int .i64 0, .bool false]) ∧ w' = w := by
  have H : Hid (CA base w b g ub uv V U) := h
  have HI : Hid (i < 0 ∨ (V.length : Int) ≤ i) := hi
  clear h hi
  go_enter Try.func21, Try.ntmps21
  go_wp2_with (go_at_call 44; (with_reducible refine (has_out H.out HI.out).mono ?_); rintro e w5 ⟨rfl, h5⟩; subst w5)
  go_ret2
  exact ⟨rfl, rfl⟩
set_option maxRecDepth 100000 in
set_option maxHeartbeats 400000 in
theorem mark_c {base : Nat} {w : World} {b g ub : Nat} {uv : Value} {V : List Int} {U : List (Int × Int)} (h : CA base w b g ub uv V U) :
    Calls Try.prog 27 #[.pointer (some ⟨b, 0, none⟩)] w fun e w' => e = .returned (.int .i64 U.length) ∧ w' = w := by
  have H : Hid (CA base w b g ub uv V U) := h
  have c1 := h.c1
  clear h
  go_enter Try.func27, Try.ntmps27
  go_wp2_with (go_at_call 47; (with_reducible refine (lenU H.out.u).mono ?_); rintro e w5 ⟨rfl, h5⟩; subst w5)
  go_ret
  exact ⟨rfl, rfl⟩
set_option maxRecDepth 100000 in
set_option maxHeartbeats 400000 in
theorem values_c {base : Nat} {w : World} {b g ub : Nat} {uv : Value} {V : List Int} {U : List (Int × Int)} (h : CA base w b g ub uv V U) :
    Calls Try.prog 25 #[.pointer (some ⟨b, 0, none⟩)] w fun e w' => e = .returned (.slice (some ⟨w.heap.size, 0, none⟩) V.length V.length) ∧ w'.heap[w.heap.size]? = some (.cells (ints V).toArray 3 (0, 0)) ∧ Below w.heap.size w w' := by
  have H : Hid (CA base w b g ub uv V U) := h
  have c0 := h.c0
  have few := h.few
  have lb := h.lt b (.inl rfl)
  have lg : Hid (g < w.heap.size) := h.lt g (.inr (.inl rfl))
  clear h
  have m0 := make_ints V.length (by omega)
  have hnew : (w.alloc (.cells (madeCells #[.int .i64 0] V.length) 3)).heap[w.heap.size]? = some (.cells (ints (List.replicate V.length 0)).toArray 3 (0, 0)) := by rw [← made_zero]; exact alloc_new w _
  have HN : Hid _ := hnew
  have BL : Hid (Below w.heap.size w (w.alloc (.cells (madeCells #[.int .i64 0] V.length) 3))) := (Below.refl _ _).alloc (Nat.le_refl _) _
  clear hnew
  have HS : Hid (0 < (ints V).length → some (⟨w.heap.size, 0, none⟩ : Addr) = some ⟨w.heap.size, 0, none⟩ ∧ ∃ ad, (some (⟨g, 0, none⟩ : Addr)) = some ad ∧ ∀ j v, (ints V)[j]? = some v → (w.alloc (.cells (madeCells #[.int .i64 0] V.length) 3)).cell? (ad.add j) = some v) := fun h0 => by
    refine ⟨rfl, _, rfl, fun j v hv => ?_⟩
    have hj : j < V.length := by have := (List.getElem?_eq_some_iff.1 hv).1; rwa [ints_length] at this
    rw [ints_get (List.getElem?_eq_getElem hj)] at hv
    cases hv
    rw [Addr.add_lit, Nat.zero_add]
    exact (BL.out.cell (p := ⟨g, j, none⟩) lg.out).trans (H.out.cell (List.getElem?_eq_getElem hj))
  go_enter Try.func25, Try.ntmps25
  go_upto_region 2 with fail
  go_upto_region 3 with (refine wpList_copy_splice rfl _ _ 60 60 rfl 3 und_ints size_one (some ⟨w.heap.size, 0, none⟩) (some ⟨g, 0, none⟩) V.length V.length V.length V.length rfl rfl w.heap.size 0 _ _ HN.out (ints V) (by rw [ints_length]; exact (Nat.min_self _).symm) HS.out (by simp [ints_length]) (ints_one V) w.heap.size w BL.out (Nat.le_refl _) ?_; intro w4 hg4 hb4; have B4 : Hid (Below w.heap.size w w4) := hb4; clear hb4)
  go_wp2
  go_ret
  refine ⟨rfl, ?_, B4.out⟩
  have := hg4.out
  rw [splice_all _ _ (by simp [ints_length])] at this
  exact this
end Go.Proofs.Ytobeiigmeflbjaa
