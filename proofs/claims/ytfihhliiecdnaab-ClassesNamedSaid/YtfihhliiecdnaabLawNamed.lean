/-
  ClassesNamed: Named of any name, and of all that there are.
-/
import Derived.Test.YtfihhliiecdnaabNamedR
import Derived.Test.YtfihhliiecdnaabExamples
import Derived.Test.YtfihhliiecdnaabSpoil
namespace Go.Proofs.Ytfihhliiecdnaab
open Go Go.RowKit
attribute [local go_sem] ext_cell

def nmC : List Value := NM.map fun p => .string ⟨p.1.toArray⟩
/-- The names, of which the first k are spoilt. -/
def quC (k : Nat) : List Value := List.replicate (min k 12) (.string ⟨#[63]⟩) ++ nmC.drop k
theorem nmC_length : nmC.length = 12 := rfl
theorem quC_zero : quC 0 = nmC := rfl
theorem quC_get {k : Nat} {p : List UInt8 × List (Int × Int)} (hk : k < 12) (h : NM[k]? = some p) : (quC k)[k]? = some (.string ⟨p.1.toArray⟩) := by
  unfold quC nmC
  rw [List.getElem?_append_right (by simp; omega)]
  simp only [List.length_replicate, Nat.min_eq_left (show k ≤ 12 by omega), Nat.sub_self, List.getElem?_drop, Nat.add_zero, List.getElem?_map, h]
  rfl
theorem quC_set {k : Nat} (hk : k < 12) : (quC k).set k (.string ⟨#[63]⟩) = quC (k + 1) := by
  have : ∀ k : Fin 12, (quC k.1).set k.1 (.string ⟨#[63]⟩) = quC (k.1 + 1) := by
    intro k
    match k with
    | ⟨0, _⟩ => rfl
    | ⟨1, _⟩ => rfl
    | ⟨2, _⟩ => rfl
    | ⟨3, _⟩ => rfl
    | ⟨4, _⟩ => rfl
    | ⟨5, _⟩ => rfl
    | ⟨6, _⟩ => rfl
    | ⟨7, _⟩ => rfl
    | ⟨8, _⟩ => rfl
    | ⟨9, _⟩ => rfl
    | ⟨10, _⟩ => rfl
    | ⟨11, _⟩ => rfl
  exact this ⟨k, hk⟩
theorem names_c (w : World) : Calls Try.prog 6 #[] w fun e w' => e = .returned (.slice (some ⟨w.heap.size, 0, none⟩) 12 12) ∧ w' = w.alloc (.cells nmC.toArray 9) := by
  go_enter Try.func6, Try.ntmps6
  go_wp2
  go_ret
  exact ⟨rfl, rfl⟩
theorem rnames_c (w : World) : Calls Try.prog 5 #[] w fun e w' => e = .returned (.slice (some ⟨w.heap.size, 0, none⟩) 12 12) ∧ w' = w.alloc (.cells nmC.toArray 9) := by
  go_enter Try.func5, Try.ntmps5
  go_wp2
  go_ret
  exact ⟨rfl, rfl⟩
theorem alike_self {w : World} {va vb : Value} {A : List (Int × Int)} (h1 : ArgR w va A) (h2 : ArgR w vb A) :
    Calls Try.prog 9 #[va, vb] w fun e w' => e = .returned (.bool true) ∧ Below w.heap.size w w' :=
  (alike_c h1 h2).mono fun e w' ⟨q1, q2⟩ => ⟨by rw [q1, decide_eq_true rfl], q2⟩

set_option maxRecDepth 100000 in
set_option maxHeartbeats 8000000 in
theorem law_named (s : ByteArray) (w : World) : Calls Try.prog 3 #[.string s] w fun e w' => e = .returned (.bool true) ∧ Below w.heap.size w w' := by
  obtain ⟨b, D0, hA, hB⟩ := named_any s
  have NA : Hid ((∀ w, Calls Try.prog 7 #[.string s] w (Tells2 w b D0)) ∧ (∀ w, Calls Try.prog 8 #[.string s] w (Tells2 w b D0))) := ⟨hA, hB⟩
  clear hA hB
  have bb : (b == b) = true := by simp
  go_enter Try.func3, Try.ntmps3
  go_upto_region 4 with first
    | (go_at_call 4; refine (examples_c _).mono ?_; rintro e w1 ⟨rfl, hB⟩; have B1 : Hid (Below w.heap.size w w1) := hB; clear hB)
    | (go_at_call 5; refine (rnames_c _).mono ?_; rintro e w2 ⟨rfl, h2⟩; have B2 : Hid (Below w.heap.size w w2) := (by rw [h2]; exact B1.out.alloc B1.out.size _ : Below w.heap.size w w2); have R2 : Hid (w2.heap[w1.heap.size]? = some (.cells nmC.toArray 9 (0, 0))) := (by rw [h2]; exact alloc_new w1 _ : w2.heap[w1.heap.size]? = some (.cells nmC.toArray 9 (0, 0))); clear h2)
  rename World => W2
  have hga : w1.heap.size < W2.heap.size := lt_of_heap R2.out
  go_loopw [5] (fun i wr => ∃ t : Nat, t ≤ 2 ∧ i = .int .i64 t ∧ Below W2.heap.size W2 wr) (fun i _ => 2 - (intOf i).toNat)
  case atStart => exact ⟨0, by omega, rfl, Below.refl _ _⟩
  case round =>
    obtain ⟨t, ht, rfl, hb⟩ := hrel
    have BB : Hid (Below W2.heap.size W2 wr) := hb
    have hbs := hb.size
    clear hb
    by_cases hlt : t < 2
    · have j1 : (t : Int) < 2 := by omega
      rename World => W3
      have NL : Hid ((W3.alloc (.cells nmC.toArray 9)).heap[W3.heap.size]? = some (.cells nmC.toArray 9 (0, 0)) ∧ Below W2.heap.size W2 (W3.alloc (.cells nmC.toArray 9))) := ⟨alloc_new W3 _, BB.out.alloc hbs _⟩
      go_wp2_with (go_at_call 6; refine (names_c _).mono ?_; rintro e w4 ⟨rfl, h4⟩; subst h4)
      generalize W3.alloc (.cells nmC.toArray 9) = W4 at *
      go_loopw [7] (fun i wr => ∃ k : Nat, k ≤ 12 ∧ i = .int .i64 k ∧ wr.heap[W3.heap.size]? = some (.cells (quC k).toArray 9 (0, 0)) ∧ Below W2.heap.size W2 wr) (fun i _ => 12 - (intOf i).toNat)
      case atStart => exact ⟨0, by omega, rfl, by rw [quC_zero]; exact NL.out.1, NL.out.2⟩
      case round =>
        clear BB NL
        obtain ⟨k, hk, rfl, hrow, hb⟩ := hrel
        have ROW : Hid (wr.heap[W3.heap.size]? = some (.cells (quC k).toArray 9 (0, 0))) := hrow
        have BB : Hid (Below W2.heap.size W2 wr) := hb
        clear hb hrow
        by_cases hkl : k < 12
        · obtain ⟨⟨l, D⟩, hp⟩ : ∃ p, NM[k]? = some p := ⟨_, List.getElem?_eq_getElem hkl⟩
          have NK : Hid (∀ w : World, Calls Try.prog 7 #[.string ⟨l.toArray⟩] w (NamedIs w D) ∧ Calls Try.prog 8 #[.string ⟨l.toArray⟩] w (NamedIs w D)) := named_at k l D hp
          have gl : (quC k)[k]? = some (.string ⟨l.toArray⟩) := quC_get hkl hp
          have gn : nmC[k]? = some (.string ⟨l.toArray⟩) := by unfold nmC; rw [List.getElem?_map, hp]; rfl
          obtain ⟨S, hS⟩ : ∃ S : ByteArray, ⟨l.toArray⟩ = S := ⟨_, rfl⟩
          rw [hS] at NK gl gn
          have c1 : wr.cell? ⟨W3.heap.size, k, none⟩ = some (.string S) := cell_row ROW.out (by simpa using gl)
          have c2 : W2.cell? ⟨w1.heap.size, k, none⟩ = some (.string S) := cell_row R2.out (by simpa using gn)
          have C2 : Hid (W2.cell? ⟨w1.heap.size, k, none⟩ = some (.string S)) := c2
          have GL : Hid ((quC k)[k]? = some (.string S)) := gl
          have c3 := (BB.out.cell (p := ⟨w1.heap.size, k, none⟩) hga).trans c2
          have sg : W3.heap.size < wr.heap.size := lt_of_heap ROW.out
          have bs : (S.toList == S.toList) = true := by simp
          have k0 : (0 : Int) ≤ (k : Int) := by omega
          have k1 : (k : Int) < 12 := by omega
          clear c2 gl gn hS hp
          go_upto_region 15 with first
            | (go_at_call 7; refine (NK.out _).1.mono ?_; rintro e y1 ⟨va, rfl, h1, hB⟩; have X1 : Hid (RR wr.heap.size y1 va D ∧ Below wr.heap.size wr y1) := ⟨h1, hB⟩; have c4 := ((chain BB.out hB (Nat.le_refl _)).cell (p := ⟨w1.heap.size, k, none⟩) hga).trans C2.out; clear h1 hB)
            | (go_at_call 8; refine (NK.out _).2.mono ?_; rintro e y2 ⟨vb, rfl, h1, hB⟩; have X2 : Hid (ArgR y2 vb D ∧ Below y1.heap.size y1 y2) := ⟨h1.arg, hB⟩; clear h1 hB)
            | (go_at_call 9; refine (alike_self (X1.out.1.kept X2.out.2).arg X2.out.1).mono ?_; rintro e y3 ⟨rfl, hB⟩; have X3 : Hid (Below y2.heap.size y2 y3) := hB; clear hB)
          have BY : Hid (Below wr.heap.size wr y3) := chain (chain X1.out.2 X2.out.2 (Nat.le_refl _)) X3.out (Nat.le_refl _)
          have RA : Hid (RR wr.heap.size y3 va D) := (X1.out.1.kept X2.out.2).kept X3.out
          have c5 := (BY.out.cell (p := ⟨W3.heap.size, k, none⟩) sg).trans c1
          have c6 := ((chain BB.out BY.out (Nat.le_refl _)).cell (p := ⟨w1.heap.size, k, none⟩) hga).trans C2.out
          have s5 : W3.heap.size < y3.heap.size := Nat.lt_of_lt_of_le sg BY.out.size
          have s6 : w1.heap.size < y3.heap.size := Nat.lt_of_lt_of_le hga (chain BB.out BY.out (Nat.le_refl _)).size
          clear c1 c3 c4
          refine wp_region_ext (by kernel_rfl) (by kernel_rfl) ?_
          repeat (go_big_quiet_step (first | exact rfl))
          refine wpQuiet_nil ?_
          intro w9 hw9
          have B9 : Hid (Below wr.heap.size wr w9) := chain BY.out (ext_of hw9) (Nat.le_refl _)
          have R9 : Hid (RR wr.heap.size w9 va D) := RA.out.kept (ext_of hw9)
          have RO9 : Hid (w9.heap[W3.heap.size]? = some (.cells (quC k).toArray 9 (0, 0))) := (B9.out.block _ sg).trans ROW.out
          clear hw9 c5 c6
          go_upto_region 18 with (go_at_call 10; refine (spoil_c R9.out).mono ?_; rintro e y4 ⟨rfl, h1⟩; have F4 : Hid (Fr (blk va) w9 y4) := h1; clear h1)
          have RO4 : Hid (y4.heap[W3.heap.size]? = some (.cells (quC k).toArray 9 (0, 0))) := (F4.out.block _ (lt_of_heap RO9.out) (fun e => by have := (ownsRow_at R9.out e).1; omega)).trans RO9.out
          have BB4 : Hid (Below W2.heap.size W2 y4) := chainF (chain BB.out B9.out (Nat.le_refl _)) F4.out (Nat.le_refl _) (fun k hk => Nat.le_trans BB.out.size (ownsRow_at R9.out hk).1)
          have f4 := frz_row RO4.out k
          have c7 : y4.cell? ⟨W3.heap.size, k, none⟩ = some (.string S) := cell_row RO4.out (by simpa using GL.out)
          have s7 := lt_of_heap RO4.out
          have hge : W2.heap.size ≤ W3.heap.size := hbs
          go_wp2
          go_roundw
          case rel => exact ⟨k + 1, by omega, by go_num, by rw [heap_set_in RO4.out k, List.setIfInBounds_toArray, quC_set hkl], BB4.out.setCell (p := ⟨W3.heap.size, k, none⟩) hge _⟩
          case measure => simp [intOf]; omega
        · have k1 : ¬ (k : Int) < 12 := by omega
          go_wp2
          go_roundw
          case rel => exact ⟨t + 1, by omega, by go_num, BB.out⟩
          case measure => simp [intOf]; omega
    · have j1 : ¬ (t : Int) < 2 := by omega
      go_wp2_with first
        | (go_at_call 7; refine (NA.out.1 _).mono ?_; rintro e y1 ⟨va, rfl, h1, hB⟩; have X1 : Hid (RR wr.heap.size y1 va D0 ∧ Below wr.heap.size wr y1) := ⟨h1, hB⟩; clear h1 hB)
        | (go_at_call 8; refine (NA.out.2 _).mono ?_; rintro e y2 ⟨vb, rfl, h1, hB⟩; have X2 : Hid (ArgR y2 vb D0 ∧ Below y1.heap.size y1 y2) := ⟨h1.arg, hB⟩; clear h1 hB)
        | (go_at_call 9; refine (alike_self (X1.out.1.kept X2.out.2).arg X2.out.1).mono ?_; rintro e y3 ⟨rfl, hB⟩; have X3 : Hid (Below y2.heap.size y2 y3) := hB; clear hB)
      go_ret
      exact ⟨by first | rfl | simp, chain (chain (chain (chain B2.out BB.out (Nat.le_refl _)) X1.out.2 (Nat.le_refl _)) X2.out.2 (Nat.le_refl _)) X3.out (Nat.le_refl _)⟩
end Go.Proofs.Ytfihhliiecdnaab
