/-
  formed, texts, rows: the law's readers of rows.
-/
import Derived.Test.YtihmnibopeljaaaDoorRows7
namespace Go.Proofs.YtihmnibopeljaaaDoor
open Go Go.RowKit
attribute [local go_sem] ext_cell

structure RV (w : World) (v : Value) (R : List Rw) : Prop where
  ex : ∃ q cap, v = .slice q R.length cap ∧ R.length ≤ maxLen ∧ ∀ i r, R[i]? = some r → ∃ G, q = some ⟨G, 0, none⟩ ∧ G < w.heap.size ∧ r.g < w.heap.size ∧ w.cell? ⟨G, i, none⟩ = some (rv r) ∧
    ∀ k, k < r.n → w.cell? ⟨r.g, k * 2, none⟩ = some (.int .i64 (byt r.n r.a k : Int)) ∧ w.cell? ⟨r.g, k * 2 + 1, none⟩ = some (.int .i64 (byt r.n r.b k : Int))
theorem RA.view {base : Nat} {w : World} {v : Value} {R : List Rw} (h : RA base w v R) : RV w v R := by
  obtain ⟨q, cap, rfl⟩ := ownsRow_shape h.own
  refine ⟨q, cap, rfl, ownsRow_len h.own, fun i r hr => ?_⟩
  have hi := (List.getElem?_eq_some_iff.1 hr).1
  have hmem : r ∈ R := List.mem_of_getElem? hr
  obtain ⟨G, c, e⟩ := ownsRow_some h.own (by omega)
  obtain ⟨rfl, rfl⟩ : q = some ⟨G, 0, none⟩ ∧ cap = c := by injection e with e1 e2 e3; exact ⟨e1, e3⟩
  obtain ⟨cs, h1, h2, h3⟩ := (h.row r hmem).blk
  refine ⟨G, rfl, (ownsRow_at h.own rfl).2.1, (h.row r hmem).lt, ownsRow_cell h.own (by simp [hr]), fun k hk => ⟨cell_row h1 (h3 k hk).1, cell_row h1 (h3 k hk).2⟩⟩
theorem RV.below {w w' : World} {v : Value} {R : List Rw} (h : RV w v R) (hb : Below w.heap.size w w') : RV w' v R := by
  obtain ⟨q, cap, e, hl, hc⟩ := h.ex
  refine ⟨q, cap, e, hl, fun i r hr => ?_⟩
  obtain ⟨G, h1, h2, h3, h4, h5⟩ := hc i r hr
  exact ⟨G, h1, Nat.lt_of_lt_of_le h2 hb.size, Nat.lt_of_lt_of_le h3 hb.size, (hb.cell (p := ⟨G, i, none⟩) h2).trans h4, fun k hk => ⟨(hb.cell (p := ⟨r.g, k * 2, none⟩) h3).trans (h5 k hk).1, (hb.cell (p := ⟨r.g, k * 2 + 1, none⟩) h3).trans (h5 k hk).2⟩⟩

set_option maxHeartbeats 8000000 in
set_option maxRecDepth 1000000 in
theorem formed_c {w : World} {v : Value} {R : List Rw} (h : RV w v R) (hp : ∀ r ∈ R, Piece r.n r.a r.b) (hl : R.length ≤ 30) :
    Calls Tryd.prog 11 #[v] w fun e w' => e = .returned (.bool true) ∧ Below w.heap.size w w' := by
  have H : Hid (RV w v R) := h
  obtain ⟨q, cap, rfl, _, _⟩ := h.ex
  have HP : Hid (∀ r ∈ R, Piece r.n r.a r.b) := hp
  have hl1 : ¬ (30 : Int) < (R.length : Int) := by omega
  have hl2 : ¬ (30 : Nat) < R.length := by omega
  clear h hp
  go_enter Tryd.func11, Tryd.ntmps11
  go_wp2
  go_loopw [3] (fun i wr => ∃ k : Nat, i = .int .i64 (k : Int) ∧ k ≤ R.length ∧ Below w.heap.size w wr) (fun i _ => R.length - (intOf i).toNat)
  case atStart => exact ⟨0, rfl, Nat.zero_le _, Below.refl _ _⟩
  case round =>
    obtain ⟨i, rfl, hi, hb⟩ := hrel
    have B : Hid (Below w.heap.size w wr) := hb
    clear hb
    rename World => W1
    by_cases hlt : i < R.length
    · have hr : R[i]? = some R[i] := List.getElem?_eq_getElem hlt
      obtain ⟨r, hre⟩ : ∃ r, R[i] = r := ⟨_, rfl⟩
      rw [hre] at hr
      have P : Hid (Piece r.n r.a r.b) := HP.out r (List.mem_of_getElem? hr)
      have HR : Hid (R[i]? = some r) := hr
      clear hr hre
      have hn := P.out.1.n
      obtain ⟨q', cap', e', _, hc'⟩ := (H.out.below B.out).ex
      obtain ⟨rfl, rfl⟩ : q = q' ∧ cap = cap' := by injection e' with e1 e2 e3; exact ⟨e1, e3⟩
      obtain ⟨G, rfl, g1, g2, c1, c2⟩ := hc' i r HR.out
      have C2 : Hid (∀ k, k < r.n → W1.cell? ⟨r.g, k * 2, none⟩ = some (.int .i64 (byt r.n r.a k : Int)) ∧ W1.cell? ⟨r.g, k * 2 + 1, none⟩ = some (.int .i64 (byt r.n r.b k : Int))) := c2
      have G1 : Hid (G < W1.heap.size ∧ r.g < W1.heap.size) := ⟨g1, g2⟩
      have C1 : Hid (W1.cell? ⟨G, i, none⟩ = some (.slice (some ⟨r.g, 0, none⟩) r.n r.n)) := c1
      have c1' : W1.cell? ⟨G, i, none⟩ = some (.slice (some ⟨r.g, 0, none⟩) r.n r.n) := c1
      clear hc' c2 e' c1
      have i0 : (0 : Int) ≤ (i : Int) := by omega
      have i1 : (i : Int) < (R.length : Int) := by omega
      have n0 : ¬ (r.n : Int) < 1 := by omega
      have n1 : ¬ (4 : Int) < (r.n : Int) := by omega
      have n2 : ¬ r.n < 1 := by omega
      have n3 : ¬ 4 < r.n := by omega
      have n4 : ¬ r.n = 0 := by omega
      have hwi : IntKind.wrap .i64 ((i : Int) + 1) = (i : Int) + 1 := wrap_small _ (by omega) (by omega)
      clear hn
      go_wp2
      go_loopw [4] (fun j wr => ∃ k : Nat, j = .int .i64 (k : Int) ∧ k ≤ r.n ∧ Below W1.heap.size W1 wr) (fun j _ => r.n - (intOf j).toNat)
      case atStart => exact ⟨0, rfl, Nat.zero_le _, Below.refl _ _⟩
      case round =>
        obtain ⟨k, rfl, hk, hb2⟩ := hrel
        have B2 : Hid (Below W1.heap.size W1 wr) := hb2
        have d1 := (hb2.cell (p := ⟨G, i, none⟩) G1.out.1).trans C1.out
        have s1 := Nat.lt_of_lt_of_le G1.out.1 hb2.size
        have s2 := Nat.lt_of_lt_of_le G1.out.2 hb2.size
        by_cases hkn : k < r.n
        · have e1 := (hb2.cell (p := ⟨r.g, k * 2, none⟩) G1.out.2).trans (C2.out k hkn).1
          have e2 := (hb2.cell (p := ⟨r.g, k * 2 + 1, none⟩) G1.out.2).trans (C2.out k hkn).2
          have pb := piece_byt P.out k hkn
          obtain ⟨A, hA⟩ : ∃ A : Int, (byt r.n r.a k : Int) = A := ⟨_, rfl⟩
          obtain ⟨B', hB⟩ : ∃ B' : Int, (byt r.n r.b k : Int) = B' := ⟨_, rfl⟩
          rw [hA] at e1
          rw [hB] at e2
          have a1 : decide (A < 0) = false := decide_eq_false (by omega)
          have a2 : decide (255 < B') = false := decide_eq_false (by omega)
          have a3 : decide (B' < A) = false := decide_eq_false (by omega)
          have k0 : (0 : Int) ≤ (k : Int) := by omega
          have k1 : (k : Int) < (r.n : Int) := by omega
          have hwk : IntKind.wrap .i64 ((k : Int) + 1) = (k : Int) + 1 := wrap_small _ (by omega) (by omega)
          clear hb2 pb hA hB c1'
          go_wp2
          refine wp_region_ext (by kernel_rfl) (by kernel_rfl) ?_
          repeat (go_big_quiet_step (first | exact rfl))
          refine wpQuiet_nil ?_
          intro w9 hw9
          have B3 : Hid (Below W1.heap.size W1 w9) := chain B2.out (ext_of hw9) (Nat.le_refl _)
          clear hw9
          go_wp2
          go_roundw
          case rel => exact ⟨k + 1, by go_num, by omega, B3.out⟩
          case measure => simp only [intOf]; omega
        · obtain rfl : k = r.n := by omega
          have k1 : ¬ (r.n : Int) < (r.n : Int) := by omega
          clear hb2 c1'
          go_wp2
          go_roundw
          case rel => exact ⟨i + 1, by go_num, by omega, chain B.out B2.out (Nat.le_refl _)⟩
          case measure => simp only [intOf]; omega
    · obtain rfl : i = R.length := by omega
      have i1 : ¬ (R.length : Int) < (R.length : Int) := by omega
      go_wp2
      go_ret
      exact ⟨rfl, B.out⟩
end Go.Proofs.YtihmnibopeljaaaDoor
