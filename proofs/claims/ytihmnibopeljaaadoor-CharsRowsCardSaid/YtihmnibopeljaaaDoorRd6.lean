/-
  texts, rows: the law's readers of rows.
-/
import Derived.Test.YtihmnibopeljaaaDoorRd5
namespace Go.Proofs.YtihmnibopeljaaaDoor
open Go Go.RowKit
attribute [local go_sem] ext_cell

theorem tot_bound (R : List Rw) (hp : ∀ r ∈ R, Piece r.n r.a r.b) : 0 ≤ tot R ∧ tot R ≤ 1114112 * (R.length : Int) := by
  induction R with
  | nil => exact ⟨Int.le_refl _, Int.le_refl _⟩
  | cons r R ih =>
    have h1 := ih (fun x hx => hp x (List.mem_cons_of_mem _ hx))
    have h2 := (hp r (List.mem_cons_self ..)).1.n
    have e : tot (r :: R) = ((r.b : Int) - r.a + 1) + tot R := by simp [tot]
    rw [e, List.length_cons]
    omega
theorem tot_take {R : List Rw} {i : Nat} {r : Rw} (h : R[i]? = some r) : tot (R.take (i + 1)) = tot (R.take i) + ((r.b : Int) - r.a + 1) := by
  have hi := (List.getElem?_eq_some_iff.1 h).1
  have e := (List.getElem?_eq_some_iff.1 h).2
  rw [take_next R i hi, tot_app, e]
  simp [tot]
theorem cnt_take {R : List Rw} {i c : Nat} {r : Rw} (h : R[i]? = some r) : cnt c (R.take (i + 1)) = cnt c (R.take i) + (if r.a ≤ c ∧ c ≤ r.b then 1 else 0) := by
  have hi := (List.getElem?_eq_some_iff.1 h).1
  have e := (List.getElem?_eq_some_iff.1 h).2
  rw [take_next R i hi, cnt_app, e]
  unfold cnt
  rw [List.countP_singleton]
  simp
theorem cnt_le (c : Nat) (R : List Rw) : cnt c R ≤ R.length := List.countP_le_length

set_option maxHeartbeats 8000000 in
set_option maxRecDepth 1000000 in
theorem texts_c {w : World} {v : Value} {R : List Rw} (h : RV w v R) (hp : ∀ r ∈ R, Piece r.n r.a r.b) (hl : R.length ≤ 30) :
    Calls Tryd.prog 12 #[v] w fun e w' => e = .returned (.int .i64 (tot R)) ∧ Below w.heap.size w w' := by
  have H : Hid (RV w v R) := h
  obtain ⟨q, cap, rfl, _, _⟩ := h.ex
  have HP : Hid (∀ r ∈ R, Piece r.n r.a r.b) := hp
  clear h hp
  go_enter Tryd.func12, Tryd.ntmps12
  go_wp2
  go_loopw [3, 4] (fun n i wr => ∃ k : Nat, i = .int .i64 (k : Int) ∧ n = .int .i64 (tot (R.take k)) ∧ k ≤ R.length ∧ Below w.heap.size w wr) (fun _ i _ => R.length - (intOf i).toNat)
  case atStart => exact ⟨0, rfl, rfl, Nat.zero_le _, Below.refl _ _⟩
  case round =>
    obtain ⟨i, rfl, rfl, hi, hb⟩ := hrel
    have B : Hid (Below w.heap.size w wr) := hb
    clear hb
    rename World => W1
    have hT : Hid (0 ≤ tot (R.take i) ∧ tot (R.take i) ≤ 1114112 * ((R.take i).length : Int)) := tot_bound (R.take i) (fun r hr => HP.out r (List.mem_of_mem_take hr))
    by_cases hlt : i < R.length
    · have hr : R[i]? = some R[i] := List.getElem?_eq_getElem hlt
      obtain ⟨r, hre⟩ : ∃ r, R[i] = r := ⟨_, rfl⟩
      rw [hre] at hr
      have P : Hid (Piece r.n r.a r.b) := HP.out r (List.mem_of_getElem? hr)
      have HR : Hid (R[i]? = some r) := hr
      clear hr hre
      have hn := P.out.1.n
      have HT : Hid (tot (R.take (i + 1)) = tot (R.take i) + ((r.b : Int) - r.a + 1)) := tot_take HR.out
      obtain ⟨T, hTe⟩ : ∃ T, tot (R.take i) = T := ⟨_, rfl⟩
      rw [hTe] at hT HT ⊢
      have hT2 : T ≤ 1114112 * 30 := by have := hT.out.2; rw [List.length_take] at this; omega
      have hT1 : 0 ≤ T := hT.out.1
      have hwT : IntKind.wrap .i64 (T + ((r.b : Int) - r.a + 1)) = T + ((r.b : Int) - r.a + 1) := wrap_small _ (by omega) (by omega)
      obtain ⟨q', cap', e', _, hc'⟩ := (H.out.below B.out).ex
      obtain ⟨rfl, rfl⟩ : q = q' ∧ cap = cap' := by injection e' with e1 e2 e3; exact ⟨e1, e3⟩
      obtain ⟨G, rfl, g1, g2, c1, c2⟩ := hc' i r HR.out
      have C2 : Hid (∀ k, k < r.n → W1.cell? ⟨r.g, k * 2, none⟩ = some (.int .i64 (byt r.n r.a k : Int)) ∧ W1.cell? ⟨r.g, k * 2 + 1, none⟩ = some (.int .i64 (byt r.n r.b k : Int))) := c2
      have G1 : Hid (G < W1.heap.size ∧ r.g < W1.heap.size) := ⟨g1, g2⟩
      have C1 : Hid (W1.cell? ⟨G, i, none⟩ = some (.slice (some ⟨r.g, 0, none⟩) r.n r.n)) := c1
      clear hc' c2 e' c1 hTe
      have i0 : (0 : Int) ≤ (i : Int) := by omega
      have i1 : (i : Int) < (R.length : Int) := by omega
      have hwi : IntKind.wrap .i64 ((i : Int) + 1) = (i : Int) + 1 := wrap_small _ (by omega) (by omega)
      have hn4 : r.n ≤ 4 := hn.2.1
      clear hn
      go_wp2
      go_loopw [5, 6] (fun p j wr => ∃ k : Nat, j = .int .i64 (k : Int) ∧ p = .int .i64 (prd r.n r.a r.b k) ∧ k ≤ r.n ∧ Below W1.heap.size W1 wr) (fun _ j _ => r.n - (intOf j).toNat)
      case atStart => exact ⟨0, rfl, rfl, Nat.zero_le _, Below.refl _ _⟩
      case round =>
        obtain ⟨k, rfl, rfl, hk, hb2⟩ := hrel
        have B2 : Hid (Below W1.heap.size W1 wr) := hb2
        have d1 := (hb2.cell (p := ⟨G, i, none⟩) G1.out.1).trans C1.out
        have s1 := Nat.lt_of_lt_of_le G1.out.1 hb2.size
        have s2 := Nat.lt_of_lt_of_le G1.out.2 hb2.size
        have PR := (piece_prd P.out)
        by_cases hkn : k < r.n
        · have e1 := (hb2.cell (p := ⟨r.g, k * 2, none⟩) G1.out.2).trans (C2.out k hkn).1
          have e2 := (hb2.cell (p := ⟨r.g, k * 2 + 1, none⟩) G1.out.2).trans (C2.out k hkn).2
          have pb := piece_byt P.out k hkn
          have pk := PR.2 (k + 1) hkn
          have EP : Hid (prd r.n r.a r.b (k + 1) = prd r.n r.a r.b k * ((byt r.n r.b k : Int) - (byt r.n r.a k : Int) + 1)) := rfl
          obtain ⟨A, hA⟩ : ∃ A : Int, (byt r.n r.a k : Int) = A := ⟨_, rfl⟩
          obtain ⟨B', hB⟩ : ∃ B' : Int, (byt r.n r.b k : Int) = B' := ⟨_, rfl⟩
          rw [hA] at e1 EP
          rw [hB] at e2 EP
          obtain ⟨Z, hZ⟩ : ∃ Z, prd r.n r.a r.b k = Z := ⟨_, rfl⟩
          rw [hZ] at EP ⊢
          rw [EP.out] at pk
          have w1 : IntKind.wrap .i64 (B' - A) = B' - A := wrap_small _ (by omega) (by omega)
          have w2 : IntKind.wrap .i64 (B' - A + 1) = B' - A + 1 := wrap_small _ (by omega) (by omega)
          have w3 : IntKind.wrap .i64 (Z * (B' - A + 1)) = Z * (B' - A + 1) := wrap_small _ (by omega) (by omega)
          have k0 : (0 : Int) ≤ (k : Int) := by omega
          have k1 : (k : Int) < (r.n : Int) := by omega
          have hwk : IntKind.wrap .i64 ((k : Int) + 1) = (k : Int) + 1 := wrap_small _ (by omega) (by omega)
          clear hb2 pb hA hB PR pk hZ
          go_wp2
          refine wp_region_ext (by kernel_rfl) (by kernel_rfl) ?_
          repeat (go_big_quiet_step (first | exact rfl))
          refine wpQuiet_nil ?_
          intro w9 hw9
          have B3 : Hid (Below W1.heap.size W1 w9) := chain B2.out (ext_of hw9) (Nat.le_refl _)
          clear hw9
          go_wp2
          go_roundw
          case rel => exact ⟨k + 1, by go_num, by rw [EP.out], by omega, B3.out⟩
          case measure => simp only [intOf]; omega
        · obtain rfl : k = r.n := by omega
          have k1 : ¬ (r.n : Int) < (r.n : Int) := by omega
          rw [PR.1]
          clear hb2 PR
          go_wp2
          go_roundw
          case rel => exact ⟨i + 1, by go_num, by rw [HT.out], by omega, chain B.out B2.out (Nat.le_refl _)⟩
          case measure => simp only [intOf]; omega
    · obtain rfl : i = R.length := by omega
      have i1 : ¬ (R.length : Int) < (R.length : Int) := by omega
      have e : Hid (R.take R.length = R) := List.take_length
      clear hT
      rw [e.out]
      go_wp2
      go_ret
      exact ⟨rfl, B.out⟩
end Go.Proofs.YtihmnibopeljaaaDoor
