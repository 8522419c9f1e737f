/-
  LexerNumbers: the law. (mknum.py writes it.)
-/
import Derived.Test.YtloeajhmmjdlgaaDoorNumbersProofB2
namespace Go.Proofs.YtloeajhmmjdlgaaDoor
open Go Go.RowKit
attribute [local go_sem] ext_cell

abbrev numS (A M N : ByteArray) : ByteArray := ⟨#[97, 92, 123]⟩ ++ A ++ M ++ ⟨#[44]⟩ ++ N ++ ⟨#[92, 125]⟩
theorem numS_is (Z M N : List UInt8) : (numS (ofL Z) (ofL M) (ofL N)).data.toList = numT Z M N := by
  have : numS (ofL Z) (ofL M) (ofL N) = ofL (numT Z M N) := by
    show ofL [97, 92, 123] ++ ofL Z ++ ofL M ++ ofL [44] ++ ofL N ++ ofL [92, 125] = _
    rw [ofL_app, ofL_app, ofL_app, ofL_app, ofL_app]
    rfl
  rw [this]
  rfl
theorem numS_size (A M N : ByteArray) : (numS A M N).size = 3 + A.size + M.size + 1 + N.size + 2 := by
  simp [numS, ByteArray.size_append]
  rfl
/-- What Lex answers. -/
def numR (m n : Int) (k : Nat) : Rs (List Tp) :=
  if m < 0 ∨ n < 0 then .error (36, 1) else if 255 < m ∨ 255 < n ∨ n < m then .error (37, 1) else .ok [(setT m00 [(97, 97)] false, 0, 1), (repT m n, 1, k)]
theorem num_lex (z : Nat) (m n : Int) (hs : (numS (ofL (List.replicate z 48)) (ofL (intD m)) (ofL (intD n))).size ≤ 2000) : lexM m00 (numS (ofL (List.replicate z 48)) (ofL (intD m)) (ofL (intD n))) = numR m n (numS (ofL (List.replicate z 48)) (ofL (intD m)) (ofL (intD n))).size := by
  have h := numS_is (List.replicate z 48) (intD m) (intD n)
  generalize numS (ofL (List.replicate z 48)) (ofL (intD m)) (ofL (intD n)) = s at *
  rw [first_tok h hs]
  unfold numR
  by_cases hm : m < 0
  · rw [if_pos (.inl hm)]
    have e : intD m = 45 :: natD (-(m + 1)).toNat := by unfold intD; rw [if_pos hm]
    rw [iv_neg h e]
  have em : intD m = natD m.toNat := by unfold intD; rw [if_neg hm]
  rw [em] at h
  by_cases hn : n < 0
  · rw [if_pos (.inr hn)]
    have e : intD n = 45 :: natD (-(n + 1)).toNat := by unfold intD; rw [if_pos hn]
    rw [iv_neg2 h e]
  have en : intD n = natD n.toNat := by unfold intD; rw [if_neg hn]
  rw [en] at h
  rw [if_neg (by omega), iv_both h]
  by_cases hc : 255 < m ∨ 255 < n ∨ n < m
  · rw [if_pos hc, if_pos (by omega)]
  · rw [if_neg hc, if_neg (by omega)]
    simp only
    have hz : 3 ≤ s.size := by rw [← size_list, h]; simp [numT]
    obtain ⟨k, hk⟩ : ∃ k, s.size - 1 = k + 1 := ⟨s.size - 2, by omega⟩
    rw [hk, lx, if_neg (by omega), show ((m.toNat : Nat) : Int) = m by omega, show ((n.toNat : Nat) : Int) = n by omega]
theorem num_of {base : Nat} {w : World} {v : Value} {D : List Dt} {m n : Int} {k : Nat} (h : TL base w v D) (hD : D.map Prod.fst = [(setT m00 [(97, 97)] false, 0, 1), (repT m n, 1, k)]) :
    ∃ q c, v = .slice (some ⟨q, 0, none⟩) 2 c ∧ w.cell? ⟨q, 7, none⟩ = some (.int .i64 2) ∧ w.cell? ⟨q, 11, none⟩ = some (.int .i64 m) ∧ w.cell? ⟨q, 12, none⟩ = some (.int .i64 n) ∧ w.cell? ⟨q, 9, none⟩ = some (.int .i64 (k : Int)) := by
  obtain ⟨a, b, rfl⟩ := two_of hD
  have h2 : b.1 = (repT m n, 1, k) := (List.cons.inj (List.cons.inj hD).2).1
  clear hD
  obtain ⟨g, c, rfl⟩ := ownsRow_some h.own (by simp)
  have cell : ∀ (i : Nat) (d : Dt) (j : Nat) (u : Value), [a, b][i]? = some d → j < 7 → (tc d)[j]? = some u → w.cell? ⟨g, i * 7 + j, none⟩ = some u := fun i d j u hi hj hu => ownsRow_cell h.own ((tcs_get _ i d j hi hj).trans hu)
  exact ⟨g, c, rfl, cell 1 b 0 _ rfl (by omega) (by simp [tc, h2, repT]), cell 1 b 4 _ rfl (by omega) (by simp [tc, h2, repT]), cell 1 b 5 _ rfl (by omega) (by simp [tc, h2, repT]), cell 1 b 2 _ rfl (by omega) (by simp [tc, h2])⟩
theorem rep_snoc (k : Nat) : ofL (List.replicate k 48) ++ ⟨#[48]⟩ = ofL (List.replicate (k + 1) 48) := by
  have := ofL_app (List.replicate k 48) [48]
  rw [← List.replicate_succ'] at this
  exact this

set_option maxRecDepth 100000 in
set_option maxHeartbeats 8000000 in
theorem law_numbers {w : World} (hG : Glb w) (m n z : Int) (hm : -9223372036854775808 ≤ m ∧ m ≤ 9223372036854775807) (hn : -9223372036854775808 ≤ n ∧ n ≤ 9223372036854775807) :
    Calls Tryd.prog 6 #[.int .i64 m, .int .i64 n, .int .i64 z] w fun e w' => e = .returned (.bool true) ∧ Below w.heap.size w w' := by
  have GL : Hid (Glb w) := hG
  have HE := examples_c hG
  have HDM : Hid (∀ W, Calls Tryd.prog 11 #[.int .i64 m] W fun e w' => e = .returned (.string (ofL (intD m))) ∧ Below W.heap.size W w') := fun W => digits_c hm.1 hm.2 W
  have HDN : Hid (∀ W, Calls Tryd.prog 11 #[.int .i64 n] W fun e w' => e = .returned (.string (ofL (intD n))) ∧ Below W.heap.size W w') := fun W => digits_c hn.1 hn.2 W
  have zm : (ofL (intD m)).size ≤ 20 := by rw [ofL_size]; exact intD_le hm.1 hm.2
  have zn : (ofL (intD n)).size ≤ 20 := by rw [ofL_size]; exact intD_le hn.1 hn.2
  obtain ⟨N, hN1, hN2⟩ : ∃ N : Nat, N ≤ 50 ∧ ∀ k : Nat, k ≤ N → ((k < N ∧ (k : Int) < z ∧ (k : Int) < 50) ∨ (k = N ∧ (¬ (k : Int) < z ∨ (k : Int) < z ∧ ¬ (k : Int) < 50))) := ⟨min z.toNat 50, by omega, fun k hk => by omega⟩
  have HL : Hid (∀ k, k ≤ 50 → ∀ W, Below w.heap.size w W → Calls Tryd.prog 8 #[.string (numS (ofL (List.replicate k 48)) (ofL (intD m)) (ofL (intD n))), .agg #[.bool false, .bool false]] W (LexIs W (numR m n (numS (ofL (List.replicate k 48)) (ofL (intD m)) (ofL (intD n))).size))) := fun k hk W hW => by
    rw [← num_lex k m n (by rw [numS_size, ofL_size]; simp; omega)]
    exact lex_c (GL.out.kept hW) _ m00
  have HR : Hid (∀ k, (ofL (List.replicate k 48)).size = k ∧ ofL (List.replicate k 48) ++ ⟨#[48]⟩ = ofL (List.replicate (k + 1) 48)) := fun k => ⟨by rw [ofL_size]; simp, rep_snoc k⟩
  clear hG
  generalize ofL (intD m) = DM at *
  generalize ofL (intD n) = DN at *
  go_enter Tryd.func6, Tryd.ntmps6
  go_wp2_with (go_at_call 7; refine HE.mono ?_; rintro e w5 ⟨rfl, h1⟩; have X5 : Hid (Below w.heap.size w w5) := h1; clear h1)
  go_loopw [8, 9] (fun a i wr => ∃ k : Nat, k ≤ N ∧ a = .string (ofL (List.replicate k 48)) ∧ i = .int .i64 (k : Int) ∧ wr = w5) (fun _ i _ => N - (intOf i).toNat)
  case atStart => exact ⟨0, Nat.zero_le _, rfl, rfl, rfl⟩
  case round =>
    obtain ⟨k, hk, rfl, rfl, hw⟩ := hrel
    subst hw
    have HK := HL.out k (by omega)
    obtain ⟨za, zb⟩ := HR.out k
    have ZB : Hid (ofL (List.replicate k 48) ++ ⟨#[48]⟩ = ofL (List.replicate (k + 1) 48)) := zb
    clear zb
    generalize ofL (List.replicate k 48) = A at *
    have s0 : ¬ 9223372036854775807 < A.size + 1 := by omega
    have s1 : ¬ 9223372036854775807 < 3 + A.size := by omega
    have s2 : ¬ 9223372036854775807 < 3 + A.size + DM.size := by omega
    have s3 : ¬ 9223372036854775807 < 3 + A.size + DM.size + 1 := by omega
    have s4 : ¬ 9223372036854775807 < 3 + A.size + DM.size + 1 + DN.size := by omega
    have s5 : ¬ 9223372036854775807 < 3 + A.size + DM.size + 1 + DN.size + 2 := by omega
    have hw1 : IntKind.wrap .i64 ((k : Int) + 1) = (k : Int) + 1 := wrap_small _ (by omega) (by omega)
    rcases hN2 k hk with ⟨h1, h2, h3⟩ | ⟨h1, h2⟩
    · clear za
      go_wp2
      go_roundw
      case rel => exact ⟨k + 1, by omega, congrArg Value.string ZB.out, by go_num, by first | rfl | trivial⟩
      case measure => simp only [intOf]; omega
    · clear za s0 ZB
      clear h1
      rcases h2 with h2 | ⟨h2, h3⟩
      · by_cases c1 : m < 0
        · have er : numR m n (numS A DM DN).size = .error (36, 1) := by unfold numR; rw [if_pos (.inl c1)]
          rw [er] at HK
          clear er
          go_wp2_with first
            | (go_at_call 11; have hx := X6.out; clear hx; (with_reducible refine (HDN.out _).mono ?_); rintro e w7 ⟨rfl, h1⟩; have X7 : Hid (Below w.heap.size w w7) := chain X6.out h1 (Nat.le_refl _); clear h1)
            | (go_at_call 11; (with_reducible refine (HDM.out _).mono ?_); rintro e w6 ⟨rfl, h1⟩; have X6 : Hid (Below w.heap.size w w6) := chain X5.out h1 (Nat.le_refl _); clear h1)
            | (go_at_call 8; (refine (HK _ X7.out).mono ?_); rintro e w8 ⟨h1, g, h2, rfl, h4⟩; have X8 : Hid (Below w.heap.size w w8 ∧ BadAt w8 g 36 1) := ⟨chain X7.out h1 (Nat.le_refl _), h4⟩; clear h1 h2 h4)
            | (go_at_call 9; (with_reducible refine (told_bad X8.out.2).mono ?_); rintro e w9 ⟨rfl, h1⟩; have X9 : Hid (Below w.heap.size w w9) := chain X8.out.1 h1 (Nat.le_refl _); clear h1)
          go_ret
          exact ⟨rfl, X9.out⟩
        by_cases c2 : n < 0
        · have er : numR m n (numS A DM DN).size = .error (36, 1) := by unfold numR; rw [if_pos (.inr c2)]
          rw [er] at HK
          clear er
          go_wp2_with first
            | (go_at_call 11; have hx := X6.out; clear hx; (with_reducible refine (HDN.out _).mono ?_); rintro e w7 ⟨rfl, h1⟩; have X7 : Hid (Below w.heap.size w w7) := chain X6.out h1 (Nat.le_refl _); clear h1)
            | (go_at_call 11; (with_reducible refine (HDM.out _).mono ?_); rintro e w6 ⟨rfl, h1⟩; have X6 : Hid (Below w.heap.size w w6) := chain X5.out h1 (Nat.le_refl _); clear h1)
            | (go_at_call 8; (refine (HK _ X7.out).mono ?_); rintro e w8 ⟨h1, g, h2, rfl, h4⟩; have X8 : Hid (Below w.heap.size w w8 ∧ BadAt w8 g 36 1) := ⟨chain X7.out h1 (Nat.le_refl _), h4⟩; clear h1 h2 h4)
            | (go_at_call 9; (with_reducible refine (told_bad X8.out.2).mono ?_); rintro e w9 ⟨rfl, h1⟩; have X9 : Hid (Below w.heap.size w w9) := chain X8.out.1 h1 (Nat.le_refl _); clear h1)
          go_ret
          exact ⟨rfl, X9.out⟩
        by_cases c3 : 255 < m
        · have er : numR m n (numS A DM DN).size = .error (37, 1) := by unfold numR; rw [if_neg (by omega), if_pos (.inl c3)]
          rw [er] at HK
          clear er
          go_wp2_with first
            | (go_at_call 11; have hx := X6.out; clear hx; (with_reducible refine (HDN.out _).mono ?_); rintro e w7 ⟨rfl, h1⟩; have X7 : Hid (Below w.heap.size w w7) := chain X6.out h1 (Nat.le_refl _); clear h1)
            | (go_at_call 11; (with_reducible refine (HDM.out _).mono ?_); rintro e w6 ⟨rfl, h1⟩; have X6 : Hid (Below w.heap.size w w6) := chain X5.out h1 (Nat.le_refl _); clear h1)
            | (go_at_call 8; (refine (HK _ X7.out).mono ?_); rintro e w8 ⟨h1, g, h2, rfl, h4⟩; have X8 : Hid (Below w.heap.size w w8 ∧ BadAt w8 g 37 1) := ⟨chain X7.out h1 (Nat.le_refl _), h4⟩; clear h1 h2 h4)
            | (go_at_call 9; (with_reducible refine (told_bad X8.out.2).mono ?_); rintro e w9 ⟨rfl, h1⟩; have X9 : Hid (Below w.heap.size w w9) := chain X8.out.1 h1 (Nat.le_refl _); clear h1)
          go_ret
          exact ⟨rfl, X9.out⟩
        by_cases c4 : 255 < n
        · have er : numR m n (numS A DM DN).size = .error (37, 1) := by unfold numR; rw [if_neg (by omega), if_pos (.inr (.inl c4))]
          rw [er] at HK
          clear er
          go_wp2_with first
            | (go_at_call 11; have hx := X6.out; clear hx; (with_reducible refine (HDN.out _).mono ?_); rintro e w7 ⟨rfl, h1⟩; have X7 : Hid (Below w.heap.size w w7) := chain X6.out h1 (Nat.le_refl _); clear h1)
            | (go_at_call 11; (with_reducible refine (HDM.out _).mono ?_); rintro e w6 ⟨rfl, h1⟩; have X6 : Hid (Below w.heap.size w w6) := chain X5.out h1 (Nat.le_refl _); clear h1)
            | (go_at_call 8; (refine (HK _ X7.out).mono ?_); rintro e w8 ⟨h1, g, h2, rfl, h4⟩; have X8 : Hid (Below w.heap.size w w8 ∧ BadAt w8 g 37 1) := ⟨chain X7.out h1 (Nat.le_refl _), h4⟩; clear h1 h2 h4)
            | (go_at_call 9; (with_reducible refine (told_bad X8.out.2).mono ?_); rintro e w9 ⟨rfl, h1⟩; have X9 : Hid (Below w.heap.size w w9) := chain X8.out.1 h1 (Nat.le_refl _); clear h1)
          go_ret
          exact ⟨rfl, X9.out⟩
        by_cases c5 : n < m
        · have er : numR m n (numS A DM DN).size = .error (37, 1) := by unfold numR; rw [if_neg (by omega), if_pos (.inr (.inr c5))]
          rw [er] at HK
          clear er
          go_wp2_with first
            | (go_at_call 11; have hx := X6.out; clear hx; (with_reducible refine (HDN.out _).mono ?_); rintro e w7 ⟨rfl, h1⟩; have X7 : Hid (Below w.heap.size w w7) := chain X6.out h1 (Nat.le_refl _); clear h1)
            | (go_at_call 11; (with_reducible refine (HDM.out _).mono ?_); rintro e w6 ⟨rfl, h1⟩; have X6 : Hid (Below w.heap.size w w6) := chain X5.out h1 (Nat.le_refl _); clear h1)
            | (go_at_call 8; (refine (HK _ X7.out).mono ?_); rintro e w8 ⟨h1, g, h2, rfl, h4⟩; have X8 : Hid (Below w.heap.size w w8 ∧ BadAt w8 g 37 1) := ⟨chain X7.out h1 (Nat.le_refl _), h4⟩; clear h1 h2 h4)
            | (go_at_call 9; (with_reducible refine (told_bad X8.out.2).mono ?_); rintro e w9 ⟨rfl, h1⟩; have X9 : Hid (Below w.heap.size w w9) := chain X8.out.1 h1 (Nat.le_refl _); clear h1)
          go_ret
          exact ⟨rfl, X9.out⟩
        have er : numR m n (numS A DM DN).size = .ok [(setT m00 [(97, 97)] false, 0, 1), (repT m n, 1, (numS A DM DN).size)] := by unfold numR; rw [if_neg (by omega), if_neg (by omega)]
        rw [er] at HK
        clear er
        go_wp2_with first
          | (go_at_call 11; have hx := X6.out; clear hx; (with_reducible refine (HDN.out _).mono ?_); rintro e w7 ⟨rfl, h1⟩; have X7 : Hid (Below w.heap.size w w7) := chain X6.out h1 (Nat.le_refl _); clear h1)
          | (go_at_call 11; (with_reducible refine (HDM.out _).mono ?_); rintro e w6 ⟨rfl, h1⟩; have X6 : Hid (Below w.heap.size w w6) := chain X5.out h1 (Nat.le_refl _); clear h1)
          | (go_at_call 8; (refine (HK _ X7.out).mono ?_); rintro e w8 ⟨h1, v8, D, rfl, h2, h4⟩; have X8 : Hid (Below w.heap.size w w8 ∧ TL w7.heap.size w8 v8 D ∧ D.map Prod.fst = [(setT m00 [(97, 97)] false, 0, 1), (repT m n, 1, (numS A DM DN).size)]) := ⟨chain X7.out h1 (Nat.le_refl _), h2, h4⟩; obtain ⟨q, c, rfl, -, -, -, -⟩ := num_of h2 h4; clear h1 h2 h4)
          | (go_at_call 9; (with_reducible refine (told_nil _).mono ?_); rintro e w9 ⟨rfl, h1⟩; have X9 : Hid (Below w.heap.size w w9) := chain X8.out.1 h1 (Nat.le_refl _); obtain ⟨q2, c2, hqc, f0, f1, f2, f3⟩ := num_of (X8.out.2.1.kept h1) X8.out.2.2; cases hqc; clear h1)
        go_ret
        refine ⟨?_, X9.out⟩
        simp
      · by_cases c1 : m < 0
        · have er : numR m n (numS A DM DN).size = .error (36, 1) := by unfold numR; rw [if_pos (.inl c1)]
          rw [er] at HK
          clear er
          go_wp2_with first
            | (go_at_call 11; have hx := X6.out; clear hx; (with_reducible refine (HDN.out _).mono ?_); rintro e w7 ⟨rfl, h1⟩; have X7 : Hid (Below w.heap.size w w7) := chain X6.out h1 (Nat.le_refl _); clear h1)
            | (go_at_call 11; (with_reducible refine (HDM.out _).mono ?_); rintro e w6 ⟨rfl, h1⟩; have X6 : Hid (Below w.heap.size w w6) := chain X5.out h1 (Nat.le_refl _); clear h1)
            | (go_at_call 8; (refine (HK _ X7.out).mono ?_); rintro e w8 ⟨h1, g, h2, rfl, h4⟩; have X8 : Hid (Below w.heap.size w w8 ∧ BadAt w8 g 36 1) := ⟨chain X7.out h1 (Nat.le_refl _), h4⟩; clear h1 h2 h4)
            | (go_at_call 9; (with_reducible refine (told_bad X8.out.2).mono ?_); rintro e w9 ⟨rfl, h1⟩; have X9 : Hid (Below w.heap.size w w9) := chain X8.out.1 h1 (Nat.le_refl _); clear h1)
          go_ret
          exact ⟨rfl, X9.out⟩
        by_cases c2 : n < 0
        · have er : numR m n (numS A DM DN).size = .error (36, 1) := by unfold numR; rw [if_pos (.inr c2)]
          rw [er] at HK
          clear er
          go_wp2_with first
            | (go_at_call 11; have hx := X6.out; clear hx; (with_reducible refine (HDN.out _).mono ?_); rintro e w7 ⟨rfl, h1⟩; have X7 : Hid (Below w.heap.size w w7) := chain X6.out h1 (Nat.le_refl _); clear h1)
            | (go_at_call 11; (with_reducible refine (HDM.out _).mono ?_); rintro e w6 ⟨rfl, h1⟩; have X6 : Hid (Below w.heap.size w w6) := chain X5.out h1 (Nat.le_refl _); clear h1)
            | (go_at_call 8; (refine (HK _ X7.out).mono ?_); rintro e w8 ⟨h1, g, h2, rfl, h4⟩; have X8 : Hid (Below w.heap.size w w8 ∧ BadAt w8 g 36 1) := ⟨chain X7.out h1 (Nat.le_refl _), h4⟩; clear h1 h2 h4)
            | (go_at_call 9; (with_reducible refine (told_bad X8.out.2).mono ?_); rintro e w9 ⟨rfl, h1⟩; have X9 : Hid (Below w.heap.size w w9) := chain X8.out.1 h1 (Nat.le_refl _); clear h1)
          go_ret
          exact ⟨rfl, X9.out⟩
        by_cases c3 : 255 < m
        · have er : numR m n (numS A DM DN).size = .error (37, 1) := by unfold numR; rw [if_neg (by omega), if_pos (.inl c3)]
          rw [er] at HK
          clear er
          go_wp2_with first
            | (go_at_call 11; have hx := X6.out; clear hx; (with_reducible refine (HDN.out _).mono ?_); rintro e w7 ⟨rfl, h1⟩; have X7 : Hid (Below w.heap.size w w7) := chain X6.out h1 (Nat.le_refl _); clear h1)
            | (go_at_call 11; (with_reducible refine (HDM.out _).mono ?_); rintro e w6 ⟨rfl, h1⟩; have X6 : Hid (Below w.heap.size w w6) := chain X5.out h1 (Nat.le_refl _); clear h1)
            | (go_at_call 8; (refine (HK _ X7.out).mono ?_); rintro e w8 ⟨h1, g, h2, rfl, h4⟩; have X8 : Hid (Below w.heap.size w w8 ∧ BadAt w8 g 37 1) := ⟨chain X7.out h1 (Nat.le_refl _), h4⟩; clear h1 h2 h4)
            | (go_at_call 9; (with_reducible refine (told_bad X8.out.2).mono ?_); rintro e w9 ⟨rfl, h1⟩; have X9 : Hid (Below w.heap.size w w9) := chain X8.out.1 h1 (Nat.le_refl _); clear h1)
          go_ret
          exact ⟨rfl, X9.out⟩
        by_cases c4 : 255 < n
        · have er : numR m n (numS A DM DN).size = .error (37, 1) := by unfold numR; rw [if_neg (by omega), if_pos (.inr (.inl c4))]
          rw [er] at HK
          clear er
          go_wp2_with first
            | (go_at_call 11; have hx := X6.out; clear hx; (with_reducible refine (HDN.out _).mono ?_); rintro e w7 ⟨rfl, h1⟩; have X7 : Hid (Below w.heap.size w w7) := chain X6.out h1 (Nat.le_refl _); clear h1)
            | (go_at_call 11; (with_reducible refine (HDM.out _).mono ?_); rintro e w6 ⟨rfl, h1⟩; have X6 : Hid (Below w.heap.size w w6) := chain X5.out h1 (Nat.le_refl _); clear h1)
            | (go_at_call 8; (refine (HK _ X7.out).mono ?_); rintro e w8 ⟨h1, g, h2, rfl, h4⟩; have X8 : Hid (Below w.heap.size w w8 ∧ BadAt w8 g 37 1) := ⟨chain X7.out h1 (Nat.le_refl _), h4⟩; clear h1 h2 h4)
            | (go_at_call 9; (with_reducible refine (told_bad X8.out.2).mono ?_); rintro e w9 ⟨rfl, h1⟩; have X9 : Hid (Below w.heap.size w w9) := chain X8.out.1 h1 (Nat.le_refl _); clear h1)
          go_ret
          exact ⟨rfl, X9.out⟩
        by_cases c5 : n < m
        · have er : numR m n (numS A DM DN).size = .error (37, 1) := by unfold numR; rw [if_neg (by omega), if_pos (.inr (.inr c5))]
          rw [er] at HK
          clear er
          go_wp2_with first
            | (go_at_call 11; have hx := X6.out; clear hx; (with_reducible refine (HDN.out _).mono ?_); rintro e w7 ⟨rfl, h1⟩; have X7 : Hid (Below w.heap.size w w7) := chain X6.out h1 (Nat.le_refl _); clear h1)
            | (go_at_call 11; (with_reducible refine (HDM.out _).mono ?_); rintro e w6 ⟨rfl, h1⟩; have X6 : Hid (Below w.heap.size w w6) := chain X5.out h1 (Nat.le_refl _); clear h1)
            | (go_at_call 8; (refine (HK _ X7.out).mono ?_); rintro e w8 ⟨h1, g, h2, rfl, h4⟩; have X8 : Hid (Below w.heap.size w w8 ∧ BadAt w8 g 37 1) := ⟨chain X7.out h1 (Nat.le_refl _), h4⟩; clear h1 h2 h4)
            | (go_at_call 9; (with_reducible refine (told_bad X8.out.2).mono ?_); rintro e w9 ⟨rfl, h1⟩; have X9 : Hid (Below w.heap.size w w9) := chain X8.out.1 h1 (Nat.le_refl _); clear h1)
          go_ret
          exact ⟨rfl, X9.out⟩
        have er : numR m n (numS A DM DN).size = .ok [(setT m00 [(97, 97)] false, 0, 1), (repT m n, 1, (numS A DM DN).size)] := by unfold numR; rw [if_neg (by omega), if_neg (by omega)]
        rw [er] at HK
        clear er
        go_wp2_with first
          | (go_at_call 11; have hx := X6.out; clear hx; (with_reducible refine (HDN.out _).mono ?_); rintro e w7 ⟨rfl, h1⟩; have X7 : Hid (Below w.heap.size w w7) := chain X6.out h1 (Nat.le_refl _); clear h1)
          | (go_at_call 11; (with_reducible refine (HDM.out _).mono ?_); rintro e w6 ⟨rfl, h1⟩; have X6 : Hid (Below w.heap.size w w6) := chain X5.out h1 (Nat.le_refl _); clear h1)
          | (go_at_call 8; (refine (HK _ X7.out).mono ?_); rintro e w8 ⟨h1, v8, D, rfl, h2, h4⟩; have X8 : Hid (Below w.heap.size w w8 ∧ TL w7.heap.size w8 v8 D ∧ D.map Prod.fst = [(setT m00 [(97, 97)] false, 0, 1), (repT m n, 1, (numS A DM DN).size)]) := ⟨chain X7.out h1 (Nat.le_refl _), h2, h4⟩; obtain ⟨q, c, rfl, -, -, -, -⟩ := num_of h2 h4; clear h1 h2 h4)
          | (go_at_call 9; (with_reducible refine (told_nil _).mono ?_); rintro e w9 ⟨rfl, h1⟩; have X9 : Hid (Below w.heap.size w w9) := chain X8.out.1 h1 (Nat.le_refl _); obtain ⟨q2, c2, hqc, f0, f1, f2, f3⟩ := num_of (X8.out.2.1.kept h1) X8.out.2.2; cases hqc; clear h1)
        go_ret
        refine ⟨?_, X9.out⟩
        simp
end Go.Proofs.YtloeajhmmjdlgaaDoor
