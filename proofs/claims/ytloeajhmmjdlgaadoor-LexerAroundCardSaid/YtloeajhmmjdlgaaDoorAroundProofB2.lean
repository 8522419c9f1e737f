/-
  LexerAround: what stands within a group is read as it is alone. (mkaround.py writes it.)
-/
import Derived.Test.YtloeajhmmjdlgaaDoorAroundProofB0
import Derived.Test.YtloeajhmmjdlgaaDoorAroundProofB1
namespace Go.Proofs.YtloeajhmmjdlgaaDoor
open Go Go.RowKit
attribute [local go_sem] ext_cell

abbrev grp (s : ByteArray) : ByteArray := ⟨#[92, 40]⟩ ++ s ++ ⟨#[92, 41]⟩
theorem grp_is (s : ByteArray) : Arnd s (grp s) := by
  show ((⟨#[92, 40]⟩ ++ s ++ ⟨#[92, 41]⟩ : ByteArray)).data.toList = _
  rw [ByteArray.data_append, ByteArray.data_append, Array.toList_append, Array.toList_append]
/-- What a round sees of the two lists of tokens. -/
structure Seen (w : World) (ga gb k : Nat) (kd at_ en n : Nat) (mn mx : Int) (r1 r2 : Value) : Prop where
  a0 : w.cell? ⟨ga, k * 7, none⟩ = some (.int .i64 (kd : Int))
  a1 : w.cell? ⟨ga, k * 7 + 1, none⟩ = some (.int .i64 (at_ : Int))
  a2 : w.cell? ⟨ga, k * 7 + 2, none⟩ = some (.int .i64 (en : Int))
  a3 : w.cell? ⟨ga, k * 7 + 3, none⟩ = some (.int .i64 (n : Int))
  a4 : w.cell? ⟨ga, k * 7 + 4, none⟩ = some (.int .i64 mn)
  a5 : w.cell? ⟨ga, k * 7 + 5, none⟩ = some (.int .i64 mx)
  a6 : w.cell? ⟨ga, k * 7 + 6, none⟩ = some r1
  b0 : w.cell? ⟨gb, (k + 1) * 7, none⟩ = some (.int .i64 (kd : Int))
  b1 : w.cell? ⟨gb, (k + 1) * 7 + 1, none⟩ = some (.int .i64 ((at_ : Int) + 2))
  b2 : w.cell? ⟨gb, (k + 1) * 7 + 2, none⟩ = some (.int .i64 ((en : Int) + 2))
  b3 : w.cell? ⟨gb, (k + 1) * 7 + 3, none⟩ = some (.int .i64 (n : Int))
  b4 : w.cell? ⟨gb, (k + 1) * 7 + 4, none⟩ = some (.int .i64 mn)
  b5 : w.cell? ⟨gb, (k + 1) * 7 + 5, none⟩ = some (.int .i64 mx)
  b6 : w.cell? ⟨gb, (k + 1) * 7 + 6, none⟩ = some r2
theorem seen_of {s : ByteArray} {T : List Tp} {c1 c2 : Nat} {w : World} {qa : Option Addr} {ka gb kb n0 : Nat} {D E : List Dt} (hA : TL c1 w (.slice qa D.length ka) D) (hB : TL c2 w (.slice (some ⟨gb, 0, none⟩) E.length kb) E) (hD : D.map Prod.fst = T)
    (hE : E.map Prod.fst = (kT 3, 0, 2) :: T.map shT ++ [(kT 4, n0 + 2, n0 + 4)]) (hS : Stands s T s.size) {k : Nat} (hk : k < D.length) :
    ∃ ga kd at_ en n mn mx q1 k1 q2 k2 l, qa = some ⟨ga, 0, none⟩ ∧ Seen w ga gb k kd at_ en n mn mx (.slice q1 l k1) (.slice q2 l k2) ∧ at_ ≤ s.size ∧ en ≤ s.size := by
  obtain ⟨ga, c, hv⟩ := ownsRow_some hA.own (by omega)
  cases hv
  obtain ⟨d, hd⟩ : ∃ d, D[k]? = some d := ⟨_, List.getElem?_eq_getElem hk⟩
  have ht := tk_of hD hd
  have hel : E.length = D.length + 2 := by
    have := congrArg List.length hE
    simp at this
    rw [this, len_of hD]
  obtain ⟨e, he⟩ : ∃ e, E[k + 1]? = some e := ⟨_, List.getElem?_eq_getElem (by omega)⟩
  have hte : e.1 = shT d.1 := by
    have h1 := tk_of hE he
    rw [List.cons_append, List.getElem?_cons_succ, List.getElem?_append_left (by rw [List.length_map, len_of hD]; exact hk), List.getElem?_map, ht] at h1
    exact (Option.some.inj h1).symm
  obtain ⟨s1, s2, s3, -⟩ := hS.each k d.1 ht
  obtain ⟨r1, i1⟩ := hA.each d (List.mem_of_getElem? hd)
  obtain ⟨r2, i2⟩ := hB.each e (List.mem_of_getElem? he)
  obtain ⟨q1, k1, v1⟩ := r1.shape
  obtain ⟨q2, k2, v2⟩ := r2.shape
  have hq : e.1.1.q = d.1.1.q := by rw [hte]; rfl
  rw [hq] at i2
  have hC : e.2.2 = d.2.2 := i2.one i1 fun _ => Iff.rfl
  rw [hC] at v2
  have ca := fun (j : Nat) (u : Value) (hj : (tc d)[j]? = some u) => hA.cell hd hj
  have cb := fun (j : Nat) (u : Value) (hj : (tc e)[j]? = some u) => hB.cell he hj
  refine ⟨ga, d.1.1.kind, d.1.2.1, d.1.2.2, d.1.1.n, d.1.1.mn, d.1.1.mx, q1, k1, q2, k2, d.2.2.length, rfl, ⟨ca 0 _ rfl, ca 1 _ rfl, ca 2 _ rfl, ca 3 _ rfl, ca 4 _ rfl, ca 5 _ rfl, ca 6 _ (by rw [← v1]; rfl), ?_, ?_, ?_, ?_, ?_, ?_, ?_⟩, by omega, s3⟩
  · exact cb 0 _ (by simp [tc, hte, shT])
  · exact cb 1 _ (by simp [tc, hte, shT])
  · exact cb 2 _ (by simp [tc, hte, shT])
  · exact cb 3 _ (by simp [tc, hte, shT])
  · exact cb 4 _ (by simp [tc, hte, shT])
  · exact cb 5 _ (by simp [tc, hte, shT])
  · exact cb 6 _ (by rw [← v2]; rfl)
theorem ends_of {c2 : Nat} {w : World} {v : Value} {n0 : Nat} {E : List Dt} {T : List Tp} (hB : TL c2 w v E) (hE : E.map Prod.fst = (kT 3, 0, 2) :: T.map shT ++ [(kT 4, n0 + 2, n0 + 4)]) :
    ∃ gb kb, v = .slice (some ⟨gb, 0, none⟩) (T.length + 2) kb ∧ E.length = T.length + 2 ∧ w.cell? ⟨gb, 0, none⟩ = some (.int .i64 3) ∧ w.cell? ⟨gb, (T.length + 1) * 7, none⟩ = some (.int .i64 4) := by
  have hel : E.length = T.length + 2 := by
    have := congrArg List.length hE
    simpa using this
  obtain ⟨gb, kb, rfl⟩ := ownsRow_some hB.own (by omega)
  obtain ⟨e, he⟩ : ∃ e, E[0]? = some e := ⟨_, List.getElem?_eq_getElem (by omega)⟩
  obtain ⟨f, hf⟩ : ∃ f, E[T.length + 1]? = some f := ⟨_, List.getElem?_eq_getElem (by omega)⟩
  have h1 := tk_of hE he
  have h2 := tk_of hE hf
  rw [List.cons_append, List.getElem?_cons_zero] at h1
  rw [List.cons_append, List.getElem?_cons_succ, List.getElem?_append_right (by simp), List.length_map, Nat.sub_self] at h2
  have e1 : e.1.1 = kT 3 := by rw [← Option.some.inj h1]
  have e2 : f.1.1 = kT 4 := by rw [← Option.some.inj h2]
  refine ⟨gb, kb, by rw [hel], hel, ?_, ?_⟩
  · have := hB.cell he (j := 0) (u := .int .i64 3) (by simp [tc, e1, kT])
    simpa using this
  · exact hB.cell hf (j := 0) (u := .int .i64 4) (by simp [tc, e2, kT])

set_option maxRecDepth 100000 in
set_option maxHeartbeats 8000000 in
theorem law_around_s {w : World} (hG : Glb w) (x : ByteArray) (hx : x.size ≤ 1900) (m : Md) : Calls Tryd.prog 5 #[.string x, .agg #[.bool m.c, .bool m.f]] w fun e w' => e = .returned (.bool true) ∧ Below w.heap.size w w' := by
  obtain ⟨s, hs0⟩ : ∃ s, s = x := ⟨_, rfl⟩
  subst hs0
  have dlt : ¬ (1900 : Int) < (s.size : Int) := by omega
  have GL : Hid (Glb w) := hG
  have BX : Hid (Below w.heap.size w (boxM w m)) := below_box w m
  have HE : Hid (∀ W, Below w.heap.size w W → Calls Tryd.prog 7 #[] W fun e w' => e = .returned (.bool true) ∧ Below W.heap.size W w') := fun W hW => examples_c (GL.out.kept hW)
  have HL : Hid (∀ W, Below w.heap.size w W → Calls Tryd.prog 8 #[.string s, .agg #[.bool m.c, .bool m.f]] W (LexIs W (lexM m s))) := fun W hW => lex_c (GL.out.kept hW) s m
  have HM : Hid (∀ W, Below w.heap.size w W → Calls Tryd.prog 8 #[.string (grp s), .agg #[.bool m.c, .bool m.f]] W (LexIs W (lexM m (grp s)))) := fun W hW => lex_c (GL.out.kept hW) (grp s) m
  have hends := lexM_ends m s
  have hsh := ar_lex (grp_is s) m (by omega)
  have k0 : Hid ((boxM w m).cell? ⟨w.heap.size, 0, none⟩ = some (.bool m.c) ∧ (boxM w m).cell? ⟨w.heap.size, 1, none⟩ = some (.bool m.f) ∧ w.heap.size < (boxM w m).heap.size) := ⟨cell_row (alloc_new w _) (i := 0) rfl, cell_row (alloc_new w _) (i := 1) rfl, lt_of_heap (alloc_new w _)⟩
  clear hG
  cases hr : lexM m s with
  | error y =>
    obtain ⟨c, a⟩ := y
    rw [hr] at hends HL hsh
    obtain ⟨hc, ha⟩ := hends
    by_cases hce : c = 31 ∨ c = 33 ∨ c = 36
    · clear hsh
      cases hr2 : lexM m (grp s) with
      | error y =>
        obtain ⟨c2, a2⟩ := y
        rw [hr2] at HM
        rcases hce with rfl | rfl | rfl
        · go_enter Tryd.func5, Tryd.ntmps5
          go_wp2_with first
            | (go_at_call 7; (with_reducible refine (HE.out _ BX.out).mono ?_); rintro e w5 ⟨rfl, h1⟩; have X5 : Hid (Below w.heap.size w w5 ∧ w.heap.size < w5.heap.size) := ⟨chain BX.out h1 (Nat.le_refl _), Nat.lt_of_lt_of_le k0.out.2.2 h1.size⟩; have c0 := (h1.cell (p := ⟨w.heap.size, 0, none⟩) k0.out.2.2).trans k0.out.1; have c1 := (h1.cell (p := ⟨w.heap.size, 1, none⟩) k0.out.2.2).trans k0.out.2.1; clear h1)
            | (go_at_call 8; (with_reducible refine (HM.out _ X7.out).mono ?_); rintro e w8 ⟨h1, g2, h2, rfl, h4⟩; have X8 : Hid (Below w.heap.size w w8 ∧ BadAt w8 g2 c2 a2) := ⟨chain X7.out h1 (Nat.le_refl _), h4⟩; clear h1 h2 h4)
            | (go_at_call 8; (with_reducible refine (HL.out _ X5.out.1).mono ?_); rintro e w6 ⟨h1, g, h2, rfl, h4⟩; have X6 : Hid (Below w.heap.size w w6 ∧ Below w5.heap.size w5 w6 ∧ BadAt w6 g 31 a) := ⟨chain X5.out.1 h1 (Nat.le_refl _), h1, h4⟩; clear h1 h2 h4)
            | (go_at_call 9; (with_reducible refine (told_bad X8.out.2).mono ?_); rintro e w9 ⟨rfl, h1⟩; have X9 : Hid (Below w.heap.size w w9) := chain X8.out.1 h1 (Nat.le_refl _); clear h1)
            | (go_at_call 9; (with_reducible refine (told_bad X6.out.2.2).mono ?_); rintro e w7 ⟨rfl, h1⟩; have X7 : Hid (Below w.heap.size w w7) := chain X6.out.1 h1 (Nat.le_refl _); have d0 := ((chain X6.out.2.1 h1 (Nat.le_refl _)).cell (p := ⟨w.heap.size, 0, none⟩) X5.out.2).trans c0; have d1 := ((chain X6.out.2.1 h1 (Nat.le_refl _)).cell (p := ⟨w.heap.size, 1, none⟩) X5.out.2).trans c1; clear h1)
          go_ret
          exact ⟨rfl, X9.out⟩
        · go_enter Tryd.func5, Tryd.ntmps5
          go_wp2_with first
            | (go_at_call 7; (with_reducible refine (HE.out _ BX.out).mono ?_); rintro e w5 ⟨rfl, h1⟩; have X5 : Hid (Below w.heap.size w w5 ∧ w.heap.size < w5.heap.size) := ⟨chain BX.out h1 (Nat.le_refl _), Nat.lt_of_lt_of_le k0.out.2.2 h1.size⟩; have c0 := (h1.cell (p := ⟨w.heap.size, 0, none⟩) k0.out.2.2).trans k0.out.1; have c1 := (h1.cell (p := ⟨w.heap.size, 1, none⟩) k0.out.2.2).trans k0.out.2.1; clear h1)
            | (go_at_call 8; (with_reducible refine (HM.out _ X7.out).mono ?_); rintro e w8 ⟨h1, g2, h2, rfl, h4⟩; have X8 : Hid (Below w.heap.size w w8 ∧ BadAt w8 g2 c2 a2) := ⟨chain X7.out h1 (Nat.le_refl _), h4⟩; clear h1 h2 h4)
            | (go_at_call 8; (with_reducible refine (HL.out _ X5.out.1).mono ?_); rintro e w6 ⟨h1, g, h2, rfl, h4⟩; have X6 : Hid (Below w.heap.size w w6 ∧ Below w5.heap.size w5 w6 ∧ BadAt w6 g 33 a) := ⟨chain X5.out.1 h1 (Nat.le_refl _), h1, h4⟩; clear h1 h2 h4)
            | (go_at_call 9; (with_reducible refine (told_bad X8.out.2).mono ?_); rintro e w9 ⟨rfl, h1⟩; have X9 : Hid (Below w.heap.size w w9) := chain X8.out.1 h1 (Nat.le_refl _); clear h1)
            | (go_at_call 9; (with_reducible refine (told_bad X6.out.2.2).mono ?_); rintro e w7 ⟨rfl, h1⟩; have X7 : Hid (Below w.heap.size w w7) := chain X6.out.1 h1 (Nat.le_refl _); have d0 := ((chain X6.out.2.1 h1 (Nat.le_refl _)).cell (p := ⟨w.heap.size, 0, none⟩) X5.out.2).trans c0; have d1 := ((chain X6.out.2.1 h1 (Nat.le_refl _)).cell (p := ⟨w.heap.size, 1, none⟩) X5.out.2).trans c1; clear h1)
          go_ret
          exact ⟨rfl, X9.out⟩
        · go_enter Tryd.func5, Tryd.ntmps5
          go_wp2_with first
            | (go_at_call 7; (with_reducible refine (HE.out _ BX.out).mono ?_); rintro e w5 ⟨rfl, h1⟩; have X5 : Hid (Below w.heap.size w w5 ∧ w.heap.size < w5.heap.size) := ⟨chain BX.out h1 (Nat.le_refl _), Nat.lt_of_lt_of_le k0.out.2.2 h1.size⟩; have c0 := (h1.cell (p := ⟨w.heap.size, 0, none⟩) k0.out.2.2).trans k0.out.1; have c1 := (h1.cell (p := ⟨w.heap.size, 1, none⟩) k0.out.2.2).trans k0.out.2.1; clear h1)
            | (go_at_call 8; (with_reducible refine (HM.out _ X7.out).mono ?_); rintro e w8 ⟨h1, g2, h2, rfl, h4⟩; have X8 : Hid (Below w.heap.size w w8 ∧ BadAt w8 g2 c2 a2) := ⟨chain X7.out h1 (Nat.le_refl _), h4⟩; clear h1 h2 h4)
            | (go_at_call 8; (with_reducible refine (HL.out _ X5.out.1).mono ?_); rintro e w6 ⟨h1, g, h2, rfl, h4⟩; have X6 : Hid (Below w.heap.size w w6 ∧ Below w5.heap.size w5 w6 ∧ BadAt w6 g 36 a) := ⟨chain X5.out.1 h1 (Nat.le_refl _), h1, h4⟩; clear h1 h2 h4)
            | (go_at_call 9; (with_reducible refine (told_bad X8.out.2).mono ?_); rintro e w9 ⟨rfl, h1⟩; have X9 : Hid (Below w.heap.size w w9) := chain X8.out.1 h1 (Nat.le_refl _); clear h1)
            | (go_at_call 9; (with_reducible refine (told_bad X6.out.2.2).mono ?_); rintro e w7 ⟨rfl, h1⟩; have X7 : Hid (Below w.heap.size w w7) := chain X6.out.1 h1 (Nat.le_refl _); have d0 := ((chain X6.out.2.1 h1 (Nat.le_refl _)).cell (p := ⟨w.heap.size, 0, none⟩) X5.out.2).trans c0; have d1 := ((chain X6.out.2.1 h1 (Nat.le_refl _)).cell (p := ⟨w.heap.size, 1, none⟩) X5.out.2).trans c1; clear h1)
          go_ret
          exact ⟨rfl, X9.out⟩
      | ok T2 =>
        rw [hr2] at HM
        rcases hce with rfl | rfl | rfl
        · go_enter Tryd.func5, Tryd.ntmps5
          go_wp2_with first
            | (go_at_call 7; (with_reducible refine (HE.out _ BX.out).mono ?_); rintro e w5 ⟨rfl, h1⟩; have X5 : Hid (Below w.heap.size w w5 ∧ w.heap.size < w5.heap.size) := ⟨chain BX.out h1 (Nat.le_refl _), Nat.lt_of_lt_of_le k0.out.2.2 h1.size⟩; have c0 := (h1.cell (p := ⟨w.heap.size, 0, none⟩) k0.out.2.2).trans k0.out.1; have c1 := (h1.cell (p := ⟨w.heap.size, 1, none⟩) k0.out.2.2).trans k0.out.2.1; clear h1)
            | (go_at_call 8; (with_reducible refine (HM.out _ X7.out).mono ?_); rintro e w8 ⟨h1, v8, E, rfl, h2, h4⟩; obtain ⟨q8, k8, rfl⟩ := ownsRow_shape h2.own; have X8 : Hid (Below w.heap.size w w8) := chain X7.out h1 (Nat.le_refl _); clear h1 h2 h4)
            | (go_at_call 8; (with_reducible refine (HL.out _ X5.out.1).mono ?_); rintro e w6 ⟨h1, g, h2, rfl, h4⟩; have X6 : Hid (Below w.heap.size w w6 ∧ Below w5.heap.size w5 w6 ∧ BadAt w6 g 31 a) := ⟨chain X5.out.1 h1 (Nat.le_refl _), h1, h4⟩; clear h1 h2 h4)
            | (go_at_call 9; (with_reducible refine (told_nil _).mono ?_); rintro e w9 ⟨rfl, h1⟩; have X9 : Hid (Below w.heap.size w w9) := chain X8.out h1 (Nat.le_refl _); clear h1)
            | (go_at_call 9; (with_reducible refine (told_bad X6.out.2.2).mono ?_); rintro e w7 ⟨rfl, h1⟩; have X7 : Hid (Below w.heap.size w w7) := chain X6.out.1 h1 (Nat.le_refl _); have d0 := ((chain X6.out.2.1 h1 (Nat.le_refl _)).cell (p := ⟨w.heap.size, 0, none⟩) X5.out.2).trans c0; have d1 := ((chain X6.out.2.1 h1 (Nat.le_refl _)).cell (p := ⟨w.heap.size, 1, none⟩) X5.out.2).trans c1; clear h1)
          go_ret
          exact ⟨rfl, X9.out⟩
        · go_enter Tryd.func5, Tryd.ntmps5
          go_wp2_with first
            | (go_at_call 7; (with_reducible refine (HE.out _ BX.out).mono ?_); rintro e w5 ⟨rfl, h1⟩; have X5 : Hid (Below w.heap.size w w5 ∧ w.heap.size < w5.heap.size) := ⟨chain BX.out h1 (Nat.le_refl _), Nat.lt_of_lt_of_le k0.out.2.2 h1.size⟩; have c0 := (h1.cell (p := ⟨w.heap.size, 0, none⟩) k0.out.2.2).trans k0.out.1; have c1 := (h1.cell (p := ⟨w.heap.size, 1, none⟩) k0.out.2.2).trans k0.out.2.1; clear h1)
            | (go_at_call 8; (with_reducible refine (HM.out _ X7.out).mono ?_); rintro e w8 ⟨h1, v8, E, rfl, h2, h4⟩; obtain ⟨q8, k8, rfl⟩ := ownsRow_shape h2.own; have X8 : Hid (Below w.heap.size w w8) := chain X7.out h1 (Nat.le_refl _); clear h1 h2 h4)
            | (go_at_call 8; (with_reducible refine (HL.out _ X5.out.1).mono ?_); rintro e w6 ⟨h1, g, h2, rfl, h4⟩; have X6 : Hid (Below w.heap.size w w6 ∧ Below w5.heap.size w5 w6 ∧ BadAt w6 g 33 a) := ⟨chain X5.out.1 h1 (Nat.le_refl _), h1, h4⟩; clear h1 h2 h4)
            | (go_at_call 9; (with_reducible refine (told_nil _).mono ?_); rintro e w9 ⟨rfl, h1⟩; have X9 : Hid (Below w.heap.size w w9) := chain X8.out h1 (Nat.le_refl _); clear h1)
            | (go_at_call 9; (with_reducible refine (told_bad X6.out.2.2).mono ?_); rintro e w7 ⟨rfl, h1⟩; have X7 : Hid (Below w.heap.size w w7) := chain X6.out.1 h1 (Nat.le_refl _); have d0 := ((chain X6.out.2.1 h1 (Nat.le_refl _)).cell (p := ⟨w.heap.size, 0, none⟩) X5.out.2).trans c0; have d1 := ((chain X6.out.2.1 h1 (Nat.le_refl _)).cell (p := ⟨w.heap.size, 1, none⟩) X5.out.2).trans c1; clear h1)
          go_ret
          exact ⟨rfl, X9.out⟩
        · go_enter Tryd.func5, Tryd.ntmps5
          go_wp2_with first
            | (go_at_call 7; (with_reducible refine (HE.out _ BX.out).mono ?_); rintro e w5 ⟨rfl, h1⟩; have X5 : Hid (Below w.heap.size w w5 ∧ w.heap.size < w5.heap.size) := ⟨chain BX.out h1 (Nat.le_refl _), Nat.lt_of_lt_of_le k0.out.2.2 h1.size⟩; have c0 := (h1.cell (p := ⟨w.heap.size, 0, none⟩) k0.out.2.2).trans k0.out.1; have c1 := (h1.cell (p := ⟨w.heap.size, 1, none⟩) k0.out.2.2).trans k0.out.2.1; clear h1)
            | (go_at_call 8; (with_reducible refine (HM.out _ X7.out).mono ?_); rintro e w8 ⟨h1, v8, E, rfl, h2, h4⟩; obtain ⟨q8, k8, rfl⟩ := ownsRow_shape h2.own; have X8 : Hid (Below w.heap.size w w8) := chain X7.out h1 (Nat.le_refl _); clear h1 h2 h4)
            | (go_at_call 8; (with_reducible refine (HL.out _ X5.out.1).mono ?_); rintro e w6 ⟨h1, g, h2, rfl, h4⟩; have X6 : Hid (Below w.heap.size w w6 ∧ Below w5.heap.size w5 w6 ∧ BadAt w6 g 36 a) := ⟨chain X5.out.1 h1 (Nat.le_refl _), h1, h4⟩; clear h1 h2 h4)
            | (go_at_call 9; (with_reducible refine (told_nil _).mono ?_); rintro e w9 ⟨rfl, h1⟩; have X9 : Hid (Below w.heap.size w w9) := chain X8.out h1 (Nat.le_refl _); clear h1)
            | (go_at_call 9; (with_reducible refine (told_bad X6.out.2.2).mono ?_); rintro e w7 ⟨rfl, h1⟩; have X7 : Hid (Below w.heap.size w w7) := chain X6.out.1 h1 (Nat.le_refl _); have d0 := ((chain X6.out.2.1 h1 (Nat.le_refl _)).cell (p := ⟨w.heap.size, 0, none⟩) X5.out.2).trans c0; have d1 := ((chain X6.out.2.1 h1 (Nat.le_refl _)).cell (p := ⟨w.heap.size, 1, none⟩) X5.out.2).trans c1; clear h1)
          go_ret
          exact ⟨rfl, X9.out⟩
    · have hr2 : lexM m (grp s) = .error (c, a + 2) := hsh.resolve_left hce
      rw [hr2] at HM
      have n0 : ((c : Int) == 0) = false := by simp; omega
      have n1 : ((c : Int) == 31) = false := by simp; omega
      have n2 : ((c : Int) == 33) = false := by simp; omega
      have n3 : ((c : Int) == 36) = false := by simp; omega
      have n4 : ((c : Int) == (c : Int)) = true := by simp
      have hw : IntKind.wrap .i64 ((a : Int) + 2) = (a : Int) + 2 := wrap_small _ (by omega) (by omega)
      obtain ⟨a2, ha2⟩ : ∃ a2, a2 = a + 2 := ⟨_, rfl⟩
      rw [← ha2] at HM
      have n5 : ((a2 : Int) == (a : Int) + 2) = true := by simp; omega
      clear ha2 hce hc hsh hr hr2
      go_enter Tryd.func5, Tryd.ntmps5
      go_wp2_with first
        | (go_at_call 7; (with_reducible refine (HE.out _ BX.out).mono ?_); rintro e w5 ⟨rfl, h1⟩; have X5 : Hid (Below w.heap.size w w5 ∧ w.heap.size < w5.heap.size) := ⟨chain BX.out h1 (Nat.le_refl _), Nat.lt_of_lt_of_le k0.out.2.2 h1.size⟩; have c0 := (h1.cell (p := ⟨w.heap.size, 0, none⟩) k0.out.2.2).trans k0.out.1; have c1 := (h1.cell (p := ⟨w.heap.size, 1, none⟩) k0.out.2.2).trans k0.out.2.1; clear h1)
        | (go_at_call 8; (with_reducible refine (HM.out _ X7.out).mono ?_); rintro e w8 ⟨h1, g2, h2, rfl, h4⟩; have X8 : Hid (Below w.heap.size w w8 ∧ BadAt w8 g2 c a2) := ⟨chain X7.out h1 (Nat.le_refl _), h4⟩; clear h1 h2 h4)
        | (go_at_call 8; (with_reducible refine (HL.out _ X5.out.1).mono ?_); rintro e w6 ⟨h1, g, h2, rfl, h4⟩; have X6 : Hid (Below w.heap.size w w6 ∧ Below w5.heap.size w5 w6 ∧ BadAt w6 g c a) := ⟨chain X5.out.1 h1 (Nat.le_refl _), h1, h4⟩; clear h1 h2 h4)
        | (go_at_call 9; (with_reducible refine (told_bad X8.out.2).mono ?_); rintro e w9 ⟨rfl, h1⟩; have X9 : Hid (Below w.heap.size w w9) := chain X8.out.1 h1 (Nat.le_refl _); clear h1)
        | (go_at_call 9; (with_reducible refine (told_bad X6.out.2.2).mono ?_); rintro e w7 ⟨rfl, h1⟩; have X7 : Hid (Below w.heap.size w w7) := chain X6.out.1 h1 (Nat.le_refl _); have d0 := ((chain X6.out.2.1 h1 (Nat.le_refl _)).cell (p := ⟨w.heap.size, 0, none⟩) X5.out.2).trans c0; have d1 := ((chain X6.out.2.1 h1 (Nat.le_refl _)).cell (p := ⟨w.heap.size, 1, none⟩) X5.out.2).trans c1; clear h1)
      go_ret
      exact ⟨rfl, X9.out⟩
  | ok T =>
    rw [hr] at hends HL hsh
    have hr2 : lexM m (grp s) = .ok ((kT 3, 0, 2) :: T.map shT ++ [(kT 4, s.size + 2, s.size + 4)]) := hsh
    rw [hr2] at HM
    have ST : Hid (Stands s T s.size) := hends
    have hfew := hends.few
    have hTs : T.length ≤ 1900 := by omega
    clear hends hsh hr hr2
    go_enter Tryd.func5, Tryd.ntmps5
    go_wp2_with first
      | (go_at_call 7; (with_reducible refine (HE.out _ BX.out).mono ?_); rintro e w5 ⟨rfl, h1⟩; have X5 : Hid (Below w.heap.size w w5 ∧ w.heap.size < w5.heap.size) := ⟨chain BX.out h1 (Nat.le_refl _), Nat.lt_of_lt_of_le k0.out.2.2 h1.size⟩; have c0 := (h1.cell (p := ⟨w.heap.size, 0, none⟩) k0.out.2.2).trans k0.out.1; have c1 := (h1.cell (p := ⟨w.heap.size, 1, none⟩) k0.out.2.2).trans k0.out.2.1; clear h1)
      | (go_at_call 8; (with_reducible refine (HM.out _ X7.out).mono ?_); rintro e w8 ⟨h1, v8, E, rfl, h2, h4⟩; obtain ⟨gb, kb, hv, hel, -, -⟩ := ends_of h2 h4; rw [len_of X6.out.2.2.2] at hv hel; subst hv; have X8 : Hid (Below w.heap.size w w8 ∧ TL w7.heap.size w8 (.slice (some ⟨gb, 0, none⟩) (D.length + 2) kb) E ∧ E.map Prod.fst = (kT 3, 0, 2) :: T.map shT ++ [(kT 4, s.size + 2, s.size + 4)] ∧ E.length = D.length + 2 ∧ TL w5.heap.size w8 (.slice qa D.length ka) D) := ⟨chain X7.out h1 (Nat.le_refl _), h2, h4, hel, TA.out.kept h1⟩; clear h1 h2 h4 hel)
      | (go_at_call 8; (with_reducible refine (HL.out _ X5.out.1).mono ?_); rintro e w6 ⟨h1, v6, D, rfl, h2, h4⟩; obtain ⟨qa, ka, rfl⟩ := ownsRow_shape h2.own; have X6 : Hid (Below w.heap.size w w6 ∧ Below w5.heap.size w5 w6 ∧ TL w5.heap.size w6 (.slice qa D.length ka) D ∧ D.map Prod.fst = T) := ⟨chain X5.out.1 h1 (Nat.le_refl _), h1, h2, h4⟩; clear h1 h2 h4)
      | (go_at_call 9; (with_reducible refine (told_nil _).mono ?_); rintro e w9 ⟨rfl, h1⟩; have X9 : Hid (Below w.heap.size w w9 ∧ TL w7.heap.size w9 (.slice (some ⟨gb, 0, none⟩) (D.length + 2) kb) E ∧ TL w5.heap.size w9 (.slice qa D.length ka) D) := ⟨chain X8.out.1 h1 (Nat.le_refl _), X8.out.2.1.kept h1, X8.out.2.2.2.2.kept h1⟩; obtain ⟨gb2, kb2, hgb, -, f0, f1⟩ := ends_of X9.out.2.1 X8.out.2.2.1; rw [len_of X6.out.2.2.2] at hgb f1; cases hgb; have hDl : D.length ≤ 1900 := (by rw [← len_of X6.out.2.2.2]; exact hTs); have n2 : IntKind.wrap .i64 ((D.length : Int) + 2) = (D.length : Int) + 2 := wrap_small _ (by omega) (by omega); have n3 : (((D.length + 2 : Nat) : Int) == (D.length : Int) + 2) = true := (by simp); have n4 : IntKind.wrap .i64 (((D.length + 2 : Nat) : Int) - 1) = ((D.length + 1 : Nat) : Int) := (by rw [wrap_small _ (by omega) (by omega)]; omega); have n5 : (0 : Int) ≤ ((D.length + 1 : Nat) : Int) := (by omega); have n6 : ((D.length + 1 : Nat) : Int) < ((D.length + 2 : Nat) : Int) := (by omega); have n7 : (0 : Int) < ((D.length + 2 : Nat) : Int) := (by omega); clear h1)
      | (go_at_call 9; (with_reducible refine (told_nil _).mono ?_); rintro e w7 ⟨rfl, h1⟩; have X7 : Hid (Below w.heap.size w w7) := chain X6.out.1 h1 (Nat.le_refl _); have d0 := ((chain X6.out.2.1 h1 (Nat.le_refl _)).cell (p := ⟨w.heap.size, 0, none⟩) X5.out.2).trans c0; have d1 := ((chain X6.out.2.1 h1 (Nat.le_refl _)).cell (p := ⟨w.heap.size, 1, none⟩) X5.out.2).trans c1; have TA : Hid (TL w5.heap.size w7 (.slice qa D.length ka) D) := X6.out.2.2.1.kept h1; clear h1)
    go_loopw [16] (fun i wr => ∃ k : Nat, k ≤ D.length ∧ i = .int .i64 (k : Int) ∧ Below w9.heap.size w9 wr) (fun i _ => D.length - (intOf i).toNat)
    case atStart => exact ⟨0, Nat.zero_le _, rfl, Below.refl _ _⟩
    case round =>
      obtain ⟨k, hk, rfl, hbw⟩ := hrel
      have BW : Hid (Below w.heap.size w wr ∧ Below w9.heap.size w9 wr) := ⟨chain X9.out.1 hbw (Nat.le_refl _), hbw⟩
      have TB : Hid (TL w7.heap.size wr (.slice (some ⟨gb, 0, none⟩) E.length kb) E) := (by rw [X8.out.2.2.2.1]; exact X9.out.2.1.kept hbw : TL w7.heap.size wr (.slice (some ⟨gb, 0, none⟩) E.length kb) E)
      have TC : Hid (TL w5.heap.size wr (.slice qa D.length ka) D) := X9.out.2.2.kept hbw
      clear hbw f0 f1 n2 n3 n4 n5 n6 n7
      rcases Nat.lt_or_ge k D.length with hlt | hge
      · obtain ⟨ga, kd, at_, en, n, mn, mx, q1, k1, q2, k2, l, rfl, S, b1, b2⟩ := seen_of TC.out TB.out X6.out.2.2.2 X8.out.2.2.1 ST.out hlt
        have lga := (ownsRow_at TC.out.own rfl).2.1
        have lgb := (ownsRow_at TB.out.own rfl).2.1
        obtain ⟨a0, a1, a2, a3, a4, a5, a6, b0, b1', b2', b3, b4, b5, b6⟩ := S
        have j0 : (0 : Int) ≤ (k : Int) := by omega
        have j1 : (k : Int) < (D.length : Int) := by omega
        have j2 : (0 : Int) ≤ (k : Int) + 1 := by omega
        have j3 : (k : Int) + 1 < ((D.length + 2 : Nat) : Int) := by omega
        have j4 : ((k : Int) + 1).toNat = k + 1 := by omega
        have hw1 : IntKind.wrap .i64 ((k : Int) + 1) = (k : Int) + 1 := wrap_small _ (by omega) (by omega)
        have hw2 : IntKind.wrap .i64 ((at_ : Int) + 2) = (at_ : Int) + 2 := wrap_small _ (by omega) (by omega)
        have hw3 : IntKind.wrap .i64 ((en : Int) + 2) = (en : Int) + 2 := wrap_small _ (by omega) (by omega)
        go_wp2
        go_roundw
        case rel => exact ⟨k + 1, by omega, by go_num, (BW.out.2.alloc BW.out.2.size _).alloc (by have := BW.out.2.size; simp; omega) _⟩
        case measure => simp only [intOf]; omega
      · have j1 : ¬ (k : Int) < (D.length : Int) := by omega
        clear hge hk
        go_wp2
        go_ret
        exact ⟨rfl, BW.out.1⟩
end Go.Proofs.YtloeajhmmjdlgaaDoor
