/-
  The chapter's examples: they are so.
-/
import Derived.Test.YtlodjinejeajcaaC15
import Derived.Test.YtlodjinejeajcaaC16
namespace Go.Proofs.Ytlodjinejeajcaa
open Go Go.RowKit

theorem two_arg {W : World} {t1 t2 : Tr} : ArgK (W.alloc (.cells #[.int .i64 t1.f.k, .int .i64 t1.f.n, .int .i64 t1.f.mn, .int .i64 t1.f.mx, .slice t1.f.rq t1.f.rs.length t1.f.rc, .slice t1.f.kq t1.f.kl t1.f.kc, .int .i64 t2.f.k, .int .i64 t2.f.n, .int .i64 t2.f.mn, .int .i64 t2.f.mx, .slice t2.f.rq t2.f.rs.length t2.f.rc, .slice t2.f.kq t2.f.kl t2.f.kc] 25)) (.slice (some ⟨W.heap.size, 0, none⟩) [t1, t2].length 2) [t1, t2] := by
  have N := alloc_new W (.cells #[.int .i64 t1.f.k, .int .i64 t1.f.n, .int .i64 t1.f.mn, .int .i64 t1.f.mx, .slice t1.f.rq t1.f.rs.length t1.f.rc, .slice t1.f.kq t1.f.kl t1.f.kc, .int .i64 t2.f.k, .int .i64 t2.f.n, .int .i64 t2.f.mn, .int .i64 t2.f.mx, .slice t2.f.rq t2.f.rs.length t2.f.rc, .slice t2.f.kq t2.f.kl t2.f.kc] 25)
  refine .inr ⟨W.heap.size, 0, 2, rfl, lt_of_heap N, Nat.le_refl _, by unfold maxLen; decide, fun i t hi => ?_⟩
  match i, hi with
  | 0, hi =>
    simp at hi
    subst hi
    exact ⟨cell_row N (i := 0) rfl, cell_row N (i := 1) rfl, cell_row N (i := 2) rfl, cell_row N (i := 3) rfl, cell_row N (i := 4) rfl, cell_row N (i := 5) rfl⟩
  | 1, hi =>
    simp at hi
    subst hi
    exact ⟨cell_row N (i := 6) rfl, cell_row N (i := 7) rfl, cell_row N (i := 8) rfl, cell_row N (i := 9) rfl, cell_row N (i := 10) rfl, cell_row N (i := 11) rfl⟩
theorem cat2 {W : World} {t1 t2 : Tr} {X : Er} (h1 : TA W t1) (h2 : TA W t2) (hs : t1.sz + t2.sz < 1000000) (hX : joinE 5 ((catT t1 ++ catT t2).map er) (.mk 1 0 0 0 [] []) = X) :
    Calls Try.prog 16 #[.slice (some ⟨W.heap.size, 0, none⟩) 2 2] (W.alloc (.cells #[.int .i64 t1.f.k, .int .i64 t1.f.n, .int .i64 t1.f.mn, .int .i64 t1.f.mx, .slice t1.f.rq t1.f.rs.length t1.f.rc, .slice t1.f.kq t1.f.kl t1.f.kc, .int .i64 t2.f.k, .int .i64 t2.f.n, .int .i64 t2.f.mn, .int .i64 t2.f.mx, .slice t2.f.rq t2.f.rs.length t2.f.rc, .slice t2.f.kq t2.f.kl t2.f.kc] 25)) fun e w' => ∃ t', e = .returned (.agg #[.int .i64 t'.f.k, .int .i64 t'.f.n, .int .i64 t'.f.mn, .int .i64 t'.f.mx, .slice t'.f.rq t'.f.rs.length t'.f.rc, .slice t'.f.kq t'.f.kl t'.f.kc]) ∧ TA w' t' ∧ er t' = X ∧ Below W.heap.size W w' := by
  have B : Below W.heap.size W (W.alloc (.cells #[.int .i64 t1.f.k, .int .i64 t1.f.n, .int .i64 t1.f.mn, .int .i64 t1.f.mx, .slice t1.f.rq t1.f.rs.length t1.f.rc, .slice t1.f.kq t1.f.kl t1.f.kc, .int .i64 t2.f.k, .int .i64 t2.f.n, .int .i64 t2.f.mn, .int .i64 t2.f.mx, .slice t2.f.rq t2.f.rs.length t2.f.rc, .slice t2.f.kq t2.f.kl t2.f.kc] 25)) := (Below.refl _ _).alloc (Nat.le_refl _) _
  refine (cat_c (two_arg (W := W) (t1 := t1) (t2 := t2)) (fun u hu => ?_) (by rw [szs_cons, szs_cons, szs_nil]; omega)).mono fun e w' ⟨t', a1, a2, a3, a4, a5⟩ => ⟨t', a1, a2, ?_, chain B a5 (Nat.le_refl _)⟩
  · simp at hu
    rcases hu with rfl | rfl
    · exact h1.kept B
    · exact h2.kept B
  · rw [a4, ← hX]
    simp
def gT (b : Nat) : Tr := .mk ⟨7, 1, 0, 0, [], none, 0, some ⟨b, 0, none⟩, 1, 1⟩ [.mk (bare 1) []]
def bT : Tr := .mk ⟨8, 1, 0, 0, [], none, 0, none, 0, 0⟩ []
theorem gT_er (b : Nat) : er (gT b) = gE := by rw [er_eq]; simp [gT, Tr.f, Tr.ks, gE, er_eq, bare]
theorem bT_er : er bT = bE := by rw [er_eq]; simp [bT, Tr.f, Tr.ks, bE]
theorem gT_sz (b : Nat) : (gT b).sz = 2 := by simp [sz_eq, gT, Tr.ks, szs_cons, szs_nil]
theorem bT_sz : bT.sz = 1 := by simp [sz_eq, bT, Tr.ks, szs_nil]
theorem bT_ta (W : World) : TA W bT := (every_eq _).2 ⟨⟨.inl ⟨none, 0, rfl, rfl, fun _ => rfl⟩, .inl ⟨none, 0, rfl, rfl, fun _ => rfl⟩, fit_nil, by simp [Tr.f, bT]⟩, (everyL_iff _).2 fun u hu => by cases hu⟩
theorem gT_ta {W : World} {b : Nat} (h : BoxN W b (bare 1)) : TA W (gT b) := by
  refine (every_eq _).2 ⟨⟨.inl ⟨none, 0, rfl, rfl, fun _ => rfl⟩, .inr ⟨b, 0, 1, rfl, lt_of_heap h, Nat.le_refl _, by unfold maxLen; decide, fun i t hi => ?_⟩, fit_nil, by simp [Tr.f, gT]⟩, (everyL_iff _).2 fun u hu => ?_⟩
  · match i, hi with
    | 0, hi =>
      simp [gT, Tr.ks] at hi
      subst hi
      exact h.six
  · simp [gT, Tr.ks] at hu
    subst hu
    exact bare_ta W 1
/-- The boxes of the examples. -/
structure EX (w : World) (b0 b1 b2 b3 : Nat) (t3 : Tr) (W : World) : Prop where
  g : BoxN W b1 (gT b0).f
  b : BoxN W b2 bT.f
  n : BoxN W b3 t3.f
  tg : TA W (gT b0)
  tn : TA W t3
  bel : Below w.heap.size w W
theorem EX.kept {w W W' : World} {b0 b1 b2 b3 : Nat} {t3 : Tr} (h : EX w b0 b1 b2 b3 t3 W) (hb : Below W.heap.size W W') : EX w b0 b1 b2 b3 t3 W' :=
  ⟨(hb.block _ (lt_of_heap h.g)).trans h.g, (hb.block _ (lt_of_heap h.b)).trans h.b, (hb.block _ (lt_of_heap h.n)).trans h.n, h.tg.kept hb, h.tn.kept hb, chain h.bel hb (Nat.le_refl _)⟩

set_option maxRecDepth 100000 in
set_option maxHeartbeats 16000000 in
theorem examples8_c (w : World) : Calls Try.prog 9 #[] w fun e w' => e = .returned (.bool true) ∧ Below w.heap.size w w' := by
  go_enter Try.func9, Try.ntmps9
  go_upto_region 3 with fail
  have E0 : BoxN (((w.alloc (.cells #[.int .i64 1, .int .i64 0, .int .i64 0, .int .i64 0, .slice none 0 0, .slice none 0 0] 25)).alloc (.cells #[.int .i64 7, .int .i64 1, .int .i64 0, .int .i64 0, .slice none 0 0, .slice (some ⟨w.heap.size, 0, none⟩) 1 1] 25)).alloc (.cells #[.int .i64 8, .int .i64 1, .int .i64 0, .int .i64 0, .slice none 0 0, .slice none 0 0] 25)) w.heap.size (bare 1) := (Below.heap_alloc _ _ _ (by simp; omega)).trans ((Below.heap_alloc _ _ _ (by simp)).trans (alloc_new w _))
  have E1 : BoxN (((w.alloc (.cells #[.int .i64 1, .int .i64 0, .int .i64 0, .int .i64 0, .slice none 0 0, .slice none 0 0] 25)).alloc (.cells #[.int .i64 7, .int .i64 1, .int .i64 0, .int .i64 0, .slice none 0 0, .slice (some ⟨w.heap.size, 0, none⟩) 1 1] 25)).alloc (.cells #[.int .i64 8, .int .i64 1, .int .i64 0, .int .i64 0, .slice none 0 0, .slice none 0 0] 25)) (w.heap.size + 1) (gT w.heap.size).f := (Below.heap_alloc _ _ _ (by simp)).trans (by have := alloc_new (w.alloc (.cells #[.int .i64 1, .int .i64 0, .int .i64 0, .int .i64 0, .slice none 0 0, .slice none 0 0] 25)) (.cells #[.int .i64 7, .int .i64 1, .int .i64 0, .int .i64 0, .slice none 0 0, .slice (some ⟨w.heap.size, 0, none⟩) 1 1] 25); rwa [World.size_alloc] at this)
  have E2 : BoxN (((w.alloc (.cells #[.int .i64 1, .int .i64 0, .int .i64 0, .int .i64 0, .slice none 0 0, .slice none 0 0] 25)).alloc (.cells #[.int .i64 7, .int .i64 1, .int .i64 0, .int .i64 0, .slice none 0 0, .slice (some ⟨w.heap.size, 0, none⟩) 1 1] 25)).alloc (.cells #[.int .i64 8, .int .i64 1, .int .i64 0, .int .i64 0, .slice none 0 0, .slice none 0 0] 25)) (w.heap.size + 1 + 1) bT.f := (by have := alloc_new ((w.alloc (.cells #[.int .i64 1, .int .i64 0, .int .i64 0, .int .i64 0, .slice none 0 0, .slice none 0 0] 25)).alloc (.cells #[.int .i64 7, .int .i64 1, .int .i64 0, .int .i64 0, .slice none 0 0, .slice (some ⟨w.heap.size, 0, none⟩) 1 1] 25)) (.cells #[.int .i64 8, .int .i64 1, .int .i64 0, .int .i64 0, .slice none 0 0, .slice none 0 0] 25); rwa [World.size_alloc, World.size_alloc] at this)
  have EB : Below w.heap.size w (((w.alloc (.cells #[.int .i64 1, .int .i64 0, .int .i64 0, .int .i64 0, .slice none 0 0, .slice none 0 0] 25)).alloc (.cells #[.int .i64 7, .int .i64 1, .int .i64 0, .int .i64 0, .slice none 0 0, .slice (some ⟨w.heap.size, 0, none⟩) 1 1] 25)).alloc (.cells #[.int .i64 8, .int .i64 1, .int .i64 0, .int .i64 0, .slice none 0 0, .slice none 0 0] 25)) := (((Below.refl _ _).alloc (Nat.le_refl _) _).alloc (by simp) _).alloc (by simp; omega) _
  generalize (((w.alloc (.cells #[.int .i64 1, .int .i64 0, .int .i64 0, .int .i64 0, .slice none 0 0, .slice none 0 0] 25)).alloc (.cells #[.int .i64 7, .int .i64 1, .int .i64 0, .int .i64 0, .slice none 0 0, .slice (some ⟨w.heap.size, 0, none⟩) 1 1] 25)).alloc (.cells #[.int .i64 8, .int .i64 1, .int .i64 0, .int .i64 0, .slice none 0 0, .slice none 0 0] 25)) = W2 at E0 E1 E2 EB ⊢
  generalize w.heap.size + 1 + 1 = b2 at E2 ⊢
  generalize w.heap.size + 1 = b1 at E1 ⊢
  have TG := gT_ta E0
  have C1 : Hid (Calls Try.prog 16 #[.slice (some ⟨W2.heap.size, 0, none⟩) 2 2] (W2.alloc (.cells #[.int .i64 7, .int .i64 1, .int .i64 0, .int .i64 0, .slice none 0 0, .slice (some ⟨w.heap.size, 0, none⟩) 1 1, .int .i64 8, .int .i64 1, .int .i64 0, .int .i64 0, .slice none 0 0, .slice none 0 0] 25)) fun e w' => ∃ t', e = .returned (.agg #[.int .i64 t'.f.k, .int .i64 t'.f.n, .int .i64 t'.f.mn, .int .i64 t'.f.mx, .slice t'.f.rq t'.f.rs.length t'.f.rc, .slice t'.f.kq t'.f.kl t'.f.kc]) ∧ TA w' t' ∧ er t' = .mk 5 0 0 0 [] [gE, bE] ∧ Below W2.heap.size W2 w') := cat2 (t1 := gT w.heap.size) (t2 := bT) TG (bT_ta W2) (by rw [gT_sz, bT_sz]; omega) (by simp [catT, gT, bT, Tr.f, joinE, ← gT_er w.heap.size, ← bT_er])
  obtain ⟨b0, hb0⟩ : ∃ b0, w.heap.size = b0 := ⟨_, rfl⟩
  rw [hb0] at E0 E1 TG C1 ⊢
  obtain ⟨g0, g1, g2, g3, g4, g5⟩ := E1.six
  obtain ⟨h0, h1, h2, h3, h4, h5⟩ := E2.six
  simp only [Nat.zero_add, gT, bT, Tr.f, List.length_nil] at g0 g1 g2 g3 g4 g5 h0 h1 h2 h3 h4 h5
  go_upto_region 4 with (go_at_call 16; (with_reducible refine (C1.out).mono ?_); rintro e w3 ⟨t3, rfl, a1, a2, a3⟩; have X3 := hide (⟨a1, a2, a3⟩ : TA w3 t3 ∧ er t3 = .mk 5 0 0 0 [] [gE, bE] ∧ Below W2.heap.size W2 w3); clear a1 a2 a3)
  have K3 : Below w3.heap.size w3 (w3.alloc (.cells #[.int .i64 t3.f.k, .int .i64 t3.f.n, .int .i64 t3.f.mn, .int .i64 t3.f.mx, .slice t3.f.rq t3.f.rs.length t3.f.rc, .slice t3.f.kq t3.f.kl t3.f.kc] 25)) := (Below.refl _ _).alloc (Nat.le_refl _) _
  have KK := chain X3.out.2.2 K3 (Nat.le_refl _)
  have E3 : Hid (EX w b0 b1 b2 w3.heap.size t3 (w3.alloc (.cells #[.int .i64 t3.f.k, .int .i64 t3.f.n, .int .i64 t3.f.mn, .int .i64 t3.f.mx, .slice t3.f.rq t3.f.rs.length t3.f.rc, .slice t3.f.kq t3.f.kl t3.f.kc] 25))) := ⟨(KK.block _ (lt_of_heap E1)).trans E1, (KK.block _ (lt_of_heap E2)).trans E2, alloc_new w3 _, TG.kept KK, X3.out.1.kept K3, by have := chain EB KK (Nat.le_refl _); exact this⟩
  have R3 := hide (ex_gb X3.out.2.1)
  generalize (w3.alloc (.cells #[.int .i64 t3.f.k, .int .i64 t3.f.n, .int .i64 t3.f.mn, .int .i64 t3.f.mx, .slice t3.f.rq t3.f.rs.length t3.f.rc, .slice t3.f.kq t3.f.kl t3.f.kc] 25)) = W3 at E3 ⊢
  generalize w3.heap.size = b3 at E3 ⊢
  clear K3 KK E0 E1 E2 EB TG C1 g0 g1 g2 g3 g4 g5 h0 h1 h2 h3 h4 h5 X3
  have RB : Hid (∀ (W : World) (t : Tr), er t = sE → Calls Try.prog 27 #[.agg #[.int .i64 t.f.k, .int .i64 t.f.n, .int .i64 t.f.mn, .int .i64 t.f.mx, .slice t.f.rq t.f.rs.length t.f.rc, .slice t.f.kq t.f.kl t.f.kc], .int .i64 2, .int .i64 1] W fun e w' => e = .returned (.tuple #[.agg #[.int .i64 0, .int .i64 0, .int .i64 0, .int .i64 0, .slice none 0 0, .slice none 0 0], .int .i64 1]) ∧ Below W.heap.size W w') := fun W t ht => (rep_bad t.f 2 1 (.inr (by decide))).mono fun e w' ⟨h1, h2⟩ => ⟨by rw [h1, (er_open ht).1]; rfl, h2⟩
  have RE : Hid (∀ W : World, Calls Try.prog 27 #[.agg #[.int .i64 1, .int .i64 0, .int .i64 0, .int .i64 0, .slice none 0 0, .slice none 0 0], .int .i64 0, .int .i64 1] W fun e w' => e = .returned (.tuple #[.agg #[.int .i64 0, .int .i64 0, .int .i64 0, .int .i64 0, .slice none 0 0, .slice none 0 0], .int .i64 50]) ∧ Below W.heap.size W w') := fun W => (rep_bad (bare 1) 0 1 (.inl (by decide))).mono fun e w' ⟨h1, h2⟩ => ⟨by rw [h1]; rfl, h2⟩
  have AN : Hid (∀ W : World, Calls Try.prog 17 #[.slice none 0 0] W fun e w' => ∃ t' : Tr, e = .returned (.agg #[.int .i64 t'.f.k, .int .i64 t'.f.n, .int .i64 t'.f.mn, .int .i64 t'.f.mx, .slice t'.f.rq t'.f.rs.length t'.f.rc, .slice t'.f.kq t'.f.kl t'.f.kc]) ∧ t'.f.k = 2 ∧ Below W.heap.size W w') := fun W => (alt_c (q := none) (c := 0) (l := []) (.inl ⟨none, 0, rfl, rfl, fun _ => rfl⟩) (fun u hu => by cases hu) (by rw [szs_nil]; omega)).mono fun e w' ⟨t', a1, a2, a3, a4, a5⟩ => ⟨t', a1, (er_open a4).1, a5⟩
  go_upto_region 5 with first | (go_at_call 28; (with_reducible refine (set_c8 97 (by omega)).mono ?_); rintro e w4 ⟨t4, rfl, a1, a2, a3, a4⟩; have E4 := hide (E3.out.kept a4); have S4 : Hid (er t4 = sE) := a3; clear a1 a2 a3 a4) | (go_at_call 27; (with_reducible refine (RB.out _ t4 S4.out).mono ?_); rintro e w5 ⟨rfl, a4⟩; have E5 := hide ((E4.out.kept a4).kept ((Below.refl _ _).alloc (Nat.le_refl _) (.cells #[.int .i64 0, .int .i64 0, .int .i64 0, .int .i64 0, .slice none 0 0, .slice none 0 0] 25))); clear a4)
  generalize (w5.alloc (.cells #[.int .i64 0, .int .i64 0, .int .i64 0, .int .i64 0, .slice none 0 0, .slice none 0 0] 25)) = W5 at E5 ⊢
  clear E4 E3 S4
  go_upto_region 6 with (go_at_call 27; (with_reducible refine (RE.out _).mono ?_); rintro e w6 ⟨rfl, a4⟩; have E6 := hide ((E5.out.kept a4).kept ((Below.refl _ _).alloc (Nat.le_refl _) (.cells #[.int .i64 0, .int .i64 0, .int .i64 0, .int .i64 0, .slice none 0 0, .slice none 0 0] 25))); clear a4)
  generalize (w6.alloc (.cells #[.int .i64 0, .int .i64 0, .int .i64 0, .int .i64 0, .slice none 0 0, .slice none 0 0] 25)) = W6 at E6 ⊢
  clear E5 RB RE
  go_upto_region 7 with (go_at_call 17; (with_reducible refine (AN.out _).mono ?_); rintro e w7 ⟨t7, rfl, a3, a4⟩; have E7 := hide ((E6.out.kept a4).kept ((Below.refl _ _).alloc (Nat.le_refl _) (.cells #[.int .i64 t7.f.k, .int .i64 t7.f.n, .int .i64 t7.f.mn, .int .i64 t7.f.mx, .slice t7.f.rq t7.f.rs.length t7.f.rc, .slice t7.f.kq t7.f.kl t7.f.kc] 25))); have N7 := hide (show BoxN (w7.alloc (.cells #[.int .i64 t7.f.k, .int .i64 t7.f.n, .int .i64 t7.f.mn, .int .i64 t7.f.mx, .slice t7.f.rq t7.f.rs.length t7.f.rc, .slice t7.f.kq t7.f.kl t7.f.kc] 25)) w7.heap.size t7.f from alloc_new w7 _); have K7 := hide a3; clear a3 a4)
  generalize (w7.alloc (.cells #[.int .i64 t7.f.k, .int .i64 t7.f.n, .int .i64 t7.f.mn, .int .i64 t7.f.mx, .slice t7.f.rq t7.f.rs.length t7.f.rc, .slice t7.f.kq t7.f.kl t7.f.kc] 25)) = W7 at E7 N7 ⊢
  generalize w7.heap.size = b8 at N7 ⊢
  clear E6 AN
  have RT : Hid (∀ W : World, TA W t3 → Calls Try.prog 10 #[.agg #[.int .i64 t3.f.k, .int .i64 t3.f.n, .int .i64 t3.f.mn, .int .i64 t3.f.mx, .slice t3.f.rq t3.f.rs.length t3.f.rc, .slice t3.f.kq t3.f.kl t3.f.kc], .agg #[.bool false, .bool false]] W fun e w' => e = .returned (.int .i64 0) ∧ Below W.heap.size W w') := fun W hW => (right8_c false false hW).mono fun e w' ⟨h1, h2⟩ => ⟨by rw [h1, R3.out.1], h2⟩
  have RX : Hid (∀ (W : World) (t : Tr), TA W t → er t = .mk 5 0 0 0 [] [bE, gE] → Calls Try.prog 10 #[.agg #[.int .i64 t.f.k, .int .i64 t.f.n, .int .i64 t.f.mn, .int .i64 t.f.mx, .slice t.f.rq t.f.rs.length t.f.rc, .slice t.f.kq t.f.kl t.f.kc], .agg #[.bool false, .bool false]] W fun e w' => e = .returned (.int .i64 41) ∧ Below W.heap.size W w') := fun W t hW ht => (right8_c false false hW).mono fun e w' ⟨h1, h2⟩ => ⟨by rw [h1, ex_bg ht], h2⟩
  have RS : Hid (∀ (W : World) (t : Tr), TA W t → er t = sE → Calls Try.prog 10 #[.agg #[.int .i64 t.f.k, .int .i64 t.f.n, .int .i64 t.f.mn, .int .i64 t.f.mx, .slice t.f.rq t.f.rs.length t.f.rc, .slice t.f.kq t.f.kl t.f.kc], .agg #[.bool false, .bool true]] W fun e w' => e = .returned (.int .i64 50) ∧ Below W.heap.size W w') := fun W t hW ht => (right8_c false true hW).mono fun e w' ⟨h1, h2⟩ => ⟨by rw [h1, ex_set ht], h2⟩
  have C2 : Hid (∀ W : World, TA W (gT b0) → Calls Try.prog 16 #[.slice (some ⟨W.heap.size, 0, none⟩) 2 2] (W.alloc (.cells #[.int .i64 8, .int .i64 1, .int .i64 0, .int .i64 0, .slice none 0 0, .slice none 0 0, .int .i64 7, .int .i64 1, .int .i64 0, .int .i64 0, .slice none 0 0, .slice (some ⟨b0, 0, none⟩) 1 1] 25)) fun e w' => ∃ t', e = .returned (.agg #[.int .i64 t'.f.k, .int .i64 t'.f.n, .int .i64 t'.f.mn, .int .i64 t'.f.mx, .slice t'.f.rq t'.f.rs.length t'.f.rc, .slice t'.f.kq t'.f.kl t'.f.kc]) ∧ TA w' t' ∧ er t' = .mk 5 0 0 0 [] [bE, gE] ∧ Below W.heap.size W w') := fun W hW => cat2 (t1 := bT) (t2 := gT b0) (bT_ta W) hW (by rw [gT_sz, bT_sz]; omega) (by simp [catT, gT, bT, Tr.f, joinE, ← gT_er b0, ← bT_er])
  obtain ⟨an0, an1, an2, an3, an4, an5⟩ := E7.out.n.six
  simp only [Nat.zero_add] at an1 an2 an3 an4 an5
  go_upto_region 9 with first | (go_at_call 10; (with_reducible refine (RX.out _ tx XX.out.1 XX.out.2.1).mono ?_); rintro e wr2 ⟨rfl, a4⟩; have E10 := hide (E9.out.kept a4); have N10 : BoxN wr2 b8 t7.f := (a4.block _ (lt_of_heap N9.out)).trans N9.out; have z8 := N10.six.1; rw [K7.out] at z8; clear a4 N10) | (go_at_call 16; (with_reducible refine (C2.out _ E8.out.tg).mono ?_); rintro e wc ⟨tx, rfl, a1, a2, a3⟩; have XX := hide (⟨a1, a2, trivial⟩ : TA wc tx ∧ er tx = .mk 5 0 0 0 [] [bE, gE] ∧ True); have E9 := hide (E8.out.kept a3); have N9 := hide (show BoxN wc b8 t7.f from (a3.block _ (lt_of_heap N8.out)).trans N8.out); clear a1 a2 a3) | (go_at_call 10; (with_reducible refine (RT.out _ E7.out.tn).mono ?_); rintro e wr1 ⟨rfl, a4⟩; have E8 := hide (E7.out.kept a4); have N8 := hide (show BoxN wr1 b8 t7.f from (a4.block _ (lt_of_heap N7.out)).trans N7.out); obtain ⟨eg0, eg1, eg2, eg3, eg4, eg5⟩ := E8.out.g.six; simp only [Nat.zero_add, gT, Tr.f, List.length_nil] at eg0 eg1 eg2 eg3 eg4 eg5; obtain ⟨eb0, eb1, eb2, eb3, eb4, eb5⟩ := E8.out.b.six; simp only [Nat.zero_add, bT, Tr.f, List.length_nil] at eb0 eb1 eb2 eb3 eb4 eb5; clear a4)
  clear RT RX C2 N7 N8 N9 E7 E8 E9 XX
  obtain ⟨cn0, cn1, cn2, cn3, cn4, cn5⟩ := E10.out.n.six
  simp only [Nat.zero_add] at cn1 cn2 cn3 cn4 cn5
  have e4 : cntT t3 = 4 := by unfold cntT; rw [R3.out.2.1]; rfl
  have e5 : ¬ 2000 < (pp [] t3).length := by rw [R3.out.2.1]; omega
  have CC : Hid (∀ W : World, TA W t3 → Calls Try.prog 12 #[.agg #[.int .i64 t3.f.k, .int .i64 t3.f.n, .int .i64 t3.f.mn, .int .i64 t3.f.mx, .slice t3.f.rq t3.f.rs.length t3.f.rc, .slice t3.f.kq t3.f.kl t3.f.kc]] W fun e w' => e = .returned (.int .i64 4) ∧ Below W.heap.size W w') := fun W hW => (cnt_c hW).mono fun e w' ⟨h1, h2⟩ => ⟨by rw [h1, e4]; rfl, h2⟩
  have CD : Hid (∀ W : World, TA W t3 → Calls Try.prog 13 #[.agg #[.int .i64 t3.f.k, .int .i64 t3.f.n, .int .i64 t3.f.mn, .int .i64 t3.f.mx, .slice t3.f.rq t3.f.rs.length t3.f.rc, .slice t3.f.kq t3.f.kl t3.f.kc]] W fun e w' => e = .returned (.int .i64 3) ∧ Below W.heap.size W w') := fun W hW => (depth_c hW).mono fun e w' ⟨h1, h2⟩ => ⟨by rw [h1, if_neg e5, R3.out.2.2.1]; rfl, h2⟩
  have CG : Hid (∀ W : World, TA W t3 → Calls Try.prog 14 #[.agg #[.int .i64 t3.f.k, .int .i64 t3.f.n, .int .i64 t3.f.mn, .int .i64 t3.f.mx, .slice t3.f.rq t3.f.rs.length t3.f.rc, .slice t3.f.kq t3.f.kl t3.f.kc]] W fun e w' => e = .returned (.int .i64 1) ∧ Below W.heap.size W w') := fun W hW => (groups_c hW).mono fun e w' ⟨h1, h2⟩ => ⟨by rw [h1, if_neg e5, R3.out.2.2.2]; rfl, h2⟩
  have S1 : Hid (∀ W : World, TA W t3 → Calls Try.prog 18 #[.agg #[.int .i64 t3.f.k, .int .i64 t3.f.n, .int .i64 t3.f.mn, .int .i64 t3.f.mx, .slice t3.f.rq t3.f.rs.length t3.f.rc, .slice t3.f.kq t3.f.kl t3.f.kc], .agg #[.int .i64 t3.f.k, .int .i64 t3.f.n, .int .i64 t3.f.mn, .int .i64 t3.f.mx, .slice t3.f.rq t3.f.rs.length t3.f.rc, .slice t3.f.kq t3.f.kl t3.f.kc]] W fun e w' => e = .returned (.bool true) ∧ Below W.heap.size W w') := fun W hW => (same8_c hW hW).mono fun e w' ⟨h1, h2⟩ => ⟨by rw [h1, decide_eq_false e5, sameB_refl]; rfl, h2⟩
  have S2 : Hid (∀ W : World, TA W (gT b0) → Calls Try.prog 18 #[.agg #[.int .i64 7, .int .i64 1, .int .i64 0, .int .i64 0, .slice none 0 0, .slice (some ⟨b0, 0, none⟩) 1 1], .agg #[.int .i64 8, .int .i64 1, .int .i64 0, .int .i64 0, .slice none 0 0, .slice none 0 0]] W fun e w' => e = .returned (.bool false) ∧ Below W.heap.size W w') := fun W hW => (same8_c hW (bT_ta W)).mono fun e w' ⟨h1, h2⟩ => ⟨by
    rw [h1]
    have : sameB (er (gT b0)) (er bT) = false := by
      cases hz : sameB (er (gT b0)) (er bT) with
      | false => rfl
      | true =>
        have := (sameB_iff _ _).1 hz
        rw [gT_er, bT_er] at this
        injection this with h1
        exact absurd h1 (by decide)
    rw [this, Bool.and_false], h2⟩
  clear e4 e5
  go_wp2_with first | (go_at_call 10; (with_reducible refine (RS.out _ ts XS.out.1 XS.out.2).mono ?_); rintro e v7 ⟨rfl, a4⟩; have E17 := hide (E16.out.kept a4); clear a4) | (go_at_call 28; (with_reducible refine (set_c8 97 (by omega)).mono ?_); rintro e v6 ⟨ts, rfl, a1, a2, a3, a4⟩; have XS := hide (⟨a1, a3⟩ : TA v6 ts ∧ er ts = sE); have E16 := hide (E15.out.kept a4); clear a1 a2 a3 a4) | (go_at_call 18; (with_reducible refine (S2.out _ E14.out.tg).mono ?_); rintro e v5 ⟨rfl, a4⟩; have E15 := hide (E14.out.kept a4); clear a4) | (go_at_call 18; (with_reducible refine (S1.out _ E13.out.tn).mono ?_); rintro e v4 ⟨rfl, a4⟩; have E14 := hide (E13.out.kept a4); obtain ⟨dg0, dg1, dg2, dg3, dg4, dg5⟩ := E14.out.g.six; simp only [Nat.zero_add, gT, Tr.f, List.length_nil] at dg0 dg1 dg2 dg3 dg4 dg5; obtain ⟨db0, db1, db2, db3, db4, db5⟩ := E14.out.b.six; simp only [Nat.zero_add, bT, Tr.f, List.length_nil] at db0 db1 db2 db3 db4 db5; clear a4) | (go_at_call 14; (with_reducible refine (CG.out _ E12.out.tn).mono ?_); rintro e v3 ⟨rfl, a4⟩; have E13 := hide (E12.out.kept a4); obtain ⟨fn0, fn1, fn2, fn3, fn4, fn5⟩ := E13.out.n.six; simp only [Nat.zero_add] at fn1 fn2 fn3 fn4 fn5; clear a4) | (go_at_call 13; (with_reducible refine (CD.out _ E11.out.tn).mono ?_); rintro e v2 ⟨rfl, a4⟩; have E12 := hide (E11.out.kept a4); obtain ⟨hn0, hn1, hn2, hn3, hn4, hn5⟩ := E12.out.n.six; simp only [Nat.zero_add] at hn1 hn2 hn3 hn4 hn5; clear a4) | (go_at_call 12; (with_reducible refine (CC.out _ E10.out.tn).mono ?_); rintro e v1 ⟨rfl, a4⟩; have E11 := hide (E10.out.kept a4); obtain ⟨kn0, kn1, kn2, kn3, kn4, kn5⟩ := E11.out.n.six; simp only [Nat.zero_add] at kn1 kn2 kn3 kn4 kn5; clear a4)
  go_ret
  exact ⟨rfl, E17.out.bel⟩
end Go.Proofs.Ytlodjinejeajcaa
