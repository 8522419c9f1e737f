/-
  TreeSpells: Literal of a text that may be is right; of two texts it is Cat of both. A tree, as it comes in.
-/
import Derived.Test.YtlodjinejeajcaaSpellsProofB1
import Derived.Test.YtlodjinejeajcaaSpellsProofB2
import Derived.Test.YtlodjinejeajcaaC1
import Derived.Test.YtlodjinejeajcaaC0
import Derived.Deep.Slices
import Derived.Deep.SlicePairs
import Derived.ChangeSame
import Derived.SizedLaws
namespace Go.Proofs.Ytlodjinejeajcaa
open Go Go.RowKit

/-- What Literal answers, whatever it is. -/
def LitR (V : World) (c f : Bool) (s : ByteArray) (e : Ending) (w' : World) : Prop := ∃ F : Fl, e = .returned (.tuple #[.agg #[.int .i64 F.k, .int .i64 F.n, .int .i64 F.mn, .int .i64 F.mx, .slice F.rq F.rs.length F.rc, .slice F.kq F.kl F.kc], .int .i64 (litE c s)]) ∧ (litE c s = 0 → ∃ t L, F = t.f ∧ TA w' t ∧ er t = joinE 5 L (.mk 1 0 0 0 [] []) ∧ ECs f (litL c s) L) ∧ Below V.heap.size V w'
theorem lit_any (s : ByteArray) (V : World) (c f : Bool) (hs : s.size ≤ 2000) : Calls Try.prog 19 #[.string s, .agg #[.bool c, .bool f]] V (LitR V c f s) :=
  (literal_c s V c f hs).mono fun e w' h => by
    rcases h with ⟨h1, h2, h3⟩ | ⟨h1, t, L, h2, h3, h4, h5, h6⟩
    · exact ⟨bare 0, h2, fun z => absurd z h1, h3⟩
    · exact ⟨t.f, by rw [h1]; exact h2, fun _ => ⟨t, L, rfl, h3, h4, h5⟩, h6⟩
/-- A tree of a text in a box. -/
def LB (W : World) (B : Nat) (c f : Bool) (s : ByteArray) (F : Fl) : Prop := BoxN W B F ∧ (litE c s = 0 → ∃ t L, F = t.f ∧ TA W t ∧ er t = joinE 5 L (.mk 1 0 0 0 [] []) ∧ ECs f (litL c s) L)
theorem LB.kept {W W' : World} {B : Nat} {c f : Bool} {s : ByteArray} {F : Fl} (h : LB W B c f s F) (hb : Below W.heap.size W W') : LB W' B c f s F :=
  ⟨(hb.block _ (lt_of_heap h.1)).trans h.1, fun z => by obtain ⟨t, L, h1, h2, h3, h4⟩ := h.2 z; exact ⟨t, L, h1, h2.kept hb, h3, h4⟩⟩
theorem LB.new {W : World} {c f : Bool} {s : ByteArray} {F : Fl} (h : litE c s = 0 → ∃ t L, F = t.f ∧ TA W t ∧ er t = joinE 5 L (.mk 1 0 0 0 [] []) ∧ ECs f (litL c s) L) : LB (W.alloc (.cells #[.int .i64 F.k, .int .i64 F.n, .int .i64 F.mn, .int .i64 F.mx, .slice F.rq F.rs.length F.rc, .slice F.kq F.kl F.kc] 25)) W.heap.size c f s F :=
  ⟨alloc_new W _, fun z => by obtain ⟨t, L, h1, h2, h3, h4⟩ := h z; exact ⟨t, L, h1, h2.kept (bel1 _ _), h3, h4⟩⟩
set_option maxRecDepth 100000 in
set_option maxHeartbeats 2000000 in
theorem law_spells {w : World} (a b : ByteArray) (c f : Bool) (ha : a.size ≤ 4611686018427387903) (hb : b.size ≤ 4611686018427387903) :
    Calls Try.prog 6 #[.string a, .string b, .agg #[.bool c, .bool f]] w fun e w' => e = .returned (.bool true) ∧ Below w.heap.size w w' := by
  have M0 : Hid ((w.alloc (.cells #[.bool c, .bool f] 27)).heap[w.heap.size]? = some (.cells #[.bool c, .bool f] 27 (0, 0))) := alloc_new w _
  have B0 : Hid (Below w.heap.size w (w.alloc (.cells #[.bool c, .bool f] 27))) := bel1 _ _
  go_enter Try.func6, Try.ntmps6
  go_upto_region 1 with fail
  generalize (w.alloc (.cells #[.bool c, .bool f] 27)) = W0 at M0 B0 ⊢
  obtain ⟨bm, hbm⟩ : ∃ bm, bm = w.heap.size := ⟨_, rfl⟩
  rw [← hbm] at M0 ⊢
  clear hbm
  go_upto_region 2 with (go_at_call 9; (with_reducible refine (examples8_c _).mono ?_); rintro e W1 ⟨rfl, a4⟩; have M1 : Hid (W1.heap[bm]? = some (.cells #[.bool c, .bool f] 27 (0, 0))) := (a4.block _ (lt_of_heap M0.out)).trans M0.out; have B1 : Hid (Below w.heap.size w W1) := chain B0.out a4 (Nat.le_refl _); clear a4 M0 B0)
  by_cases hbig : 1900 < a.size + b.size
  · have e0 : (1900 : Int) < (a.size : Int) + (b.size : Int) := by omega
    clear hbig
    go_wp2
    go_ret
    exact ⟨rfl, B1.out⟩
  have e0 : ¬ (1900 : Int) < (a.size : Int) + (b.size : Int) := by omega
  have HSM := hide (show a.size + b.size ≤ 1900 by omega)
  have LA : Hid (∀ V, Calls Try.prog 19 #[.string a, .agg #[.bool c, .bool f]] V (LitR V c f a)) := fun V => lit_any a V c f (by omega)
  have LBB : Hid (∀ V, Calls Try.prog 19 #[.string b, .agg #[.bool c, .bool f]] V (LitR V c f b)) := fun V => lit_any b V c f (by omega)
  have LC : Hid (∀ V, Calls Try.prog 19 #[.string (a ++ b), .agg #[.bool c, .bool f]] V (LitR V c f (a ++ b))) := fun V => lit_any (a ++ b) V c f (by rw [app_size]; omega)
  have AP : Hid (litE c a = 0 → litE c b = 0 → litE c (a ++ b) = 0 ∧ litL c (a ++ b) = litL c a ++ litL c b) := fun h k => lit_app h k
  have CT : Hid (litE c a ≠ 0 ∨ litE c b ≠ 0 → c = true) := fun h => by
    cases c with
    | true => rfl
    | false => rcases h with h | h <;> exact absurd (litE_bytes _) h
  have LN := hide (show (litL c a).length + (litL c b).length ≤ 1900 by have := litL_len c a; have := litL_len c b; omega)
  have CA : Hid (∀ x ∈ litL c a, isChar c x) := lit_char
  have CB : Hid (∀ x ∈ litL c b, isChar c x) := lit_char
  clear hbig
  have m0 := cell_row M1.out (i := 0) rfl
  have m1 := cell_row M1.out (i := 1) rfl
  go_upto_region 5 with (go_at_call 19; (with_reducible refine (LA.out _).mono ?_); rintro e w5 ⟨F5, rfl, h51, h52⟩; have N5 := hide h51; have B5 := hide h52; clear h51 h52)
  have X5 := hide (LB.new N5.out)
  have M5 : Hid ((w5.alloc (.cells #[.int .i64 F5.k, .int .i64 F5.n, .int .i64 F5.mn, .int .i64 F5.mx, .slice F5.rq F5.rs.length F5.rc, .slice F5.kq F5.kl F5.kc] 25)).heap[bm]? = some (.cells #[.bool c, .bool f] 27 (0, 0))) := old1 ((B5.out.block _ (lt_of_heap M1.out)).trans M1.out) _
  have B6 : Hid (Below w.heap.size w (w5.alloc (.cells #[.int .i64 F5.k, .int .i64 F5.n, .int .i64 F5.mn, .int .i64 F5.mx, .slice F5.rq F5.rs.length F5.rc, .slice F5.kq F5.kl F5.kc] 25))) := chain (chain B1.out B5.out (Nat.le_refl _)) (bel1 _ _) (Nat.le_refl _)
  generalize (w5.alloc (.cells #[.int .i64 F5.k, .int .i64 F5.n, .int .i64 F5.mn, .int .i64 F5.mx, .slice F5.rq F5.rs.length F5.rc, .slice F5.kq F5.kl F5.kc] 25)) = W5 at X5 M5 B6 ⊢
  generalize w5.heap.size = bx at X5 ⊢
  clear N5 B5 m0 m1 M1 B1 LA
  have m0 := cell_row M5.out (i := 0) rfl
  have m1 := cell_row M5.out (i := 1) rfl
  go_upto_region 6 with (go_at_call 19; (with_reducible refine (LBB.out _).mono ?_); rintro e w7 ⟨F7, rfl, h51, h52⟩; have N7 := hide h51; have B7 := hide h52; clear h51 h52)
  have X7 := hide (LB.new N7.out)
  have Y7 := hide (X5.out.kept (chain B7.out (bel1 w7 (.cells #[.int .i64 F7.k, .int .i64 F7.n, .int .i64 F7.mn, .int .i64 F7.mx, .slice F7.rq F7.rs.length F7.rc, .slice F7.kq F7.kl F7.kc] 25)) (Nat.le_refl _)))
  have M7 : Hid ((w7.alloc (.cells #[.int .i64 F7.k, .int .i64 F7.n, .int .i64 F7.mn, .int .i64 F7.mx, .slice F7.rq F7.rs.length F7.rc, .slice F7.kq F7.kl F7.kc] 25)).heap[bm]? = some (.cells #[.bool c, .bool f] 27 (0, 0))) := old1 ((B7.out.block _ (lt_of_heap M5.out)).trans M5.out) _
  have B8 : Hid (Below w.heap.size w (w7.alloc (.cells #[.int .i64 F7.k, .int .i64 F7.n, .int .i64 F7.mn, .int .i64 F7.mx, .slice F7.rq F7.rs.length F7.rc, .slice F7.kq F7.kl F7.kc] 25))) := chain (chain B6.out B7.out (Nat.le_refl _)) (bel1 _ _) (Nat.le_refl _)
  generalize (w7.alloc (.cells #[.int .i64 F7.k, .int .i64 F7.n, .int .i64 F7.mn, .int .i64 F7.mx, .slice F7.rq F7.rs.length F7.rc, .slice F7.kq F7.kl F7.kc] 25)) = W7 at X7 Y7 M7 B8 ⊢
  generalize w7.heap.size = bj at X7 ⊢
  clear N7 B7 m0 m1 M5 B6 X5 LBB
  have m0 := cell_row M7.out (i := 0) rfl
  have m1 := cell_row M7.out (i := 1) rfl
  by_cases hx : litE c a = 0
  · by_cases hy : litE c b = 0
    · have HG := hide (AP.out hx hy)
      obtain ⟨tx, La, rfl, tx1, tx2, tx3⟩ := Y7.out.2 hx
      obtain ⟨ty, Lb, rfl, ty1, ty2, ty3⟩ := X7.out.2 hy
      have bx0 := Y7.out.1
      have by0 := X7.out.1
      have HTX := hide (⟨tx1, tx2, tx3⟩ : _ ∧ _ ∧ _)
      have HTY := hide (⟨ty1, ty2, ty3⟩ : _ ∧ _ ∧ _)
      have HBX := hide bx0
      have HBY := hide by0
      have ea : litE c a = 0 := hx
      rw [hx, hy]
      clear hx hy ea tx1 tx2 tx3 ty1 ty2 ty3 bx0 by0 X7 Y7 CT AP
      go_upto_region 9 with (go_at_call 19; (with_reducible refine (LC.out _).mono ?_); rintro e w9 ⟨F9, rfl, h51, h52⟩; have N9 := hide h51; have B9 := hide h52; clear h51 h52)
      obtain ⟨tz, Lc, rfl, tz1, tz2, tz3⟩ := N9.out HG.out.1
      have HTZ := hide (⟨tz1.kept (bel1 w9 (.cells #[.int .i64 tz.f.k, .int .i64 tz.f.n, .int .i64 tz.f.mn, .int .i64 tz.f.mx, .slice tz.f.rq tz.f.rs.length tz.f.rc, .slice tz.f.kq tz.f.kl tz.f.kc] 25)), tz2, tz3⟩ : _ ∧ _ ∧ _)
      have K9 := chain B9.out (bel1 w9 (.cells #[.int .i64 tz.f.k, .int .i64 tz.f.n, .int .i64 tz.f.mn, .int .i64 tz.f.mx, .slice tz.f.rq tz.f.rs.length tz.f.rc, .slice tz.f.kq tz.f.kl tz.f.kc] 25)) (Nat.le_refl _)
      have HBZ := hide (alloc_new w9 (.cells #[.int .i64 tz.f.k, .int .i64 tz.f.n, .int .i64 tz.f.mn, .int .i64 tz.f.mx, .slice tz.f.rq tz.f.rs.length tz.f.rc, .slice tz.f.kq tz.f.kl tz.f.kc] 25))
      have HBX9 := hide ((K9.block _ (lt_of_heap HBX.out)).trans HBX.out)
      have HBY9 := hide ((K9.block _ (lt_of_heap HBY.out)).trans HBY.out)
      have M9 := hide ((K9.block _ (lt_of_heap M7.out)).trans M7.out)
      have TX9 := hide (HTX.out.1.kept K9)
      have TY9 := hide (HTY.out.1.kept K9)
      have B10 : Hid (Below w.heap.size w (w9.alloc (.cells #[.int .i64 tz.f.k, .int .i64 tz.f.n, .int .i64 tz.f.mn, .int .i64 tz.f.mx, .slice tz.f.rq tz.f.rs.length tz.f.rc, .slice tz.f.kq tz.f.kl tz.f.kc] 25))) := chain B8.out K9 (Nat.le_refl _)
      rw [HG.out.1]
      clear K9 tz1 tz2 tz3 N9 B9 m0 m1 M7 B8 HBX HBY LC
      generalize (w9.alloc (.cells #[.int .i64 tz.f.k, .int .i64 tz.f.n, .int .i64 tz.f.mn, .int .i64 tz.f.mx, .slice tz.f.rq tz.f.rs.length tz.f.rc, .slice tz.f.kq tz.f.kl tz.f.kc] 25)) = W9 at HTZ HBZ HBX9 HBY9 M9 TX9 TY9 B10 ⊢
      generalize w9.heap.size = bz at HBZ ⊢
      have RX : Hid (∀ V : World, SJ W9 V → Calls Try.prog 10 #[.agg #[.int .i64 tx.f.k, .int .i64 tx.f.n, .int .i64 tx.f.mn, .int .i64 tx.f.mx, .slice tx.f.rq tx.f.rs.length tx.f.rc, .slice tx.f.kq tx.f.kl tx.f.kc], .agg #[.bool c, .bool f]] V fun e w' => e = .returned (.int .i64 0) ∧ SJ W9 w') := fun V h => (right8_c c f (TX9.out.kept h.out)).mono fun e w' ⟨h1, h2⟩ => ⟨by rw [h1, (lit_right HTX.out.2.2 CA.out (by have := LN.out; omega) HTX.out.2.1).1], h.call h2⟩
      have hz := HTZ.out.2.2
      rw [HG.out.2] at hz
      have hzc : ∀ x ∈ litL c a ++ litL c b, isChar c x := fun x hx => by
        rcases List.mem_append.1 hx with h | h
        · exact CA.out x h
        · exact CB.out x h
      have hzr := lit_right hz hzc (by rw [List.length_append]; have := LN.out; omega) HTZ.out.2.1
      have RZ : Hid (∀ V : World, SJ W9 V → Calls Try.prog 10 #[.agg #[.int .i64 tz.f.k, .int .i64 tz.f.n, .int .i64 tz.f.mn, .int .i64 tz.f.mx, .slice tz.f.rq tz.f.rs.length tz.f.rc, .slice tz.f.kq tz.f.kl tz.f.kc], .agg #[.bool c, .bool f]] V fun e w' => e = .returned (.int .i64 0) ∧ SJ W9 w') := fun V h => (right8_c c f (HTZ.out.1.kept h.out)).mono fun e w' ⟨h1, h2⟩ => ⟨by rw [h1, hzr.1], h.call h2⟩
      have hLL : Lc = La ++ Lb := hz.one (HTX.out.2.2.app HTY.out.2.2)
      have EZ := hide (show er tz = catX (er tx) (er ty) by
        rw [HTX.out.2.1, HTY.out.2.1, cat_join (fun E hE => by obtain ⟨y, -, hk⟩ := HTX.out.2.2.mem E hE; exact hk.k.1) (fun E hE => by obtain ⟨y, -, hk⟩ := HTY.out.2.2.mem E hE; exact hk.k.1), HTZ.out.2.1, hLL])
      have SZ : Hid ((er tz).sz ≤ 2000) := hzr.2
      have SX := hide (show (er tx).sz + (er ty).sz < 1000000 by
        have h1 := (lit_right HTX.out.2.2 CA.out (by have := LN.out; omega) HTX.out.2.1).2
        have h2 := (lit_right HTY.out.2.2 CB.out (by have := LN.out; omega) HTY.out.2.1).2
        omega)
      have TZ9 := hide HTZ.out.1
      clear hz hzc hzr hLL HTX HTY HTZ CA CB LN HG
      have rx0 : ∀ V : World, SJ W9 V → V.cell? ⟨bx, 0, none⟩ = some (.int .i64 tx.f.k) := fun V h => (h.six HBX9.out).1
      have rx1 : ∀ V : World, SJ W9 V → V.cell? ⟨bx, 1, none⟩ = some (.int .i64 tx.f.n) := fun V h => (h.six HBX9.out).2.1
      have rx2 : ∀ V : World, SJ W9 V → V.cell? ⟨bx, 2, none⟩ = some (.int .i64 tx.f.mn) := fun V h => (h.six HBX9.out).2.2.1
      have rx3 : ∀ V : World, SJ W9 V → V.cell? ⟨bx, 3, none⟩ = some (.int .i64 tx.f.mx) := fun V h => (h.six HBX9.out).2.2.2.1
      have rx4 : ∀ V : World, SJ W9 V → V.cell? ⟨bx, 4, none⟩ = some (.slice tx.f.rq tx.f.rs.length tx.f.rc) := fun V h => (h.six HBX9.out).2.2.2.2.1
      have rx5 : ∀ V : World, SJ W9 V → V.cell? ⟨bx, 5, none⟩ = some (.slice tx.f.kq tx.f.kl tx.f.kc) := fun V h => (h.six HBX9.out).2.2.2.2.2
      have ry0 : ∀ V : World, SJ W9 V → V.cell? ⟨bj, 0, none⟩ = some (.int .i64 ty.f.k) := fun V h => (h.six HBY9.out).1
      have ry1 : ∀ V : World, SJ W9 V → V.cell? ⟨bj, 1, none⟩ = some (.int .i64 ty.f.n) := fun V h => (h.six HBY9.out).2.1
      have ry2 : ∀ V : World, SJ W9 V → V.cell? ⟨bj, 2, none⟩ = some (.int .i64 ty.f.mn) := fun V h => (h.six HBY9.out).2.2.1
      have ry3 : ∀ V : World, SJ W9 V → V.cell? ⟨bj, 3, none⟩ = some (.int .i64 ty.f.mx) := fun V h => (h.six HBY9.out).2.2.2.1
      have ry4 : ∀ V : World, SJ W9 V → V.cell? ⟨bj, 4, none⟩ = some (.slice ty.f.rq ty.f.rs.length ty.f.rc) := fun V h => (h.six HBY9.out).2.2.2.2.1
      have ry5 : ∀ V : World, SJ W9 V → V.cell? ⟨bj, 5, none⟩ = some (.slice ty.f.kq ty.f.kl ty.f.kc) := fun V h => (h.six HBY9.out).2.2.2.2.2
      have rz0 : ∀ V : World, SJ W9 V → V.cell? ⟨bz, 0, none⟩ = some (.int .i64 tz.f.k) := fun V h => (h.six HBZ.out).1
      have rz1 : ∀ V : World, SJ W9 V → V.cell? ⟨bz, 1, none⟩ = some (.int .i64 tz.f.n) := fun V h => (h.six HBZ.out).2.1
      have rz2 : ∀ V : World, SJ W9 V → V.cell? ⟨bz, 2, none⟩ = some (.int .i64 tz.f.mn) := fun V h => (h.six HBZ.out).2.2.1
      have rz3 : ∀ V : World, SJ W9 V → V.cell? ⟨bz, 3, none⟩ = some (.int .i64 tz.f.mx) := fun V h => (h.six HBZ.out).2.2.2.1
      have rz4 : ∀ V : World, SJ W9 V → V.cell? ⟨bz, 4, none⟩ = some (.slice tz.f.rq tz.f.rs.length tz.f.rc) := fun V h => (h.six HBZ.out).2.2.2.2.1
      have rz5 : ∀ V : World, SJ W9 V → V.cell? ⟨bz, 5, none⟩ = some (.slice tz.f.kq tz.f.kl tz.f.kc) := fun V h => (h.six HBZ.out).2.2.2.2.2
      have rm0 : ∀ V : World, SJ W9 V → V.cell? ⟨bm, 0, none⟩ = some (.bool c) := fun V h => cell_row ((h.out.block _ (lt_of_heap M9.out)).trans M9.out) (i := 0) rfl
      have rm1 : ∀ V : World, SJ W9 V → V.cell? ⟨bm, 1, none⟩ = some (.bool f) := fun V h => cell_row ((h.out.block _ (lt_of_heap M9.out)).trans M9.out) (i := 1) rfl
      go_region_held (fun V => SJ W9 V) (first | with_reducible assumption | with_reducible exact SJ.drew _ | with_reducible exact SJ.alloc (by assumption) _ | with_reducible exact SJ.ad (by assumption) _) (first | (go_at_call 10; (with_reducible refine (RX.out _ (by assumption)).mono ?_); rintro e v1 ⟨rfl, S1⟩) | (go_at_call 10; (with_reducible refine (RZ.out _ (by assumption)).mono ?_); rintro e v2 ⟨rfl, S2⟩) | (go_at_call 16; refine (cat_two (t1 := tx) (t2 := ty) (by with_reducible first | exact alloc_new _ _ | exact new_d _ _) (TX9.out.kept (SJ.out (by with_reducible assumption))) (TY9.out.kept (SJ.out (by with_reducible assumption))) SX.out).mono ?_; rintro e v3 ⟨t3, rfl, g1, g2, g3, g4⟩; have T3 := hide g1; have X3 := hide g2; have S3 : SJ W9 v3 := SJ.call (by with_reducible assumption) g4; clear g1 g2 g3 g4) | (go_at_call 18; refine (same_yes8 (a := tz) (b := t3) (TZ9.out.kept (SJ.out (by with_reducible assumption))) T3.out (by rw [X3.out]; exact EZ.out) SZ.out).mono ?_; rintro e v4 ⟨rfl, g4⟩; have S4 : SJ W9 v4 := SJ.call (by with_reducible assumption) g4; clear g4))
      all_goals go_wp2_with fail
      all_goals go_ret
      all_goals exact ⟨rfl, chain B10.out (SJ.out (by with_reducible assumption)) (Nat.le_refl _)⟩
    · have hc := CT.out (.inr hy)
      subst hc
      have e1 : (litE true b != 0) = true := by simpa using hy
      have e2 : (litE true a != 0) = false := by simpa using hx
      generalize litE true b = xb at *
      generalize litE true a = xa at *
      clear hx hy AP CT
      go_wp2
      go_ret
      exact ⟨rfl, B8.out⟩
  · have hc := CT.out (.inl hx)
    subst hc
    have e1 : (litE true a != 0) = true := by simpa using hx
    generalize litE true b = xb at *
    generalize litE true a = xa at *
    clear hx AP CT
    go_wp2
    go_ret
    exact ⟨rfl, B8.out⟩
end Go.Proofs.Ytlodjinejeajcaa
namespace Go.Proofs.Ytlodjinejeajcaa
open Go Go.ChangeShapes Go.WideShapes Go.ChangeAt Go.RowKit

theorem cells_node : Try.prog.cellsOf 25 = 6 := by kernel_rfl
theorem cells_rng : Try.prog.cellsOf 72 = 2 := by kernel_rfl
theorem cells_rngs : Try.prog.cellsOf 22 = 1 := by kernel_rfl
theorem cells_nods : Try.prog.cellsOf 23 = 1 := by kernel_rfl
theorem bytes_rng : Try.prog.bytesOf 72 = 16 := by kernel_rfl
theorem weights_all {H : Type} {P : Program} {e : TypeId} {d : DataW H} {n : Nat} : ∀ {l : List (DataW H)}, d ∈ l → n ∈ d.weights P e → n ∈ DataW.weightsAll P e l
  | [], h, _ => by cases h
  | x :: r, h, hn => by
    simp only [DataW.weightsAll, List.mem_append]
    rcases List.mem_cons.1 h with rfl | h
    · exact .inl hn
    · exact .inr (weights_all h hn)
theorem cell_blk {w : World} {g o : Nat} {v : Value} (h : w.cell? ⟨g, o, none⟩ = some v) : g < w.heap.size := by
  rcases Nat.lt_or_ge g w.heap.size with h' | h'
  · exact h'
  · have : w.heap[g]? = none := Array.getElem?_eq_none h'
    simp [World.cell?, this] at h
theorem add_none {a : Addr} {W : World} {v : Value} (h : W.cell? (a.add 0) = some v) : ∃ b off, a = ⟨b, off, none⟩ := by
  obtain ⟨b, off, spot⟩ := a
  cases spot with
  | none => exact ⟨b, off, rfl⟩
  | some k =>
    exfalso
    unfold Addr.add World.cell? at h
    simp at h
    split at h <;> simp_all

set_option maxRecDepth 100000 in
theorem open_rngs {H : Type} {enc : TypeId × Value → H} {W : World} {fuel : Nat} {v : Value} {x : DataW H × List MemPlace} (hf : DataW.trod enc Try.prog W 0 (fun _ => true) true fuel 22 [v] = some x) (hw : ∀ n ∈ x.1.weights Try.prog 22, n ≤ reachBytes) :
    ∃ (rs : List (Int × Int)) (q : Option Addr) (c : Nat), v = .slice q rs.length c ∧ ArgR W v rs ∧ Fit rs ∧ rs.length + 3 ≤ 8796093022208 := by
  rcases Deep.open_slice_pairs Try.underlying22 Try.underlying72 cells_rng rfl rfl cells_int cells_int hf with ⟨h1, h2⟩ | ⟨a, len, cap, m, n, V0, V1, D0, D1, P0, P1, h1, _, hlc, hcap, hm, h2, hx⟩
  · cases h1
    exact ⟨[], none, 0, rfl, .inl ⟨none, 0, rfl, rfl, fun _ => rfl⟩, fit_nil, by simp⟩
  · cases h1
    rw [if_pos rfl] at hm
    subst hm
    by_cases hc : m = 0
    · have hl : len = 0 := by omega
      subst hc hl
      exact ⟨[], some a, 0, rfl, .inl ⟨some a, 0, rfl, rfl, fun q => (by cases q)⟩, fit_nil, by simp⟩
    · have hp : ∀ i, i < m → ∃ q : Int × Int, V0 i = .int .i64 q.1 ∧ V1 i = .int .i64 q.2 ∧ (Lit.int .i64 q.1).wf = true ∧ (Lit.int .i64 q.2).wf = true := fun i hi => by
        obtain ⟨_, _, g0, g1⟩ := hx i hi
        obtain ⟨x0, e0, _, w0⟩ := DataW.trod_int Try.underlying3 g0
        obtain ⟨x1, e1, _, w1⟩ := DataW.trod_int Try.underlying3 g1
        exact ⟨(x0, x1), by simpa using e0, by simpa using e1, w0, w1⟩
      obtain ⟨q, hq⟩ := Deep.choose_lt hp
      have c0 := (hx 0 (by omega)).1
      obtain ⟨b, off, rfl⟩ := add_none (by simpa using c0)
      have hadd : ∀ j, (⟨b, off, none⟩ : Addr).add j = ⟨b, off + j, none⟩ := fun j => by unfold Addr.add; split <;> simp_all
      have hb : b < W.heap.size := by rw [hadd] at c0; exact cell_blk c0
      refine ⟨(List.range len).map q, some ⟨b, off, none⟩, m, by simp, .inr ⟨b, off, m, by simp, hb, by simpa using hlc, hcap, fun i r hi' => ?_⟩, fun r hr => ?_, ?_⟩
      · have hil : i < len := by have := (List.getElem?_eq_some_iff.1 hi').1; simpa using this
        have hqi : q i = r := by simpa [hil] using hi'
        obtain ⟨k0, k1, _, _⟩ := hx i (by omega)
        rw [hadd, Nat.mul_comm] at k0
        rw [hadd, Nat.mul_comm, ← Nat.add_assoc] at k1
        obtain ⟨r0, r1, _, _⟩ := hq i (by omega)
        rw [hqi] at r0 r1
        exact ⟨by rw [k0, r0], by rw [k1, r1]⟩
      · obtain ⟨i, hi, rfl⟩ := List.mem_map.1 hr
        have hil : i < len := List.mem_range.1 hi
        obtain ⟨_, _, w0, w1⟩ := hq i (by omega)
        exact ⟨wf_range w0, wf_range w1⟩
      · obtain ⟨es, sp, e1, e2⟩ : ∃ es sp, x.1 = .slice es sp ∧ es.length = len := ⟨_, _, congrArg Prod.fst h2, by simp⟩
        have h3 := hw ((es.length + sp.length) * Try.prog.bytesOf 72) (by rw [e1]; simp [DataW.weights, Try.underlying22])
        rw [bytes_rng] at h3
        have r : reachBytes = 140737488351232 := by decide
        simp
        omega

set_option maxRecDepth 100000 in
set_option maxHeartbeats 2000000 in
theorem open_nodeF {H : Type} {enc : TypeId × Value → H} {W : World} : ∀ (fuel : Nat) (cs : List Value) (x : DataW H × List MemPlace), DataW.trod enc Try.prog W 0 (fun _ => true) true fuel 25 cs = some x → (∀ n ∈ x.1.weights Try.prog 25, n ≤ reachBytes) →
    ∃ t : Tr, TA W t ∧ cs = [.int .i64 t.f.k, .int .i64 t.f.n, .int .i64 t.f.mn, .int .i64 t.f.mx, .slice t.f.rq t.f.rs.length t.f.rc, .slice t.f.kq t.f.kl t.f.kc] := by
  intro fuel
  induction fuel using Nat.strongRecOn with
  | ind fuel ih =>
    intro cs x hf hw
    obtain ⟨xs, k, hk, hxy, hcl, hxl, hfs⟩ := DataW.trod_struct Try.underlying25 hf
    have hD : x.1 = .agg (xs.map (·.1)) := (congrArg Prod.fst hxy)
    rw [hD] at hw
    simp only [DataW.weights, Try.underlying25] at hw
    rw [cells_node] at hcl
    clear hD hxy hf
    match xs, hxl, cs, hcl, hfs, hw with
    | [y0, y1, y2, y3, y4, y5], _, [v0, v1, v2, v3, v4, v5], _, hf, hwi =>
      have F0 := hf 0 _ rfl
      have F1 := hf 1 _ rfl
      have F2 := hf 2 _ rfl
      have F3 := hf 3 _ rfl
      have F4 := hf 4 _ rfl
      have F5 := hf 5 _ rfl
      simp [cells_int, cells_rngs, cells_nods] at F0 F1 F2 F3 F4 F5
      obtain ⟨x0, e0, _, w0⟩ := DataW.trod_int Try.underlying3 F0
      obtain ⟨x1, e1, _, w1⟩ := DataW.trod_int Try.underlying3 F1
      obtain ⟨x2, e2, _, w2⟩ := DataW.trod_int Try.underlying3 F2
      obtain ⟨x3, e3, _, w3⟩ := DataW.trod_int Try.underlying3 F3
      obtain ⟨rs, q, c, rfl, hr, hfit, hlen⟩ := open_rngs F4 (fun n hn => hwi n (DataW.weights_mem_each (j := 4) (t := 22) rfl rfl n hn))
      cases e0; cases e1; cases e2; cases e3
      have hwk := fun n hn => hwi n (DataW.weights_mem_each (j := 5) (t := 23) (d := y5.1) rfl rfl n hn)
      rcases DataW.trod_slice Try.underlying23 F5 with ⟨h1, h2⟩ | ⟨a, len, cap, elems, rest, n, hn, h1, h2, _, hlc, hcap, hel, hx, -, -⟩
      · cases h1
        exact ⟨.mk ⟨x0, x1, x2, x3, rs, q, c, none, 0, 0⟩ [], (every_eq _).2 ⟨⟨hr, .inl ⟨none, 0, rfl, rfl, fun _ => rfl⟩, hfit, hlen⟩, (everyL_iff _).2 fun u hu => by cases hu⟩, rfl⟩
      · cases h1
        by_cases hl : len = 0
        · subst hl
          exact ⟨.mk ⟨x0, x1, x2, x3, rs, q, c, some a, 0, cap⟩ [], (every_eq _).2 ⟨⟨hr, .inl ⟨some a, cap, rfl, rfl, fun z => by cases z⟩, hfit, hlen⟩, (everyL_iff _).2 fun u hu => by cases hu⟩, rfl⟩
        · have each : ∀ i, i < len → ∃ t : Tr, TA W t ∧ ∀ j v, [Value.int .i64 t.f.k, .int .i64 t.f.n, .int .i64 t.f.mn, .int .i64 t.f.mx, .slice t.f.rq t.f.rs.length t.f.rc, .slice t.f.kq t.f.kl t.f.kc][j]? = some v → W.cell? (a.add (i * 6 + j)) = some v := by
            intro i hi
            have hxi := hx i hi
            rw [List.getElem?_eq_getElem (by omega)] at hxi
            obtain ⟨cs', g1, g2⟩ := Option.bind_eq_some_iff.1 hxi
            rw [cells_node] at g1
            obtain ⟨_, hlc', hcell⟩ := World.cells?_some g1
            obtain ⟨t, ht, hcs⟩ := ih n (by omega) cs' _ g2 (fun m hm => hwk m (by
              rw [show y5.1 = .slice (elems.map (·.1)) (rest.map (·.1)) from congrArg Prod.fst h2]
              simp only [DataW.weights, Try.underlying23, List.mem_cons, List.mem_append]
              exact .inr (.inl (weights_all (List.mem_map.2 ⟨_, List.getElem_mem _, rfl⟩) hm))))
            refine ⟨t, ht, fun j v hj => ?_⟩
            have hj6 : j < 6 := by have := (List.getElem?_eq_some_iff.1 hj).1; simpa using this
            have := hcell j (by omega)
            rw [Deep.add_add] at this
            rw [this, hcs]
            exact hj
          have : Inhabited Tr := ⟨.mk ⟨0, 0, 0, 0, [], none, 0, none, 0, 0⟩ []⟩
          obtain ⟨tt, htt⟩ := Deep.choose_lt each
          have c0 := (htt 0 (by omega)).2 0 _ rfl
          obtain ⟨b, off, rfl⟩ := add_none (by simpa using c0)
          have hadd : ∀ j, (⟨b, off, none⟩ : Addr).add j = ⟨b, off + j, none⟩ := fun j => by unfold Addr.add; split <;> simp_all
          have hb : b < W.heap.size := by rw [hadd] at c0; exact cell_blk c0
          refine ⟨.mk ⟨x0, x1, x2, x3, rs, q, c, some ⟨b, off, none⟩, len, cap⟩ ((List.range len).map tt), (every_eq _).2 ⟨⟨hr, .inr ⟨b, off, cap, by simp [Tr.f, Tr.ks], hb, by simpa [Tr.ks] using hlc, hcap, fun i t hi => ?_⟩, hfit, hlen⟩, (everyL_iff _).2 fun u hu => ?_⟩, rfl⟩
          · have hi' : ((List.range len).map tt)[i]? = some t := hi
            have hil : i < len := by have := (List.getElem?_eq_some_iff.1 hi').1; simpa using this
            have hqi : tt i = t := by simpa [hil] using hi'
            have hh := (htt i hil).2
            rw [hqi] at hh
            simp only [hadd, ← Nat.add_assoc] at hh
            exact ⟨hh 0 _ rfl, hh 1 _ rfl, hh 2 _ rfl, hh 3 _ rfl, hh 4 _ rfl, hh 5 _ rfl⟩
          · have hu' : u ∈ (List.range len).map tt := hu
            obtain ⟨i, hi, rfl⟩ := List.mem_map.1 hu'
            exact (htt i (List.mem_range.1 hi)).1
theorem cells_mode8 : Try.prog.cellsOf 27 = 2 := by kernel_rfl
theorem cells_bool8 : Try.prog.cellsOf 4 = 1 := by kernel_rfl
set_option maxRecDepth 100000 in
theorem open_node {H : Type} {enc : TypeId × Value → H} {W : World} {base : Nat} {v : Value} {d : DataW H} {p : List MemPlace} (hok : Value.okWide Try.prog W .any base 25 v)
    (h : DataW.Trod enc Try.prog W 0 (fun _ => true) true 25 v d p) (hw : ∀ n ∈ d.weights Try.prog 25, n ≤ reachBytes) : ∃ t : Tr, TA W t ∧ v = .agg #[.int .i64 t.f.k, .int .i64 t.f.n, .int .i64 t.f.mn, .int .i64 t.f.mx, .slice t.f.rq t.f.rs.length t.f.rc, .slice t.f.kq t.f.kl t.f.kc] := by
  obtain ⟨cs, rfl, hsz⟩ := okWide_struct Try.underlying25 hok
  obtain ⟨fuel, hf⟩ := h
  obtain ⟨t, ht, hcs⟩ := open_nodeF fuel _ _ hf hw
  refine ⟨t, ht, ?_⟩
  obtain ⟨l⟩ := cs
  simp [Value.cells] at hcs
  rw [hcs]
set_option maxRecDepth 100000 in
theorem open_mode8 {H : Type} {enc : TypeId × Value → H} {W : World} {base : Nat} {v : Value} {d : DataW H} {p : List MemPlace} (hok : Value.okWide Try.prog W .any base 27 v)
    (h : DataW.Trod enc Try.prog W 0 (fun _ => true) true 27 v d p) : ∃ c f : Bool, v = .agg #[.bool c, .bool f] := by
  obtain ⟨cs, rfl, hsz⟩ := okWide_struct Try.underlying27 hok
  obtain ⟨fuel, hf⟩ := h
  obtain ⟨xs, k, hk, hxy, hcl, hxl, hfs⟩ := DataW.trod_struct Try.underlying27 hf
  rw [cells_mode8] at hcl
  obtain ⟨l⟩ := cs
  simp [Value.cells] at hcl hfs
  match xs, hxl, l, hcl, hfs with
  | [y0, y1], _, [c0, c1], _, hf =>
    have F0 := hf 0 _ rfl
    have F1 := hf 1 _ rfl
    simp [cells_bool8] at F0 F1
    obtain ⟨b0, e0, -⟩ := DataW.trod_bool Try.underlying4 F0
    obtain ⟨b1, e1, -⟩ := DataW.trod_bool Try.underlying4 F1
    cases e0; cases e1
    exact ⟨b0, b1, rfl⟩
end Go.Proofs.Ytlodjinejeajcaa
