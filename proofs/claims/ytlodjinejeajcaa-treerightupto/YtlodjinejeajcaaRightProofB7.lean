/-
  The document's table: formed. The document's answers: Laid, Count, Depth, Groups. strings.HasPrefix, out of the library. Units of a text in bytes, as the model's own decoding tells them: mathematics alone. Units of a text: what the program's own calls tell. Next, Valid, Column: contracts.
-/
import Derived.Test.YtlodjinejeajcaaRightProofB2
import Derived.Test.YtlodjinejeajcaaRightProofB6
import Derived.Test.YtlodjinejeajcaaRightProofB3
import Derived.Test.YtlodjinejeajcaaRightProofB1
import Derived.Test.YtlodjinejeajcaaC13
import Derived.Shelf.Strings.Prefix
import Derived.Shelf.Unicode.DecodeSlow
import Derived.Shelf.Unicode.DecodeAny
import Derived.Test.YtlodjinejeajcaaProg
import Derived.Lib.MapLaws
import Derived.Lib.RuneCountTail
import Derived.Lib.Strings
import Derived.Test.YtlodjinejeajcaaC0
import Derived.Lib.OthersKept
namespace Go.Proofs.Ytlodjinejeajcaa
open Go Go.RowKit

theorem set_iff {c f : Bool} {L C : List (Int × Int)} (hC : IsC C (foldP L)) : setM c f L ↔ (IsC L (fun x => In L x ∧ isChar c x) ∧ (f = true → L = C)) := by
  constructor
  · rintro ⟨h1, h2⟩
    refine ⟨h1, fun hf => ?_⟩
    have h3 : IsC L (foldP L) := ⟨h1.cls, h1.fit, h2 hf⟩
    exact h3.one hC (fun _ => Iff.rfl)
  · rintro ⟨h1, h2⟩
    refine ⟨h1, fun hf x => ?_⟩
    have e := h2 hf
    rw [← e] at hC
    exact hC.mem x
theorem table_k {c f : Bool} {t : Tr} {k : Int} (hk : t.f.k = k) : tableR c f t ↔ (if k = 1 ∨ k = 3 ∨ k = 4 then t.f.n = 0 ∧ t.f.mn = 0 ∧ t.f.mx = 0 ∧ t.f.rs.length = 0 ∧ t.ks.length = 0
  else if k = 2 then setM c f t.f.rs ∧ t.f.n = 0 ∧ t.f.mn = 0 ∧ t.f.mx = 0 ∧ t.ks.length = 0
  else if k = 5 ∨ k = 6 then 1 < t.ks.length ∧ t.f.n = 0 ∧ t.f.mn = 0 ∧ t.f.mx = 0 ∧ t.f.rs.length = 0
  else if k = 7 then t.ks.length = 1 ∧ t.f.mn = 0 ∧ t.f.mx = 0 ∧ t.f.rs.length = 0
  else if k = 8 then (1 ≤ t.f.n ∧ t.f.n ≤ 9) ∧ t.f.mn = 0 ∧ t.f.mx = 0 ∧ t.f.rs.length = 0 ∧ t.ks.length = 0
  else if k = 9 then bndB t.f.mn t.f.mx = true ∧ t.ks.length = 1 ∧ t.f.n = 0 ∧ t.f.rs.length = 0
  else False) := by
  unfold tableR
  rw [hk]
/-- What formed answers. -/
def FormedP (c f : Bool) (p : Way) (t : Tr) (w : World) (e : Ending) (w' : World) : Prop := ∃ b : Bool, e = .returned (.bool b) ∧ (b = true ↔ formedR c f p t) ∧ Below w.heap.size w w'
theorem FormedP.mk {c f : Bool} {p : Way} {t : Tr} {w w' : World} {e : Ending} (b : Bool) (h1 : e = .returned (.bool b)) (h2 : b = true ↔ formedR c f p t) (h3 : Below w.heap.size w w') : FormedP c f p t w e w' := ⟨b, h1, h2, h3⟩
set_option maxRecDepth 100000 in
set_option maxHeartbeats 8000000 in
theorem rformed (p : Way) (t : Tr) (o : Nat) (c f : Bool) {w : World} (hn : NA w t) (hrl : t.f.rs.length ≤ 1048580) :
    Calls Try.prog 42 #[.agg #[.int .i64 t.f.k, .int .i64 t.f.n, .int .i64 t.f.mn, .int .i64 t.f.mx, .slice t.f.rq t.f.rs.length t.f.rc, .slice t.f.kq t.f.kl t.f.kc, .int .i64 ((p.length : Int) + 1), .int .i64 (arP p), .bool (fiP p), .bool (laP p), .bool (brP p), .int .i64 (o : Int)], .agg #[.bool c, .bool f]] w fun e w' => FormedP c f p t w e w' := by
  have HNA := hide hn
  have hkl := hn.kl
  have HKL := hide hkl
  obtain ⟨qk, ck, ek, hkm, -, -⟩ := hn.k.slice
  have hkm' : t.f.kl ≤ 9223372036854775807 := by rw [hkl]; exact hkm
  have HF := hide hn.fit
  have B0 : Hid (Below w.heap.size w ((w.alloc (.cells #[.int .i64 t.f.k, .int .i64 t.f.n, .int .i64 t.f.mn, .int .i64 t.f.mx, .slice t.f.rq t.f.rs.length t.f.rc, .slice t.f.kq t.f.kl t.f.kc, .int .i64 ((p.length : Int) + 1), .int .i64 (arP p), .bool (fiP p), .bool (laP p), .bool (brP p), .int .i64 (o : Int)] 66)).alloc (.cells #[.bool c, .bool f] 27))) := ((Below.refl _ _).alloc (Nat.le_refl _) _).alloc (by simp) _
  have P0 : Hid (((w.alloc (.cells #[.int .i64 t.f.k, .int .i64 t.f.n, .int .i64 t.f.mn, .int .i64 t.f.mx, .slice t.f.rq t.f.rs.length t.f.rc, .slice t.f.kq t.f.kl t.f.kc, .int .i64 ((p.length : Int) + 1), .int .i64 (arP p), .bool (fiP p), .bool (laP p), .bool (brP p), .int .i64 (o : Int)] 66)).alloc (.cells #[.bool c, .bool f] 27)).heap[w.heap.size]? = some (.cells #[.int .i64 t.f.k, .int .i64 t.f.n, .int .i64 t.f.mn, .int .i64 t.f.mx, .slice t.f.rq t.f.rs.length t.f.rc, .slice t.f.kq t.f.kl t.f.kc, .int .i64 ((p.length : Int) + 1), .int .i64 (arP p), .bool (fiP p), .bool (laP p), .bool (brP p), .int .i64 (o : Int)] 66 (0, 0))) := (Below.heap_alloc _ _ _ (by simp)).trans (alloc_new w _)
  have M0 : Hid (((w.alloc (.cells #[.int .i64 t.f.k, .int .i64 t.f.n, .int .i64 t.f.mn, .int .i64 t.f.mx, .slice t.f.rq t.f.rs.length t.f.rc, .slice t.f.kq t.f.kl t.f.kc, .int .i64 ((p.length : Int) + 1), .int .i64 (arP p), .bool (fiP p), .bool (laP p), .bool (brP p), .int .i64 (o : Int)] 66)).alloc (.cells #[.bool c, .bool f] 27)).heap[w.heap.size + 1]? = some (.cells #[.bool c, .bool f] 27 (0, 0))) := (by
    have := alloc_new (w.alloc (.cells #[.int .i64 t.f.k, .int .i64 t.f.n, .int .i64 t.f.mn, .int .i64 t.f.mx, .slice t.f.rq t.f.rs.length t.f.rc, .slice t.f.kq t.f.kl t.f.kc, .int .i64 ((p.length : Int) + 1), .int .i64 (arP p), .bool (fiP p), .bool (laP p), .bool (brP p), .int .i64 (o : Int)] 66)) (.cells #[.bool c, .bool f] 27)
    rwa [World.size_alloc] at this)
  clear hn hkl ek hkm
  go_enter Try.func42, Try.ntmps42
  go_upto_region 1 with fail
  generalize ((w.alloc (.cells #[.int .i64 t.f.k, .int .i64 t.f.n, .int .i64 t.f.mn, .int .i64 t.f.mx, .slice t.f.rq t.f.rs.length t.f.rc, .slice t.f.kq t.f.kl t.f.kc, .int .i64 ((p.length : Int) + 1), .int .i64 (arP p), .bool (fiP p), .bool (laP p), .bool (brP p), .int .i64 (o : Int)] 66)).alloc (.cells #[.bool c, .bool f] 27)) = W0 at B0 P0 M0 ⊢
  generalize w.heap.size + 1 = bm at M0 ⊢
  have p0 : W0.cell? ⟨w.heap.size, 0, none⟩ = some (.int .i64 t.f.k) := cell_row P0.out (i := 0) rfl
  have p1 : W0.cell? ⟨w.heap.size, 1, none⟩ = some (.int .i64 t.f.n) := cell_row P0.out (i := 1) rfl
  have p2 : W0.cell? ⟨w.heap.size, 2, none⟩ = some (.int .i64 t.f.mn) := cell_row P0.out (i := 2) rfl
  have p3 : W0.cell? ⟨w.heap.size, 3, none⟩ = some (.int .i64 t.f.mx) := cell_row P0.out (i := 3) rfl
  have p4 : W0.cell? ⟨w.heap.size, 4, none⟩ = some (.slice t.f.rq t.f.rs.length t.f.rc) := cell_row P0.out (i := 4) rfl
  have p5 : W0.cell? ⟨w.heap.size, 5, none⟩ = some (.slice t.f.kq t.f.kl t.f.kc) := cell_row P0.out (i := 5) rfl
  have p6 : W0.cell? ⟨w.heap.size, 6, none⟩ = some (.int .i64 ((p.length : Int) + 1)) := cell_row P0.out (i := 6) rfl
  have p7 : W0.cell? ⟨w.heap.size, 7, none⟩ = some (.int .i64 (arP p)) := cell_row P0.out (i := 7) rfl
  have p8 : W0.cell? ⟨w.heap.size, 8, none⟩ = some (.bool (fiP p)) := cell_row P0.out (i := 8) rfl
  have p9 : W0.cell? ⟨w.heap.size, 9, none⟩ = some (.bool (laP p)) := cell_row P0.out (i := 9) rfl
  have p10 : W0.cell? ⟨w.heap.size, 10, none⟩ = some (.bool (brP p)) := cell_row P0.out (i := 10) rfl
  have p11 : W0.cell? ⟨w.heap.size, 11, none⟩ = some (.int .i64 (o : Int)) := cell_row P0.out (i := 11) rfl
  go_upto_region 2 with fail
  have K1 : Below W0.heap.size W0 (W0.alloc (.cells #[.int .i64 t.f.k, .int .i64 t.f.n, .int .i64 t.f.mn, .int .i64 t.f.mx, .slice t.f.rq t.f.rs.length t.f.rc, .slice t.f.kq t.f.kl t.f.kc] 25)) := (Below.refl _ _).alloc (Nat.le_refl _) _
  have N1 := hide (alloc_new W0 (.cells #[.int .i64 t.f.k, .int .i64 t.f.n, .int .i64 t.f.mn, .int .i64 t.f.mx, .slice t.f.rq t.f.rs.length t.f.rc, .slice t.f.kq t.f.kl t.f.kc] 25))
  have P1 := hide ((K1.block _ (lt_of_heap P0.out)).trans P0.out)
  have M1 := hide ((K1.block _ (lt_of_heap M0.out)).trans M0.out)
  have B1 := hide (chain B0.out K1 (Nat.le_refl _))
  clear K1 B0 P0 M0 p0 p1 p2 p3 p4 p5 p6 p7 p8 p9 p10 p11
  generalize (W0.alloc (.cells #[.int .i64 t.f.k, .int .i64 t.f.n, .int .i64 t.f.mn, .int .i64 t.f.mx, .slice t.f.rq t.f.rs.length t.f.rc, .slice t.f.kq t.f.kl t.f.kc] 25)) = W1 at N1 P1 M1 B1 ⊢
  generalize W0.heap.size = bn at N1 ⊢
  have p0 : W1.cell? ⟨w.heap.size, 0, none⟩ = some (.int .i64 t.f.k) := cell_row P1.out (i := 0) rfl
  have p1 : W1.cell? ⟨w.heap.size, 1, none⟩ = some (.int .i64 t.f.n) := cell_row P1.out (i := 1) rfl
  have p2 : W1.cell? ⟨w.heap.size, 2, none⟩ = some (.int .i64 t.f.mn) := cell_row P1.out (i := 2) rfl
  have p3 : W1.cell? ⟨w.heap.size, 3, none⟩ = some (.int .i64 t.f.mx) := cell_row P1.out (i := 3) rfl
  have p4 : W1.cell? ⟨w.heap.size, 4, none⟩ = some (.slice t.f.rq t.f.rs.length t.f.rc) := cell_row P1.out (i := 4) rfl
  have p5 : W1.cell? ⟨w.heap.size, 5, none⟩ = some (.slice t.f.kq t.f.kl t.f.kc) := cell_row P1.out (i := 5) rfl
  have p6 : W1.cell? ⟨w.heap.size, 6, none⟩ = some (.int .i64 ((p.length : Int) + 1)) := cell_row P1.out (i := 6) rfl
  have p7 : W1.cell? ⟨w.heap.size, 7, none⟩ = some (.int .i64 (arP p)) := cell_row P1.out (i := 7) rfl
  have p8 : W1.cell? ⟨w.heap.size, 8, none⟩ = some (.bool (fiP p)) := cell_row P1.out (i := 8) rfl
  have p9 : W1.cell? ⟨w.heap.size, 9, none⟩ = some (.bool (laP p)) := cell_row P1.out (i := 9) rfl
  have p10 : W1.cell? ⟨w.heap.size, 10, none⟩ = some (.bool (brP p)) := cell_row P1.out (i := 10) rfl
  have p11 : W1.cell? ⟨w.heap.size, 11, none⟩ = some (.int .i64 (o : Int)) := cell_row P1.out (i := 11) rfl
  have ST := hide (rstands p t o W1)
  obtain ⟨s, hs⟩ : ∃ s, standsR p t.f.k = s := ⟨_, rfl⟩
  rw [hs] at ST
  have HS := hide hs
  clear hs
  go_upto_region 3 with (go_at_call 60; (with_reducible refine (ST.out).mono ?_); rintro e W2 ⟨rfl, h2⟩; have B2 := hide (chain B1.out h2 (Nat.le_refl _)); have N2 := hide ((h2.block _ (lt_of_heap N1.out)).trans N1.out); have M2 := hide ((h2.block _ (lt_of_heap M1.out)).trans M1.out); clear h2)
  clear p0 p1 p2 p3 p4 p5 p6 p7 p8 p9 p10 p11 N1 P1 M1 B1 ST
  cases s with
  | false =>
    go_wp2
    go_ret
    exact FormedP.mk false rfl (⟨fun z => (by cases z), fun z => by have := z.1; rw [HS.out] at this; cases this⟩) B2.out
  | true =>
    have FT : Hid (formedR c f p t ↔ tableR c f t) := ⟨fun z => z.2, fun z => ⟨HS.out, z⟩⟩
    obtain ⟨n0, n1, n2, n3, n4, n5⟩ := (show BoxN W2 bn t.f from N2.out).six
    simp only [Nat.zero_add] at n1 n2 n3 n4 n5
    have m0 : W2.cell? ⟨bm, 0, none⟩ = some (.bool c) := cell_row M2.out (i := 0) rfl
    have m1 : W2.cell? ⟨bm, 1, none⟩ = some (.bool f) := cell_row M2.out (i := 1) rfl
    obtain ⟨k, hk⟩ : ∃ k, t.f.k = k := ⟨_, rfl⟩
    have TK := hide (table_k (c := c) (f := f) hk)
    have HKK := hide hk
    obtain ⟨ln, hln⟩ : ∃ ln, t.f.kl = ln := ⟨_, rfl⟩
    have HLN := hide hln
    clear hk hln
    by_cases h1 : k = 1 ∨ k = 3 ∨ k = 4
    · have BR := hide (fun W => rbare0000 t.f W)
      obtain ⟨br, hbr⟩ : ∃ br, decide (t.f.n = 0 ∧ t.f.mn = 0 ∧ t.f.mx = 0 ∧ t.f.rs.length = 0 ∧ t.f.kl = 0) = br := ⟨_, rfl⟩
      rw [hbr] at BR
      have HBR := hide hbr
      clear hbr
      have HI := hide (show br = true ↔ formedR c f p t by
        rw [← HBR.out, FT.out, TK.out, if_pos h1, decide_eq_true_eq, HKL.out])
      rcases h1 with h1 | h1 | h1
      · have q1 : (t.f.k == 1) = true := beq_iff_eq.2 (by rw [HKK.out]; omega)
        clear h1
        go_wp2_with (go_at_call 61; (with_reducible refine (BR.out _).mono ?_); rintro e W8 ⟨rfl, h8⟩; have B8 := hide (chain B2.out h8 (Nat.le_refl _)); clear h8)
        go_ret
        exact FormedP.mk br rfl (HI.out) B8.out
      · have q1 : (t.f.k == 1) = false := beq_eq_false_iff_ne.2 (by rw [HKK.out]; omega)
        have q3 : (t.f.k == 3) = true := beq_iff_eq.2 (by rw [HKK.out]; omega)
        clear h1
        go_wp2_with (go_at_call 61; (with_reducible refine (BR.out _).mono ?_); rintro e W8 ⟨rfl, h8⟩; have B8 := hide (chain B2.out h8 (Nat.le_refl _)); clear h8)
        go_ret
        exact FormedP.mk br rfl (HI.out) B8.out
      · have q1 : (t.f.k == 1) = false := beq_eq_false_iff_ne.2 (by rw [HKK.out]; omega)
        have q3 : (t.f.k == 3) = false := beq_eq_false_iff_ne.2 (by rw [HKK.out]; omega)
        have q4 : (t.f.k == 4) = true := beq_iff_eq.2 (by rw [HKK.out]; omega)
        clear h1
        go_wp2_with (go_at_call 61; (with_reducible refine (BR.out _).mono ?_); rintro e W8 ⟨rfl, h8⟩; have B8 := hide (chain B2.out h8 (Nat.le_refl _)); clear h8)
        go_ret
        exact FormedP.mk br rfl (HI.out) B8.out
    by_cases h2 : k = 2
    · have BR := hide (fun W => rbare0010 t.f W)
      obtain ⟨br, hbr⟩ : ∃ br, decide (t.f.n = 0 ∧ t.f.mn = 0 ∧ t.f.mx = 0 ∧ t.f.kl = 0) = br := ⟨_, rfl⟩
      rw [hbr] at BR
      have HBR := hide hbr
      clear hbr
      have q1 : (t.f.k == 1) = false := beq_eq_false_iff_ne.2 (by rw [HKK.out]; omega)
      have q3 : (t.f.k == 3) = false := beq_eq_false_iff_ne.2 (by rw [HKK.out]; omega)
      have q4 : (t.f.k == 4) = false := beq_eq_false_iff_ne.2 (by rw [HKK.out]; omega)
      have q2 : (t.f.k == 2) = true := beq_iff_eq.2 (by rw [HKK.out]; omega)
      have RC := hide (rright_c (m := c) (HNA.out.ck (CK.of_below B2.out)).r HF.out hrl)
      go_upto_region 12 with (go_at_call 62; (with_reducible refine (RC.out).mono ?_); rintro e W3 ⟨b3, rfl, hb3, h3⟩; have I3 := hide hb3; have B3 := hide (chain B2.out h3 (Nat.le_refl _)); have N3 := hide ((h3.block _ (lt_of_heap N2.out)).trans N2.out); have M3 := hide ((h3.block _ (lt_of_heap M2.out)).trans M2.out); clear hb3 h3)
      clear n0 n1 n2 n3 n4 n5 m0 m1
      have n4 : W3.cell? ⟨bn, 4, none⟩ = some (.slice t.f.rq t.f.rs.length t.f.rc) := (show BoxN W3 bn t.f from N3.out).six.2.2.2.2.1
      have FC := hide (rfold_c (HNA.out.ck (CK.of_below B3.out)).r HF.out hrl)
      go_upto_region 13 with (go_at_call 63; (with_reducible refine (FC.out).mono ?_); rintro e W4 ⟨v4, C, rfl, h41, h42, h43, h44⟩; obtain ⟨q4, k4, rfl⟩ := h41.shape; have X4 := hide h41; have I4 := hide h42; have B4 := hide (chain B3.out h44 (Nat.le_refl _)); have N4 := hide ((h44.block _ (lt_of_heap N3.out)).trans N3.out); have M4 := hide ((h44.block _ (lt_of_heap M3.out)).trans M3.out); clear h41 h42 h43 h44)
      clear n4
      have n4 : W4.cell? ⟨bn, 4, none⟩ = some (.slice t.f.rq t.f.rs.length t.f.rc) := (show BoxN W4 bn t.f from N4.out).six.2.2.2.2.1
      have AK := hide (alike_c (HNA.out.ck (CK.of_below B4.out)).r X4.out.arg)
      obtain ⟨aa, haa⟩ : ∃ aa, decide (t.f.rs = C) = aa := ⟨_, rfl⟩
      rw [haa] at AK
      have HAA := hide haa
      clear haa
      go_upto_region 14 with (go_at_call 43; (with_reducible refine (AK.out).mono ?_); rintro e W5 ⟨rfl, h5⟩; have B5 := hide (chain B4.out h5 (Nat.le_refl _)); have N5 := hide ((h5.block _ (lt_of_heap N4.out)).trans N4.out); have M5 := hide ((h5.block _ (lt_of_heap M4.out)).trans M4.out); clear h5)
      clear n4
      obtain ⟨n0, n1, n2, n3, n4, n5⟩ := (show BoxN W5 bn t.f from N5.out).six
      simp only [Nat.zero_add] at n1 n2 n3 n4 n5
      have m1 : W5.cell? ⟨bm, 1, none⟩ = some (.bool f) := cell_row M5.out (i := 1) rfl
      have HI := hide (show ((b3 = true ∧ (f = true → aa = true)) ∧ br = true) ↔ formedR c f p t by
        rw [← HBR.out, FT.out, TK.out, if_neg h1, if_pos h2, decide_eq_true_eq, HKL.out, set_iff I4.out, I3.out, ← HAA.out, decide_eq_true_eq])
      clear h1 h2 RC FC AK
      cases b3 with
      | false =>
        have HI2 := hide (show false = true ↔ formedR c f p t from ⟨fun z => (by cases z), fun z => (HI.out.2 z).1.1⟩)
        go_wp2
        go_ret
        exact FormedP.mk false rfl (HI2.out) B5.out
      | true =>
        cases f with
        | false =>
          have HI2 := hide (show br = true ↔ formedR c false p t from ⟨fun z => HI.out.1 ⟨⟨rfl, fun q => (by cases q)⟩, z⟩, fun z => (HI.out.2 z).2⟩)
          go_wp2_with (go_at_call 61; (with_reducible refine (BR.out _).mono ?_); rintro e W8 ⟨rfl, h8⟩; have B8 := hide (chain B5.out h8 (Nat.le_refl _)); clear h8)
          go_ret
          exact FormedP.mk br rfl (HI2.out) B8.out
        | true =>
          cases aa with
          | false =>
            have HI2 := hide (show false = true ↔ formedR c true p t from ⟨fun z => (by cases z), fun z => (HI.out.2 z).1.2 rfl⟩)
            go_wp2
            go_ret
            exact FormedP.mk false rfl (HI2.out) B5.out
          | true =>
            have HI2 := hide (show br = true ↔ formedR c true p t from ⟨fun z => HI.out.1 ⟨⟨rfl, fun _ => rfl⟩, z⟩, fun z => (HI.out.2 z).2⟩)
            go_wp2_with (go_at_call 61; (with_reducible refine (BR.out _).mono ?_); rintro e W8 ⟨rfl, h8⟩; have B8 := hide (chain B5.out h8 (Nat.le_refl _)); clear h8)
            go_ret
            exact FormedP.mk br rfl (HI2.out) B8.out
    by_cases h56 : k = 5 ∨ k = 6
    · have BR := hide (fun W => rbare0001 t.f W)
      obtain ⟨br, hbr⟩ : ∃ br, decide (t.f.n = 0 ∧ t.f.mn = 0 ∧ t.f.mx = 0 ∧ t.f.rs.length = 0) = br := ⟨_, rfl⟩
      rw [hbr] at BR
      have HBR := hide hbr
      clear hbr
      have HI := hide (show (1 < ln ∧ br = true) ↔ formedR c f p t by
        rw [← HBR.out, FT.out, TK.out, if_neg h1, if_neg h2, if_pos h56, decide_eq_true_eq, ← HLN.out, HKL.out])
      by_cases hl : 1 < ln
      · have el : (1 : Int) < (t.f.kl : Int) := by rw [HLN.out]; omega
        have HI2 := hide (show br = true ↔ formedR c f p t from ⟨fun z => HI.out.1 ⟨hl, z⟩, fun z => (HI.out.2 z).2⟩)
        clear hl
        rcases h56 with h5 | h5
        · have q1 : (t.f.k == 1) = false := beq_eq_false_iff_ne.2 (by rw [HKK.out]; omega)
          have q3 : (t.f.k == 3) = false := beq_eq_false_iff_ne.2 (by rw [HKK.out]; omega)
          have q4 : (t.f.k == 4) = false := beq_eq_false_iff_ne.2 (by rw [HKK.out]; omega)
          have q2 : (t.f.k == 2) = false := beq_eq_false_iff_ne.2 (by rw [HKK.out]; omega)
          have q5 : (t.f.k == 5) = true := beq_iff_eq.2 (by rw [HKK.out]; omega)
          clear h5 h1 h2
          go_wp2_with (go_at_call 61; (with_reducible refine (BR.out _).mono ?_); rintro e W8 ⟨rfl, h8⟩; have B8 := hide (chain B2.out h8 (Nat.le_refl _)); clear h8)
          go_ret
          exact FormedP.mk br rfl (HI2.out) B8.out
        · have q1 : (t.f.k == 1) = false := beq_eq_false_iff_ne.2 (by rw [HKK.out]; omega)
          have q3 : (t.f.k == 3) = false := beq_eq_false_iff_ne.2 (by rw [HKK.out]; omega)
          have q4 : (t.f.k == 4) = false := beq_eq_false_iff_ne.2 (by rw [HKK.out]; omega)
          have q2 : (t.f.k == 2) = false := beq_eq_false_iff_ne.2 (by rw [HKK.out]; omega)
          have q5 : (t.f.k == 5) = false := beq_eq_false_iff_ne.2 (by rw [HKK.out]; omega)
          have q6 : (t.f.k == 6) = true := beq_iff_eq.2 (by rw [HKK.out]; omega)
          clear h5 h1 h2
          go_wp2_with (go_at_call 61; (with_reducible refine (BR.out _).mono ?_); rintro e W8 ⟨rfl, h8⟩; have B8 := hide (chain B2.out h8 (Nat.le_refl _)); clear h8)
          go_ret
          exact FormedP.mk br rfl (HI2.out) B8.out
      · have el : ¬ (1 : Int) < (t.f.kl : Int) := by rw [HLN.out]; omega
        have HI2 := hide (show false = true ↔ formedR c f p t from ⟨fun z => (by cases z), fun z => absurd (HI.out.2 z).1 hl⟩)
        clear hl
        rcases h56 with h5 | h5
        · have q1 : (t.f.k == 1) = false := beq_eq_false_iff_ne.2 (by rw [HKK.out]; omega)
          have q3 : (t.f.k == 3) = false := beq_eq_false_iff_ne.2 (by rw [HKK.out]; omega)
          have q4 : (t.f.k == 4) = false := beq_eq_false_iff_ne.2 (by rw [HKK.out]; omega)
          have q2 : (t.f.k == 2) = false := beq_eq_false_iff_ne.2 (by rw [HKK.out]; omega)
          have q5 : (t.f.k == 5) = true := beq_iff_eq.2 (by rw [HKK.out]; omega)
          clear h5 h1 h2
          go_wp2
          go_ret
          exact FormedP.mk false rfl (HI2.out) B2.out
        · have q1 : (t.f.k == 1) = false := beq_eq_false_iff_ne.2 (by rw [HKK.out]; omega)
          have q3 : (t.f.k == 3) = false := beq_eq_false_iff_ne.2 (by rw [HKK.out]; omega)
          have q4 : (t.f.k == 4) = false := beq_eq_false_iff_ne.2 (by rw [HKK.out]; omega)
          have q2 : (t.f.k == 2) = false := beq_eq_false_iff_ne.2 (by rw [HKK.out]; omega)
          have q5 : (t.f.k == 5) = false := beq_eq_false_iff_ne.2 (by rw [HKK.out]; omega)
          have q6 : (t.f.k == 6) = true := beq_iff_eq.2 (by rw [HKK.out]; omega)
          clear h5 h1 h2
          go_wp2
          go_ret
          exact FormedP.mk false rfl (HI2.out) B2.out
    by_cases h7 : k = 7
    · have BR := hide (fun W => rbare1001 t.f W)
      obtain ⟨br, hbr⟩ : ∃ br, decide (t.f.mn = 0 ∧ t.f.mx = 0 ∧ t.f.rs.length = 0) = br := ⟨_, rfl⟩
      rw [hbr] at BR
      have HBR := hide hbr
      clear hbr
      have HI := hide (show (ln = 1 ∧ br = true) ↔ formedR c f p t by
        rw [← HBR.out, FT.out, TK.out, if_neg h1, if_neg h2, if_neg h56, if_pos h7, decide_eq_true_eq, ← HLN.out, HKL.out])
      have q1 : (t.f.k == 1) = false := beq_eq_false_iff_ne.2 (by rw [HKK.out]; omega)
      have q3 : (t.f.k == 3) = false := beq_eq_false_iff_ne.2 (by rw [HKK.out]; omega)
      have q4 : (t.f.k == 4) = false := beq_eq_false_iff_ne.2 (by rw [HKK.out]; omega)
      have q2 : (t.f.k == 2) = false := beq_eq_false_iff_ne.2 (by rw [HKK.out]; omega)
      have q5 : (t.f.k == 5) = false := beq_eq_false_iff_ne.2 (by rw [HKK.out]; omega)
      have q6 : (t.f.k == 6) = false := beq_eq_false_iff_ne.2 (by rw [HKK.out]; omega)
      have q7 : (t.f.k == 7) = true := beq_iff_eq.2 (by rw [HKK.out]; omega)
      clear h1 h2 h56 h7
      by_cases hl : ln = 1
      · have el : ((t.f.kl : Int) == 1) = true := beq_iff_eq.2 (by rw [HLN.out]; omega)
        have HI2 := hide (show br = true ↔ formedR c f p t from ⟨fun z => HI.out.1 ⟨hl, z⟩, fun z => (HI.out.2 z).2⟩)
        clear hl
        go_wp2_with (go_at_call 61; (with_reducible refine (BR.out _).mono ?_); rintro e W8 ⟨rfl, h8⟩; have B8 := hide (chain B2.out h8 (Nat.le_refl _)); clear h8)
        go_ret
        exact FormedP.mk br rfl (HI2.out) B8.out
      · have el : ((t.f.kl : Int) == 1) = false := beq_eq_false_iff_ne.2 (by rw [HLN.out]; omega)
        have HI2 := hide (show false = true ↔ formedR c f p t from ⟨fun z => (by cases z), fun z => absurd (HI.out.2 z).1 hl⟩)
        clear hl
        go_wp2
        go_ret
        exact FormedP.mk false rfl (HI2.out) B2.out
    by_cases h8 : k = 8
    · have BR := hide (fun W => rbare1000 t.f W)
      obtain ⟨br, hbr⟩ : ∃ br, decide (t.f.mn = 0 ∧ t.f.mx = 0 ∧ t.f.rs.length = 0 ∧ t.f.kl = 0) = br := ⟨_, rfl⟩
      rw [hbr] at BR
      have HBR := hide hbr
      clear hbr
      have HI := hide (show ((1 ≤ t.f.n ∧ t.f.n ≤ 9) ∧ br = true) ↔ formedR c f p t by
        rw [← HBR.out, FT.out, TK.out, if_neg h1, if_neg h2, if_neg h56, if_neg h7, if_pos h8, decide_eq_true_eq, HKL.out])
      have q1 : (t.f.k == 1) = false := beq_eq_false_iff_ne.2 (by rw [HKK.out]; omega)
      have q3 : (t.f.k == 3) = false := beq_eq_false_iff_ne.2 (by rw [HKK.out]; omega)
      have q4 : (t.f.k == 4) = false := beq_eq_false_iff_ne.2 (by rw [HKK.out]; omega)
      have q2 : (t.f.k == 2) = false := beq_eq_false_iff_ne.2 (by rw [HKK.out]; omega)
      have q5 : (t.f.k == 5) = false := beq_eq_false_iff_ne.2 (by rw [HKK.out]; omega)
      have q6 : (t.f.k == 6) = false := beq_eq_false_iff_ne.2 (by rw [HKK.out]; omega)
      have q7 : (t.f.k == 7) = false := beq_eq_false_iff_ne.2 (by rw [HKK.out]; omega)
      have q8 : (t.f.k == 8) = true := beq_iff_eq.2 (by rw [HKK.out]; omega)
      clear h1 h2 h56 h7 h8
      by_cases g1 : 1 ≤ t.f.n
      · by_cases g2 : t.f.n ≤ 9
        · have HI2 := hide (show br = true ↔ formedR c f p t from ⟨fun z => HI.out.1 ⟨⟨g1, g2⟩, z⟩, fun z => (HI.out.2 z).2⟩)
          go_wp2_with (go_at_call 61; (with_reducible refine (BR.out _).mono ?_); rintro e W8 ⟨rfl, h8⟩; have B8 := hide (chain B2.out h8 (Nat.le_refl _)); clear h8)
          go_ret
          exact FormedP.mk br rfl (HI2.out) B8.out
        · have HI2 := hide (show false = true ↔ formedR c f p t from ⟨fun z => (by cases z), fun z => absurd (HI.out.2 z).1.2 g2⟩)
          go_wp2
          go_ret
          exact FormedP.mk false rfl (HI2.out) B2.out
      · have HI2 := hide (show false = true ↔ formedR c f p t from ⟨fun z => (by cases z), fun z => absurd (HI.out.2 z).1.1 g1⟩)
        go_wp2
        go_ret
        exact FormedP.mk false rfl (HI2.out) B2.out
    by_cases h9 : k = 9
    · have BR := hide (fun W => rbare0101 t.f W)
      obtain ⟨br, hbr⟩ : ∃ br, decide (t.f.n = 0 ∧ t.f.rs.length = 0) = br := ⟨_, rfl⟩
      rw [hbr] at BR
      have HBR := hide hbr
      clear hbr
      have BD := hide (fun W => rbounds t.f.mn t.f.mx W)
      obtain ⟨bd, hbd⟩ : ∃ bd, bndB t.f.mn t.f.mx = bd := ⟨_, rfl⟩
      rw [hbd] at BD
      have HBD := hide hbd
      clear hbd
      have HI := hide (show (bd = true ∧ ln = 1 ∧ br = true) ↔ formedR c f p t by
        rw [← HBR.out, FT.out, TK.out, if_neg h1, if_neg h2, if_neg h56, if_neg h7, if_neg h8, if_pos h9, decide_eq_true_eq, ← HLN.out, HKL.out, HBD.out])
      have q1 : (t.f.k == 1) = false := beq_eq_false_iff_ne.2 (by rw [HKK.out]; omega)
      have q3 : (t.f.k == 3) = false := beq_eq_false_iff_ne.2 (by rw [HKK.out]; omega)
      have q4 : (t.f.k == 4) = false := beq_eq_false_iff_ne.2 (by rw [HKK.out]; omega)
      have q2 : (t.f.k == 2) = false := beq_eq_false_iff_ne.2 (by rw [HKK.out]; omega)
      have q5 : (t.f.k == 5) = false := beq_eq_false_iff_ne.2 (by rw [HKK.out]; omega)
      have q6 : (t.f.k == 6) = false := beq_eq_false_iff_ne.2 (by rw [HKK.out]; omega)
      have q7 : (t.f.k == 7) = false := beq_eq_false_iff_ne.2 (by rw [HKK.out]; omega)
      have q8 : (t.f.k == 8) = false := beq_eq_false_iff_ne.2 (by rw [HKK.out]; omega)
      have q9 : (t.f.k == 9) = true := beq_iff_eq.2 (by rw [HKK.out]; omega)
      clear h1 h2 h56 h7 h8 h9
      cases bd with
      | false =>
        have HI2 := hide (show false = true ↔ formedR c f p t from ⟨fun z => (by cases z), fun z => (HI.out.2 z).1⟩)
        go_wp2_with (go_at_call 64; (with_reducible refine (BD.out _).mono ?_); rintro e w5 ⟨rfl, h5⟩; subst w5)
        go_ret
        exact FormedP.mk false rfl (HI2.out) B2.out
      | true =>
        by_cases hl : ln = 1
        · have el : ((t.f.kl : Int) == 1) = true := beq_iff_eq.2 (by rw [HLN.out]; omega)
          have HI2 := hide (show br = true ↔ formedR c f p t from ⟨fun z => HI.out.1 ⟨rfl, hl, z⟩, fun z => (HI.out.2 z).2.2⟩)
          clear hl
          go_wp2_with first | (go_at_call 64; (with_reducible refine (BD.out _).mono ?_); rintro e w5 ⟨rfl, h5⟩; subst w5) | (go_at_call 61; (with_reducible refine (BR.out _).mono ?_); rintro e W8 ⟨rfl, h8⟩; have B8 := hide (chain B2.out h8 (Nat.le_refl _)); clear h8)
          go_ret
          exact FormedP.mk br rfl (HI2.out) B8.out
        · have el : ((t.f.kl : Int) == 1) = false := beq_eq_false_iff_ne.2 (by rw [HLN.out]; omega)
          have HI2 := hide (show false = true ↔ formedR c f p t from ⟨fun z => (by cases z), fun z => absurd (HI.out.2 z).2.1 hl⟩)
          clear hl
          go_wp2_with (go_at_call 64; (with_reducible refine (BD.out _).mono ?_); rintro e w5 ⟨rfl, h5⟩; subst w5)
          go_ret
          exact FormedP.mk false rfl (HI2.out) B2.out
    have q1 : (t.f.k == 1) = false := beq_eq_false_iff_ne.2 (by rw [HKK.out]; omega)
    have q3 : (t.f.k == 3) = false := beq_eq_false_iff_ne.2 (by rw [HKK.out]; omega)
    have q4 : (t.f.k == 4) = false := beq_eq_false_iff_ne.2 (by rw [HKK.out]; omega)
    have q2 : (t.f.k == 2) = false := beq_eq_false_iff_ne.2 (by rw [HKK.out]; omega)
    have q5 : (t.f.k == 5) = false := beq_eq_false_iff_ne.2 (by rw [HKK.out]; omega)
    have q6 : (t.f.k == 6) = false := beq_eq_false_iff_ne.2 (by rw [HKK.out]; omega)
    have q7 : (t.f.k == 7) = false := beq_eq_false_iff_ne.2 (by rw [HKK.out]; omega)
    have q8 : (t.f.k == 8) = false := beq_eq_false_iff_ne.2 (by rw [HKK.out]; omega)
    have q9 : (t.f.k == 9) = false := beq_eq_false_iff_ne.2 (by rw [HKK.out]; omega)
    have HI2 := hide (show false = true ↔ formedR c f p t from ⟨fun z => (by cases z), fun z => by
      have := TK.out.1 (FT.out.1 z)
      rw [if_neg h1, if_neg h2, if_neg h56, if_neg h7, if_neg h8, if_neg h9] at this
      exact this.elim⟩)
    clear h1 h2 h56 h7 h8 h9
    go_wp2
    go_ret
    exact FormedP.mk false rfl (HI2.out) B2.out
end Go.Proofs.Ytlodjinejeajcaa
namespace Go.Proofs.Ytlodjinejeajcaa
open Go Go.RowKit

/-- The list of a tree's nodes. -/
def laidL (most : Nat) (t : Tr) : List Zl := layS most [] ([], t)
theorem laidL_map (most : Nat) (t : Tr) : (laidL most t).map (·.1) = (pp [] t).take most := by
  unfold laidL layS
  rw [List.nil_append, List.length_nil, Nat.sub_zero, List.map_take, tl_map]
theorem laidL_len (most : Nat) (t : Tr) : (laidL most t).length = min most (pp [] t).length := by
  have := congrArg List.length (laidL_map most t)
  rwa [List.length_map, List.length_take] at this
theorem laidL_len8 (t : Tr) : (laidL 2001 t).length = cntT t := by rw [laidL_len, cntT]; omega
/-- A list of places that came out. -/
def LaidIs (w : World) (L : List Zl) (e : Ending) (w' : World) : Prop := ∃ q c, e = .returned (.slice q L.length c) ∧ ZR w.heap.size w' (.slice q L.length c) L ∧ Below w.heap.size w w'
set_option maxRecDepth 100000 in
set_option maxHeartbeats 2000000 in
theorem laid_c {w : World} {t : Tr} (most : Nat) (hm : most ≤ 100000) (hta : TA w t) : Calls Try.prog 41 #[.agg #[.int .i64 t.f.k, .int .i64 t.f.n, .int .i64 t.f.mn, .int .i64 t.f.mx, .slice t.f.rq t.f.rs.length t.f.rc, .slice t.f.kq t.f.kl t.f.kc], .int .i64 (most : Int)] w (LaidIs w (laidL most t)) := by
  have B1 : Hid (Below w.heap.size w (w.alloc (.cells #[.int .i64 t.f.k, .int .i64 t.f.n, .int .i64 t.f.mn, .int .i64 t.f.mx, .slice t.f.rq t.f.rs.length t.f.rc, .slice t.f.kq t.f.kl t.f.kc] 25))) := (Below.refl _ _).alloc (Nat.le_refl _) _
  have N1 : BoxN (w.alloc (.cells #[.int .i64 t.f.k, .int .i64 t.f.n, .int .i64 t.f.mn, .int .i64 t.f.mx, .slice t.f.rq t.f.rs.length t.f.rc, .slice t.f.kq t.f.kl t.f.kc] 25)) w.heap.size t.f := alloc_new w _
  obtain ⟨c0, c1, c2, c3, c4, c5⟩ := N1.six
  simp only [Nat.zero_add] at c1 c2 c3 c4 c5
  have LY : Hid (Calls Try.prog 59 #[.slice none 0 0, .agg #[.int .i64 t.f.k, .int .i64 t.f.n, .int .i64 t.f.mn, .int .i64 t.f.mx, .slice t.f.rq t.f.rs.length t.f.rc, .slice t.f.kq t.f.kl t.f.kc, .int .i64 1, .int .i64 0, .bool true, .bool true, .bool true, .int .i64 0], .int .i64 (most : Int)] (w.alloc (.cells #[.int .i64 t.f.k, .int .i64 t.f.n, .int .i64 t.f.mn, .int .i64 t.f.mx, .slice t.f.rq t.f.rs.length t.f.rc, .slice t.f.kq t.f.kl t.f.kc] 25)) (LayP w (w.alloc (.cells #[.int .i64 t.f.k, .int .i64 t.f.n, .int .i64 t.f.mn, .int .i64 t.f.mx, .slice t.f.rq t.f.rs.length t.f.rc, .slice t.f.kq t.f.kl t.f.kc] 25)) (.slice none 0 0) (laidL most t))) := (by
    have h := lay_m (w0 := w) hm t.sz t [] (w.alloc (.cells #[.int .i64 t.f.k, .int .i64 t.f.n, .int .i64 t.f.mn, .int .i64 t.f.mx, .slice t.f.rq t.f.rs.length t.f.rc, .slice t.f.kq t.f.kl t.f.kc] 25)) [] none 0 (Nat.le_refl _) hta B1.out (World.ownsRow_nil _ _ _ _) (Nat.le_refl _)
    have e : (zc (([], t), 0)).toArray = #[.int .i64 t.f.k, .int .i64 t.f.n, .int .i64 t.f.mn, .int .i64 t.f.mx, .slice t.f.rq t.f.rs.length t.f.rc, .slice t.f.kq t.f.kl t.f.kc, .int .i64 1, .int .i64 0, .bool true, .bool true, .bool true, .int .i64 0] := (by simp [zc, Fl.cells, arP, fiP, laP, brP])
    rw [e] at h
    exact h)
  clear N1 hta
  go_enter Try.func41, Try.ntmps41
  go_wp2_with (go_at_call 59; (with_reducible refine (LY.out).mono ?_); rintro e w5 ⟨q5, k5, rfl, h51, h52, h53⟩; have X5 := hide h51; have F5 := hide h53; clear h51 h52 h53)
  go_ret
  exact ⟨q5, k5, rfl, X5.out, chainF B1.out F5.out (Nat.le_refl _) (fun k e => by cases e)⟩
set_option maxHeartbeats 2000000 in
theorem rcount8 {w : World} {t : Tr} (hta : TA w t) : Calls Try.prog 23 #[.agg #[.int .i64 t.f.k, .int .i64 t.f.n, .int .i64 t.f.mn, .int .i64 t.f.mx, .slice t.f.rq t.f.rs.length t.f.rc, .slice t.f.kq t.f.kl t.f.kc]] w fun e w' => e = .returned (.int .i64 (cntT t : Int)) ∧ Below w.heap.size w w' := by
  have B1 : Hid (Below w.heap.size w (w.alloc (.cells #[.int .i64 t.f.k, .int .i64 t.f.n, .int .i64 t.f.mn, .int .i64 t.f.mx, .slice t.f.rq t.f.rs.length t.f.rc, .slice t.f.kq t.f.kl t.f.kc] 25))) := (Below.refl _ _).alloc (Nat.le_refl _) _
  have N1 : BoxN (w.alloc (.cells #[.int .i64 t.f.k, .int .i64 t.f.n, .int .i64 t.f.mn, .int .i64 t.f.mx, .slice t.f.rq t.f.rs.length t.f.rc, .slice t.f.kq t.f.kl t.f.kc] 25)) w.heap.size t.f := alloc_new w _
  obtain ⟨c0, c1, c2, c3, c4, c5⟩ := N1.six
  simp only [Nat.zero_add] at c1 c2 c3 c4 c5
  have LD := hide (laid_c (w := w.alloc (.cells #[.int .i64 t.f.k, .int .i64 t.f.n, .int .i64 t.f.mn, .int .i64 t.f.mx, .slice t.f.rq t.f.rs.length t.f.rc, .slice t.f.kq t.f.kl t.f.kc] 25)) 2001 (by omega) (hta.kept B1.out))
  have hl := laidL_len8 t
  have HL := hide hl
  clear N1 hta hl
  go_enter Try.func23, Try.ntmps23
  go_wp2_with (go_at_call 41; refine (LD.out).mono ?_; rintro e w5 ⟨q5, k5, rfl, h51, h52⟩; have B5 := hide h52; clear h51 h52)
  go_ret
  refine ⟨?_, chain B1.out B5.out (Nat.le_refl _)⟩
  show Ending.returned (.int .i64 ((laidL 2001 t).length : Int)) = _
  rw [HL.out]
/-- A place's cells in a list. -/
theorem ZR.cells {base : Nat} {W : World} {g c : Nat} {L : List Zl} (h : ZR base W (.slice (some ⟨g, 0, none⟩) L.length c) L) {i : Nat} {z : Zl} (hi : L[i]? = some z) {j : Nat} {v : Value} (hj : (zc z)[j]? = some v) : W.cell? ⟨g, i * 12 + j, none⟩ = some v :=
  ownsRow_cell h ((cellsZ_get L i j z hi (by have := (List.getElem?_eq_some_iff.1 hj).1; rw [zc_len] at this; exact this)).trans hj)
theorem deepM_take (l : List El) (j : Nat) (x : El) (h : l[j]? = some x) : deepM (l.take (j + 1)) = max (deepM (l.take j)) (x.1.length + 1) := by rw [List.take_add_one, h]; exact deepM_snoc _ _
theorem grpM_take (l : List El) (j : Nat) (x : El) (h : l[j]? = some x) : grpM (l.take (j + 1)) = grpM (l.take j) + (if x.2.f.k = 7 then 1 else 0) := by rw [List.take_add_one, h]; exact grpM_snoc _ _
set_option maxRecDepth 100000 in
set_option maxHeartbeats 4000000 in
theorem rdepth8 {w : World} {t : Tr} (hta : TA w t) : Calls Try.prog 24 #[.agg #[.int .i64 t.f.k, .int .i64 t.f.n, .int .i64 t.f.mn, .int .i64 t.f.mx, .slice t.f.rq t.f.rs.length t.f.rc, .slice t.f.kq t.f.kl t.f.kc]] w fun e w' => e = .returned (.int .i64 ((if 2000 < (pp [] t).length then 0 else deepM (pp [] t) : Nat) : Int)) ∧ Below w.heap.size w w' := by
  have B1 : Hid (Below w.heap.size w (w.alloc (.cells #[.int .i64 t.f.k, .int .i64 t.f.n, .int .i64 t.f.mn, .int .i64 t.f.mx, .slice t.f.rq t.f.rs.length t.f.rc, .slice t.f.kq t.f.kl t.f.kc] 25))) := (Below.refl _ _).alloc (Nat.le_refl _) _
  have N1 : BoxN (w.alloc (.cells #[.int .i64 t.f.k, .int .i64 t.f.n, .int .i64 t.f.mn, .int .i64 t.f.mx, .slice t.f.rq t.f.rs.length t.f.rc, .slice t.f.kq t.f.kl t.f.kc] 25)) w.heap.size t.f := alloc_new w _
  obtain ⟨c0, c1, c2, c3, c4, c5⟩ := N1.six
  simp only [Nat.zero_add] at c1 c2 c3 c4 c5
  have LD := hide (laid_c (w := w.alloc (.cells #[.int .i64 t.f.k, .int .i64 t.f.n, .int .i64 t.f.mn, .int .i64 t.f.mx, .slice t.f.rq t.f.rs.length t.f.rc, .slice t.f.kq t.f.kl t.f.kc] 25)) 2001 (by omega) (hta.kept B1.out))
  have hl := laidL_len 2001 t
  have HMP := hide (laidL_map 2001 t)
  have HL := hide hl
  have hle : (laidL 2001 t).length ≤ 2001 := by omega
  generalize laidL 2001 t = Z at LD HMP HL hle
  obtain ⟨R, hR⟩ : ∃ R, (if 2000 < (pp [] t).length then 0 else deepM (pp [] t)) = R := ⟨_, rfl⟩
  rw [hR]
  have HR := hide hR
  clear hR
  clear N1 hta hl
  go_enter Try.func24, Try.ntmps24
  go_upto_region 4 with (go_at_call 41; refine (LD.out).mono ?_; rintro e w5 ⟨q5, k5, rfl, h51, h52⟩; have Z5 := hide h51; have B5 := hide h52; clear h51 h52)
  have B6 := hide (chain B1.out B5.out (Nat.le_refl _))
  clear c0 c1 c2 c3 c4 c5 B1 B5 LD
  by_cases hbig : Z.length ≤ 2000
  · have b0 : (Z.length : Int) ≤ 2000 := by omega
    have hn : ¬ 2000 < (pp [] t).length := by have := HL.out; omega
    have he : Z.map (·.1) = pp [] t := by rw [HMP.out, List.take_of_length_le (by omega)]
    have HE := hide he
    have HN := hide hn
    clear he hn
    go_loopw [5, 4] (fun i d wr => ∃ j : Nat, j ≤ Z.length ∧ i = .int .i64 (j : Int) ∧ d = .int .i64 (deepM ((pp [] t).take j) : Int) ∧ wr = w5) (fun i _ _ => Z.length - (intOf i).toNat)
    case atStart => exact ⟨0, Nat.zero_le _, rfl, rfl, rfl⟩
    case round =>
      obtain ⟨j, hj, rfl, rfl, rfl⟩ := hrel
      by_cases hjl : j < Z.length
      · have i0 : (j : Int) < (Z.length : Int) := by omega
        obtain ⟨z, hz⟩ : ∃ z, Z[j]? = some z := ⟨_, List.getElem?_eq_getElem hjl⟩
        obtain ⟨g, cc, hq⟩ := ownsRow_some Z5.out (by omega)
        injection hq with hq1 _ hq2
        subst hq1 hq2
        have y6 := Z5.out.cells hz (j := 6) (v := .int .i64 ((z.1.1.length : Int) + 1)) rfl
        have hx : (pp [] t)[j]? = some z.1 := by rw [← HE.out, List.getElem?_map, hz]; rfl
        have mx := max_run Try.prog #[3, 3] 3
        have HD := hide (show (deepM ((pp [] t).take (j + 1)) : Int) = max (deepM ((pp [] t).take j) : Int) ((z.1.1.length : Int) + 1) by rw [deepM_take _ _ _ hx]; omega)
        clear hz hx
        go_wp2
        go_roundw
        case rel => exact ⟨j + 1, by omega, by go_num, by rw [HD.out], by trivial⟩
        case measure => simp only [intOf]; omega
      · have i0 : ¬ (j : Int) < (Z.length : Int) := by omega
        have HD := hide (show (if 2000 < (pp [] t).length then 0 else deepM (pp [] t)) = deepM ((pp [] t).take j) by
          have h1 := congrArg List.length HE.out
          rw [List.length_map] at h1
          rw [if_neg HN.out, List.take_of_length_le (by omega)])
        go_wp2
        go_ret
        have hRR := HR.out.symm.trans HD.out
        subst hRR
        exact ⟨rfl, B6.out⟩
  · have b0 : ¬ (Z.length : Int) ≤ 2000 := by omega
    have HD := hide (show (if 2000 < (pp [] t).length then 0 else deepM (pp [] t)) = 0 by rw [if_pos (by have := HL.out; omega)])
    go_loopw [5, 4] (fun i d wr => i = .int .i64 0 ∧ d = .int .i64 0 ∧ wr = w5) (fun _ _ _ => 0)
    case atStart => exact ⟨rfl, rfl, rfl⟩
    case round =>
      obtain ⟨rfl, rfl, rfl⟩ := hrel
      have i0 : (0 : Int) < (Z.length : Int) := by omega
      go_wp2
      go_ret
      have hRR := HR.out.symm.trans HD.out
      subst hRR
      exact ⟨rfl, B6.out⟩
set_option maxRecDepth 100000 in
set_option maxHeartbeats 4000000 in
theorem rgroups8 {w : World} {t : Tr} (hta : TA w t) : Calls Try.prog 25 #[.agg #[.int .i64 t.f.k, .int .i64 t.f.n, .int .i64 t.f.mn, .int .i64 t.f.mx, .slice t.f.rq t.f.rs.length t.f.rc, .slice t.f.kq t.f.kl t.f.kc]] w fun e w' => e = .returned (.int .i64 ((if 2000 < (pp [] t).length then 0 else grpM (pp [] t) : Nat) : Int)) ∧ Below w.heap.size w w' := by
  have B1 : Hid (Below w.heap.size w (w.alloc (.cells #[.int .i64 t.f.k, .int .i64 t.f.n, .int .i64 t.f.mn, .int .i64 t.f.mx, .slice t.f.rq t.f.rs.length t.f.rc, .slice t.f.kq t.f.kl t.f.kc] 25))) := (Below.refl _ _).alloc (Nat.le_refl _) _
  have N1 : BoxN (w.alloc (.cells #[.int .i64 t.f.k, .int .i64 t.f.n, .int .i64 t.f.mn, .int .i64 t.f.mx, .slice t.f.rq t.f.rs.length t.f.rc, .slice t.f.kq t.f.kl t.f.kc] 25)) w.heap.size t.f := alloc_new w _
  obtain ⟨c0, c1, c2, c3, c4, c5⟩ := N1.six
  simp only [Nat.zero_add] at c1 c2 c3 c4 c5
  have LD := hide (laid_c (w := w.alloc (.cells #[.int .i64 t.f.k, .int .i64 t.f.n, .int .i64 t.f.mn, .int .i64 t.f.mx, .slice t.f.rq t.f.rs.length t.f.rc, .slice t.f.kq t.f.kl t.f.kc] 25)) 2001 (by omega) (hta.kept B1.out))
  have hl := laidL_len 2001 t
  have HMP := hide (laidL_map 2001 t)
  have HL := hide hl
  have hle : (laidL 2001 t).length ≤ 2001 := by omega
  generalize laidL 2001 t = Z at LD HMP HL hle
  obtain ⟨R, hR⟩ : ∃ R, (if 2000 < (pp [] t).length then 0 else grpM (pp [] t)) = R := ⟨_, rfl⟩
  rw [hR]
  have HR := hide hR
  clear hR
  clear N1 hta hl
  go_enter Try.func25, Try.ntmps25
  go_upto_region 4 with (go_at_call 41; refine (LD.out).mono ?_; rintro e w5 ⟨q5, k5, rfl, h51, h52⟩; have Z5 := hide h51; have B5 := hide h52; clear h51 h52)
  have B6 := hide (chain B1.out B5.out (Nat.le_refl _))
  clear c0 c1 c2 c3 c4 c5 B1 B5 LD
  by_cases hbig : Z.length ≤ 2000
  · have b0 : (Z.length : Int) ≤ 2000 := by omega
    have hn : ¬ 2000 < (pp [] t).length := by have := HL.out; omega
    have he : Z.map (·.1) = pp [] t := by rw [HMP.out, List.take_of_length_le (by omega)]
    have HE := hide he
    have HN := hide hn
    clear he hn
    go_loopw [5, 4] (fun i d wr => ∃ j : Nat, j ≤ Z.length ∧ i = .int .i64 (j : Int) ∧ d = .int .i64 (grpM ((pp [] t).take j) : Int) ∧ wr = w5) (fun i _ _ => Z.length - (intOf i).toNat)
    case atStart => exact ⟨0, Nat.zero_le _, rfl, rfl, rfl⟩
    case round =>
      obtain ⟨j, hj, rfl, rfl, rfl⟩ := hrel
      by_cases hjl : j < Z.length
      · have i0 : (j : Int) < (Z.length : Int) := by omega
        obtain ⟨z, hz⟩ : ∃ z, Z[j]? = some z := ⟨_, List.getElem?_eq_getElem hjl⟩
        obtain ⟨g, cc, hq⟩ := ownsRow_some Z5.out (by omega)
        injection hq with hq1 _ hq2
        subst hq1 hq2
        have y6 := Z5.out.cells hz (j := 0) (v := .int .i64 z.1.2.f.k) rfl
        rw [Nat.add_zero] at y6
        have hx : (pp [] t)[j]? = some z.1 := by rw [← HE.out, List.getElem?_map, hz]; rfl
        have hgl : grpM ((pp [] t).take j) ≤ 2000 := by have := grpM_le ((pp [] t).take j); rw [List.length_take] at this; omega
        by_cases hk : z.1.2.f.k = 7
        · have HD := hide (show (grpM ((pp [] t).take (j + 1)) : Int) = (grpM ((pp [] t).take j) : Int) + 1 by rw [grpM_take _ _ _ hx, if_pos hk]; rfl)
          have e1 : (z.1.2.f.k == 7) = true := by simpa using hk
          clear hz hx hk
          go_wp2
          go_roundw
          case rel => exact ⟨j + 1, by omega, by go_num, by rw [HD.out], by trivial⟩
          case measure => simp only [intOf]; omega
        · have HD := hide (show (grpM ((pp [] t).take (j + 1)) : Int) = (grpM ((pp [] t).take j) : Int) by rw [grpM_take _ _ _ hx, if_neg hk]; rfl)
          have e1 : (z.1.2.f.k == 7) = false := by simpa using hk
          clear hz hx hk
          go_wp2
          go_roundw
          case rel => exact ⟨j + 1, by omega, by go_num, by rw [HD.out], by trivial⟩
          case measure => simp only [intOf]; omega
      · have i0 : ¬ (j : Int) < (Z.length : Int) := by omega
        have HD := hide (show (if 2000 < (pp [] t).length then 0 else grpM (pp [] t)) = grpM ((pp [] t).take j) by
          have h1 := congrArg List.length HE.out
          rw [List.length_map] at h1
          rw [if_neg HN.out, List.take_of_length_le (by omega)])
        go_wp2
        go_ret
        have hRR := HR.out.symm.trans HD.out
        subst hRR
        exact ⟨rfl, B6.out⟩
  · have b0 : ¬ (Z.length : Int) ≤ 2000 := by omega
    have HD := hide (show (if 2000 < (pp [] t).length then 0 else grpM (pp [] t)) = 0 by rw [if_pos (by have := HL.out; omega)])
    go_loopw [5, 4] (fun i d wr => i = .int .i64 0 ∧ d = .int .i64 0 ∧ wr = w5) (fun _ _ _ => 0)
    case atStart => exact ⟨rfl, rfl, rfl⟩
    case round =>
      obtain ⟨rfl, rfl, rfl⟩ := hrel
      have i0 : (0 : Int) < (Z.length : Int) := by omega
      go_wp2
      go_ret
      have hRR := HR.out.symm.trans HD.out
      subst hRR
      exact ⟨rfl, B6.out⟩
end Go.Proofs.Ytlodjinejeajcaa
namespace Go.Proofs
open Go.Shelf
def Try.lays206_ren : Go.Shelf.Ren := ⟨fun | 206 => 86 | n => n, fun | 9 => 9 | 4 => 4 | 3 => 3 | n => n, fun | n => n⟩
theorem Try.lays206 : Go.Proofs.Lays.n206 Try.prog Try.lays206_ren := {
  mixed := by kernel_rfl
  f206 := Try.func86.trans (congrArg some (by kernel_rfl))
  t3 := Try.underlying3
  a3 := Try.isAgg3
  z3 := Try.sizeOf3
  v3 := Try.zeroValue3
  t4 := Try.underlying4
  a4 := Try.isAgg4
  z4 := Try.sizeOf4
  v4 := Try.zeroValue4
  t9 := Try.underlying9
  a9 := Try.isAgg9
  z9 := Try.sizeOf9
  v9 := Try.zeroValue9 }
open Go.RowKit Go.Lib in
theorem Try.stringslite_HasPrefix (s p : ByteArray) (w : World) :
    Calls Try.prog 86 #[.string s, .string p] w fun e w' => e = .returned (.bool (Lib.hasPrefix s.data.toList p.data.toList)) ∧ w' = w := Any.stringslite_HasPrefix Try.lays206 s p w
def Try.lays99_ren : Go.Shelf.Ren := ⟨fun | 99 => 78 | 206 => 86 | n => n, fun | 9 => 9 | 4 => 4 | 3 => 3 | n => n, fun | n => n⟩
theorem Try.lays99 : Go.Proofs.Lays.n99 Try.prog Try.lays99_ren := {
  mixed := by kernel_rfl
  f99 := Try.func78.trans (congrArg some (by kernel_rfl))
  f206 := Try.func86.trans (congrArg some (by kernel_rfl))
  t3 := Try.underlying3
  a3 := Try.isAgg3
  z3 := Try.sizeOf3
  v3 := Try.zeroValue3
  t4 := Try.underlying4
  a4 := Try.isAgg4
  z4 := Try.sizeOf4
  v4 := Try.zeroValue4
  t9 := Try.underlying9
  a9 := Try.isAgg9
  z9 := Try.sizeOf9
  v9 := Try.zeroValue9 }
open Go.RowKit Go.Lib in
theorem Try.strings_HasPrefix (s p : ByteArray) (w : World) :
    Calls Try.prog 78 #[.string s, .string p] w fun e w' => e = .returned (.bool (Lib.hasPrefix s.data.toList p.data.toList)) ∧ w' = w := Any.strings_HasPrefix Try.lays99 s p w
end Go.Proofs
namespace Go.Proofs.Ytlodjinejeajcaa
open Go

/-- How many bytes the unit at a place has, and its character (-1: none). -/
def wd (s : ByteArray) (p : Nat) : Nat := (Utf8.decode s p).2
def bad (s : ByteArray) (p : Nat) : Bool := decide (Utf8.decode s p = (65533, 1))
def ch (s : ByteArray) (p : Nat) : Int := if bad s p then -1 else (Utf8.decode s p).1

/-- A place's byte. -/
def bt (s : ByteArray) (i : Nat) : Nat := (s.data.toList.getD i 0).toNat
theorem bt_lt (s : ByteArray) (i : Nat) : bt s i < 256 := UInt8.toNat_lt _
theorem size_list (s : ByteArray) : s.data.toList.length = s.size := (Lib.size_eq s).symm
theorem dec_eq (s : ByteArray) (p : Nat) : Utf8.decode s p = Lib.decodeN (s.size - p) (bt s p) (bt s (p + 1)) (bt s (p + 2)) (bt s (p + 3)) := by
  rw [Lib.decode_N, size_list]; rfl
theorem bt_out (s : ByteArray) (i : Nat) (h : s.size ≤ i) : bt s i = 0 := by
  have : s.data.toList[i]? = none := List.getElem?_eq_none (by rw [size_list]; exact h)
  simp [bt, List.getD_eq_getElem?_getD, this]
theorem wd_pos (s : ByteArray) (p : Nat) : 1 ≤ wd s p := Lib.width_pos s p
theorem dec_le (s : ByteArray) (p : Nat) : (Utf8.decode s p).1 ≤ 1114111 := Lib.rune_le s p

/-- What the decoding tells, by its bytes. -/
theorem decN_cases (n b0 b1 b2 b3 : Nat) : Lib.decodeN n b0 b1 b2 b3 = (65533, 1) ∨ (b0 < 128 ∧ Lib.decodeN n b0 b1 b2 b3 = (b0, 1)) ∨
    (1 < n ∧ b0 / 32 = 6 ∧ b1 / 64 = 2 ∧ 128 ≤ b0 % 32 * 64 + b1 % 64 ∧ Lib.decodeN n b0 b1 b2 b3 = (b0 % 32 * 64 + b1 % 64, 2)) ∨
    (2 < n ∧ b0 / 16 = 14 ∧ b1 / 64 = 2 ∧ b2 / 64 = 2 ∧ 2048 ≤ b0 % 16 * 4096 + b1 % 64 * 64 + b2 % 64 ∧ (b0 % 16 * 4096 + b1 % 64 * 64 + b2 % 64 < 55296 ∨ 57344 ≤ b0 % 16 * 4096 + b1 % 64 * 64 + b2 % 64) ∧ Lib.decodeN n b0 b1 b2 b3 = (b0 % 16 * 4096 + b1 % 64 * 64 + b2 % 64, 3)) ∨
    (3 < n ∧ b0 / 8 = 30 ∧ b1 / 64 = 2 ∧ b2 / 64 = 2 ∧ b3 / 64 = 2 ∧ 65536 ≤ b0 % 8 * 262144 + b1 % 64 * 4096 + b2 % 64 * 64 + b3 % 64 ∧ b0 % 8 * 262144 + b1 % 64 * 4096 + b2 % 64 * 64 + b3 % 64 ≤ 1114111 ∧ Lib.decodeN n b0 b1 b2 b3 = (b0 % 8 * 262144 + b1 % 64 * 4096 + b2 % 64 * 64 + b3 % 64, 4)) := by
  unfold Lib.decodeN
  by_cases h0 : b0 < 128
  · rw [if_pos h0]; exact .inr (.inl ⟨h0, rfl⟩)
  rw [if_neg h0]
  split
  · rename_i h
    split
    · rename_i g
      exact .inr (.inr (.inl ⟨h.2.1, h.1, h.2.2, g, rfl⟩))
    · exact .inl rfl
  split
  · rename_i h
    split
    · rename_i g
      exact .inr (.inr (.inr (.inl ⟨h.2.2.1, h.1, h.2.1.2, h.2.2.2, g.1, by omega, rfl⟩)))
    · exact .inl rfl
  split
  · rename_i h
    split
    · rename_i g
      exact .inr (.inr (.inr (.inr ⟨h.2.2.2.1, h.1, h.2.1.2, h.2.2.1.2, h.2.2.2.2, g.1, by omega, rfl⟩)))
    · exact .inl rfl
  exact .inl rfl

theorem wd_le (s : ByteArray) (p : Nat) (h : p < s.size) : wd s p ≤ 4 ∧ p + wd s p ≤ s.size := by
  unfold wd
  rw [dec_eq]
  rcases decN_cases (s.size - p) (bt s p) (bt s (p + 1)) (bt s (p + 2)) (bt s (p + 3)) with e | ⟨_, e⟩ | ⟨_, _, _, _, e⟩ | ⟨_, _, _, _, _, _, e⟩ | ⟨_, _, _, _, _, _, _, e⟩
  all_goals (rw [e]; simp only; omega)
theorem ch_bad {s : ByteArray} {p : Nat} (h : bad s p = true) : ch s p = -1 ∧ wd s p = 1 ∧ (Utf8.decode s p).1 = 65533 := by
  have e : Utf8.decode s p = (65533, 1) := by simpa [bad] using h
  simp [ch, h, wd, e]
theorem ch_good {s : ByteArray} {p : Nat} (h : bad s p = false) : ch s p = (Utf8.decode s p).1 := by simp [ch, h]
theorem ch_neg {s : ByteArray} {p : Nat} : ch s p < 0 ↔ bad s p = true := by
  unfold ch
  split
  · rename_i h; simp [h]
  · rename_i h
    have := Int.natCast_nonneg (Utf8.decode s p).1
    simp [h]

/-- The bytes of U+FFFD tell it from a byte that is no character. -/
theorem prefix3 (l : List UInt8) (a b c : UInt8) : Lib.hasPrefix l [a, b, c] = (decide (2 < l.length) && l.getD 0 0 == a && l.getD 1 0 == b && l.getD 2 0 == c) := by
  unfold Lib.hasPrefix
  match l with
  | [] => simp [List.isPrefixOf]
  | [x] => simp [List.isPrefixOf]
  | [x, y] => simp [List.isPrefixOf]
  | x :: y :: z :: t =>
    rw [Bool.eq_iff_iff]
    simp [List.isPrefixOf]
    grind
theorem ext_list (s : ByteArray) (p : Nat) : (s.extract p s.size).data.toList = s.data.toList.drop p := by
  rw [ByteArray.data_extract, Array.toList_extract, List.extract_eq_take_drop, List.take_of_length_le (by rw [List.length_drop, size_list]; omega)]
theorem bad_iff (s : ByteArray) (p : Nat) (h : p < s.size) (hr : (Utf8.decode s p).1 = 65533) : Lib.hasPrefix (s.data.toList.drop p) [239, 191, 189] = !bad s p := by
  rw [prefix3]
  have g0 : (s.data.toList.drop p).getD 0 0 = s.data.toList.getD p 0 := by simp [List.getD_eq_getElem?_getD]
  have g1 : (s.data.toList.drop p).getD 1 0 = s.data.toList.getD (p + 1) 0 := by simp [List.getD_eq_getElem?_getD]
  have g2 : (s.data.toList.drop p).getD 2 0 = s.data.toList.getD (p + 2) 0 := by simp [List.getD_eq_getElem?_getD]
  rw [g0, g1, g2]
  have toN : ∀ (i : Nat) (k : UInt8), (s.data.toList.getD i 0 == k) = decide (bt s i = k.toNat) := fun i k => by
    unfold bt
    rw [Bool.eq_iff_iff]
    simp [UInt8.toNat_inj]
  rw [toN, toN, toN]
  have hl : (s.data.toList.drop p).length = s.size - p := by rw [List.length_drop, size_list]
  rw [hl]
  have e := dec_eq s p
  rw [e] at hr
  unfold bad
  rw [e]
  have q0 := bt_lt s p
  have q1 := bt_lt s (p + 1)
  have q2 := bt_lt s (p + 2)
  have q3 := bt_lt s (p + 3)
  rw [Bool.eq_iff_iff]
  simp only [Bool.and_eq_true, decide_eq_true_eq, Bool.not_eq_true', decide_eq_false_iff_not]
  show (((2 < s.size - p ∧ bt s p = 239) ∧ bt s (p + 1) = 191) ∧ bt s (p + 2) = 189) ↔ _
  rcases decN_cases (s.size - p) (bt s p) (bt s (p + 1)) (bt s (p + 2)) (bt s (p + 3)) with k | ⟨_, k⟩ | ⟨_, _, _, _, k⟩ | ⟨_, _, _, _, _, _, k⟩ | ⟨_, _, _, _, _, _, _, k⟩
  · rw [k]
    simp only [not_true, iff_false]
    rintro ⟨⟨⟨h1, h2⟩, h3⟩, h4⟩
    rw [h2, h3, h4] at k
    unfold Lib.decodeN at k
    simp at k
    omega
  · rw [k] at hr ⊢
    simp only at hr
    omega
  · rw [k] at hr ⊢
    simp only at hr
    omega
  · rw [k] at hr ⊢
    simp only at hr
    simp
    omega
  · rw [k] at hr ⊢
    simp only at hr
    omega

/-- The units from a place on. -/
def uFrom (s : ByteArray) : Nat → Nat → List (Nat × Int)
  | 0, _ => []
  | f + 1, p => if p < s.size then (p, ch s p) :: uFrom s f (p + wd s p) else []
def us (s : ByteArray) : List (Nat × Int) := uFrom s s.size 0
theorem uFrom_end (s : ByteArray) (f p : Nat) (h : ¬ p < s.size) : uFrom s f p = [] := by cases f <;> simp [uFrom, h]
theorem uFrom_more (s : ByteArray) (f p : Nat) (h : p < s.size) : uFrom s (f + 1) p = (p, ch s p) :: uFrom s f (p + wd s p) := by simp [uFrom, h]
theorem uFrom_length (s : ByteArray) : ∀ f p, (uFrom s f p).length ≤ s.size - p
  | 0, _ => by simp [uFrom]
  | f + 1, p => by
    unfold uFrom
    split
    · have := uFrom_length s f (p + wd s p)
      have := wd_pos s p
      simp; omega
    · simp
theorem us_length (s : ByteArray) : (us s).length ≤ s.size := by have := uFrom_length s s.size 0; unfold us; omega
end Go.Proofs.Ytlodjinejeajcaa
namespace Go.Proofs.Ytlodjinejeajcaa
open Go Go.RowKit

abbrev Tabs (w : World) : Prop := Lib.Utf8Tabs 0 1 w
theorem cell_block {w : World} {b o : Nat} {v : Value} (h : w.cell? ⟨b, o, none⟩ = some v) : b < w.heap.size := by
  rcases Nat.lt_or_ge b w.heap.size with g | g
  · exact g
  · have : w.heap[b]? = none := Array.getElem?_eq_none g
    simp [World.cell?, this] at h
theorem Tabs.blocks {w : World} (h : Tabs w) : 0 < w.heap.size ∧ 1 < w.heap.size := ⟨cell_block (h.1 0 (by omega)), cell_block (h.2 0 (by omega)).1⟩
theorem Tabs.to {w w' : World} (h : Tabs w) (h1 : w'.heap[0]? = w.heap[0]?) (h2 : w'.heap[1]? = w.heap[1]?) : Tabs w' := by
  refine ⟨fun c hc => ?_, fun i hi => ?_⟩
  · have := h.1 c hc
    simpa [World.cell?, h1] using this
  · have := h.2 i hi
    simpa [World.cell?, h2] using this
/-- What the program's own variables hold. -/
def Glb (w : World) : Prop := Tabs w ∧ ∃ m, w.cell? ⟨2, 0, none⟩ = some (.int .i64 m)
theorem Glb.size {w : World} (h : Glb w) : 2 < w.heap.size := cell_block h.2.choose_spec
theorem Glb.to {w w' : World} (h : Glb w) (h0 : w'.heap[0]? = w.heap[0]?) (h1 : w'.heap[1]? = w.heap[1]?) (h2 : w'.heap[2]? = w.heap[2]?) : Glb w' := by
  obtain ⟨h3, m, h4⟩ := h
  refine ⟨h3.to h0 h1, m, ?_⟩
  simpa [World.cell?, h2] using h4
theorem Glb.below {n : Nat} {w w' : World} (h : Glb w) (hb : Below n w w') (hn : 2 < n) : Glb w' := h.to (hb.block 0 (by omega)) (hb.block 1 (by omega)) (hb.block 2 hn)
theorem Glb.kept {w w' : World} (h : Glb w) (hb : Below w.heap.size w w') : Glb w' := h.below hb h.size
theorem Glb.fr {S : Nat → Prop} {w w' : World} (h : Glb w) (hb : Fr S w w') (hn : ∀ k, S k → 2 < k) : Glb w' := by
  have := h.size
  exact h.to (hb.block 0 (by omega) fun q => by have := hn 0 q; omega) (hb.block 1 (by omega) fun q => by have := hn 1 q; omega) (hb.block 2 (by omega) fun q => by have := hn 2 q; omega)

set_option maxHeartbeats 4000000 in
set_option maxRecDepth 1000000 in
theorem broken_c (s : ByteArray) (p : Nat) (w : World) (hp : p < s.size) :
    Calls Try.prog 68 #[.string s, .int .i64 (p : Int), .int .i32 ((Utf8.decode s p).1 : Int)] w fun e w' => e = .returned (.bool (bad s p)) ∧ w' = w := by
  obtain ⟨r, hr⟩ : ∃ r, (Utf8.decode s p).1 = r := ⟨_, rfl⟩
  rw [hr]
  have h0 : (0 : Int) ≤ (p : Int) := by omega
  have h1 : (p : Int) ≤ (s.size : Int) := by omega
  have h2 : ¬ s.size < p := by omega
  by_cases h : r = 65533
  · subst h
    have hb := bad_iff s p hp hr
    rw [← ext_list] at hb
    clear hr
    go_enter Try.func68, Try.ntmps68
    go_wp2_with (go_at_call 78; refine (Try.strings_HasPrefix _ _ _).mono ?_; rintro e w' ⟨rfl, rfl⟩)
    all_goals (go_ret; refine ⟨?_, rfl⟩)
    all_goals simp_all
  · have hb : bad s p = false := by simp [bad]; intro q; rw [q] at hr; exact h hr.symm
    have hz : ((r : Int) == 65533) = false := by simp; omega
    clear hr
    go_enter Try.func68, Try.ntmps68
    go_wp2
    go_ret
    exact ⟨by rw [hb]; rfl, rfl⟩
end Go.Proofs.Ytlodjinejeajcaa
namespace Go.Proofs.Ytlodjinejeajcaa
open Go Go.RowKit

/-- The first unit that is no character. -/
def validOf (n : Nat) : List (Nat × Int) → Nat
  | [] => n
  | (p, c) :: t => if c < 0 then p else validOf n t

theorem iter_below {w wr : World} {k n : Nat} {s : ByteArray} (h : Below n w wr) (hk : n ≤ k) (p : Nat) : Below n w (wr.iterAt k s p) := Lib.below_iterAt h hk s p

/-- How many units begin ahead of a place. -/
def colOf (at' : Int) : List (Nat × Int) → Nat
  | [] => 0
  | (p, _) :: t => if at' ≤ (p : Int) then 0 else colOf at' t + 1
theorem colOf_le (x : Int) (l : List (Nat × Int)) : colOf x l ≤ l.length := by
  induction l with
  | nil => simp [colOf]
  | cons a t ih =>
    obtain ⟨p, c⟩ := a
    rw [colOf]
    split <;> simp <;> omega
end Go.Proofs.Ytlodjinejeajcaa
