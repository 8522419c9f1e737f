/-
  Parts of the proof.
-/
import Derived.Test.YtbghleihgcenmaaC18
set_option linter.unusedSimpArgs false
namespace Go.Proofs.Ytbghleihgcenmaa
open Go Go.RowKit
attribute [local go_sem] Oper.semAt_some ext_cell
def LgS (P : List Ins) (l : List UInt8) (a : Nat) (n : Int) (ok : Bool) : Prop := (ok = false ∧ n = 0 ∧ ∀ e, ¬ Mt P l a e) ∨ (ok = true ∧ ∃ e : Nat, n = e ∧ Mt P l a e ∧ ∀ e', Mt P l a e' → e' ≤ e)
theorem lgs_of {P : List Ins} {l : List UInt8} {a : Nat} {fd : Bool} {F T : Int} (h : FinM P l a a fd F T) : LgS P l a T fd := by
  cases fd with
  | false => exact .inl ⟨rfl, (h.z rfl).2, fun e => h.no rfl a e (Nat.le_refl _) (Nat.le_refl _)⟩
  | true =>
    obtain ⟨b, e, q1, q2, q3, q4, q5, q6⟩ := h.yes rfl
    obtain rfl : b = a := by omega
    exact .inr ⟨rfl, e, q2, q5, fun e' h' => (q6 b e' (Nat.le_refl _) (Nat.le_refl _) h').2 rfl⟩
theorem pli_of {w w3 : World} {p : Pg} {s : ByteArray} {n rb : Nat} {A B : Cr4} {la lb : List Int} (h : PgI w p) (gp : GP p.L) (B3 : Below w.heap.size w w3) (hR : RunP p s n w3 rb A B la lb) (hn : w.heap.size ≤ n) : PlI w3 rb p s A B la lb := by
  refine ⟨hR.r, hR.a, hR.b, gp, h.li.kept B3, hR.ab, hR.nr.2.1, hR.nr.2.2, fun g o hq => ?_⟩
  obtain ⟨i0, hi⟩ : ∃ i0, p.L[0]? = some i0 := ⟨_, List.getElem?_eq_getElem gp.pos⟩
  obtain ⟨g', o', h1, h2, _⟩ := h.li 0 i0 hi
  rw [hq] at h1
  injection h1 with h1
  injection h1 with h1
  subst h1
  have := B3.size
  have := hR.nr.1
  exact ⟨by omega, by omega, fun q => by have := hR.na g q; omega, fun q => by have := hR.nb g q; omega⟩
set_option maxRecDepth 100000 in
set_option maxHeartbeats 4000000 in
theorem longest_bad {w : World} {p : Pg} (h : PgI w p) (s : ByteArray) (pl : Int) (hz : wrM p s.size pl ≠ 0) : Calls Try.prog 8 #[.agg #[.slice p.q p.L.length p.c, .int .i64 p.g, .int .i64 p.k, .bool p.f], .string s, .int .i64 pl] w fun e w' => e = .returned (.tuple #[.int .i64 0, .bool false, .int .i64 0, .int .i64 (wrM p s.size pl)]) ∧ Below w.heap.size w w' := by
  have B1 : Hid (Below w.heap.size w (w.alloc (.cells #[.slice p.q p.L.length p.c, .int .i64 p.g, .int .i64 p.k, .bool p.f] 24))) := (Below.refl _ _).alloc (Nat.le_refl _) _
  have X1 : Hid ((w.alloc (.cells #[.slice p.q p.L.length p.c, .int .i64 p.g, .int .i64 p.k, .bool p.f] 24)).heap[w.heap.size]? = some (.cells #[.slice p.q p.L.length p.c, .int .i64 p.g, .int .i64 p.k, .bool p.f] 24 (0, 0))) := alloc_new w _
  have HW := hide (wrong_c (h.kept B1.out) s pl)
  obtain ⟨v, hv⟩ : ∃ v, wrM p s.size pl = v := ⟨_, rfl⟩
  rw [hv] at HW hz ⊢
  have z0 : (v != 0) = true := by simp [hz]
  clear hv hz h
  go_enter Try.func8, Try.ntmps8
  go_upto_region 1 with fail
  generalize (w.alloc (.cells #[.slice p.q p.L.length p.c, .int .i64 p.g, .int .i64 p.k, .bool p.f] 24)) = w1 at B1 X1 HW ⊢
  have p0 := cell_row X1.out (i := 0) rfl
  have p1 := cell_row X1.out (i := 1) rfl
  have p2 := cell_row X1.out (i := 2) rfl
  have p3 := cell_row X1.out (i := 3) rfl
  go_wp2_with (go_at_call 12; (with_reducible refine (HW.out).mono ?_); rintro e w2 ⟨rfl, h2⟩; have B2 := hide (chain B1.out h2 (Nat.le_refl _)); clear h2)
  refine bodyPost_ret (v := .tuple #[.int .i64 0, .bool false, .int .i64 0, .int .i64 v]) (by simp [results, Try.results8, go_sem]) rfl ?_
  exact ⟨rfl, B2.out⟩
set_option maxRecDepth 100000 in
set_option maxHeartbeats 4000000 in
theorem find_bad {w : World} {p : Pg} (h : PgI w p) (s : ByteArray) (pl : Int) (hz : wrM p s.size pl ≠ 0) : Calls Try.prog 9 #[.agg #[.slice p.q p.L.length p.c, .int .i64 p.g, .int .i64 p.k, .bool p.f], .string s, .int .i64 pl] w fun e w' => e = .returned (.tuple #[.agg #[.int .i64 0, .int .i64 0], .bool false, .int .i64 0, .int .i64 (wrM p s.size pl)]) ∧ Below w.heap.size w w' := by
  have B1 : Hid (Below w.heap.size w ((w.alloc (.cells #[.slice p.q p.L.length p.c, .int .i64 p.g, .int .i64 p.k, .bool p.f] 24)).alloc (.cells #[.int .i64 0, .int .i64 0] 30))) := ((Below.refl _ _).alloc (Nat.le_refl _) _).alloc (by simp) _
  have X1 : Hid (((w.alloc (.cells #[.slice p.q p.L.length p.c, .int .i64 p.g, .int .i64 p.k, .bool p.f] 24)).alloc (.cells #[.int .i64 0, .int .i64 0] 30)).heap[w.heap.size]? = some (.cells #[.slice p.q p.L.length p.c, .int .i64 p.g, .int .i64 p.k, .bool p.f] 24 (0, 0))) := (Below.heap_alloc _ _ _ (by simp)).trans (alloc_new w _)
  have Y1 : Hid (((w.alloc (.cells #[.slice p.q p.L.length p.c, .int .i64 p.g, .int .i64 p.k, .bool p.f] 24)).alloc (.cells #[.int .i64 0, .int .i64 0] 30)).heap[w.heap.size + 1]? = some (.cells #[.int .i64 0, .int .i64 0] 30 (0, 0))) := (by
    have := alloc_new (w.alloc (.cells #[.slice p.q p.L.length p.c, .int .i64 p.g, .int .i64 p.k, .bool p.f] 24)) (.cells #[.int .i64 0, .int .i64 0] 30)
    rwa [World.size_alloc] at this)
  have HW := hide (wrong_c (h.kept B1.out) s pl)
  obtain ⟨v, hv⟩ : ∃ v, wrM p s.size pl = v := ⟨_, rfl⟩
  rw [hv] at HW hz ⊢
  have z0 : (v != 0) = true := by simp [hz]
  clear hv hz h
  go_enter Try.func9, Try.ntmps9
  go_upto_region 1 with fail
  generalize ((w.alloc (.cells #[.slice p.q p.L.length p.c, .int .i64 p.g, .int .i64 p.k, .bool p.f] 24)).alloc (.cells #[.int .i64 0, .int .i64 0] 30)) = w1 at B1 X1 Y1 HW ⊢
  have p0 := cell_row X1.out (i := 0) rfl
  have p1 := cell_row X1.out (i := 1) rfl
  have p2 := cell_row X1.out (i := 2) rfl
  have p3 := cell_row X1.out (i := 3) rfl
  go_upto_region 3 with (go_at_call 12; (with_reducible refine (HW.out).mono ?_); rintro e w2 ⟨rfl, h2⟩; have B2 := hide (chain B1.out h2 (Nat.le_refl _)); have Y2 := hide ((h2.block _ (lt_of_heap Y1.out)).trans Y1.out); clear h2)
  have y0 := cell_row Y2.out (i := 0) rfl
  have y1 := cell_row Y2.out (i := 1) rfl
  have g0 := frz_row Y2.out 0
  have g1 := frz_row Y2.out 1
  have hz := heap_set_in (heap_set_in Y2.out 0 (.int .i64 0)) 1 (.int .i64 0)
  have k0 := cell_row hz (i := 0) rfl
  have k1 := cell_row hz (i := 1) rfl
  clear hz p0 p1 p2 p3
  go_wp2
  refine bodyPost_ret (v := .tuple #[.agg #[.int .i64 0, .int .i64 0], .bool false, .int .i64 0, .int .i64 v]) (by simp [results, Try.results9, go_sem, k0, k1]) rfl ?_
  exact ⟨rfl, (B2.out.setCell (p := ⟨w.heap.size + 1, 0, none⟩) (by simp) _).setCell (p := ⟨w.heap.size + 1, 1, none⟩) (by simp) _⟩
set_option maxRecDepth 100000 in
set_option maxHeartbeats 4000000 in
theorem longest_ok {w : World} {p : Pg} (h : PgI w p) (s : ByteArray) (a : Nat) (hz : wrM p s.size (a : Int) = 0) (hsz : s.size ≤ 4611686018427387904) : Calls Try.prog 8 #[.agg #[.slice p.q p.L.length p.c, .int .i64 p.g, .int .i64 p.k, .bool p.f], .string s, .int .i64 (a : Int)] w fun e w' => (∃ n ok st, e = .returned (.tuple #[.int .i64 n, .bool ok, .int .i64 st, .int .i64 0]) ∧ LgS p.L (sL s) a n ok) ∧ Below w.heap.size w w' := by
  have B1 : Hid (Below w.heap.size w (w.alloc (.cells #[.slice p.q p.L.length p.c, .int .i64 p.g, .int .i64 p.k, .bool p.f] 24))) := (Below.refl _ _).alloc (Nat.le_refl _) _
  have X1 : Hid ((w.alloc (.cells #[.slice p.q p.L.length p.c, .int .i64 p.g, .int .i64 p.k, .bool p.f] 24)).heap[w.heap.size]? = some (.cells #[.slice p.q p.L.length p.c, .int .i64 p.g, .int .i64 p.k, .bool p.f] 24 (0, 0))) := alloc_new w _
  have HW := hide (wrong_c (h.kept B1.out) s (a : Int))
  rw [hz] at HW
  obtain ⟨hr, _, _, hal⟩ := wrM_ok hz
  have GG := hide (gp_of hr)
  have hal : a ≤ s.size := by omega
  have HH := hide h
  have hn := GG.out.len
  clear h hz hr
  go_enter Try.func8, Try.ntmps8
  go_upto_region 1 with fail
  generalize (w.alloc (.cells #[.slice p.q p.L.length p.c, .int .i64 p.g, .int .i64 p.k, .bool p.f] 24)) = w1 at B1 X1 HW ⊢
  have p0 := cell_row X1.out (i := 0) rfl
  have p1 := cell_row X1.out (i := 1) rfl
  have p2 := cell_row X1.out (i := 2) rfl
  have p3 := cell_row X1.out (i := 3) rfl
  go_upto_region 4 with (go_at_call 12; (with_reducible refine (HW.out).mono ?_); rintro e w2 ⟨rfl, h2⟩; have B2 := hide (chain B1.out h2 (Nat.le_refl _)); have X2 := hide ((h2.block _ (lt_of_heap X1.out)).trans X1.out); clear h2)
  clear p0 p1 p2 p3
  have p0 := cell_row X2.out (i := 0) rfl
  have p1 := cell_row X2.out (i := 1) rfl
  have p2 := cell_row X2.out (i := 2) rfl
  have p3 := cell_row X2.out (i := 3) rfl
  go_upto_region 5 with (go_at_call 13; (with_reducible refine (newRun_c hn s).mono ?_); rintro e w3 ⟨rb, A, B, la, lb, rfl, h31, h32⟩; have R3 := hide h31; have B3 := hide (chain B2.out h32 (Nat.le_refl _)); have S3 := hide h32.size; clear h31 h32)
  clear p0 p1 p2 p3
  have PC := hide (play_c (first := a) (last := a) (pli_of HH.out GG.out B3.out R3.out B2.out.size) (Nat.le_refl _) hal hsz)
  go_upto_region 6 with (go_at_call 14; (with_reducible refine (PC.out).mono ?_); rintro e w4 ⟨fd, F, T, rfl, h41, h42, h43⟩; have F4 := hide h41; have R4 := hide h42; have B4 := hide (B3.out.trans (h43.below B3.out.size (fun k hk => by
    rcases hk with hk | hk | hk
    · exact Nat.le_trans B2.out.size (R3.out.na k hk)
    · exact Nat.le_trans B2.out.size (R3.out.nb k hk)
    · have := R3.out.nr.1; have := B2.out.size; omega))); clear h41 h42 h43)
  obtain ⟨A4, B4', st, hrun⟩ := R4.out
  have BA : Below w4.heap.size w4 (w4.alloc (.cells #[.int .i64 F, .int .i64 T] 30)) := (Below.refl _ _).alloc (Nat.le_refl _) _
  have R5 := hide ((BA.block _ (lt_of_heap hrun)).trans hrun)
  have P5 : Hid ((w4.alloc (.cells #[.int .i64 F, .int .i64 T] 30)).heap[w4.heap.size]? = some (.cells #[.int .i64 F, .int .i64 T] 30 (0, 0))) := alloc_new w4 _
  have B5 := hide (chain B4.out BA (Nat.le_refl _))
  clear BA hrun R4
  generalize (w4.alloc (.cells #[.int .i64 F, .int .i64 T] 30)) = V at R5 P5 B5 ⊢
  have lr := lt_of_heap R5.out
  have lp := lt_of_heap P5.out
  have q1 : V.cell? ⟨w4.heap.size, 1, none⟩ = some (.int .i64 T) := cell_row P5.out (i := 1) rfl
  have q6 : V.cell? ⟨rb, 6, none⟩ = some (.int .i64 st) := cell_row R5.out (i := 6) rfl
  refine wp_region_ext (by kernel_rfl) (by kernel_rfl) ?_
  repeat (go_big_quiet_step (first | exact rfl))
  refine wpQuiet_nil ?_
  rintro _ ⟨x, rfl⟩
  go_wp2
  refine bodyPost_ret (v := .tuple #[.int .i64 T, .bool fd, .int .i64 st, .int .i64 0]) (by simp [results, Try.results8, go_sem]) rfl ?_
  exact ⟨⟨_, _, _, rfl, lgs_of F4.out⟩, B5.out.trans (x.2.mono B5.out.size)⟩
set_option maxRecDepth 100000 in
set_option maxHeartbeats 4000000 in
theorem find_ok {w : World} {p : Pg} (h : PgI w p) (s : ByteArray) (a : Nat) (hz : wrM p s.size (a : Int) = 0) (hsz : s.size ≤ 4611686018427387904) : Calls Try.prog 9 #[.agg #[.slice p.q p.L.length p.c, .int .i64 p.g, .int .i64 p.k, .bool p.f], .string s, .int .i64 (a : Int)] w fun e w' => (∃ F T ok st, e = .returned (.tuple #[.agg #[.int .i64 F, .int .i64 T], .bool ok, .int .i64 st, .int .i64 0]) ∧ FinM p.L (sL s) a s.size ok F T) ∧ Below w.heap.size w w' := by
  have B1 : Hid (Below w.heap.size w ((w.alloc (.cells #[.slice p.q p.L.length p.c, .int .i64 p.g, .int .i64 p.k, .bool p.f] 24)).alloc (.cells #[.int .i64 0, .int .i64 0] 30))) := ((Below.refl _ _).alloc (Nat.le_refl _) _).alloc (by simp) _
  have X1 : Hid (((w.alloc (.cells #[.slice p.q p.L.length p.c, .int .i64 p.g, .int .i64 p.k, .bool p.f] 24)).alloc (.cells #[.int .i64 0, .int .i64 0] 30)).heap[w.heap.size]? = some (.cells #[.slice p.q p.L.length p.c, .int .i64 p.g, .int .i64 p.k, .bool p.f] 24 (0, 0))) := (Below.heap_alloc _ _ _ (by simp)).trans (alloc_new w _)
  have Y1 : Hid (((w.alloc (.cells #[.slice p.q p.L.length p.c, .int .i64 p.g, .int .i64 p.k, .bool p.f] 24)).alloc (.cells #[.int .i64 0, .int .i64 0] 30)).heap[w.heap.size + 1]? = some (.cells #[.int .i64 0, .int .i64 0] 30 (0, 0))) := (by
    have := alloc_new (w.alloc (.cells #[.slice p.q p.L.length p.c, .int .i64 p.g, .int .i64 p.k, .bool p.f] 24)) (.cells #[.int .i64 0, .int .i64 0] 30)
    rwa [World.size_alloc] at this)
  have HW := hide (wrong_c (h.kept B1.out) s (a : Int))
  rw [hz] at HW
  obtain ⟨hr, _, _, hal⟩ := wrM_ok hz
  have GG := hide (gp_of hr)
  have hal : a ≤ s.size := by omega
  have HH := hide h
  have hn := GG.out.len
  clear h hz hr
  go_enter Try.func9, Try.ntmps9
  go_upto_region 1 with fail
  have sz1 : ((w.alloc (.cells #[.slice p.q p.L.length p.c, .int .i64 p.g, .int .i64 p.k, .bool p.f] 24)).alloc (.cells #[.int .i64 0, .int .i64 0] 30)).heap.size = w.heap.size + 1 + 1 := by simp
  generalize ((w.alloc (.cells #[.slice p.q p.L.length p.c, .int .i64 p.g, .int .i64 p.k, .bool p.f] 24)).alloc (.cells #[.int .i64 0, .int .i64 0] 30)) = w1 at B1 X1 Y1 HW sz1 ⊢
  have SZ1 := hide sz1
  clear sz1
  have p0 := cell_row X1.out (i := 0) rfl
  have p1 := cell_row X1.out (i := 1) rfl
  have p2 := cell_row X1.out (i := 2) rfl
  have p3 := cell_row X1.out (i := 3) rfl
  go_upto_region 4 with (go_at_call 12; (with_reducible refine (HW.out).mono ?_); rintro e w2 ⟨rfl, h2⟩; have B2 := hide (chain B1.out h2 (Nat.le_refl _)); have X2 := hide ((h2.block _ (lt_of_heap X1.out)).trans X1.out); have Y2 := hide ((h2.block _ (lt_of_heap Y1.out)).trans Y1.out); clear h2)
  clear p0 p1 p2 p3
  have p0 := cell_row X2.out (i := 0) rfl
  have p1 := cell_row X2.out (i := 1) rfl
  have p2 := cell_row X2.out (i := 2) rfl
  have p3 := cell_row X2.out (i := 3) rfl
  go_upto_region 5 with (go_at_call 13; (with_reducible refine (newRun_c hn s).mono ?_); rintro e w3 ⟨rb, A, B, la, lb, rfl, h31, h32⟩; have R3 := hide h31; have B3 := hide (chain B2.out h32 (Nat.le_refl _)); have Y3 := hide ((h32.block _ (lt_of_heap Y2.out)).trans Y2.out); clear h31 h32)
  clear p0 p1 p2 p3
  have PC := hide (play_c (first := a) (last := s.size) (pli_of HH.out GG.out B3.out R3.out B2.out.size) hal (Nat.le_refl _) hsz)
  have ly : Hid (w.heap.size + 1 < w2.heap.size) := lt_of_heap Y2.out
  go_upto_region 6 with (go_at_call 14; (with_reducible refine (PC.out).mono ?_); rintro e w4 ⟨fd, F, T, rfl, h41, h42, h43⟩; have F4 := hide h41; have R4 := hide h42; have B4 := hide (B3.out.trans (h43.below B3.out.size (fun k hk => by
    rcases hk with hk | hk | hk
    · exact Nat.le_trans B2.out.size (R3.out.na k hk)
    · exact Nat.le_trans B2.out.size (R3.out.nb k hk)
    · have := R3.out.nr.1; have := B2.out.size; omega))); have Y4 := hide ((h43.block _ (lt_of_heap Y3.out) (fun hk => by
    have := ly.out
    rcases hk with hk | hk | hk
    · have := R3.out.na _ hk; omega
    · have := R3.out.nb _ hk; omega
    · have := R3.out.nr.1; omega)).trans Y3.out); clear h41 h42 h43)
  obtain ⟨A4, B4', st, hrun⟩ := R4.out
  have BA : Below w4.heap.size w4 (w4.alloc (.cells #[.int .i64 F, .int .i64 T] 30)) := (Below.refl _ _).alloc (Nat.le_refl _) _
  have R5 := hide ((BA.block _ (lt_of_heap hrun)).trans hrun)
  have P5 : Hid ((w4.alloc (.cells #[.int .i64 F, .int .i64 T] 30)).heap[w4.heap.size]? = some (.cells #[.int .i64 F, .int .i64 T] 30 (0, 0))) := alloc_new w4 _
  have Y5 := hide ((BA.block _ (lt_of_heap Y4.out)).trans Y4.out)
  have B5 := hide (chain B4.out BA (Nat.le_refl _)).drew
  have ly4 : Hid (w.heap.size + 1 < w4.heap.size) := lt_of_heap Y4.out
  clear BA hrun R4
  generalize (w4.alloc (.cells #[.int .i64 F, .int .i64 T] 30)) = V at R5 P5 B5 Y5 ⊢
  have nrp : Hid (rb ≠ w.heap.size + 1) := hide (by have := R3.out.nr.1; have := ly.out; omega)
  have SK0 : Hid (V.drew.cell? ⟨w4.heap.size, 0, none⟩ = some (.int .i64 F) ∧ V.drew.cell? ⟨w4.heap.size, 1, none⟩ = some (.int .i64 T) ∧ V.drew.cell? ⟨rb, 6, none⟩ = some (.int .i64 st)) := hide ⟨cell_row P5.out (i := 0) rfl, cell_row P5.out (i := 1) rfl, cell_row R5.out (i := 6) rfl⟩
  have YD : Hid (V.drew.heap[w.heap.size + 1]? = some (.cells #[.int .i64 0, .int .i64 0] 30 (0, 0))) := Y5.out
  have SK : Hid (((V.drew.setCell ⟨w.heap.size + 1, 0, none⟩ (.int .i64 F)).setCell ⟨w.heap.size + 1, 1, none⟩ (.int .i64 T)).cell? ⟨w4.heap.size, 0, none⟩ = some (.int .i64 F) ∧ ((V.drew.setCell ⟨w.heap.size + 1, 0, none⟩ (.int .i64 F)).setCell ⟨w.heap.size + 1, 1, none⟩ (.int .i64 T)).cell? ⟨w4.heap.size, 1, none⟩ = some (.int .i64 T) ∧ ((V.drew.setCell ⟨w.heap.size + 1, 0, none⟩ (.int .i64 F)).setCell ⟨w.heap.size + 1, 1, none⟩ (.int .i64 T)).cell? ⟨rb, 6, none⟩ = some (.int .i64 st)) := hide (by
    have hf : Fr (fun k => k = w.heap.size + 1) V.drew ((V.drew.setCell ⟨w.heap.size + 1, 0, none⟩ (.int .i64 F)).setCell ⟨w.heap.size + 1, 1, none⟩ (.int .i64 T)) := ((Fr.refl (fun k => k = w.heap.size + 1) _).setCell (p := ⟨w.heap.size + 1, 0, none⟩) rfl _).setCell (p := ⟨w.heap.size + 1, 1, none⟩) rfl _
    have h1 := (hf.block w4.heap.size (by exact lt_of_heap P5.out) (by have := ly4.out; show ¬ (w4.heap.size = w.heap.size + 1); omega)).trans P5.out
    have h2 := (hf.block rb (by exact lt_of_heap R5.out) nrp.out).trans R5.out
    exact ⟨cell_row h1 (i := 0) rfl, cell_row h1 (i := 1) rfl, cell_row h2 (i := 6) rfl⟩)
  have hz := heap_set_in (heap_set_in YD.out 0 (.int .i64 F)) 1 (.int .i64 T)
  have k0 := cell_row hz (i := 0) rfl
  have k1 := cell_row hz (i := 1) rfl
  have BZ : Hid (Below w.heap.size w ((V.drew.setCell ⟨w.heap.size + 1, 0, none⟩ (.int .i64 F)).setCell ⟨w.heap.size + 1, 1, none⟩ (.int .i64 T))) := hide ((B5.out.setCell (p := ⟨w.heap.size + 1, 0, none⟩) (by simp) _).setCell (p := ⟨w.heap.size + 1, 1, none⟩) (by simp) _)
  clear hz
  refine wp_region_held_drew (S := fun w' => w'.cell? ⟨w4.heap.size, 0, none⟩ = some (.int .i64 F) ∧ w'.cell? ⟨w4.heap.size, 1, none⟩ = some (.int .i64 T) ∧ w'.cell? ⟨rb, 6, none⟩ = some (.int .i64 st)) (by kernel_rfl) SK0.out ?_
  intro hS0
  generalize V.drew = U at SK0 YD SK BZ k0 k1 hS0 ⊢
  have y0 := cell_row YD.out (i := 0) rfl
  have y1 := cell_row YD.out (i := 1) rfl
  have g0 := frz_row YD.out 0
  have g1 := frz_row YD.out 1
  refine wpAnyH_take (i := 0) (oi := _) (v := ?_) rfl (by kernel_rfl) (by kernel_rfl) (by kernel_rfl) (fun _ _ _ h => h) (Or.inl ⟨by rfl, ?_⟩) (by assumption) ?_
  rotate_left
  · intro wz hSw
    obtain ⟨hs0, hs1, hs2⟩ := hSw
    go_simp
    try with_reducible rfl
  dsimp only [Act.put, List.getElem_toArray, List.getElem_cons_zero, List.getElem_cons_succ]
  simp only [List.setIfInBounds_toArray, List.set_cons_zero, List.set_cons_succ]
  refine wpAnyH_take (i := 1) (oi := _) (v := ?_) rfl (by kernel_rfl) (by kernel_rfl) (by kernel_rfl) (fun _ _ _ h => h) (Or.inl ⟨by rfl, ?_⟩) (by assumption) ?_
  rotate_left
  · intro wz hSw
    obtain ⟨hs0, hs1, hs2⟩ := hSw
    go_simp
    try with_reducible rfl
  dsimp only [Act.put, List.getElem_toArray, List.getElem_cons_zero, List.getElem_cons_succ]
  simp only [List.setIfInBounds_toArray, List.set_cons_zero, List.set_cons_succ]
  refine wpAnyH_take (i := 2) (oi := _) (v := ?_) rfl (by kernel_rfl) (by kernel_rfl) (by kernel_rfl) (fun _ _ _ h => h) (Or.inl ⟨by rfl, ?_⟩) (by assumption) ?_
  rotate_left
  · intro wz hSw
    obtain ⟨hs0, hs1, hs2⟩ := hSw
    go_simp
    try with_reducible rfl
  dsimp only [Act.put, List.getElem_toArray, List.getElem_cons_zero, List.getElem_cons_succ]
  simp only [List.setIfInBounds_toArray, List.set_cons_zero, List.set_cons_succ]
  refine wpAnyH_take (i := 3) (oi := _) (v := ?_) rfl (by kernel_rfl) (by kernel_rfl) (by kernel_rfl) (fun _ _ _ h => h) (Or.inl ⟨by rfl, ?_⟩) (by assumption) ?_
  rotate_left
  · intro wz hSw
    obtain ⟨hs0, hs1, hs2⟩ := hSw
    go_simp
    try with_reducible rfl
  dsimp only [Act.put, List.getElem_toArray, List.getElem_cons_zero, List.getElem_cons_succ]
  simp only [List.setIfInBounds_toArray, List.set_cons_zero, List.set_cons_succ]
  refine wpAnyH_take (i := 4) (oi := _) (v := ?_) rfl (by kernel_rfl) (by kernel_rfl) (by kernel_rfl) (fun _ _ _ h => h) (Or.inl ⟨by rfl, ?_⟩) (by assumption) ?_
  rotate_left
  · intro wz hSw
    obtain ⟨hs0, hs1, hs2⟩ := hSw
    go_simp
    try with_reducible rfl
  dsimp only [Act.put, List.getElem_toArray, List.getElem_cons_zero, List.getElem_cons_succ]
  simp only [List.setIfInBounds_toArray, List.set_cons_zero, List.set_cons_succ]
  refine wpAnyH_take (i := 5) (oi := _) (v := ?_) rfl (by kernel_rfl) (by kernel_rfl) (by kernel_rfl) (fun _ _ _ h => h) (Or.inl ⟨by rfl, ?_⟩) (by assumption) ?_
  rotate_left
  · intro wz hSw
    obtain ⟨hs0, hs1, hs2⟩ := hSw
    go_simp
    try with_reducible rfl
  dsimp only [Act.put, List.getElem_toArray, List.getElem_cons_zero, List.getElem_cons_succ]
  simp only [List.setIfInBounds_toArray, List.set_cons_zero, List.set_cons_succ]
  refine wpAnyH_ready (rs := [6]) (by kernel_rfl) (by simp) ?_
  refine AllReadyH.cons rfl (fun K hK => ?_) AllReadyH.nil
  go_simp
  refine hK.out _ _ SK.out (fun hSx => ?_)
  clear hK K hSx
  refine wpAnyH_ready (rs := [7]) (by kernel_rfl) (by simp) ?_
  refine AllReadyH.cons rfl (fun K hK => ?_) AllReadyH.nil
  go_simp
  refine hK.out _ _ SK.out (fun hSx => ?_)
  clear hK K hSx
  refine wpAnyH_ready (rs := [8]) (by kernel_rfl) (by simp) ?_
  refine AllReadyH.cons rfl (fun K hK => ?_) AllReadyH.nil
  go_simp
  refine hK.out _ _ SK.out (fun hSx => ?_)
  clear hK K hSx
  refine wpAnyH_ready (rs := [9]) (by kernel_rfl) (by simp) ?_
  refine AllReadyH.cons rfl (fun K hK => ?_) AllReadyH.nil
  go_simp
  refine hK.out _ _ SK.out (fun hSx => ?_)
  clear hK K hSx
  refine wpAnyH_done (by kernel_rfl) ?_ _
  go_wp2
  refine bodyPost_ret (v := .tuple #[.agg #[.int .i64 F, .int .i64 T], .bool fd, .int .i64 st, .int .i64 0]) (by simp [results, Try.results9, go_sem, k0, k1]) rfl ?_
  exact ⟨⟨_, _, _, _, rfl, F4.out⟩, BZ.out⟩
end Go.Proofs.Ytbghleihgcenmaa
