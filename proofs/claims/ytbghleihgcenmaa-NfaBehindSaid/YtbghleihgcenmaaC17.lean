/-
  Parts of the proof.
-/
import Derived.Test.YtbghleihgcenmaaC16
set_option linter.unusedSimpArgs false
namespace Go.Proofs.Ytbghleihgcenmaa
open Go Go.RowKit
attribute [local go_sem] Oper.semAt_some ext_cell
def fineI (p : Pg) (k : Nat) (i : Ins) : Bool :=
  !(shW i.op == []) && decide (i = usI (shT i.op) i) && (!hsT (shT i.op) 2 || blw i.x p.L.length) && (!hsT (shT i.op) 4 || blw i.y p.L.length) && (!hsT (shT i.op) 8 || blw i.n p.g) && (!hsT (shT i.op) 16 || blw i.n p.k) && (!hsT (shT i.op) 32 || rbd i.mn i.mx) && (!hsT (shT i.op) 64 || decide ((k : Int) + 1 < p.L.length))
def RaP (p : Pg) (k : Nat) (i : Ins) (w : World) (e : Ending) (w' : World) : Prop := e = .returned (.bool (fineI p k i)) ∧ Below w.heap.size w w'
theorem ext_used {t : Int} {i j : Ins} (h : t ∈ trs) (hj : j = usI t i) {w : World} (x : Ext w) : Calls Try.prog 32 #[.int .i64 t, .agg #[.int .i64 i.op, .int .i64 i.x, .int .i64 i.y, .int .i64 i.n, .int .i64 i.mn, .int .i64 i.mx, .int .u64 (z1_wd i.s 0), .int .u64 (z1_wd i.s 1), .int .u64 (z1_wd i.s 2), .int .u64 (z1_wd i.s 3)]] x.val fun e w' => e = .returned (.agg #[.int .i64 j.op, .int .i64 j.x, .int .i64 j.y, .int .i64 j.n, .int .i64 j.mn, .int .i64 j.mx, .int .u64 (z1_wd j.s 0), .int .u64 (z1_wd j.s 1), .int .u64 (z1_wd j.s 2), .int .u64 (z1_wd j.s 3)]) ∧ Below x.val.heap.size x.val w' := (used_c h i x.val).mono fun e w' ⟨j', h1, h2, h3⟩ => by
  subst hj h1
  exact ⟨h2, h3⟩
set_option maxRecDepth 100000 in
set_option maxHeartbeats 8000000 in
theorem rat_1 {w : World} {p : Pg} (h : PgI w p) {k : Nat} {i : Ins} (hi : p.L[k]? = some i) (hk : p.L.length ≤ 40000) (ho : i.op = 1) :
    Calls Try.prog 24 #[.agg #[.slice p.q p.L.length p.c, .int .i64 p.g, .int .i64 p.k, .bool p.f], .int .i64 (k : Int)] w (RaP p k i w) := by
  have B1 : Hid (Below w.heap.size w (w.alloc (.cells #[.slice p.q p.L.length p.c, .int .i64 p.g, .int .i64 p.k, .bool p.f] 24))) := (Below.refl _ _).alloc (Nat.le_refl _) _
  have n1 := alloc_new w (.cells #[.slice p.q p.L.length p.c, .int .i64 p.g, .int .i64 p.k, .bool p.f] 24)
  have p0 : (w.alloc (.cells #[.slice p.q p.L.length p.c, .int .i64 p.g, .int .i64 p.k, .bool p.f] 24)).cell? ⟨w.heap.size, 0, none⟩ = some (.slice p.q p.L.length p.c) := cell_row n1 (i := 0) rfl
  have X1 : Hid ((w.alloc (.cells #[.slice p.q p.L.length p.c, .int .i64 p.g, .int .i64 p.k, .bool p.f] 24)).heap[w.heap.size]? = some (.cells #[.slice p.q p.L.length p.c, .int .i64 p.g, .int .i64 p.k, .bool p.f] 24 (0, 0))) := n1
  obtain ⟨g1, o1, hq1, hl1, c0, c1, c2, c3, c4, c5, c6, c7, c8, c9⟩ := (h.li.kept B1.out).ten hi
  have hlt := (List.getElem?_eq_some_iff.1 hi).1
  have i0 : (k : Int) < (p.L.length : Int) := by omega
  have Q1 := hide hq1
  have HO := hide ho
  clear hq1 n1 ho
  go_enter Try.func24, Try.ntmps24
  go_upto_region 1 with fail
  generalize (w.alloc (.cells #[.slice p.q p.L.length p.c, .int .i64 p.g, .int .i64 p.k, .bool p.f] 24)) = w1 at B1 p0 X1 hl1 c0 c1 c2 c3 c4 c5 c6 c7 c8 c9 ⊢
  rw [Q1.out] at p0
  have hl2 := lt_of_heap X1.out
  go_region
  clear p0 c0 c1 c2 c3 c4 c5 c6 c7 c8 c9 hl1
  have B2 : Hid (Below w.heap.size w (w1.alloc (.cells #[.int .i64 i.op, .int .i64 i.x, .int .i64 i.y, .int .i64 i.n, .int .i64 i.mn, .int .i64 i.mx, .int .u64 (z1_wd i.s 0), .int .u64 (z1_wd i.s 1), .int .u64 (z1_wd i.s 2), .int .u64 (z1_wd i.s 3)] 42)).drew) := (chain B1.out ((Below.refl _ _).alloc (Nat.le_refl _) _) (Nat.le_refl _)).drew
  have X2 : Hid ((w1.alloc (.cells #[.int .i64 i.op, .int .i64 i.x, .int .i64 i.y, .int .i64 i.n, .int .i64 i.mn, .int .i64 i.mx, .int .u64 (z1_wd i.s 0), .int .u64 (z1_wd i.s 1), .int .u64 (z1_wd i.s 2), .int .u64 (z1_wd i.s 3)] 42)).drew.heap[w1.heap.size]? = some (.cells #[.int .i64 i.op, .int .i64 i.x, .int .i64 i.y, .int .i64 i.n, .int .i64 i.mn, .int .i64 i.mx, .int .u64 (z1_wd i.s 0), .int .u64 (z1_wd i.s 1), .int .u64 (z1_wd i.s 2), .int .u64 (z1_wd i.s 3)] 42 (0, 0))) := alloc_new w1 _
  have X3 : Hid ((w1.alloc (.cells #[.int .i64 i.op, .int .i64 i.x, .int .i64 i.y, .int .i64 i.n, .int .i64 i.mn, .int .i64 i.mx, .int .u64 (z1_wd i.s 0), .int .u64 (z1_wd i.s 1), .int .u64 (z1_wd i.s 2), .int .u64 (z1_wd i.s 3)] 42)).drew.heap[w.heap.size]? = some (.cells #[.slice p.q p.L.length p.c, .int .i64 p.g, .int .i64 p.k, .bool p.f] 24 (0, 0))) := (Below.heap_alloc _ _ _ hl2).trans X1.out
  generalize (w1.alloc (.cells #[.int .i64 i.op, .int .i64 i.x, .int .i64 i.y, .int .i64 i.n, .int .i64 i.mn, .int .i64 i.mx, .int .u64 (z1_wd i.s 0), .int .u64 (z1_wd i.s 1), .int .u64 (z1_wd i.s 2), .int .u64 (z1_wd i.s 3)] 42)).drew = w2 at B2 X2 X3 ⊢
  obtain ⟨j, hj⟩ : ∃ j, j = usI 65 i := ⟨_, rfl⟩
  have hc := fun x : Ext w2 => ext_used (t := 65) (by decide) hj x
  obtain ⟨io, ix, iy, inn, imn, imx, iss⟩ := i
  simp only at HO X2 hc hj ⊢
  obtain rfl := HO.out
  have d0 := cell_row X2.out (i := 0) rfl
  have d1 := cell_row X2.out (i := 1) rfl
  have d2 := cell_row X2.out (i := 2) rfl
  have d3 := cell_row X2.out (i := 3) rfl
  have d4 := cell_row X2.out (i := 4) rfl
  have d5 := cell_row X2.out (i := 5) rfl
  have d6 := cell_row X2.out (i := 6) rfl
  have d7 := cell_row X2.out (i := 7) rfl
  have d8 := cell_row X2.out (i := 8) rfl
  have d9 := cell_row X2.out (i := 9) rfl
  have e1 := cell_row X3.out (i := 1) rfl
  have e2 := cell_row X3.out (i := 2) rfl
  have l2 := lt_of_heap X2.out
  have l3 := lt_of_heap X3.out
  have hs := fun (W : World) => (show Calls Try.prog 31 #[.int .i64 1] W fun e w' => e = .returned (.tuple #[.string ⟨#[98, 121, 116, 101]⟩, .int .i64 65]) ∧ w' = W from shape_c 1 W)
  have q2 : hsT 65 2 = false := by decide
  have q4 : hsT 65 4 = false := by decide
  have q8 : hsT 65 8 = false := by decide
  have q16 : hsT 65 16 = false := by decide
  have q32 : hsT 65 32 = false := by decide
  have q64 : hsT 65 64 = true := by decide
  have EI := fun W => neq_inst ⟨1, ix, iy, inn, imn, imx, iss⟩ j W
  simp only at EI
  have hF : fineI p k ⟨1, ix, iy, inn, imn, imx, iss⟩ = (decide ((⟨1, ix, iy, inn, imn, imx, iss⟩ : Ins) = j) && decide ((k : Int) + 1 < p.L.length)) := by
    rw [hj]
    show (!(shW 1 == []) && decide ((⟨1, ix, iy, inn, imn, imx, iss⟩ : Ins) = usI 65 ⟨1, ix, iy, inn, imn, imx, iss⟩) && (!hsT 65 2 || blw ix p.L.length) && (!hsT 65 4 || blw iy p.L.length) && (!hsT 65 8 || blw inn p.g) && (!hsT 65 16 || blw inn p.k) && (!hsT 65 32 || rbd imn imx) && (!hsT 65 64 || decide ((k : Int) + 1 < p.L.length))) = _
    rw [show (!(shW 1 == [])) = true from rfl, q2, q4, q8, q16, q32, q64]
    simp
  have HF := hide hF
  clear hF
  clear hj
  go_wp2_with (go_at_call 31; (with_reducible refine (hs _).mono ?_); rintro e w5 ⟨rfl, rfl⟩)
  refine wp_region_ext (by kernel_rfl) (by kernel_rfl) ?_
  repeat (go_big_quiet_step (first | exact rfl | exact EI _ | (go_at_call 32; exact ext_call (hc _))))
  refine wpQuiet_nil ?_
  intro w6 hw6
  have hb6 := ext_of hw6
  have B6 := hide (chain B2.out hb6 (Nat.le_refl _))
  have y1 := (hb6.cell (p := ⟨w1.heap.size, 1, none⟩) l2).trans d1
  have y2 := (hb6.cell (p := ⟨w1.heap.size, 2, none⟩) l2).trans d2
  have y3 := (hb6.cell (p := ⟨w1.heap.size, 3, none⟩) l2).trans d3
  have y4 := (hb6.cell (p := ⟨w1.heap.size, 4, none⟩) l2).trans d4
  have y5 := (hb6.cell (p := ⟨w1.heap.size, 5, none⟩) l2).trans d5
  have z1 := (hb6.cell (p := ⟨w.heap.size, 1, none⟩) l3).trans e1
  have z2 := (hb6.cell (p := ⟨w.heap.size, 2, none⟩) l3).trans e2
  clear hw6 hb6 d0 d1 d2 d3 d4 d5 d6 d7 d8 d9 e1 e2 hc EI hs
  obtain ⟨r, hr⟩ : ∃ r, decide ((⟨1, ix, iy, inn, imn, imx, iss⟩ : Ins) = j) = r := ⟨_, rfl⟩
  rw [hr] at HF ⊢
  clear hr hi
  have hw1 : IntKind.wrap .i64 ((k : Int) + 1) = (k : Int) + 1 := wrap_small _ (by omega) (by omega)
  go_wp2_with first
    | (go_at_call 33; (with_reducible refine (has_t _ _ _).mono ?_); rintro e w7 ⟨rfl, rfl⟩)
    | (go_at_call 23; (with_reducible refine (below_c _ _ _).mono ?_); rintro e w7 ⟨rfl, rfl⟩)
    | (go_at_call 34; (with_reducible refine (bounds_c _ _ _).mono ?_); rintro e w7 ⟨rfl, rfl⟩)
  all_goals go_ret
  all_goals
    refine ⟨?_, B6.out⟩
    rw [HF.out]
    first | rfl | simp_all
set_option maxRecDepth 100000 in
set_option maxHeartbeats 8000000 in
theorem rat_2 {w : World} {p : Pg} (h : PgI w p) {k : Nat} {i : Ins} (hi : p.L[k]? = some i) (hk : p.L.length ≤ 40000) (ho : i.op = 2) :
    Calls Try.prog 24 #[.agg #[.slice p.q p.L.length p.c, .int .i64 p.g, .int .i64 p.k, .bool p.f], .int .i64 (k : Int)] w (RaP p k i w) := by
  have B1 : Hid (Below w.heap.size w (w.alloc (.cells #[.slice p.q p.L.length p.c, .int .i64 p.g, .int .i64 p.k, .bool p.f] 24))) := (Below.refl _ _).alloc (Nat.le_refl _) _
  have n1 := alloc_new w (.cells #[.slice p.q p.L.length p.c, .int .i64 p.g, .int .i64 p.k, .bool p.f] 24)
  have p0 : (w.alloc (.cells #[.slice p.q p.L.length p.c, .int .i64 p.g, .int .i64 p.k, .bool p.f] 24)).cell? ⟨w.heap.size, 0, none⟩ = some (.slice p.q p.L.length p.c) := cell_row n1 (i := 0) rfl
  have X1 : Hid ((w.alloc (.cells #[.slice p.q p.L.length p.c, .int .i64 p.g, .int .i64 p.k, .bool p.f] 24)).heap[w.heap.size]? = some (.cells #[.slice p.q p.L.length p.c, .int .i64 p.g, .int .i64 p.k, .bool p.f] 24 (0, 0))) := n1
  obtain ⟨g1, o1, hq1, hl1, c0, c1, c2, c3, c4, c5, c6, c7, c8, c9⟩ := (h.li.kept B1.out).ten hi
  have hlt := (List.getElem?_eq_some_iff.1 hi).1
  have i0 : (k : Int) < (p.L.length : Int) := by omega
  have Q1 := hide hq1
  have HO := hide ho
  clear hq1 n1 ho
  go_enter Try.func24, Try.ntmps24
  go_upto_region 1 with fail
  generalize (w.alloc (.cells #[.slice p.q p.L.length p.c, .int .i64 p.g, .int .i64 p.k, .bool p.f] 24)) = w1 at B1 p0 X1 hl1 c0 c1 c2 c3 c4 c5 c6 c7 c8 c9 ⊢
  rw [Q1.out] at p0
  have hl2 := lt_of_heap X1.out
  go_region
  clear p0 c0 c1 c2 c3 c4 c5 c6 c7 c8 c9 hl1
  have B2 : Hid (Below w.heap.size w (w1.alloc (.cells #[.int .i64 i.op, .int .i64 i.x, .int .i64 i.y, .int .i64 i.n, .int .i64 i.mn, .int .i64 i.mx, .int .u64 (z1_wd i.s 0), .int .u64 (z1_wd i.s 1), .int .u64 (z1_wd i.s 2), .int .u64 (z1_wd i.s 3)] 42)).drew) := (chain B1.out ((Below.refl _ _).alloc (Nat.le_refl _) _) (Nat.le_refl _)).drew
  have X2 : Hid ((w1.alloc (.cells #[.int .i64 i.op, .int .i64 i.x, .int .i64 i.y, .int .i64 i.n, .int .i64 i.mn, .int .i64 i.mx, .int .u64 (z1_wd i.s 0), .int .u64 (z1_wd i.s 1), .int .u64 (z1_wd i.s 2), .int .u64 (z1_wd i.s 3)] 42)).drew.heap[w1.heap.size]? = some (.cells #[.int .i64 i.op, .int .i64 i.x, .int .i64 i.y, .int .i64 i.n, .int .i64 i.mn, .int .i64 i.mx, .int .u64 (z1_wd i.s 0), .int .u64 (z1_wd i.s 1), .int .u64 (z1_wd i.s 2), .int .u64 (z1_wd i.s 3)] 42 (0, 0))) := alloc_new w1 _
  have X3 : Hid ((w1.alloc (.cells #[.int .i64 i.op, .int .i64 i.x, .int .i64 i.y, .int .i64 i.n, .int .i64 i.mn, .int .i64 i.mx, .int .u64 (z1_wd i.s 0), .int .u64 (z1_wd i.s 1), .int .u64 (z1_wd i.s 2), .int .u64 (z1_wd i.s 3)] 42)).drew.heap[w.heap.size]? = some (.cells #[.slice p.q p.L.length p.c, .int .i64 p.g, .int .i64 p.k, .bool p.f] 24 (0, 0))) := (Below.heap_alloc _ _ _ hl2).trans X1.out
  generalize (w1.alloc (.cells #[.int .i64 i.op, .int .i64 i.x, .int .i64 i.y, .int .i64 i.n, .int .i64 i.mn, .int .i64 i.mx, .int .u64 (z1_wd i.s 0), .int .u64 (z1_wd i.s 1), .int .u64 (z1_wd i.s 2), .int .u64 (z1_wd i.s 3)] 42)).drew = w2 at B2 X2 X3 ⊢
  obtain ⟨j, hj⟩ : ∃ j, j = usI 6 i := ⟨_, rfl⟩
  have hc := fun x : Ext w2 => ext_used (t := 6) (by decide) hj x
  obtain ⟨io, ix, iy, inn, imn, imx, iss⟩ := i
  simp only at HO X2 hc hj ⊢
  obtain rfl := HO.out
  have d0 := cell_row X2.out (i := 0) rfl
  have d1 := cell_row X2.out (i := 1) rfl
  have d2 := cell_row X2.out (i := 2) rfl
  have d3 := cell_row X2.out (i := 3) rfl
  have d4 := cell_row X2.out (i := 4) rfl
  have d5 := cell_row X2.out (i := 5) rfl
  have d6 := cell_row X2.out (i := 6) rfl
  have d7 := cell_row X2.out (i := 7) rfl
  have d8 := cell_row X2.out (i := 8) rfl
  have d9 := cell_row X2.out (i := 9) rfl
  have e1 := cell_row X3.out (i := 1) rfl
  have e2 := cell_row X3.out (i := 2) rfl
  have l2 := lt_of_heap X2.out
  have l3 := lt_of_heap X3.out
  have hs := fun (W : World) => (show Calls Try.prog 31 #[.int .i64 2] W fun e w' => e = .returned (.tuple #[.string ⟨#[115, 112, 108, 105, 116]⟩, .int .i64 6]) ∧ w' = W from shape_c 2 W)
  have q2 : hsT 6 2 = true := by decide
  have q4 : hsT 6 4 = true := by decide
  have q8 : hsT 6 8 = false := by decide
  have q16 : hsT 6 16 = false := by decide
  have q32 : hsT 6 32 = false := by decide
  have q64 : hsT 6 64 = false := by decide
  have EI := fun W => neq_inst ⟨2, ix, iy, inn, imn, imx, iss⟩ j W
  simp only at EI
  have hF : fineI p k ⟨2, ix, iy, inn, imn, imx, iss⟩ = (decide ((⟨2, ix, iy, inn, imn, imx, iss⟩ : Ins) = j) && blw ix p.L.length && blw iy p.L.length) := by
    rw [hj]
    show (!(shW 2 == []) && decide ((⟨2, ix, iy, inn, imn, imx, iss⟩ : Ins) = usI 6 ⟨2, ix, iy, inn, imn, imx, iss⟩) && (!hsT 6 2 || blw ix p.L.length) && (!hsT 6 4 || blw iy p.L.length) && (!hsT 6 8 || blw inn p.g) && (!hsT 6 16 || blw inn p.k) && (!hsT 6 32 || rbd imn imx) && (!hsT 6 64 || decide ((k : Int) + 1 < p.L.length))) = _
    rw [show (!(shW 2 == [])) = true from rfl, q2, q4, q8, q16, q32, q64]
    simp
  have HF := hide hF
  clear hF
  clear hj
  go_wp2_with (go_at_call 31; (with_reducible refine (hs _).mono ?_); rintro e w5 ⟨rfl, rfl⟩)
  refine wp_region_ext (by kernel_rfl) (by kernel_rfl) ?_
  repeat (go_big_quiet_step (first | exact rfl | exact EI _ | (go_at_call 32; exact ext_call (hc _))))
  refine wpQuiet_nil ?_
  intro w6 hw6
  have hb6 := ext_of hw6
  have B6 := hide (chain B2.out hb6 (Nat.le_refl _))
  have y1 := (hb6.cell (p := ⟨w1.heap.size, 1, none⟩) l2).trans d1
  have y2 := (hb6.cell (p := ⟨w1.heap.size, 2, none⟩) l2).trans d2
  have y3 := (hb6.cell (p := ⟨w1.heap.size, 3, none⟩) l2).trans d3
  have y4 := (hb6.cell (p := ⟨w1.heap.size, 4, none⟩) l2).trans d4
  have y5 := (hb6.cell (p := ⟨w1.heap.size, 5, none⟩) l2).trans d5
  have z1 := (hb6.cell (p := ⟨w.heap.size, 1, none⟩) l3).trans e1
  have z2 := (hb6.cell (p := ⟨w.heap.size, 2, none⟩) l3).trans e2
  clear hw6 hb6 d0 d1 d2 d3 d4 d5 d6 d7 d8 d9 e1 e2 hc EI hs
  obtain ⟨r, hr⟩ : ∃ r, decide ((⟨2, ix, iy, inn, imn, imx, iss⟩ : Ins) = j) = r := ⟨_, rfl⟩
  rw [hr] at HF ⊢
  clear hr hi
  have hw1 : IntKind.wrap .i64 ((k : Int) + 1) = (k : Int) + 1 := wrap_small _ (by omega) (by omega)
  go_wp2_with first
    | (go_at_call 33; (with_reducible refine (has_t _ _ _).mono ?_); rintro e w7 ⟨rfl, rfl⟩)
    | (go_at_call 23; (with_reducible refine (below_c _ _ _).mono ?_); rintro e w7 ⟨rfl, rfl⟩)
    | (go_at_call 34; (with_reducible refine (bounds_c _ _ _).mono ?_); rintro e w7 ⟨rfl, rfl⟩)
  all_goals go_ret
  all_goals
    refine ⟨?_, B6.out⟩
    rw [HF.out]
    first | rfl | simp_all
set_option maxRecDepth 100000 in
set_option maxHeartbeats 8000000 in
theorem rat_3 {w : World} {p : Pg} (h : PgI w p) {k : Nat} {i : Ins} (hi : p.L[k]? = some i) (hk : p.L.length ≤ 40000) (ho : i.op = 3) :
    Calls Try.prog 24 #[.agg #[.slice p.q p.L.length p.c, .int .i64 p.g, .int .i64 p.k, .bool p.f], .int .i64 (k : Int)] w (RaP p k i w) := by
  have B1 : Hid (Below w.heap.size w (w.alloc (.cells #[.slice p.q p.L.length p.c, .int .i64 p.g, .int .i64 p.k, .bool p.f] 24))) := (Below.refl _ _).alloc (Nat.le_refl _) _
  have n1 := alloc_new w (.cells #[.slice p.q p.L.length p.c, .int .i64 p.g, .int .i64 p.k, .bool p.f] 24)
  have p0 : (w.alloc (.cells #[.slice p.q p.L.length p.c, .int .i64 p.g, .int .i64 p.k, .bool p.f] 24)).cell? ⟨w.heap.size, 0, none⟩ = some (.slice p.q p.L.length p.c) := cell_row n1 (i := 0) rfl
  have X1 : Hid ((w.alloc (.cells #[.slice p.q p.L.length p.c, .int .i64 p.g, .int .i64 p.k, .bool p.f] 24)).heap[w.heap.size]? = some (.cells #[.slice p.q p.L.length p.c, .int .i64 p.g, .int .i64 p.k, .bool p.f] 24 (0, 0))) := n1
  obtain ⟨g1, o1, hq1, hl1, c0, c1, c2, c3, c4, c5, c6, c7, c8, c9⟩ := (h.li.kept B1.out).ten hi
  have hlt := (List.getElem?_eq_some_iff.1 hi).1
  have i0 : (k : Int) < (p.L.length : Int) := by omega
  have Q1 := hide hq1
  have HO := hide ho
  clear hq1 n1 ho
  go_enter Try.func24, Try.ntmps24
  go_upto_region 1 with fail
  generalize (w.alloc (.cells #[.slice p.q p.L.length p.c, .int .i64 p.g, .int .i64 p.k, .bool p.f] 24)) = w1 at B1 p0 X1 hl1 c0 c1 c2 c3 c4 c5 c6 c7 c8 c9 ⊢
  rw [Q1.out] at p0
  have hl2 := lt_of_heap X1.out
  go_region
  clear p0 c0 c1 c2 c3 c4 c5 c6 c7 c8 c9 hl1
  have B2 : Hid (Below w.heap.size w (w1.alloc (.cells #[.int .i64 i.op, .int .i64 i.x, .int .i64 i.y, .int .i64 i.n, .int .i64 i.mn, .int .i64 i.mx, .int .u64 (z1_wd i.s 0), .int .u64 (z1_wd i.s 1), .int .u64 (z1_wd i.s 2), .int .u64 (z1_wd i.s 3)] 42)).drew) := (chain B1.out ((Below.refl _ _).alloc (Nat.le_refl _) _) (Nat.le_refl _)).drew
  have X2 : Hid ((w1.alloc (.cells #[.int .i64 i.op, .int .i64 i.x, .int .i64 i.y, .int .i64 i.n, .int .i64 i.mn, .int .i64 i.mx, .int .u64 (z1_wd i.s 0), .int .u64 (z1_wd i.s 1), .int .u64 (z1_wd i.s 2), .int .u64 (z1_wd i.s 3)] 42)).drew.heap[w1.heap.size]? = some (.cells #[.int .i64 i.op, .int .i64 i.x, .int .i64 i.y, .int .i64 i.n, .int .i64 i.mn, .int .i64 i.mx, .int .u64 (z1_wd i.s 0), .int .u64 (z1_wd i.s 1), .int .u64 (z1_wd i.s 2), .int .u64 (z1_wd i.s 3)] 42 (0, 0))) := alloc_new w1 _
  have X3 : Hid ((w1.alloc (.cells #[.int .i64 i.op, .int .i64 i.x, .int .i64 i.y, .int .i64 i.n, .int .i64 i.mn, .int .i64 i.mx, .int .u64 (z1_wd i.s 0), .int .u64 (z1_wd i.s 1), .int .u64 (z1_wd i.s 2), .int .u64 (z1_wd i.s 3)] 42)).drew.heap[w.heap.size]? = some (.cells #[.slice p.q p.L.length p.c, .int .i64 p.g, .int .i64 p.k, .bool p.f] 24 (0, 0))) := (Below.heap_alloc _ _ _ hl2).trans X1.out
  generalize (w1.alloc (.cells #[.int .i64 i.op, .int .i64 i.x, .int .i64 i.y, .int .i64 i.n, .int .i64 i.mn, .int .i64 i.mx, .int .u64 (z1_wd i.s 0), .int .u64 (z1_wd i.s 1), .int .u64 (z1_wd i.s 2), .int .u64 (z1_wd i.s 3)] 42)).drew = w2 at B2 X2 X3 ⊢
  obtain ⟨j, hj⟩ : ∃ j, j = usI 2 i := ⟨_, rfl⟩
  have hc := fun x : Ext w2 => ext_used (t := 2) (by decide) hj x
  obtain ⟨io, ix, iy, inn, imn, imx, iss⟩ := i
  simp only at HO X2 hc hj ⊢
  obtain rfl := HO.out
  have d0 := cell_row X2.out (i := 0) rfl
  have d1 := cell_row X2.out (i := 1) rfl
  have d2 := cell_row X2.out (i := 2) rfl
  have d3 := cell_row X2.out (i := 3) rfl
  have d4 := cell_row X2.out (i := 4) rfl
  have d5 := cell_row X2.out (i := 5) rfl
  have d6 := cell_row X2.out (i := 6) rfl
  have d7 := cell_row X2.out (i := 7) rfl
  have d8 := cell_row X2.out (i := 8) rfl
  have d9 := cell_row X2.out (i := 9) rfl
  have e1 := cell_row X3.out (i := 1) rfl
  have e2 := cell_row X3.out (i := 2) rfl
  have l2 := lt_of_heap X2.out
  have l3 := lt_of_heap X3.out
  have hs := fun (W : World) => (show Calls Try.prog 31 #[.int .i64 3] W fun e w' => e = .returned (.tuple #[.string ⟨#[106, 117, 109, 112]⟩, .int .i64 2]) ∧ w' = W from shape_c 3 W)
  have q2 : hsT 2 2 = true := by decide
  have q4 : hsT 2 4 = false := by decide
  have q8 : hsT 2 8 = false := by decide
  have q16 : hsT 2 16 = false := by decide
  have q32 : hsT 2 32 = false := by decide
  have q64 : hsT 2 64 = false := by decide
  have EI := fun W => neq_inst ⟨3, ix, iy, inn, imn, imx, iss⟩ j W
  simp only at EI
  have hF : fineI p k ⟨3, ix, iy, inn, imn, imx, iss⟩ = (decide ((⟨3, ix, iy, inn, imn, imx, iss⟩ : Ins) = j) && blw ix p.L.length) := by
    rw [hj]
    show (!(shW 3 == []) && decide ((⟨3, ix, iy, inn, imn, imx, iss⟩ : Ins) = usI 2 ⟨3, ix, iy, inn, imn, imx, iss⟩) && (!hsT 2 2 || blw ix p.L.length) && (!hsT 2 4 || blw iy p.L.length) && (!hsT 2 8 || blw inn p.g) && (!hsT 2 16 || blw inn p.k) && (!hsT 2 32 || rbd imn imx) && (!hsT 2 64 || decide ((k : Int) + 1 < p.L.length))) = _
    rw [show (!(shW 3 == [])) = true from rfl, q2, q4, q8, q16, q32, q64]
    simp
  have HF := hide hF
  clear hF
  clear hj
  go_wp2_with (go_at_call 31; (with_reducible refine (hs _).mono ?_); rintro e w5 ⟨rfl, rfl⟩)
  refine wp_region_ext (by kernel_rfl) (by kernel_rfl) ?_
  repeat (go_big_quiet_step (first | exact rfl | exact EI _ | (go_at_call 32; exact ext_call (hc _))))
  refine wpQuiet_nil ?_
  intro w6 hw6
  have hb6 := ext_of hw6
  have B6 := hide (chain B2.out hb6 (Nat.le_refl _))
  have y1 := (hb6.cell (p := ⟨w1.heap.size, 1, none⟩) l2).trans d1
  have y2 := (hb6.cell (p := ⟨w1.heap.size, 2, none⟩) l2).trans d2
  have y3 := (hb6.cell (p := ⟨w1.heap.size, 3, none⟩) l2).trans d3
  have y4 := (hb6.cell (p := ⟨w1.heap.size, 4, none⟩) l2).trans d4
  have y5 := (hb6.cell (p := ⟨w1.heap.size, 5, none⟩) l2).trans d5
  have z1 := (hb6.cell (p := ⟨w.heap.size, 1, none⟩) l3).trans e1
  have z2 := (hb6.cell (p := ⟨w.heap.size, 2, none⟩) l3).trans e2
  clear hw6 hb6 d0 d1 d2 d3 d4 d5 d6 d7 d8 d9 e1 e2 hc EI hs
  obtain ⟨r, hr⟩ : ∃ r, decide ((⟨3, ix, iy, inn, imn, imx, iss⟩ : Ins) = j) = r := ⟨_, rfl⟩
  rw [hr] at HF ⊢
  clear hr hi
  have hw1 : IntKind.wrap .i64 ((k : Int) + 1) = (k : Int) + 1 := wrap_small _ (by omega) (by omega)
  go_wp2_with first
    | (go_at_call 33; (with_reducible refine (has_t _ _ _).mono ?_); rintro e w7 ⟨rfl, rfl⟩)
    | (go_at_call 23; (with_reducible refine (below_c _ _ _).mono ?_); rintro e w7 ⟨rfl, rfl⟩)
    | (go_at_call 34; (with_reducible refine (bounds_c _ _ _).mono ?_); rintro e w7 ⟨rfl, rfl⟩)
  all_goals go_ret
  all_goals
    refine ⟨?_, B6.out⟩
    rw [HF.out]
    first | rfl | simp_all
set_option maxRecDepth 100000 in
set_option maxHeartbeats 8000000 in
theorem rat_4 {w : World} {p : Pg} (h : PgI w p) {k : Nat} {i : Ins} (hi : p.L[k]? = some i) (hk : p.L.length ≤ 40000) (ho : i.op = 4) :
    Calls Try.prog 24 #[.agg #[.slice p.q p.L.length p.c, .int .i64 p.g, .int .i64 p.k, .bool p.f], .int .i64 (k : Int)] w (RaP p k i w) := by
  have B1 : Hid (Below w.heap.size w (w.alloc (.cells #[.slice p.q p.L.length p.c, .int .i64 p.g, .int .i64 p.k, .bool p.f] 24))) := (Below.refl _ _).alloc (Nat.le_refl _) _
  have n1 := alloc_new w (.cells #[.slice p.q p.L.length p.c, .int .i64 p.g, .int .i64 p.k, .bool p.f] 24)
  have p0 : (w.alloc (.cells #[.slice p.q p.L.length p.c, .int .i64 p.g, .int .i64 p.k, .bool p.f] 24)).cell? ⟨w.heap.size, 0, none⟩ = some (.slice p.q p.L.length p.c) := cell_row n1 (i := 0) rfl
  have X1 : Hid ((w.alloc (.cells #[.slice p.q p.L.length p.c, .int .i64 p.g, .int .i64 p.k, .bool p.f] 24)).heap[w.heap.size]? = some (.cells #[.slice p.q p.L.length p.c, .int .i64 p.g, .int .i64 p.k, .bool p.f] 24 (0, 0))) := n1
  obtain ⟨g1, o1, hq1, hl1, c0, c1, c2, c3, c4, c5, c6, c7, c8, c9⟩ := (h.li.kept B1.out).ten hi
  have hlt := (List.getElem?_eq_some_iff.1 hi).1
  have i0 : (k : Int) < (p.L.length : Int) := by omega
  have Q1 := hide hq1
  have HO := hide ho
  clear hq1 n1 ho
  go_enter Try.func24, Try.ntmps24
  go_upto_region 1 with fail
  generalize (w.alloc (.cells #[.slice p.q p.L.length p.c, .int .i64 p.g, .int .i64 p.k, .bool p.f] 24)) = w1 at B1 p0 X1 hl1 c0 c1 c2 c3 c4 c5 c6 c7 c8 c9 ⊢
  rw [Q1.out] at p0
  have hl2 := lt_of_heap X1.out
  go_region
  clear p0 c0 c1 c2 c3 c4 c5 c6 c7 c8 c9 hl1
  have B2 : Hid (Below w.heap.size w (w1.alloc (.cells #[.int .i64 i.op, .int .i64 i.x, .int .i64 i.y, .int .i64 i.n, .int .i64 i.mn, .int .i64 i.mx, .int .u64 (z1_wd i.s 0), .int .u64 (z1_wd i.s 1), .int .u64 (z1_wd i.s 2), .int .u64 (z1_wd i.s 3)] 42)).drew) := (chain B1.out ((Below.refl _ _).alloc (Nat.le_refl _) _) (Nat.le_refl _)).drew
  have X2 : Hid ((w1.alloc (.cells #[.int .i64 i.op, .int .i64 i.x, .int .i64 i.y, .int .i64 i.n, .int .i64 i.mn, .int .i64 i.mx, .int .u64 (z1_wd i.s 0), .int .u64 (z1_wd i.s 1), .int .u64 (z1_wd i.s 2), .int .u64 (z1_wd i.s 3)] 42)).drew.heap[w1.heap.size]? = some (.cells #[.int .i64 i.op, .int .i64 i.x, .int .i64 i.y, .int .i64 i.n, .int .i64 i.mn, .int .i64 i.mx, .int .u64 (z1_wd i.s 0), .int .u64 (z1_wd i.s 1), .int .u64 (z1_wd i.s 2), .int .u64 (z1_wd i.s 3)] 42 (0, 0))) := alloc_new w1 _
  have X3 : Hid ((w1.alloc (.cells #[.int .i64 i.op, .int .i64 i.x, .int .i64 i.y, .int .i64 i.n, .int .i64 i.mn, .int .i64 i.mx, .int .u64 (z1_wd i.s 0), .int .u64 (z1_wd i.s 1), .int .u64 (z1_wd i.s 2), .int .u64 (z1_wd i.s 3)] 42)).drew.heap[w.heap.size]? = some (.cells #[.slice p.q p.L.length p.c, .int .i64 p.g, .int .i64 p.k, .bool p.f] 24 (0, 0))) := (Below.heap_alloc _ _ _ hl2).trans X1.out
  generalize (w1.alloc (.cells #[.int .i64 i.op, .int .i64 i.x, .int .i64 i.y, .int .i64 i.n, .int .i64 i.mn, .int .i64 i.mx, .int .u64 (z1_wd i.s 0), .int .u64 (z1_wd i.s 1), .int .u64 (z1_wd i.s 2), .int .u64 (z1_wd i.s 3)] 42)).drew = w2 at B2 X2 X3 ⊢
  obtain ⟨j, hj⟩ : ∃ j, j = usI 64 i := ⟨_, rfl⟩
  have hc := fun x : Ext w2 => ext_used (t := 64) (by decide) hj x
  obtain ⟨io, ix, iy, inn, imn, imx, iss⟩ := i
  simp only at HO X2 hc hj ⊢
  obtain rfl := HO.out
  have d0 := cell_row X2.out (i := 0) rfl
  have d1 := cell_row X2.out (i := 1) rfl
  have d2 := cell_row X2.out (i := 2) rfl
  have d3 := cell_row X2.out (i := 3) rfl
  have d4 := cell_row X2.out (i := 4) rfl
  have d5 := cell_row X2.out (i := 5) rfl
  have d6 := cell_row X2.out (i := 6) rfl
  have d7 := cell_row X2.out (i := 7) rfl
  have d8 := cell_row X2.out (i := 8) rfl
  have d9 := cell_row X2.out (i := 9) rfl
  have e1 := cell_row X3.out (i := 1) rfl
  have e2 := cell_row X3.out (i := 2) rfl
  have l2 := lt_of_heap X2.out
  have l3 := lt_of_heap X3.out
  have hs := fun (W : World) => (show Calls Try.prog 31 #[.int .i64 4] W fun e w' => e = .returned (.tuple #[.string ⟨#[98, 101, 103, 105, 110]⟩, .int .i64 64]) ∧ w' = W from shape_c 4 W)
  have q2 : hsT 64 2 = false := by decide
  have q4 : hsT 64 4 = false := by decide
  have q8 : hsT 64 8 = false := by decide
  have q16 : hsT 64 16 = false := by decide
  have q32 : hsT 64 32 = false := by decide
  have q64 : hsT 64 64 = true := by decide
  have EI := fun W => neq_inst ⟨4, ix, iy, inn, imn, imx, iss⟩ j W
  simp only at EI
  have hF : fineI p k ⟨4, ix, iy, inn, imn, imx, iss⟩ = (decide ((⟨4, ix, iy, inn, imn, imx, iss⟩ : Ins) = j) && decide ((k : Int) + 1 < p.L.length)) := by
    rw [hj]
    show (!(shW 4 == []) && decide ((⟨4, ix, iy, inn, imn, imx, iss⟩ : Ins) = usI 64 ⟨4, ix, iy, inn, imn, imx, iss⟩) && (!hsT 64 2 || blw ix p.L.length) && (!hsT 64 4 || blw iy p.L.length) && (!hsT 64 8 || blw inn p.g) && (!hsT 64 16 || blw inn p.k) && (!hsT 64 32 || rbd imn imx) && (!hsT 64 64 || decide ((k : Int) + 1 < p.L.length))) = _
    rw [show (!(shW 4 == [])) = true from rfl, q2, q4, q8, q16, q32, q64]
    simp
  have HF := hide hF
  clear hF
  clear hj
  go_wp2_with (go_at_call 31; (with_reducible refine (hs _).mono ?_); rintro e w5 ⟨rfl, rfl⟩)
  refine wp_region_ext (by kernel_rfl) (by kernel_rfl) ?_
  repeat (go_big_quiet_step (first | exact rfl | exact EI _ | (go_at_call 32; exact ext_call (hc _))))
  refine wpQuiet_nil ?_
  intro w6 hw6
  have hb6 := ext_of hw6
  have B6 := hide (chain B2.out hb6 (Nat.le_refl _))
  have y1 := (hb6.cell (p := ⟨w1.heap.size, 1, none⟩) l2).trans d1
  have y2 := (hb6.cell (p := ⟨w1.heap.size, 2, none⟩) l2).trans d2
  have y3 := (hb6.cell (p := ⟨w1.heap.size, 3, none⟩) l2).trans d3
  have y4 := (hb6.cell (p := ⟨w1.heap.size, 4, none⟩) l2).trans d4
  have y5 := (hb6.cell (p := ⟨w1.heap.size, 5, none⟩) l2).trans d5
  have z1 := (hb6.cell (p := ⟨w.heap.size, 1, none⟩) l3).trans e1
  have z2 := (hb6.cell (p := ⟨w.heap.size, 2, none⟩) l3).trans e2
  clear hw6 hb6 d0 d1 d2 d3 d4 d5 d6 d7 d8 d9 e1 e2 hc EI hs
  obtain ⟨r, hr⟩ : ∃ r, decide ((⟨4, ix, iy, inn, imn, imx, iss⟩ : Ins) = j) = r := ⟨_, rfl⟩
  rw [hr] at HF ⊢
  clear hr hi
  have hw1 : IntKind.wrap .i64 ((k : Int) + 1) = (k : Int) + 1 := wrap_small _ (by omega) (by omega)
  go_wp2_with first
    | (go_at_call 33; (with_reducible refine (has_t _ _ _).mono ?_); rintro e w7 ⟨rfl, rfl⟩)
    | (go_at_call 23; (with_reducible refine (below_c _ _ _).mono ?_); rintro e w7 ⟨rfl, rfl⟩)
    | (go_at_call 34; (with_reducible refine (bounds_c _ _ _).mono ?_); rintro e w7 ⟨rfl, rfl⟩)
  all_goals go_ret
  all_goals
    refine ⟨?_, B6.out⟩
    rw [HF.out]
    first | rfl | simp_all
set_option maxRecDepth 100000 in
set_option maxHeartbeats 8000000 in
theorem rat_5 {w : World} {p : Pg} (h : PgI w p) {k : Nat} {i : Ins} (hi : p.L[k]? = some i) (hk : p.L.length ≤ 40000) (ho : i.op = 5) :
    Calls Try.prog 24 #[.agg #[.slice p.q p.L.length p.c, .int .i64 p.g, .int .i64 p.k, .bool p.f], .int .i64 (k : Int)] w (RaP p k i w) := by
  have B1 : Hid (Below w.heap.size w (w.alloc (.cells #[.slice p.q p.L.length p.c, .int .i64 p.g, .int .i64 p.k, .bool p.f] 24))) := (Below.refl _ _).alloc (Nat.le_refl _) _
  have n1 := alloc_new w (.cells #[.slice p.q p.L.length p.c, .int .i64 p.g, .int .i64 p.k, .bool p.f] 24)
  have p0 : (w.alloc (.cells #[.slice p.q p.L.length p.c, .int .i64 p.g, .int .i64 p.k, .bool p.f] 24)).cell? ⟨w.heap.size, 0, none⟩ = some (.slice p.q p.L.length p.c) := cell_row n1 (i := 0) rfl
  have X1 : Hid ((w.alloc (.cells #[.slice p.q p.L.length p.c, .int .i64 p.g, .int .i64 p.k, .bool p.f] 24)).heap[w.heap.size]? = some (.cells #[.slice p.q p.L.length p.c, .int .i64 p.g, .int .i64 p.k, .bool p.f] 24 (0, 0))) := n1
  obtain ⟨g1, o1, hq1, hl1, c0, c1, c2, c3, c4, c5, c6, c7, c8, c9⟩ := (h.li.kept B1.out).ten hi
  have hlt := (List.getElem?_eq_some_iff.1 hi).1
  have i0 : (k : Int) < (p.L.length : Int) := by omega
  have Q1 := hide hq1
  have HO := hide ho
  clear hq1 n1 ho
  go_enter Try.func24, Try.ntmps24
  go_upto_region 1 with fail
  generalize (w.alloc (.cells #[.slice p.q p.L.length p.c, .int .i64 p.g, .int .i64 p.k, .bool p.f] 24)) = w1 at B1 p0 X1 hl1 c0 c1 c2 c3 c4 c5 c6 c7 c8 c9 ⊢
  rw [Q1.out] at p0
  have hl2 := lt_of_heap X1.out
  go_region
  clear p0 c0 c1 c2 c3 c4 c5 c6 c7 c8 c9 hl1
  have B2 : Hid (Below w.heap.size w (w1.alloc (.cells #[.int .i64 i.op, .int .i64 i.x, .int .i64 i.y, .int .i64 i.n, .int .i64 i.mn, .int .i64 i.mx, .int .u64 (z1_wd i.s 0), .int .u64 (z1_wd i.s 1), .int .u64 (z1_wd i.s 2), .int .u64 (z1_wd i.s 3)] 42)).drew) := (chain B1.out ((Below.refl _ _).alloc (Nat.le_refl _) _) (Nat.le_refl _)).drew
  have X2 : Hid ((w1.alloc (.cells #[.int .i64 i.op, .int .i64 i.x, .int .i64 i.y, .int .i64 i.n, .int .i64 i.mn, .int .i64 i.mx, .int .u64 (z1_wd i.s 0), .int .u64 (z1_wd i.s 1), .int .u64 (z1_wd i.s 2), .int .u64 (z1_wd i.s 3)] 42)).drew.heap[w1.heap.size]? = some (.cells #[.int .i64 i.op, .int .i64 i.x, .int .i64 i.y, .int .i64 i.n, .int .i64 i.mn, .int .i64 i.mx, .int .u64 (z1_wd i.s 0), .int .u64 (z1_wd i.s 1), .int .u64 (z1_wd i.s 2), .int .u64 (z1_wd i.s 3)] 42 (0, 0))) := alloc_new w1 _
  have X3 : Hid ((w1.alloc (.cells #[.int .i64 i.op, .int .i64 i.x, .int .i64 i.y, .int .i64 i.n, .int .i64 i.mn, .int .i64 i.mx, .int .u64 (z1_wd i.s 0), .int .u64 (z1_wd i.s 1), .int .u64 (z1_wd i.s 2), .int .u64 (z1_wd i.s 3)] 42)).drew.heap[w.heap.size]? = some (.cells #[.slice p.q p.L.length p.c, .int .i64 p.g, .int .i64 p.k, .bool p.f] 24 (0, 0))) := (Below.heap_alloc _ _ _ hl2).trans X1.out
  generalize (w1.alloc (.cells #[.int .i64 i.op, .int .i64 i.x, .int .i64 i.y, .int .i64 i.n, .int .i64 i.mn, .int .i64 i.mx, .int .u64 (z1_wd i.s 0), .int .u64 (z1_wd i.s 1), .int .u64 (z1_wd i.s 2), .int .u64 (z1_wd i.s 3)] 42)).drew = w2 at B2 X2 X3 ⊢
  obtain ⟨j, hj⟩ : ∃ j, j = usI 64 i := ⟨_, rfl⟩
  have hc := fun x : Ext w2 => ext_used (t := 64) (by decide) hj x
  obtain ⟨io, ix, iy, inn, imn, imx, iss⟩ := i
  simp only at HO X2 hc hj ⊢
  obtain rfl := HO.out
  have d0 := cell_row X2.out (i := 0) rfl
  have d1 := cell_row X2.out (i := 1) rfl
  have d2 := cell_row X2.out (i := 2) rfl
  have d3 := cell_row X2.out (i := 3) rfl
  have d4 := cell_row X2.out (i := 4) rfl
  have d5 := cell_row X2.out (i := 5) rfl
  have d6 := cell_row X2.out (i := 6) rfl
  have d7 := cell_row X2.out (i := 7) rfl
  have d8 := cell_row X2.out (i := 8) rfl
  have d9 := cell_row X2.out (i := 9) rfl
  have e1 := cell_row X3.out (i := 1) rfl
  have e2 := cell_row X3.out (i := 2) rfl
  have l2 := lt_of_heap X2.out
  have l3 := lt_of_heap X3.out
  have hs := fun (W : World) => (show Calls Try.prog 31 #[.int .i64 5] W fun e w' => e = .returned (.tuple #[.string ⟨#[101, 110, 100]⟩, .int .i64 64]) ∧ w' = W from shape_c 5 W)
  have q2 : hsT 64 2 = false := by decide
  have q4 : hsT 64 4 = false := by decide
  have q8 : hsT 64 8 = false := by decide
  have q16 : hsT 64 16 = false := by decide
  have q32 : hsT 64 32 = false := by decide
  have q64 : hsT 64 64 = true := by decide
  have EI := fun W => neq_inst ⟨5, ix, iy, inn, imn, imx, iss⟩ j W
  simp only at EI
  have hF : fineI p k ⟨5, ix, iy, inn, imn, imx, iss⟩ = (decide ((⟨5, ix, iy, inn, imn, imx, iss⟩ : Ins) = j) && decide ((k : Int) + 1 < p.L.length)) := by
    rw [hj]
    show (!(shW 5 == []) && decide ((⟨5, ix, iy, inn, imn, imx, iss⟩ : Ins) = usI 64 ⟨5, ix, iy, inn, imn, imx, iss⟩) && (!hsT 64 2 || blw ix p.L.length) && (!hsT 64 4 || blw iy p.L.length) && (!hsT 64 8 || blw inn p.g) && (!hsT 64 16 || blw inn p.k) && (!hsT 64 32 || rbd imn imx) && (!hsT 64 64 || decide ((k : Int) + 1 < p.L.length))) = _
    rw [show (!(shW 5 == [])) = true from rfl, q2, q4, q8, q16, q32, q64]
    simp
  have HF := hide hF
  clear hF
  clear hj
  go_wp2_with (go_at_call 31; (with_reducible refine (hs _).mono ?_); rintro e w5 ⟨rfl, rfl⟩)
  refine wp_region_ext (by kernel_rfl) (by kernel_rfl) ?_
  repeat (go_big_quiet_step (first | exact rfl | exact EI _ | (go_at_call 32; exact ext_call (hc _))))
  refine wpQuiet_nil ?_
  intro w6 hw6
  have hb6 := ext_of hw6
  have B6 := hide (chain B2.out hb6 (Nat.le_refl _))
  have y1 := (hb6.cell (p := ⟨w1.heap.size, 1, none⟩) l2).trans d1
  have y2 := (hb6.cell (p := ⟨w1.heap.size, 2, none⟩) l2).trans d2
  have y3 := (hb6.cell (p := ⟨w1.heap.size, 3, none⟩) l2).trans d3
  have y4 := (hb6.cell (p := ⟨w1.heap.size, 4, none⟩) l2).trans d4
  have y5 := (hb6.cell (p := ⟨w1.heap.size, 5, none⟩) l2).trans d5
  have z1 := (hb6.cell (p := ⟨w.heap.size, 1, none⟩) l3).trans e1
  have z2 := (hb6.cell (p := ⟨w.heap.size, 2, none⟩) l3).trans e2
  clear hw6 hb6 d0 d1 d2 d3 d4 d5 d6 d7 d8 d9 e1 e2 hc EI hs
  obtain ⟨r, hr⟩ : ∃ r, decide ((⟨5, ix, iy, inn, imn, imx, iss⟩ : Ins) = j) = r := ⟨_, rfl⟩
  rw [hr] at HF ⊢
  clear hr hi
  have hw1 : IntKind.wrap .i64 ((k : Int) + 1) = (k : Int) + 1 := wrap_small _ (by omega) (by omega)
  go_wp2_with first
    | (go_at_call 33; (with_reducible refine (has_t _ _ _).mono ?_); rintro e w7 ⟨rfl, rfl⟩)
    | (go_at_call 23; (with_reducible refine (below_c _ _ _).mono ?_); rintro e w7 ⟨rfl, rfl⟩)
    | (go_at_call 34; (with_reducible refine (bounds_c _ _ _).mono ?_); rintro e w7 ⟨rfl, rfl⟩)
  all_goals go_ret
  all_goals
    refine ⟨?_, B6.out⟩
    rw [HF.out]
    first | rfl | simp_all
set_option maxRecDepth 100000 in
set_option maxHeartbeats 8000000 in
theorem rat_6 {w : World} {p : Pg} (h : PgI w p) {k : Nat} {i : Ins} (hi : p.L[k]? = some i) (hk : p.L.length ≤ 40000) (ho : i.op = 6) :
    Calls Try.prog 24 #[.agg #[.slice p.q p.L.length p.c, .int .i64 p.g, .int .i64 p.k, .bool p.f], .int .i64 (k : Int)] w (RaP p k i w) := by
  have B1 : Hid (Below w.heap.size w (w.alloc (.cells #[.slice p.q p.L.length p.c, .int .i64 p.g, .int .i64 p.k, .bool p.f] 24))) := (Below.refl _ _).alloc (Nat.le_refl _) _
  have n1 := alloc_new w (.cells #[.slice p.q p.L.length p.c, .int .i64 p.g, .int .i64 p.k, .bool p.f] 24)
  have p0 : (w.alloc (.cells #[.slice p.q p.L.length p.c, .int .i64 p.g, .int .i64 p.k, .bool p.f] 24)).cell? ⟨w.heap.size, 0, none⟩ = some (.slice p.q p.L.length p.c) := cell_row n1 (i := 0) rfl
  have X1 : Hid ((w.alloc (.cells #[.slice p.q p.L.length p.c, .int .i64 p.g, .int .i64 p.k, .bool p.f] 24)).heap[w.heap.size]? = some (.cells #[.slice p.q p.L.length p.c, .int .i64 p.g, .int .i64 p.k, .bool p.f] 24 (0, 0))) := n1
  obtain ⟨g1, o1, hq1, hl1, c0, c1, c2, c3, c4, c5, c6, c7, c8, c9⟩ := (h.li.kept B1.out).ten hi
  have hlt := (List.getElem?_eq_some_iff.1 hi).1
  have i0 : (k : Int) < (p.L.length : Int) := by omega
  have Q1 := hide hq1
  have HO := hide ho
  clear hq1 n1 ho
  go_enter Try.func24, Try.ntmps24
  go_upto_region 1 with fail
  generalize (w.alloc (.cells #[.slice p.q p.L.length p.c, .int .i64 p.g, .int .i64 p.k, .bool p.f] 24)) = w1 at B1 p0 X1 hl1 c0 c1 c2 c3 c4 c5 c6 c7 c8 c9 ⊢
  rw [Q1.out] at p0
  have hl2 := lt_of_heap X1.out
  go_region
  clear p0 c0 c1 c2 c3 c4 c5 c6 c7 c8 c9 hl1
  have B2 : Hid (Below w.heap.size w (w1.alloc (.cells #[.int .i64 i.op, .int .i64 i.x, .int .i64 i.y, .int .i64 i.n, .int .i64 i.mn, .int .i64 i.mx, .int .u64 (z1_wd i.s 0), .int .u64 (z1_wd i.s 1), .int .u64 (z1_wd i.s 2), .int .u64 (z1_wd i.s 3)] 42)).drew) := (chain B1.out ((Below.refl _ _).alloc (Nat.le_refl _) _) (Nat.le_refl _)).drew
  have X2 : Hid ((w1.alloc (.cells #[.int .i64 i.op, .int .i64 i.x, .int .i64 i.y, .int .i64 i.n, .int .i64 i.mn, .int .i64 i.mx, .int .u64 (z1_wd i.s 0), .int .u64 (z1_wd i.s 1), .int .u64 (z1_wd i.s 2), .int .u64 (z1_wd i.s 3)] 42)).drew.heap[w1.heap.size]? = some (.cells #[.int .i64 i.op, .int .i64 i.x, .int .i64 i.y, .int .i64 i.n, .int .i64 i.mn, .int .i64 i.mx, .int .u64 (z1_wd i.s 0), .int .u64 (z1_wd i.s 1), .int .u64 (z1_wd i.s 2), .int .u64 (z1_wd i.s 3)] 42 (0, 0))) := alloc_new w1 _
  have X3 : Hid ((w1.alloc (.cells #[.int .i64 i.op, .int .i64 i.x, .int .i64 i.y, .int .i64 i.n, .int .i64 i.mn, .int .i64 i.mx, .int .u64 (z1_wd i.s 0), .int .u64 (z1_wd i.s 1), .int .u64 (z1_wd i.s 2), .int .u64 (z1_wd i.s 3)] 42)).drew.heap[w.heap.size]? = some (.cells #[.slice p.q p.L.length p.c, .int .i64 p.g, .int .i64 p.k, .bool p.f] 24 (0, 0))) := (Below.heap_alloc _ _ _ hl2).trans X1.out
  generalize (w1.alloc (.cells #[.int .i64 i.op, .int .i64 i.x, .int .i64 i.y, .int .i64 i.n, .int .i64 i.mn, .int .i64 i.mx, .int .u64 (z1_wd i.s 0), .int .u64 (z1_wd i.s 1), .int .u64 (z1_wd i.s 2), .int .u64 (z1_wd i.s 3)] 42)).drew = w2 at B2 X2 X3 ⊢
  obtain ⟨j, hj⟩ : ∃ j, j = usI 72 i := ⟨_, rfl⟩
  have hc := fun x : Ext w2 => ext_used (t := 72) (by decide) hj x
  obtain ⟨io, ix, iy, inn, imn, imx, iss⟩ := i
  simp only at HO X2 hc hj ⊢
  obtain rfl := HO.out
  have d0 := cell_row X2.out (i := 0) rfl
  have d1 := cell_row X2.out (i := 1) rfl
  have d2 := cell_row X2.out (i := 2) rfl
  have d3 := cell_row X2.out (i := 3) rfl
  have d4 := cell_row X2.out (i := 4) rfl
  have d5 := cell_row X2.out (i := 5) rfl
  have d6 := cell_row X2.out (i := 6) rfl
  have d7 := cell_row X2.out (i := 7) rfl
  have d8 := cell_row X2.out (i := 8) rfl
  have d9 := cell_row X2.out (i := 9) rfl
  have e1 := cell_row X3.out (i := 1) rfl
  have e2 := cell_row X3.out (i := 2) rfl
  have l2 := lt_of_heap X2.out
  have l3 := lt_of_heap X3.out
  have hs := fun (W : World) => (show Calls Try.prog 31 #[.int .i64 6] W fun e w' => e = .returned (.tuple #[.string ⟨#[111, 112, 101, 110]⟩, .int .i64 72]) ∧ w' = W from shape_c 6 W)
  have q2 : hsT 72 2 = false := by decide
  have q4 : hsT 72 4 = false := by decide
  have q8 : hsT 72 8 = true := by decide
  have q16 : hsT 72 16 = false := by decide
  have q32 : hsT 72 32 = false := by decide
  have q64 : hsT 72 64 = true := by decide
  have EI := fun W => neq_inst ⟨6, ix, iy, inn, imn, imx, iss⟩ j W
  simp only at EI
  have hF : fineI p k ⟨6, ix, iy, inn, imn, imx, iss⟩ = (decide ((⟨6, ix, iy, inn, imn, imx, iss⟩ : Ins) = j) && blw inn p.g && decide ((k : Int) + 1 < p.L.length)) := by
    rw [hj]
    show (!(shW 6 == []) && decide ((⟨6, ix, iy, inn, imn, imx, iss⟩ : Ins) = usI 72 ⟨6, ix, iy, inn, imn, imx, iss⟩) && (!hsT 72 2 || blw ix p.L.length) && (!hsT 72 4 || blw iy p.L.length) && (!hsT 72 8 || blw inn p.g) && (!hsT 72 16 || blw inn p.k) && (!hsT 72 32 || rbd imn imx) && (!hsT 72 64 || decide ((k : Int) + 1 < p.L.length))) = _
    rw [show (!(shW 6 == [])) = true from rfl, q2, q4, q8, q16, q32, q64]
    simp
  have HF := hide hF
  clear hF
  clear hj
  go_wp2_with (go_at_call 31; (with_reducible refine (hs _).mono ?_); rintro e w5 ⟨rfl, rfl⟩)
  refine wp_region_ext (by kernel_rfl) (by kernel_rfl) ?_
  repeat (go_big_quiet_step (first | exact rfl | exact EI _ | (go_at_call 32; exact ext_call (hc _))))
  refine wpQuiet_nil ?_
  intro w6 hw6
  have hb6 := ext_of hw6
  have B6 := hide (chain B2.out hb6 (Nat.le_refl _))
  have y1 := (hb6.cell (p := ⟨w1.heap.size, 1, none⟩) l2).trans d1
  have y2 := (hb6.cell (p := ⟨w1.heap.size, 2, none⟩) l2).trans d2
  have y3 := (hb6.cell (p := ⟨w1.heap.size, 3, none⟩) l2).trans d3
  have y4 := (hb6.cell (p := ⟨w1.heap.size, 4, none⟩) l2).trans d4
  have y5 := (hb6.cell (p := ⟨w1.heap.size, 5, none⟩) l2).trans d5
  have z1 := (hb6.cell (p := ⟨w.heap.size, 1, none⟩) l3).trans e1
  have z2 := (hb6.cell (p := ⟨w.heap.size, 2, none⟩) l3).trans e2
  clear hw6 hb6 d0 d1 d2 d3 d4 d5 d6 d7 d8 d9 e1 e2 hc EI hs
  obtain ⟨r, hr⟩ : ∃ r, decide ((⟨6, ix, iy, inn, imn, imx, iss⟩ : Ins) = j) = r := ⟨_, rfl⟩
  rw [hr] at HF ⊢
  clear hr hi
  have hw1 : IntKind.wrap .i64 ((k : Int) + 1) = (k : Int) + 1 := wrap_small _ (by omega) (by omega)
  go_wp2_with first
    | (go_at_call 33; (with_reducible refine (has_t _ _ _).mono ?_); rintro e w7 ⟨rfl, rfl⟩)
    | (go_at_call 23; (with_reducible refine (below_c _ _ _).mono ?_); rintro e w7 ⟨rfl, rfl⟩)
    | (go_at_call 34; (with_reducible refine (bounds_c _ _ _).mono ?_); rintro e w7 ⟨rfl, rfl⟩)
  all_goals go_ret
  all_goals
    refine ⟨?_, B6.out⟩
    rw [HF.out]
    first | rfl | simp_all
set_option maxRecDepth 100000 in
set_option maxHeartbeats 8000000 in
theorem rat_7 {w : World} {p : Pg} (h : PgI w p) {k : Nat} {i : Ins} (hi : p.L[k]? = some i) (hk : p.L.length ≤ 40000) (ho : i.op = 7) :
    Calls Try.prog 24 #[.agg #[.slice p.q p.L.length p.c, .int .i64 p.g, .int .i64 p.k, .bool p.f], .int .i64 (k : Int)] w (RaP p k i w) := by
  have B1 : Hid (Below w.heap.size w (w.alloc (.cells #[.slice p.q p.L.length p.c, .int .i64 p.g, .int .i64 p.k, .bool p.f] 24))) := (Below.refl _ _).alloc (Nat.le_refl _) _
  have n1 := alloc_new w (.cells #[.slice p.q p.L.length p.c, .int .i64 p.g, .int .i64 p.k, .bool p.f] 24)
  have p0 : (w.alloc (.cells #[.slice p.q p.L.length p.c, .int .i64 p.g, .int .i64 p.k, .bool p.f] 24)).cell? ⟨w.heap.size, 0, none⟩ = some (.slice p.q p.L.length p.c) := cell_row n1 (i := 0) rfl
  have X1 : Hid ((w.alloc (.cells #[.slice p.q p.L.length p.c, .int .i64 p.g, .int .i64 p.k, .bool p.f] 24)).heap[w.heap.size]? = some (.cells #[.slice p.q p.L.length p.c, .int .i64 p.g, .int .i64 p.k, .bool p.f] 24 (0, 0))) := n1
  obtain ⟨g1, o1, hq1, hl1, c0, c1, c2, c3, c4, c5, c6, c7, c8, c9⟩ := (h.li.kept B1.out).ten hi
  have hlt := (List.getElem?_eq_some_iff.1 hi).1
  have i0 : (k : Int) < (p.L.length : Int) := by omega
  have Q1 := hide hq1
  have HO := hide ho
  clear hq1 n1 ho
  go_enter Try.func24, Try.ntmps24
  go_upto_region 1 with fail
  generalize (w.alloc (.cells #[.slice p.q p.L.length p.c, .int .i64 p.g, .int .i64 p.k, .bool p.f] 24)) = w1 at B1 p0 X1 hl1 c0 c1 c2 c3 c4 c5 c6 c7 c8 c9 ⊢
  rw [Q1.out] at p0
  have hl2 := lt_of_heap X1.out
  go_region
  clear p0 c0 c1 c2 c3 c4 c5 c6 c7 c8 c9 hl1
  have B2 : Hid (Below w.heap.size w (w1.alloc (.cells #[.int .i64 i.op, .int .i64 i.x, .int .i64 i.y, .int .i64 i.n, .int .i64 i.mn, .int .i64 i.mx, .int .u64 (z1_wd i.s 0), .int .u64 (z1_wd i.s 1), .int .u64 (z1_wd i.s 2), .int .u64 (z1_wd i.s 3)] 42)).drew) := (chain B1.out ((Below.refl _ _).alloc (Nat.le_refl _) _) (Nat.le_refl _)).drew
  have X2 : Hid ((w1.alloc (.cells #[.int .i64 i.op, .int .i64 i.x, .int .i64 i.y, .int .i64 i.n, .int .i64 i.mn, .int .i64 i.mx, .int .u64 (z1_wd i.s 0), .int .u64 (z1_wd i.s 1), .int .u64 (z1_wd i.s 2), .int .u64 (z1_wd i.s 3)] 42)).drew.heap[w1.heap.size]? = some (.cells #[.int .i64 i.op, .int .i64 i.x, .int .i64 i.y, .int .i64 i.n, .int .i64 i.mn, .int .i64 i.mx, .int .u64 (z1_wd i.s 0), .int .u64 (z1_wd i.s 1), .int .u64 (z1_wd i.s 2), .int .u64 (z1_wd i.s 3)] 42 (0, 0))) := alloc_new w1 _
  have X3 : Hid ((w1.alloc (.cells #[.int .i64 i.op, .int .i64 i.x, .int .i64 i.y, .int .i64 i.n, .int .i64 i.mn, .int .i64 i.mx, .int .u64 (z1_wd i.s 0), .int .u64 (z1_wd i.s 1), .int .u64 (z1_wd i.s 2), .int .u64 (z1_wd i.s 3)] 42)).drew.heap[w.heap.size]? = some (.cells #[.slice p.q p.L.length p.c, .int .i64 p.g, .int .i64 p.k, .bool p.f] 24 (0, 0))) := (Below.heap_alloc _ _ _ hl2).trans X1.out
  generalize (w1.alloc (.cells #[.int .i64 i.op, .int .i64 i.x, .int .i64 i.y, .int .i64 i.n, .int .i64 i.mn, .int .i64 i.mx, .int .u64 (z1_wd i.s 0), .int .u64 (z1_wd i.s 1), .int .u64 (z1_wd i.s 2), .int .u64 (z1_wd i.s 3)] 42)).drew = w2 at B2 X2 X3 ⊢
  obtain ⟨j, hj⟩ : ∃ j, j = usI 72 i := ⟨_, rfl⟩
  have hc := fun x : Ext w2 => ext_used (t := 72) (by decide) hj x
  obtain ⟨io, ix, iy, inn, imn, imx, iss⟩ := i
  simp only at HO X2 hc hj ⊢
  obtain rfl := HO.out
  have d0 := cell_row X2.out (i := 0) rfl
  have d1 := cell_row X2.out (i := 1) rfl
  have d2 := cell_row X2.out (i := 2) rfl
  have d3 := cell_row X2.out (i := 3) rfl
  have d4 := cell_row X2.out (i := 4) rfl
  have d5 := cell_row X2.out (i := 5) rfl
  have d6 := cell_row X2.out (i := 6) rfl
  have d7 := cell_row X2.out (i := 7) rfl
  have d8 := cell_row X2.out (i := 8) rfl
  have d9 := cell_row X2.out (i := 9) rfl
  have e1 := cell_row X3.out (i := 1) rfl
  have e2 := cell_row X3.out (i := 2) rfl
  have l2 := lt_of_heap X2.out
  have l3 := lt_of_heap X3.out
  have hs := fun (W : World) => (show Calls Try.prog 31 #[.int .i64 7] W fun e w' => e = .returned (.tuple #[.string ⟨#[99, 108, 111, 115, 101]⟩, .int .i64 72]) ∧ w' = W from shape_c 7 W)
  have q2 : hsT 72 2 = false := by decide
  have q4 : hsT 72 4 = false := by decide
  have q8 : hsT 72 8 = true := by decide
  have q16 : hsT 72 16 = false := by decide
  have q32 : hsT 72 32 = false := by decide
  have q64 : hsT 72 64 = true := by decide
  have EI := fun W => neq_inst ⟨7, ix, iy, inn, imn, imx, iss⟩ j W
  simp only at EI
  have hF : fineI p k ⟨7, ix, iy, inn, imn, imx, iss⟩ = (decide ((⟨7, ix, iy, inn, imn, imx, iss⟩ : Ins) = j) && blw inn p.g && decide ((k : Int) + 1 < p.L.length)) := by
    rw [hj]
    show (!(shW 7 == []) && decide ((⟨7, ix, iy, inn, imn, imx, iss⟩ : Ins) = usI 72 ⟨7, ix, iy, inn, imn, imx, iss⟩) && (!hsT 72 2 || blw ix p.L.length) && (!hsT 72 4 || blw iy p.L.length) && (!hsT 72 8 || blw inn p.g) && (!hsT 72 16 || blw inn p.k) && (!hsT 72 32 || rbd imn imx) && (!hsT 72 64 || decide ((k : Int) + 1 < p.L.length))) = _
    rw [show (!(shW 7 == [])) = true from rfl, q2, q4, q8, q16, q32, q64]
    simp
  have HF := hide hF
  clear hF
  clear hj
  go_wp2_with (go_at_call 31; (with_reducible refine (hs _).mono ?_); rintro e w5 ⟨rfl, rfl⟩)
  refine wp_region_ext (by kernel_rfl) (by kernel_rfl) ?_
  repeat (go_big_quiet_step (first | exact rfl | exact EI _ | (go_at_call 32; exact ext_call (hc _))))
  refine wpQuiet_nil ?_
  intro w6 hw6
  have hb6 := ext_of hw6
  have B6 := hide (chain B2.out hb6 (Nat.le_refl _))
  have y1 := (hb6.cell (p := ⟨w1.heap.size, 1, none⟩) l2).trans d1
  have y2 := (hb6.cell (p := ⟨w1.heap.size, 2, none⟩) l2).trans d2
  have y3 := (hb6.cell (p := ⟨w1.heap.size, 3, none⟩) l2).trans d3
  have y4 := (hb6.cell (p := ⟨w1.heap.size, 4, none⟩) l2).trans d4
  have y5 := (hb6.cell (p := ⟨w1.heap.size, 5, none⟩) l2).trans d5
  have z1 := (hb6.cell (p := ⟨w.heap.size, 1, none⟩) l3).trans e1
  have z2 := (hb6.cell (p := ⟨w.heap.size, 2, none⟩) l3).trans e2
  clear hw6 hb6 d0 d1 d2 d3 d4 d5 d6 d7 d8 d9 e1 e2 hc EI hs
  obtain ⟨r, hr⟩ : ∃ r, decide ((⟨7, ix, iy, inn, imn, imx, iss⟩ : Ins) = j) = r := ⟨_, rfl⟩
  rw [hr] at HF ⊢
  clear hr hi
  have hw1 : IntKind.wrap .i64 ((k : Int) + 1) = (k : Int) + 1 := wrap_small _ (by omega) (by omega)
  go_wp2_with first
    | (go_at_call 33; (with_reducible refine (has_t _ _ _).mono ?_); rintro e w7 ⟨rfl, rfl⟩)
    | (go_at_call 23; (with_reducible refine (below_c _ _ _).mono ?_); rintro e w7 ⟨rfl, rfl⟩)
    | (go_at_call 34; (with_reducible refine (bounds_c _ _ _).mono ?_); rintro e w7 ⟨rfl, rfl⟩)
  all_goals go_ret
  all_goals
    refine ⟨?_, B6.out⟩
    rw [HF.out]
    first | rfl | simp_all
set_option maxRecDepth 100000 in
set_option maxHeartbeats 8000000 in
theorem rat_8 {w : World} {p : Pg} (h : PgI w p) {k : Nat} {i : Ins} (hi : p.L[k]? = some i) (hk : p.L.length ≤ 40000) (ho : i.op = 8) :
    Calls Try.prog 24 #[.agg #[.slice p.q p.L.length p.c, .int .i64 p.g, .int .i64 p.k, .bool p.f], .int .i64 (k : Int)] w (RaP p k i w) := by
  have B1 : Hid (Below w.heap.size w (w.alloc (.cells #[.slice p.q p.L.length p.c, .int .i64 p.g, .int .i64 p.k, .bool p.f] 24))) := (Below.refl _ _).alloc (Nat.le_refl _) _
  have n1 := alloc_new w (.cells #[.slice p.q p.L.length p.c, .int .i64 p.g, .int .i64 p.k, .bool p.f] 24)
  have p0 : (w.alloc (.cells #[.slice p.q p.L.length p.c, .int .i64 p.g, .int .i64 p.k, .bool p.f] 24)).cell? ⟨w.heap.size, 0, none⟩ = some (.slice p.q p.L.length p.c) := cell_row n1 (i := 0) rfl
  have X1 : Hid ((w.alloc (.cells #[.slice p.q p.L.length p.c, .int .i64 p.g, .int .i64 p.k, .bool p.f] 24)).heap[w.heap.size]? = some (.cells #[.slice p.q p.L.length p.c, .int .i64 p.g, .int .i64 p.k, .bool p.f] 24 (0, 0))) := n1
  obtain ⟨g1, o1, hq1, hl1, c0, c1, c2, c3, c4, c5, c6, c7, c8, c9⟩ := (h.li.kept B1.out).ten hi
  have hlt := (List.getElem?_eq_some_iff.1 hi).1
  have i0 : (k : Int) < (p.L.length : Int) := by omega
  have Q1 := hide hq1
  have HO := hide ho
  clear hq1 n1 ho
  go_enter Try.func24, Try.ntmps24
  go_upto_region 1 with fail
  generalize (w.alloc (.cells #[.slice p.q p.L.length p.c, .int .i64 p.g, .int .i64 p.k, .bool p.f] 24)) = w1 at B1 p0 X1 hl1 c0 c1 c2 c3 c4 c5 c6 c7 c8 c9 ⊢
  rw [Q1.out] at p0
  have hl2 := lt_of_heap X1.out
  go_region
  clear p0 c0 c1 c2 c3 c4 c5 c6 c7 c8 c9 hl1
  have B2 : Hid (Below w.heap.size w (w1.alloc (.cells #[.int .i64 i.op, .int .i64 i.x, .int .i64 i.y, .int .i64 i.n, .int .i64 i.mn, .int .i64 i.mx, .int .u64 (z1_wd i.s 0), .int .u64 (z1_wd i.s 1), .int .u64 (z1_wd i.s 2), .int .u64 (z1_wd i.s 3)] 42)).drew) := (chain B1.out ((Below.refl _ _).alloc (Nat.le_refl _) _) (Nat.le_refl _)).drew
  have X2 : Hid ((w1.alloc (.cells #[.int .i64 i.op, .int .i64 i.x, .int .i64 i.y, .int .i64 i.n, .int .i64 i.mn, .int .i64 i.mx, .int .u64 (z1_wd i.s 0), .int .u64 (z1_wd i.s 1), .int .u64 (z1_wd i.s 2), .int .u64 (z1_wd i.s 3)] 42)).drew.heap[w1.heap.size]? = some (.cells #[.int .i64 i.op, .int .i64 i.x, .int .i64 i.y, .int .i64 i.n, .int .i64 i.mn, .int .i64 i.mx, .int .u64 (z1_wd i.s 0), .int .u64 (z1_wd i.s 1), .int .u64 (z1_wd i.s 2), .int .u64 (z1_wd i.s 3)] 42 (0, 0))) := alloc_new w1 _
  have X3 : Hid ((w1.alloc (.cells #[.int .i64 i.op, .int .i64 i.x, .int .i64 i.y, .int .i64 i.n, .int .i64 i.mn, .int .i64 i.mx, .int .u64 (z1_wd i.s 0), .int .u64 (z1_wd i.s 1), .int .u64 (z1_wd i.s 2), .int .u64 (z1_wd i.s 3)] 42)).drew.heap[w.heap.size]? = some (.cells #[.slice p.q p.L.length p.c, .int .i64 p.g, .int .i64 p.k, .bool p.f] 24 (0, 0))) := (Below.heap_alloc _ _ _ hl2).trans X1.out
  generalize (w1.alloc (.cells #[.int .i64 i.op, .int .i64 i.x, .int .i64 i.y, .int .i64 i.n, .int .i64 i.mn, .int .i64 i.mx, .int .u64 (z1_wd i.s 0), .int .u64 (z1_wd i.s 1), .int .u64 (z1_wd i.s 2), .int .u64 (z1_wd i.s 3)] 42)).drew = w2 at B2 X2 X3 ⊢
  obtain ⟨j, hj⟩ : ∃ j, j = usI 72 i := ⟨_, rfl⟩
  have hc := fun x : Ext w2 => ext_used (t := 72) (by decide) hj x
  obtain ⟨io, ix, iy, inn, imn, imx, iss⟩ := i
  simp only at HO X2 hc hj ⊢
  obtain rfl := HO.out
  have d0 := cell_row X2.out (i := 0) rfl
  have d1 := cell_row X2.out (i := 1) rfl
  have d2 := cell_row X2.out (i := 2) rfl
  have d3 := cell_row X2.out (i := 3) rfl
  have d4 := cell_row X2.out (i := 4) rfl
  have d5 := cell_row X2.out (i := 5) rfl
  have d6 := cell_row X2.out (i := 6) rfl
  have d7 := cell_row X2.out (i := 7) rfl
  have d8 := cell_row X2.out (i := 8) rfl
  have d9 := cell_row X2.out (i := 9) rfl
  have e1 := cell_row X3.out (i := 1) rfl
  have e2 := cell_row X3.out (i := 2) rfl
  have l2 := lt_of_heap X2.out
  have l3 := lt_of_heap X3.out
  have hs := fun (W : World) => (show Calls Try.prog 31 #[.int .i64 8] W fun e w' => e = .returned (.tuple #[.string ⟨#[98, 97, 99, 107]⟩, .int .i64 72]) ∧ w' = W from shape_c 8 W)
  have q2 : hsT 72 2 = false := by decide
  have q4 : hsT 72 4 = false := by decide
  have q8 : hsT 72 8 = true := by decide
  have q16 : hsT 72 16 = false := by decide
  have q32 : hsT 72 32 = false := by decide
  have q64 : hsT 72 64 = true := by decide
  have EI := fun W => neq_inst ⟨8, ix, iy, inn, imn, imx, iss⟩ j W
  simp only at EI
  have hF : fineI p k ⟨8, ix, iy, inn, imn, imx, iss⟩ = (decide ((⟨8, ix, iy, inn, imn, imx, iss⟩ : Ins) = j) && blw inn p.g && decide ((k : Int) + 1 < p.L.length)) := by
    rw [hj]
    show (!(shW 8 == []) && decide ((⟨8, ix, iy, inn, imn, imx, iss⟩ : Ins) = usI 72 ⟨8, ix, iy, inn, imn, imx, iss⟩) && (!hsT 72 2 || blw ix p.L.length) && (!hsT 72 4 || blw iy p.L.length) && (!hsT 72 8 || blw inn p.g) && (!hsT 72 16 || blw inn p.k) && (!hsT 72 32 || rbd imn imx) && (!hsT 72 64 || decide ((k : Int) + 1 < p.L.length))) = _
    rw [show (!(shW 8 == [])) = true from rfl, q2, q4, q8, q16, q32, q64]
    simp
  have HF := hide hF
  clear hF
  clear hj
  go_wp2_with (go_at_call 31; (with_reducible refine (hs _).mono ?_); rintro e w5 ⟨rfl, rfl⟩)
  refine wp_region_ext (by kernel_rfl) (by kernel_rfl) ?_
  repeat (go_big_quiet_step (first | exact rfl | exact EI _ | (go_at_call 32; exact ext_call (hc _))))
  refine wpQuiet_nil ?_
  intro w6 hw6
  have hb6 := ext_of hw6
  have B6 := hide (chain B2.out hb6 (Nat.le_refl _))
  have y1 := (hb6.cell (p := ⟨w1.heap.size, 1, none⟩) l2).trans d1
  have y2 := (hb6.cell (p := ⟨w1.heap.size, 2, none⟩) l2).trans d2
  have y3 := (hb6.cell (p := ⟨w1.heap.size, 3, none⟩) l2).trans d3
  have y4 := (hb6.cell (p := ⟨w1.heap.size, 4, none⟩) l2).trans d4
  have y5 := (hb6.cell (p := ⟨w1.heap.size, 5, none⟩) l2).trans d5
  have z1 := (hb6.cell (p := ⟨w.heap.size, 1, none⟩) l3).trans e1
  have z2 := (hb6.cell (p := ⟨w.heap.size, 2, none⟩) l3).trans e2
  clear hw6 hb6 d0 d1 d2 d3 d4 d5 d6 d7 d8 d9 e1 e2 hc EI hs
  obtain ⟨r, hr⟩ : ∃ r, decide ((⟨8, ix, iy, inn, imn, imx, iss⟩ : Ins) = j) = r := ⟨_, rfl⟩
  rw [hr] at HF ⊢
  clear hr hi
  have hw1 : IntKind.wrap .i64 ((k : Int) + 1) = (k : Int) + 1 := wrap_small _ (by omega) (by omega)
  go_wp2_with first
    | (go_at_call 33; (with_reducible refine (has_t _ _ _).mono ?_); rintro e w7 ⟨rfl, rfl⟩)
    | (go_at_call 23; (with_reducible refine (below_c _ _ _).mono ?_); rintro e w7 ⟨rfl, rfl⟩)
    | (go_at_call 34; (with_reducible refine (bounds_c _ _ _).mono ?_); rintro e w7 ⟨rfl, rfl⟩)
  all_goals go_ret
  all_goals
    refine ⟨?_, B6.out⟩
    rw [HF.out]
    first | rfl | simp_all
set_option maxRecDepth 100000 in
set_option maxHeartbeats 8000000 in
theorem rat_9 {w : World} {p : Pg} (h : PgI w p) {k : Nat} {i : Ins} (hi : p.L[k]? = some i) (hk : p.L.length ≤ 40000) (ho : i.op = 9) :
    Calls Try.prog 24 #[.agg #[.slice p.q p.L.length p.c, .int .i64 p.g, .int .i64 p.k, .bool p.f], .int .i64 (k : Int)] w (RaP p k i w) := by
  have B1 : Hid (Below w.heap.size w (w.alloc (.cells #[.slice p.q p.L.length p.c, .int .i64 p.g, .int .i64 p.k, .bool p.f] 24))) := (Below.refl _ _).alloc (Nat.le_refl _) _
  have n1 := alloc_new w (.cells #[.slice p.q p.L.length p.c, .int .i64 p.g, .int .i64 p.k, .bool p.f] 24)
  have p0 : (w.alloc (.cells #[.slice p.q p.L.length p.c, .int .i64 p.g, .int .i64 p.k, .bool p.f] 24)).cell? ⟨w.heap.size, 0, none⟩ = some (.slice p.q p.L.length p.c) := cell_row n1 (i := 0) rfl
  have X1 : Hid ((w.alloc (.cells #[.slice p.q p.L.length p.c, .int .i64 p.g, .int .i64 p.k, .bool p.f] 24)).heap[w.heap.size]? = some (.cells #[.slice p.q p.L.length p.c, .int .i64 p.g, .int .i64 p.k, .bool p.f] 24 (0, 0))) := n1
  obtain ⟨g1, o1, hq1, hl1, c0, c1, c2, c3, c4, c5, c6, c7, c8, c9⟩ := (h.li.kept B1.out).ten hi
  have hlt := (List.getElem?_eq_some_iff.1 hi).1
  have i0 : (k : Int) < (p.L.length : Int) := by omega
  have Q1 := hide hq1
  have HO := hide ho
  clear hq1 n1 ho
  go_enter Try.func24, Try.ntmps24
  go_upto_region 1 with fail
  generalize (w.alloc (.cells #[.slice p.q p.L.length p.c, .int .i64 p.g, .int .i64 p.k, .bool p.f] 24)) = w1 at B1 p0 X1 hl1 c0 c1 c2 c3 c4 c5 c6 c7 c8 c9 ⊢
  rw [Q1.out] at p0
  have hl2 := lt_of_heap X1.out
  go_region
  clear p0 c0 c1 c2 c3 c4 c5 c6 c7 c8 c9 hl1
  have B2 : Hid (Below w.heap.size w (w1.alloc (.cells #[.int .i64 i.op, .int .i64 i.x, .int .i64 i.y, .int .i64 i.n, .int .i64 i.mn, .int .i64 i.mx, .int .u64 (z1_wd i.s 0), .int .u64 (z1_wd i.s 1), .int .u64 (z1_wd i.s 2), .int .u64 (z1_wd i.s 3)] 42)).drew) := (chain B1.out ((Below.refl _ _).alloc (Nat.le_refl _) _) (Nat.le_refl _)).drew
  have X2 : Hid ((w1.alloc (.cells #[.int .i64 i.op, .int .i64 i.x, .int .i64 i.y, .int .i64 i.n, .int .i64 i.mn, .int .i64 i.mx, .int .u64 (z1_wd i.s 0), .int .u64 (z1_wd i.s 1), .int .u64 (z1_wd i.s 2), .int .u64 (z1_wd i.s 3)] 42)).drew.heap[w1.heap.size]? = some (.cells #[.int .i64 i.op, .int .i64 i.x, .int .i64 i.y, .int .i64 i.n, .int .i64 i.mn, .int .i64 i.mx, .int .u64 (z1_wd i.s 0), .int .u64 (z1_wd i.s 1), .int .u64 (z1_wd i.s 2), .int .u64 (z1_wd i.s 3)] 42 (0, 0))) := alloc_new w1 _
  have X3 : Hid ((w1.alloc (.cells #[.int .i64 i.op, .int .i64 i.x, .int .i64 i.y, .int .i64 i.n, .int .i64 i.mn, .int .i64 i.mx, .int .u64 (z1_wd i.s 0), .int .u64 (z1_wd i.s 1), .int .u64 (z1_wd i.s 2), .int .u64 (z1_wd i.s 3)] 42)).drew.heap[w.heap.size]? = some (.cells #[.slice p.q p.L.length p.c, .int .i64 p.g, .int .i64 p.k, .bool p.f] 24 (0, 0))) := (Below.heap_alloc _ _ _ hl2).trans X1.out
  generalize (w1.alloc (.cells #[.int .i64 i.op, .int .i64 i.x, .int .i64 i.y, .int .i64 i.n, .int .i64 i.mn, .int .i64 i.mx, .int .u64 (z1_wd i.s 0), .int .u64 (z1_wd i.s 1), .int .u64 (z1_wd i.s 2), .int .u64 (z1_wd i.s 3)] 42)).drew = w2 at B2 X2 X3 ⊢
  obtain ⟨j, hj⟩ : ∃ j, j = usI 80 i := ⟨_, rfl⟩
  have hc := fun x : Ext w2 => ext_used (t := 80) (by decide) hj x
  obtain ⟨io, ix, iy, inn, imn, imx, iss⟩ := i
  simp only at HO X2 hc hj ⊢
  obtain rfl := HO.out
  have d0 := cell_row X2.out (i := 0) rfl
  have d1 := cell_row X2.out (i := 1) rfl
  have d2 := cell_row X2.out (i := 2) rfl
  have d3 := cell_row X2.out (i := 3) rfl
  have d4 := cell_row X2.out (i := 4) rfl
  have d5 := cell_row X2.out (i := 5) rfl
  have d6 := cell_row X2.out (i := 6) rfl
  have d7 := cell_row X2.out (i := 7) rfl
  have d8 := cell_row X2.out (i := 8) rfl
  have d9 := cell_row X2.out (i := 9) rfl
  have e1 := cell_row X3.out (i := 1) rfl
  have e2 := cell_row X3.out (i := 2) rfl
  have l2 := lt_of_heap X2.out
  have l3 := lt_of_heap X3.out
  have hs := fun (W : World) => (show Calls Try.prog 31 #[.int .i64 9] W fun e w' => e = .returned (.tuple #[.string ⟨#[122, 101, 114, 111]⟩, .int .i64 80]) ∧ w' = W from shape_c 9 W)
  have q2 : hsT 80 2 = false := by decide
  have q4 : hsT 80 4 = false := by decide
  have q8 : hsT 80 8 = false := by decide
  have q16 : hsT 80 16 = true := by decide
  have q32 : hsT 80 32 = false := by decide
  have q64 : hsT 80 64 = true := by decide
  have EI := fun W => neq_inst ⟨9, ix, iy, inn, imn, imx, iss⟩ j W
  simp only at EI
  have hF : fineI p k ⟨9, ix, iy, inn, imn, imx, iss⟩ = (decide ((⟨9, ix, iy, inn, imn, imx, iss⟩ : Ins) = j) && blw inn p.k && decide ((k : Int) + 1 < p.L.length)) := by
    rw [hj]
    show (!(shW 9 == []) && decide ((⟨9, ix, iy, inn, imn, imx, iss⟩ : Ins) = usI 80 ⟨9, ix, iy, inn, imn, imx, iss⟩) && (!hsT 80 2 || blw ix p.L.length) && (!hsT 80 4 || blw iy p.L.length) && (!hsT 80 8 || blw inn p.g) && (!hsT 80 16 || blw inn p.k) && (!hsT 80 32 || rbd imn imx) && (!hsT 80 64 || decide ((k : Int) + 1 < p.L.length))) = _
    rw [show (!(shW 9 == [])) = true from rfl, q2, q4, q8, q16, q32, q64]
    simp
  have HF := hide hF
  clear hF
  clear hj
  go_wp2_with (go_at_call 31; (with_reducible refine (hs _).mono ?_); rintro e w5 ⟨rfl, rfl⟩)
  refine wp_region_ext (by kernel_rfl) (by kernel_rfl) ?_
  repeat (go_big_quiet_step (first | exact rfl | exact EI _ | (go_at_call 32; exact ext_call (hc _))))
  refine wpQuiet_nil ?_
  intro w6 hw6
  have hb6 := ext_of hw6
  have B6 := hide (chain B2.out hb6 (Nat.le_refl _))
  have y1 := (hb6.cell (p := ⟨w1.heap.size, 1, none⟩) l2).trans d1
  have y2 := (hb6.cell (p := ⟨w1.heap.size, 2, none⟩) l2).trans d2
  have y3 := (hb6.cell (p := ⟨w1.heap.size, 3, none⟩) l2).trans d3
  have y4 := (hb6.cell (p := ⟨w1.heap.size, 4, none⟩) l2).trans d4
  have y5 := (hb6.cell (p := ⟨w1.heap.size, 5, none⟩) l2).trans d5
  have z1 := (hb6.cell (p := ⟨w.heap.size, 1, none⟩) l3).trans e1
  have z2 := (hb6.cell (p := ⟨w.heap.size, 2, none⟩) l3).trans e2
  clear hw6 hb6 d0 d1 d2 d3 d4 d5 d6 d7 d8 d9 e1 e2 hc EI hs
  obtain ⟨r, hr⟩ : ∃ r, decide ((⟨9, ix, iy, inn, imn, imx, iss⟩ : Ins) = j) = r := ⟨_, rfl⟩
  rw [hr] at HF ⊢
  clear hr hi
  have hw1 : IntKind.wrap .i64 ((k : Int) + 1) = (k : Int) + 1 := wrap_small _ (by omega) (by omega)
  go_wp2_with first
    | (go_at_call 33; (with_reducible refine (has_t _ _ _).mono ?_); rintro e w7 ⟨rfl, rfl⟩)
    | (go_at_call 23; (with_reducible refine (below_c _ _ _).mono ?_); rintro e w7 ⟨rfl, rfl⟩)
    | (go_at_call 34; (with_reducible refine (bounds_c _ _ _).mono ?_); rintro e w7 ⟨rfl, rfl⟩)
  all_goals go_ret
  all_goals
    refine ⟨?_, B6.out⟩
    rw [HF.out]
    first | rfl | simp_all
set_option maxRecDepth 100000 in
set_option maxHeartbeats 8000000 in
theorem rat_10 {w : World} {p : Pg} (h : PgI w p) {k : Nat} {i : Ins} (hi : p.L[k]? = some i) (hk : p.L.length ≤ 40000) (ho : i.op = 10) :
    Calls Try.prog 24 #[.agg #[.slice p.q p.L.length p.c, .int .i64 p.g, .int .i64 p.k, .bool p.f], .int .i64 (k : Int)] w (RaP p k i w) := by
  have B1 : Hid (Below w.heap.size w (w.alloc (.cells #[.slice p.q p.L.length p.c, .int .i64 p.g, .int .i64 p.k, .bool p.f] 24))) := (Below.refl _ _).alloc (Nat.le_refl _) _
  have n1 := alloc_new w (.cells #[.slice p.q p.L.length p.c, .int .i64 p.g, .int .i64 p.k, .bool p.f] 24)
  have p0 : (w.alloc (.cells #[.slice p.q p.L.length p.c, .int .i64 p.g, .int .i64 p.k, .bool p.f] 24)).cell? ⟨w.heap.size, 0, none⟩ = some (.slice p.q p.L.length p.c) := cell_row n1 (i := 0) rfl
  have X1 : Hid ((w.alloc (.cells #[.slice p.q p.L.length p.c, .int .i64 p.g, .int .i64 p.k, .bool p.f] 24)).heap[w.heap.size]? = some (.cells #[.slice p.q p.L.length p.c, .int .i64 p.g, .int .i64 p.k, .bool p.f] 24 (0, 0))) := n1
  obtain ⟨g1, o1, hq1, hl1, c0, c1, c2, c3, c4, c5, c6, c7, c8, c9⟩ := (h.li.kept B1.out).ten hi
  have hlt := (List.getElem?_eq_some_iff.1 hi).1
  have i0 : (k : Int) < (p.L.length : Int) := by omega
  have Q1 := hide hq1
  have HO := hide ho
  clear hq1 n1 ho
  go_enter Try.func24, Try.ntmps24
  go_upto_region 1 with fail
  generalize (w.alloc (.cells #[.slice p.q p.L.length p.c, .int .i64 p.g, .int .i64 p.k, .bool p.f] 24)) = w1 at B1 p0 X1 hl1 c0 c1 c2 c3 c4 c5 c6 c7 c8 c9 ⊢
  rw [Q1.out] at p0
  have hl2 := lt_of_heap X1.out
  go_region
  clear p0 c0 c1 c2 c3 c4 c5 c6 c7 c8 c9 hl1
  have B2 : Hid (Below w.heap.size w (w1.alloc (.cells #[.int .i64 i.op, .int .i64 i.x, .int .i64 i.y, .int .i64 i.n, .int .i64 i.mn, .int .i64 i.mx, .int .u64 (z1_wd i.s 0), .int .u64 (z1_wd i.s 1), .int .u64 (z1_wd i.s 2), .int .u64 (z1_wd i.s 3)] 42)).drew) := (chain B1.out ((Below.refl _ _).alloc (Nat.le_refl _) _) (Nat.le_refl _)).drew
  have X2 : Hid ((w1.alloc (.cells #[.int .i64 i.op, .int .i64 i.x, .int .i64 i.y, .int .i64 i.n, .int .i64 i.mn, .int .i64 i.mx, .int .u64 (z1_wd i.s 0), .int .u64 (z1_wd i.s 1), .int .u64 (z1_wd i.s 2), .int .u64 (z1_wd i.s 3)] 42)).drew.heap[w1.heap.size]? = some (.cells #[.int .i64 i.op, .int .i64 i.x, .int .i64 i.y, .int .i64 i.n, .int .i64 i.mn, .int .i64 i.mx, .int .u64 (z1_wd i.s 0), .int .u64 (z1_wd i.s 1), .int .u64 (z1_wd i.s 2), .int .u64 (z1_wd i.s 3)] 42 (0, 0))) := alloc_new w1 _
  have X3 : Hid ((w1.alloc (.cells #[.int .i64 i.op, .int .i64 i.x, .int .i64 i.y, .int .i64 i.n, .int .i64 i.mn, .int .i64 i.mx, .int .u64 (z1_wd i.s 0), .int .u64 (z1_wd i.s 1), .int .u64 (z1_wd i.s 2), .int .u64 (z1_wd i.s 3)] 42)).drew.heap[w.heap.size]? = some (.cells #[.slice p.q p.L.length p.c, .int .i64 p.g, .int .i64 p.k, .bool p.f] 24 (0, 0))) := (Below.heap_alloc _ _ _ hl2).trans X1.out
  generalize (w1.alloc (.cells #[.int .i64 i.op, .int .i64 i.x, .int .i64 i.y, .int .i64 i.n, .int .i64 i.mn, .int .i64 i.mx, .int .u64 (z1_wd i.s 0), .int .u64 (z1_wd i.s 1), .int .u64 (z1_wd i.s 2), .int .u64 (z1_wd i.s 3)] 42)).drew = w2 at B2 X2 X3 ⊢
  obtain ⟨j, hj⟩ : ∃ j, j = usI 54 i := ⟨_, rfl⟩
  have hc := fun x : Ext w2 => ext_used (t := 54) (by decide) hj x
  obtain ⟨io, ix, iy, inn, imn, imx, iss⟩ := i
  simp only at HO X2 hc hj ⊢
  obtain rfl := HO.out
  have d0 := cell_row X2.out (i := 0) rfl
  have d1 := cell_row X2.out (i := 1) rfl
  have d2 := cell_row X2.out (i := 2) rfl
  have d3 := cell_row X2.out (i := 3) rfl
  have d4 := cell_row X2.out (i := 4) rfl
  have d5 := cell_row X2.out (i := 5) rfl
  have d6 := cell_row X2.out (i := 6) rfl
  have d7 := cell_row X2.out (i := 7) rfl
  have d8 := cell_row X2.out (i := 8) rfl
  have d9 := cell_row X2.out (i := 9) rfl
  have e1 := cell_row X3.out (i := 1) rfl
  have e2 := cell_row X3.out (i := 2) rfl
  have l2 := lt_of_heap X2.out
  have l3 := lt_of_heap X3.out
  have hs := fun (W : World) => (show Calls Try.prog 31 #[.int .i64 10] W fun e w' => e = .returned (.tuple #[.string ⟨#[116, 117, 114, 110]⟩, .int .i64 54]) ∧ w' = W from shape_c 10 W)
  have q2 : hsT 54 2 = true := by decide
  have q4 : hsT 54 4 = true := by decide
  have q8 : hsT 54 8 = false := by decide
  have q16 : hsT 54 16 = true := by decide
  have q32 : hsT 54 32 = true := by decide
  have q64 : hsT 54 64 = false := by decide
  have EI := fun W => neq_inst ⟨10, ix, iy, inn, imn, imx, iss⟩ j W
  simp only at EI
  have hF : fineI p k ⟨10, ix, iy, inn, imn, imx, iss⟩ = (decide ((⟨10, ix, iy, inn, imn, imx, iss⟩ : Ins) = j) && blw ix p.L.length && blw iy p.L.length && blw inn p.k && rbd imn imx) := by
    rw [hj]
    show (!(shW 10 == []) && decide ((⟨10, ix, iy, inn, imn, imx, iss⟩ : Ins) = usI 54 ⟨10, ix, iy, inn, imn, imx, iss⟩) && (!hsT 54 2 || blw ix p.L.length) && (!hsT 54 4 || blw iy p.L.length) && (!hsT 54 8 || blw inn p.g) && (!hsT 54 16 || blw inn p.k) && (!hsT 54 32 || rbd imn imx) && (!hsT 54 64 || decide ((k : Int) + 1 < p.L.length))) = _
    rw [show (!(shW 10 == [])) = true from rfl, q2, q4, q8, q16, q32, q64]
    simp
  have HF := hide hF
  clear hF
  clear hj
  go_wp2_with (go_at_call 31; (with_reducible refine (hs _).mono ?_); rintro e w5 ⟨rfl, rfl⟩)
  refine wp_region_ext (by kernel_rfl) (by kernel_rfl) ?_
  repeat (go_big_quiet_step (first | exact rfl | exact EI _ | (go_at_call 32; exact ext_call (hc _))))
  refine wpQuiet_nil ?_
  intro w6 hw6
  have hb6 := ext_of hw6
  have B6 := hide (chain B2.out hb6 (Nat.le_refl _))
  have y1 := (hb6.cell (p := ⟨w1.heap.size, 1, none⟩) l2).trans d1
  have y2 := (hb6.cell (p := ⟨w1.heap.size, 2, none⟩) l2).trans d2
  have y3 := (hb6.cell (p := ⟨w1.heap.size, 3, none⟩) l2).trans d3
  have y4 := (hb6.cell (p := ⟨w1.heap.size, 4, none⟩) l2).trans d4
  have y5 := (hb6.cell (p := ⟨w1.heap.size, 5, none⟩) l2).trans d5
  have z1 := (hb6.cell (p := ⟨w.heap.size, 1, none⟩) l3).trans e1
  have z2 := (hb6.cell (p := ⟨w.heap.size, 2, none⟩) l3).trans e2
  clear hw6 hb6 d0 d1 d2 d3 d4 d5 d6 d7 d8 d9 e1 e2 hc EI hs
  obtain ⟨r, hr⟩ : ∃ r, decide ((⟨10, ix, iy, inn, imn, imx, iss⟩ : Ins) = j) = r := ⟨_, rfl⟩
  rw [hr] at HF ⊢
  clear hr hi
  have hw1 : IntKind.wrap .i64 ((k : Int) + 1) = (k : Int) + 1 := wrap_small _ (by omega) (by omega)
  go_wp2_with first
    | (go_at_call 33; (with_reducible refine (has_t _ _ _).mono ?_); rintro e w7 ⟨rfl, rfl⟩)
    | (go_at_call 23; (with_reducible refine (below_c _ _ _).mono ?_); rintro e w7 ⟨rfl, rfl⟩)
    | (go_at_call 34; (with_reducible refine (bounds_c _ _ _).mono ?_); rintro e w7 ⟨rfl, rfl⟩)
  all_goals go_ret
  all_goals
    refine ⟨?_, B6.out⟩
    rw [HF.out]
    first | rfl | simp_all
set_option maxRecDepth 100000 in
set_option maxHeartbeats 8000000 in
theorem rat_11 {w : World} {p : Pg} (h : PgI w p) {k : Nat} {i : Ins} (hi : p.L[k]? = some i) (hk : p.L.length ≤ 40000) (ho : i.op = 11) :
    Calls Try.prog 24 #[.agg #[.slice p.q p.L.length p.c, .int .i64 p.g, .int .i64 p.k, .bool p.f], .int .i64 (k : Int)] w (RaP p k i w) := by
  have B1 : Hid (Below w.heap.size w (w.alloc (.cells #[.slice p.q p.L.length p.c, .int .i64 p.g, .int .i64 p.k, .bool p.f] 24))) := (Below.refl _ _).alloc (Nat.le_refl _) _
  have n1 := alloc_new w (.cells #[.slice p.q p.L.length p.c, .int .i64 p.g, .int .i64 p.k, .bool p.f] 24)
  have p0 : (w.alloc (.cells #[.slice p.q p.L.length p.c, .int .i64 p.g, .int .i64 p.k, .bool p.f] 24)).cell? ⟨w.heap.size, 0, none⟩ = some (.slice p.q p.L.length p.c) := cell_row n1 (i := 0) rfl
  have X1 : Hid ((w.alloc (.cells #[.slice p.q p.L.length p.c, .int .i64 p.g, .int .i64 p.k, .bool p.f] 24)).heap[w.heap.size]? = some (.cells #[.slice p.q p.L.length p.c, .int .i64 p.g, .int .i64 p.k, .bool p.f] 24 (0, 0))) := n1
  obtain ⟨g1, o1, hq1, hl1, c0, c1, c2, c3, c4, c5, c6, c7, c8, c9⟩ := (h.li.kept B1.out).ten hi
  have hlt := (List.getElem?_eq_some_iff.1 hi).1
  have i0 : (k : Int) < (p.L.length : Int) := by omega
  have Q1 := hide hq1
  have HO := hide ho
  clear hq1 n1 ho
  go_enter Try.func24, Try.ntmps24
  go_upto_region 1 with fail
  generalize (w.alloc (.cells #[.slice p.q p.L.length p.c, .int .i64 p.g, .int .i64 p.k, .bool p.f] 24)) = w1 at B1 p0 X1 hl1 c0 c1 c2 c3 c4 c5 c6 c7 c8 c9 ⊢
  rw [Q1.out] at p0
  have hl2 := lt_of_heap X1.out
  go_region
  clear p0 c0 c1 c2 c3 c4 c5 c6 c7 c8 c9 hl1
  have B2 : Hid (Below w.heap.size w (w1.alloc (.cells #[.int .i64 i.op, .int .i64 i.x, .int .i64 i.y, .int .i64 i.n, .int .i64 i.mn, .int .i64 i.mx, .int .u64 (z1_wd i.s 0), .int .u64 (z1_wd i.s 1), .int .u64 (z1_wd i.s 2), .int .u64 (z1_wd i.s 3)] 42)).drew) := (chain B1.out ((Below.refl _ _).alloc (Nat.le_refl _) _) (Nat.le_refl _)).drew
  have X2 : Hid ((w1.alloc (.cells #[.int .i64 i.op, .int .i64 i.x, .int .i64 i.y, .int .i64 i.n, .int .i64 i.mn, .int .i64 i.mx, .int .u64 (z1_wd i.s 0), .int .u64 (z1_wd i.s 1), .int .u64 (z1_wd i.s 2), .int .u64 (z1_wd i.s 3)] 42)).drew.heap[w1.heap.size]? = some (.cells #[.int .i64 i.op, .int .i64 i.x, .int .i64 i.y, .int .i64 i.n, .int .i64 i.mn, .int .i64 i.mx, .int .u64 (z1_wd i.s 0), .int .u64 (z1_wd i.s 1), .int .u64 (z1_wd i.s 2), .int .u64 (z1_wd i.s 3)] 42 (0, 0))) := alloc_new w1 _
  have X3 : Hid ((w1.alloc (.cells #[.int .i64 i.op, .int .i64 i.x, .int .i64 i.y, .int .i64 i.n, .int .i64 i.mn, .int .i64 i.mx, .int .u64 (z1_wd i.s 0), .int .u64 (z1_wd i.s 1), .int .u64 (z1_wd i.s 2), .int .u64 (z1_wd i.s 3)] 42)).drew.heap[w.heap.size]? = some (.cells #[.slice p.q p.L.length p.c, .int .i64 p.g, .int .i64 p.k, .bool p.f] 24 (0, 0))) := (Below.heap_alloc _ _ _ hl2).trans X1.out
  generalize (w1.alloc (.cells #[.int .i64 i.op, .int .i64 i.x, .int .i64 i.y, .int .i64 i.n, .int .i64 i.mn, .int .i64 i.mx, .int .u64 (z1_wd i.s 0), .int .u64 (z1_wd i.s 1), .int .u64 (z1_wd i.s 2), .int .u64 (z1_wd i.s 3)] 42)).drew = w2 at B2 X2 X3 ⊢
  obtain ⟨j, hj⟩ : ∃ j, j = usI 0 i := ⟨_, rfl⟩
  have hc := fun x : Ext w2 => ext_used (t := 0) (by decide) hj x
  obtain ⟨io, ix, iy, inn, imn, imx, iss⟩ := i
  simp only at HO X2 hc hj ⊢
  obtain rfl := HO.out
  have d0 := cell_row X2.out (i := 0) rfl
  have d1 := cell_row X2.out (i := 1) rfl
  have d2 := cell_row X2.out (i := 2) rfl
  have d3 := cell_row X2.out (i := 3) rfl
  have d4 := cell_row X2.out (i := 4) rfl
  have d5 := cell_row X2.out (i := 5) rfl
  have d6 := cell_row X2.out (i := 6) rfl
  have d7 := cell_row X2.out (i := 7) rfl
  have d8 := cell_row X2.out (i := 8) rfl
  have d9 := cell_row X2.out (i := 9) rfl
  have e1 := cell_row X3.out (i := 1) rfl
  have e2 := cell_row X3.out (i := 2) rfl
  have l2 := lt_of_heap X2.out
  have l3 := lt_of_heap X3.out
  have hs := fun (W : World) => (show Calls Try.prog 31 #[.int .i64 11] W fun e w' => e = .returned (.tuple #[.string ⟨#[109, 97, 116, 99, 104]⟩, .int .i64 0]) ∧ w' = W from shape_c 11 W)
  have q2 : hsT 0 2 = false := by decide
  have q4 : hsT 0 4 = false := by decide
  have q8 : hsT 0 8 = false := by decide
  have q16 : hsT 0 16 = false := by decide
  have q32 : hsT 0 32 = false := by decide
  have q64 : hsT 0 64 = false := by decide
  have EI := fun W => neq_inst ⟨11, ix, iy, inn, imn, imx, iss⟩ j W
  simp only at EI
  have hF : fineI p k ⟨11, ix, iy, inn, imn, imx, iss⟩ = (decide ((⟨11, ix, iy, inn, imn, imx, iss⟩ : Ins) = j)) := by
    rw [hj]
    show (!(shW 11 == []) && decide ((⟨11, ix, iy, inn, imn, imx, iss⟩ : Ins) = usI 0 ⟨11, ix, iy, inn, imn, imx, iss⟩) && (!hsT 0 2 || blw ix p.L.length) && (!hsT 0 4 || blw iy p.L.length) && (!hsT 0 8 || blw inn p.g) && (!hsT 0 16 || blw inn p.k) && (!hsT 0 32 || rbd imn imx) && (!hsT 0 64 || decide ((k : Int) + 1 < p.L.length))) = _
    rw [show (!(shW 11 == [])) = true from rfl, q2, q4, q8, q16, q32, q64]
    simp
  have HF := hide hF
  clear hF
  clear hj
  go_wp2_with (go_at_call 31; (with_reducible refine (hs _).mono ?_); rintro e w5 ⟨rfl, rfl⟩)
  refine wp_region_ext (by kernel_rfl) (by kernel_rfl) ?_
  repeat (go_big_quiet_step (first | exact rfl | exact EI _ | (go_at_call 32; exact ext_call (hc _))))
  refine wpQuiet_nil ?_
  intro w6 hw6
  have hb6 := ext_of hw6
  have B6 := hide (chain B2.out hb6 (Nat.le_refl _))
  have y1 := (hb6.cell (p := ⟨w1.heap.size, 1, none⟩) l2).trans d1
  have y2 := (hb6.cell (p := ⟨w1.heap.size, 2, none⟩) l2).trans d2
  have y3 := (hb6.cell (p := ⟨w1.heap.size, 3, none⟩) l2).trans d3
  have y4 := (hb6.cell (p := ⟨w1.heap.size, 4, none⟩) l2).trans d4
  have y5 := (hb6.cell (p := ⟨w1.heap.size, 5, none⟩) l2).trans d5
  have z1 := (hb6.cell (p := ⟨w.heap.size, 1, none⟩) l3).trans e1
  have z2 := (hb6.cell (p := ⟨w.heap.size, 2, none⟩) l3).trans e2
  clear hw6 hb6 d0 d1 d2 d3 d4 d5 d6 d7 d8 d9 e1 e2 hc EI hs
  obtain ⟨r, hr⟩ : ∃ r, decide ((⟨11, ix, iy, inn, imn, imx, iss⟩ : Ins) = j) = r := ⟨_, rfl⟩
  rw [hr] at HF ⊢
  clear hr hi
  have hw1 : IntKind.wrap .i64 ((k : Int) + 1) = (k : Int) + 1 := wrap_small _ (by omega) (by omega)
  go_wp2_with first
    | (go_at_call 33; (with_reducible refine (has_t _ _ _).mono ?_); rintro e w7 ⟨rfl, rfl⟩)
    | (go_at_call 23; (with_reducible refine (below_c _ _ _).mono ?_); rintro e w7 ⟨rfl, rfl⟩)
    | (go_at_call 34; (with_reducible refine (bounds_c _ _ _).mono ?_); rintro e w7 ⟨rfl, rfl⟩)
  all_goals go_ret
  all_goals
    refine ⟨?_, B6.out⟩
    rw [HF.out]
    first | rfl | simp_all
end Go.Proofs.Ytbghleihgcenmaa
