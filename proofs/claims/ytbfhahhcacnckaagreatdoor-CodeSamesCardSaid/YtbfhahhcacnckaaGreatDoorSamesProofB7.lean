/-
  Parts of the proof.
-/
import Derived.Test.YtbfhahhcacnckaaGreatDoorSamesProofB6
import Derived.Test.YtbfhahhcacnckaaGreatDoorSamesProofB0
set_option linter.unusedSimpArgs false
namespace Go.Proofs.YtbfhahhcacnckaaGreatDoor
open Go Go.RowKit
attribute [local go_sem] Oper.semAt_some ext_cell
structure Pg where
  q : Option Addr
  L : List Ins
  c : Nat
  g : Int
  k : Int
  f : Bool
structure PgI (w : World) (p : Pg) : Prop where
  len : p.L.length ≤ 9223372036854775807
  li : LI w p.q p.L
theorem PgI.kept {w w' : World} {p : Pg} (h : PgI w p) (hb : Below w.heap.size w w') : PgI w' p := ⟨h.len, h.li.kept hb⟩
def isRef (i : Ins) : Bool := i.op == 8 || i.op == 9 || i.op == 10
set_option maxRecDepth 100000 in
set_option maxHeartbeats 1000000 in
theorem free1_c (i : Ins) (w : World) : Calls Tryz.prog 36 #[.agg #[.int .i64 i.op, .int .i64 i.x, .int .i64 i.y, .int .i64 i.n, .int .i64 i.mn, .int .i64 i.mx, .int .u64 (z1_wd i.s 0), .int .u64 (z1_wd i.s 1), .int .u64 (z1_wd i.s 2), .int .u64 (z1_wd i.s 3)]] w fun e w' => e = .returned (.bool (isRef i)) ∧ Below w.heap.size w w' := by
  have B1 : Hid (Below w.heap.size w (w.alloc (.cells #[.int .i64 i.op, .int .i64 i.x, .int .i64 i.y, .int .i64 i.n, .int .i64 i.mn, .int .i64 i.mx, .int .u64 (z1_wd i.s 0), .int .u64 (z1_wd i.s 1), .int .u64 (z1_wd i.s 2), .int .u64 (z1_wd i.s 3)] 35))) := (Below.refl _ _).alloc (Nat.le_refl _) _
  have c0 : (w.alloc (.cells #[.int .i64 i.op, .int .i64 i.x, .int .i64 i.y, .int .i64 i.n, .int .i64 i.mn, .int .i64 i.mx, .int .u64 (z1_wd i.s 0), .int .u64 (z1_wd i.s 1), .int .u64 (z1_wd i.s 2), .int .u64 (z1_wd i.s 3)] 35)).cell? ⟨w.heap.size, 0, none⟩ = some (.int .i64 i.op) := cell_row (alloc_new w (.cells #[.int .i64 i.op, .int .i64 i.x, .int .i64 i.y, .int .i64 i.n, .int .i64 i.mn, .int .i64 i.mx, .int .u64 (z1_wd i.s 0), .int .u64 (z1_wd i.s 1), .int .u64 (z1_wd i.s 2), .int .u64 (z1_wd i.s 3)] 35)) (i := 0) rfl
  obtain ⟨r, hr⟩ : ∃ r, isRef i = r := ⟨_, rfl⟩
  rw [hr]
  have R : Hid ((i.op == 8 || i.op == 9 || i.op == 10) = r) := hr
  clear hr
  go_enter Tryz.func36, Tryz.ntmps36
  go_upto_region 1 with fail
  generalize (w.alloc (.cells #[.int .i64 i.op, .int .i64 i.x, .int .i64 i.y, .int .i64 i.n, .int .i64 i.mn, .int .i64 i.mx, .int .u64 (z1_wd i.s 0), .int .u64 (z1_wd i.s 1), .int .u64 (z1_wd i.s 2), .int .u64 (z1_wd i.s 3)] 35)) = w1 at B1 c0 ⊢
  obtain ⟨o, ho⟩ : ∃ o, i.op = o := ⟨_, rfl⟩
  rw [ho] at c0 R ⊢
  clear ho
  by_cases h8 : o = 8
  · subst h8
    go_wp2
    go_ret
    exact ⟨by rw [← R.out]; rfl, B1.out⟩
  · by_cases h9 : o = 9
    · subst h9
      go_wp2
      go_ret
      exact ⟨by rw [← R.out]; rfl, B1.out⟩
    · go_wp2
      go_ret
      exact ⟨by rw [← R.out]; rfl, B1.out⟩
structure IxI (i : Int) (b : Bool) : Prop where
  h : 0 ≤ i ↔ b = true
set_option maxRecDepth 100000 in
set_option maxHeartbeats 4000000 in
theorem indexI_c {w : World} {L : List Ins} {q : Option Addr} {c : Nat} (hm : L.length ≤ 9223372036854775807) (hx : LI w q L) :
    Calls Tryz.prog 52 #[.slice q L.length c, .func (.func 36) #[] #[]] w fun e w' => ∃ i : Int, e = .returned (.int .i64 i) ∧ IxI i (L.any isRef) ∧ Below w.heap.size w w' := by
  have H1 := hide hx
  clear hx
  go_enter Tryz.func52, Tryz.ntmps52
  go_wp2
  go_loopw [8] (fun i wr => ∃ j : Nat, j ≤ L.length ∧ i = .int .i64 (j : Int) ∧ (L.take j).any isRef = false ∧ Below w.heap.size w wr) (fun i _ => L.length - (intOf i).toNat)
  case atStart => exact ⟨0, Nat.zero_le _, rfl, rfl, Below.refl _ _⟩
  case round =>
    obtain ⟨j, hj, rfl, hpre, hbel⟩ := hrel
    have HP := hide hpre
    have HB := hide hbel
    clear hpre hbel
    by_cases hjl : j < L.length
    · have i0 : (j : Int) < (L.length : Int) := by omega
      obtain ⟨a9, hga⟩ : ∃ a, L[j]? = some a := ⟨_, List.getElem?_eq_getElem hjl⟩
      obtain ⟨g1, o1, hq1, hl1, c0, c1, c2, c3, c4, c5, c6, c7, c8, c9⟩ := (H1.out.kept HB.out).ten hga
      have GA := hide hga
      have HC := hide (free1_c a9 wr)
      obtain ⟨sb, hsb⟩ : ∃ sb, isRef a9 = sb := ⟨_, rfl⟩
      have HSB := hide hsb
      rw [hsb] at HC
      rw [hq1]
      clear hga hsb
      cases sb with
      | true =>
        have HN : Hid (IxI (j : Int) (L.any isRef)) := ⟨⟨fun _ => List.any_eq_true.2 ⟨a9, List.mem_of_getElem? GA.out, HSB.out⟩, fun _ => by omega⟩⟩
        go_wp2_with (go_at_call 36; (with_reducible refine (HC.out).mono ?_); rintro e w5 ⟨rfl, h5⟩; have B5 : Hid (Below w.heap.size w w5) := chain HB.out h5 (Nat.le_refl _); clear h5)
        go_ret
        exact ⟨_, rfl, HN.out, B5.out⟩
      | false =>
        have HN := hide (show (L.take (j + 1)).any isRef = false by rw [List.take_add_one, GA.out, List.any_append, HP.out]; simpa using HSB.out)
        go_wp2_with (go_at_call 36; (with_reducible refine (HC.out).mono ?_); rintro e w5 ⟨rfl, h5⟩; have B5 : Hid (Below w.heap.size w w5) := chain HB.out h5 (Nat.le_refl _); clear h5)
        go_roundw
        case rel => exact ⟨j + 1, by omega, by go_num, HN.out, B5.out⟩
        case measure => simp only [intOf]; omega
    · have i0 : ¬ (j : Int) < (L.length : Int) := by omega
      have HN : Hid (IxI (-1) (L.any isRef)) := by
        have := HP.out
        rw [List.take_of_length_le (by omega)] at this
        refine ⟨⟨fun h => by omega, fun h => ?_⟩⟩
        rw [this] at h
        cases h
      go_wp2
      go_ret
      exact ⟨_, rfl, HN.out, HB.out⟩
set_option maxRecDepth 100000 in
set_option maxHeartbeats 1000000 in
theorem containsI_c {w : World} {L : List Ins} {q : Option Addr} {c : Nat} (hm : L.length ≤ 9223372036854775807) (hx : LI w q L) :
    Calls Tryz.prog 35 #[.slice q L.length c, .func (.func 36) #[] #[]] w fun e w' => e = .returned (.bool (L.any isRef)) ∧ Below w.heap.size w w' := by
  have HI := hide (indexI_c (c := c) hm hx)
  obtain ⟨r, hr⟩ : ∃ r, L.any isRef = r := ⟨_, rfl⟩
  rw [hr] at HI ⊢
  clear hr hx
  go_enter Tryz.func35, Tryz.ntmps35
  go_wp2_with (go_at_call 52; (with_reducible refine (HI.out).mono ?_); rintro e w5 ⟨ix, rfl, h51, h52⟩; have X5 := hide h51; have B5 := hide h52; clear h51 h52)
  go_ret
  refine ⟨?_, B5.out⟩
  have := X5.out.h
  cases r <;> simp_all
def freeB (p : Pg) : Bool := !p.L.any isRef
set_option maxRecDepth 100000 in
set_option maxHeartbeats 1000000 in
theorem free_c {w : World} {p : Pg} (h : PgI w p) : Calls Tryz.prog 18 #[.agg #[.slice p.q p.L.length p.c, .int .i64 p.g, .int .i64 p.k, .bool p.f]] w fun e w' => e = .returned (.bool (freeB p)) ∧ Below w.heap.size w w' := by
  have B1 : Hid (Below w.heap.size w (w.alloc (.cells #[.slice p.q p.L.length p.c, .int .i64 p.g, .int .i64 p.k, .bool p.f] 24))) := (Below.refl _ _).alloc (Nat.le_refl _) _
  have c0 : (w.alloc (.cells #[.slice p.q p.L.length p.c, .int .i64 p.g, .int .i64 p.k, .bool p.f] 24)).cell? ⟨w.heap.size, 0, none⟩ = some (.slice p.q p.L.length p.c) := cell_row (alloc_new w (.cells #[.slice p.q p.L.length p.c, .int .i64 p.g, .int .i64 p.k, .bool p.f] 24)) (i := 0) rfl
  have HC := hide (containsI_c (c := p.c) h.len (h.li.kept B1.out))
  unfold freeB
  obtain ⟨r, hr⟩ : ∃ r, p.L.any isRef = r := ⟨_, rfl⟩
  rw [hr] at HC ⊢
  clear hr h
  go_enter Tryz.func18, Tryz.ntmps18
  go_wp2_with (go_at_call 35; (with_reducible refine (HC.out).mono ?_); rintro e w5 ⟨rfl, h52⟩; have B5 := hide (chain B1.out h52 (Nat.le_refl _)); clear h52)
  go_ret
  exact ⟨rfl, B5.out⟩
end Go.Proofs.YtbfhahhcacnckaaGreatDoor
