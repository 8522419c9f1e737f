/-
  Parts of the proof.
-/
import Derived.Test.YtbghleihgcenmaaC7
import Derived.Test.YtbghleihgcenmaaC1
import Derived.OwnWalk
import Derived.RangeFuncRecord
import Derived.Deep.RegionWith
import Derived.Deep.DeepCutAuto
import Derived.Test.YtbghleihgcenmaaC3
import Derived.Test.YtbghleihgcenmaaC0
set_option linter.unusedSimpArgs false
namespace Go.Proofs.Ytbghleihgcenmaa
open Go Go.RowKit
attribute [local go_sem] ext_cell
theorem MAt.put {w : World} {b o p room : Nat} {L : List Int} (h : MAt w b o p room L) {n : Nat} (hn : n < room) (hm : (n : Int) ∉ L) (ob : Obj) :
    MAt ((((w.setCell ⟨p, n, none⟩ (.int .i64 L.length)).alloc ob).setCell ⟨o, L.length, none⟩ (.int .i64 n)).setCell ⟨b, 0, none⟩ (.slice (some ⟨o, 0, none⟩) (L.length + 1) room)) b o p room (L ++ [(n : Int)]) := by
  obtain ⟨cur, hc, h2, h3⟩ := h.ho
  obtain ⟨pl, q1, q2, q3⟩ := h.hp
  have hroom := h.room (n := n) (by omega) (by omega) hm
  have hbo := h.bo
  have hbp := h.bp
  have hop := h.hne
  have lb := h.ltb
  have lo := h.lto
  have lp := h.ltp
  refine ⟨?_, ⟨cur.setIfInBounds L.length (.int .i64 n), ?_, by simp [h2], ?_⟩, ⟨pl.set n L.length, ?_, by simp [q2], ?_⟩, hop, h.hr⟩
  · have e1 : (((w.setCell ⟨p, n, none⟩ (.int .i64 L.length)).alloc ob).setCell ⟨o, L.length, none⟩ (.int .i64 n)).heap[b]? = w.heap[b]? := by
      rw [Below.heap_setCell _ _ _ _ hbo, Below.heap_alloc _ _ _ (by simpa [World.setCell] using lb), Below.heap_setCell _ _ _ _ hbp]
    have := heap_set_in (e1.trans h.hb) 0 (.slice (some ⟨o, 0, none⟩) (L.length + 1) room)
    rw [this]
    simp
  · rw [Below.heap_setCell _ _ _ _ (Ne.symm hbo)]
    refine heap_set_in ?_ _ _
    rw [Below.heap_alloc _ _ _ (by simpa [World.setCell] using lo), Below.heap_setCell _ _ _ _ hop]
    exact hc
  · have hl : L.length < cur.toList.length := by simp; omega
    rw [Array.toList_setIfInBounds, List.length_append, List.length_singleton, List.take_set, List.take_add_one, h3, ints_append]
    rw [List.getElem?_eq_getElem hl, Option.toList_some, List.set_append_right _ _ (by rw [ints_length]; omega), ints_length]
    simp [ints]
  · rw [Below.heap_setCell _ _ _ _ (Ne.symm hbp), Below.heap_setCell _ _ _ _ (Ne.symm hop), Below.heap_alloc _ _ _ (by simpa [World.setCell] using lp)]
    rw [heap_set_in q1]
    simp [ints]
  · intro i x hx
    by_cases hi : i < L.length
    · rw [List.getElem?_append_left hi] at hx
      obtain ⟨g1, g2⟩ := q3 i x hx
      refine ⟨g1, ?_⟩
      have hne : n ≠ x.toNat := fun e => hm (by
        have : (n : Int) = x := by omega
        rw [this]
        exact List.mem_of_getElem? hx)
      rw [List.getElem?_set_ne hne]
      exact g2
    · have hl := (List.getElem?_eq_some_iff.1 hx).1
      simp at hl
      obtain rfl : i = L.length := by omega
      simp at hx
      subst hx
      refine ⟨by omega, ?_⟩
      rw [Int.toNat_natCast, List.getElem?_set_self (by omega)]
theorem MAt.spare {w : World} {b o p room : Nat} {L : List Int} (h : MAt w b o p room L) (hl : L.length < room) : (∃ u, w.cell? ⟨o, L.length, none⟩ = some u) ∧ w.frozen? ⟨o, L.length, none⟩ = false := by
  obtain ⟨cur, hc, h2, h3⟩ := h.ho
  exact ⟨⟨cur[L.length]'(by omega), by simp [World.cell?, hc, h2, hl]⟩, by simp [World.frozen?, hc]⟩
set_option maxRecDepth 100000 in
set_option maxHeartbeats 4000000 in
theorem put_c {w : World} {b o p room : Nat} {L : List Int} (h : MAt w b o p room L) (n : Int) :
    Calls Try.prog 28 #[.pointer (some ⟨b, 0, none⟩), .int .i64 n] w fun e w' => e = .returned (.bool (putB room L n)) ∧ MAt w' b o p room (putL room L n) ∧ Fr (own3 b o p) w w' := by
  have H : Hid (MAt w b o p room L) := h
  have c0 := h.cellb0
  have c1 := h.cellb1
  clear h
  by_cases h0 : n < 0
  · have HN : Hid (putB room L n = false ∧ putL room L n = L) := ⟨decide_eq_false (by omega), if_neg (by omega)⟩
    go_enter Try.func28, Try.ntmps28
    go_wp2
    go_ret
    exact ⟨by rw [HN.out.1]; rfl, by rw [HN.out.2]; exact H.out, Fr.refl _ _⟩
  · by_cases h1 : (room : Int) ≤ n
    · have HN : Hid (putB room L n = false ∧ putL room L n = L) := ⟨decide_eq_false (by omega), if_neg (by omega)⟩
      go_enter Try.func28, Try.ntmps28
      go_wp2_with (go_at_call 36; refine (room_c H.out).mono ?_; rintro e w1 ⟨rfl, rfl⟩)
      go_ret
      exact ⟨by rw [HN.out.1]; rfl, by rw [HN.out.2]; exact H.out, Fr.refl _ _⟩
    · obtain ⟨m, rfl⟩ : ∃ m : Nat, n = m := ⟨n.toNat, by omega⟩
      have hm : m < room := by omega
      by_cases hin : (m : Int) ∈ L
      · have HN : Hid (putB room L m = false ∧ putL room L m = L) := ⟨decide_eq_false (fun q => q.2.2 hin), if_neg (fun q => q.2.2 hin)⟩
        have hd : decide ((m : Int) ∈ L) = true := decide_eq_true hin
        clear hin
        go_enter Try.func28, Try.ntmps28
        go_wp2_with first | (go_at_call 36; refine (room_c H.out).mono ?_; rintro e w1 ⟨rfl, rfl⟩) | (go_at_call 37; refine (has_c H.out m).mono ?_; rw [hd]; rintro e w1 ⟨rfl, rfl⟩)
        go_ret
        exact ⟨by rw [HN.out.1]; rfl, by rw [HN.out.2]; exact H.out, Fr.refl _ _⟩
      · have HN : Hid (putB room L m = true ∧ putL room L m = L ++ [(m : Int)]) := ⟨decide_eq_true ⟨by omega, by omega, hin⟩, if_pos ⟨by omega, by omega, hin⟩⟩
        have HI : Hid ((m : Int) ∉ L) := hin
        have hd : decide ((m : Int) ∈ L) = false := decide_eq_false hin
        clear hin
        have i0 : (0 : Int) ≤ (m : Int) := by omega
        have i1 : (m : Int) < (room : Int) := by omega
        have hrm := H.out.room (n := m) (by omega) (by omega) HI.out
        have hr := H.out.hr
        obtain ⟨q, cq, _⟩ := H.out.place hm
        have fq : w.frozen? ⟨p, m, none⟩ = false := by obtain ⟨pl, e, _⟩ := H.out.hp; simp [World.frozen?, e]
        go_enter Try.func28, Try.ntmps28
        go_wp2_with first | (go_at_call 36; refine (room_c H.out).mono ?_; rintro e w1 ⟨rfl, rfl⟩) | (go_at_call 37; refine (has_c H.out m).mono ?_; rw [hd]; rintro e w1 ⟨rfl, rfl⟩)
        have lb := H.out.ltb
        refine wp_region_last_lit (List.cons_ne_nil _ _) (by kernel_rfl) (by kernel_rfl) (by kernel_rfl) ?_
        dsimp only [List.dropLast, List.getLast]
        repeat (go_big_quiet_step (first | exact rfl))
        refine wpQuiet_nil ?_
        intro w2 hw
        have hb2 := ext_of hw
        clear hw
        have H2 : Hid (MAt w2 b o p room L) := H.out.kept hb2
        have F2 : Hid (Fr (own3 b o p) w1 w2) := Fr.of_below hb2
        have d0 := H2.out.cellb0
        have fb := H2.out.frb 0
        have cq2 := (hb2.cell (p := ⟨p, m, none⟩) H.out.ltp).trans cq
        have fq2 := (hb2.frozen (p := ⟨p, m, none⟩) H.out.ltp).trans fq
        have hbp := H2.out.bp
        have hbo := H2.out.bo
        have hop := H2.out.hne
        clear hb2 c0 c1 cq fq
        obtain ⟨⟨u, cu⟩, fu⟩ := H2.out.spare hrm
        have hx : ((w2.setCell ⟨p, m, none⟩ (.int .i64 L.length)).alloc (.cells #[.int .i64 m] 3)).heap[o]? = w2.heap[o]? := by
          rw [Below.heap_alloc _ _ _ (by simpa [World.setCell] using H2.out.lto), Below.heap_setCell _ _ _ _ hop]
        have cx := (World.cell?_of_block (a := ⟨o, L.length, none⟩) hx).trans cu
        have fx := (World.frozen?_of_block (a := ⟨o, L.length, none⟩) hx).trans fu
        have hy : ((w2.setCell ⟨p, m, none⟩ (.int .i64 L.length)).alloc (.cells #[.int .i64 m] 3)).heap[b]? = w2.heap[b]? := by
          rw [Below.heap_alloc _ _ _ (by simpa [World.setCell] using H2.out.ltb), Below.heap_setCell _ _ _ _ hbp]
        have cy := (World.cell?_of_block (a := ⟨b, 0, none⟩) hy).trans d0
        have fy := (World.frozen?_of_block (a := ⟨b, 0, none⟩) hy).trans fb
        clear hx hy
        go_wp2
        go_ret
        refine ⟨by rw [HN.out.1]; rfl, by rw [HN.out.2]; exact H2.out.put hm HI.out _, ?_⟩
        exact (((F2.out.setCell (.inr (.inr rfl)) _).alloc _).setCell (.inr (.inl rfl)) _).setCell (.inl rfl) _
theorem MAt.made {w : World} {b o p room : Nat} (hr : room ≤ 100000) (hb : w.heap[b]? = some (.cells #[.slice (some ⟨o, 0, none⟩) 0 room, .slice (some ⟨p, 0, none⟩) room room] 68 (0, 0)))
    (ho : w.heap[o]? = some (.cells (madeCells #[.int .i64 0] room) 3 (0, 0))) (hp : w.heap[p]? = some (.cells (madeCells #[.int .i64 0] room) 3 (0, 0))) (hne : o ≠ p) : MAt w b o p room [] := by
  refine ⟨hb, ⟨_, ho, size_madeCells _ _, by simp [ints]⟩, ⟨List.replicate room 0, ?_, by simp, fun i x hx => by simp at hx⟩, hne, hr⟩
  rw [hp]
  congr 2
  apply Array.ext (by simp [size_madeCells, ints])
  intro i h1 h2
  simp [madeCells, ints, Nat.mod_one]
theorem make_ints (c : Nat) (n : Nat) (hn : n ≤ c) (h : c ≤ 1000000) (w : World) :
    (Instr.makeSlice 49 (.int .i64 (n : Int)) (.int .i64 (c : Int))).run Try.prog w = .ok (.slice (some ⟨w.heap.size, 0, none⟩) n c) (w.alloc (.cells (madeCells #[.int .i64 0] c) 3)) := by
  obtain ⟨i0, hi, hz0, hz1, hz2⟩ := info_parts size_int
  have := run_make (P := Try.prog) w 49 3 i0 (.int .i64 0) und_ints hi hz0 .i64 .i64 (n : Int) (c : Int) (by omega) (by omega) (by rw [hz2]; omega) (by omega)
  rw [hz1] at this
  simpa [Value.cells] using this
theorem make_none (c : Nat) (h : c ≤ 1000000) (w : World) :
    (Instr.makeSlice 49 (.int .i64 0) (.int .i64 (c : Int))).run Try.prog w = .ok (.slice (some ⟨w.heap.size, 0, none⟩) 0 c) (w.alloc (.cells (madeCells #[.int .i64 0] c) 3)) := by
  simpa using make_ints c 0 (Nat.zero_le _) h w
theorem heap_three (w : World) (x y z : Obj) : (((w.alloc x).alloc y).alloc z).drew.heap[w.heap.size]? = some x ∧ (((w.alloc x).alloc y).alloc z).drew.heap[w.heap.size + 1]? = some y ∧ (((w.alloc x).alloc y).alloc z).drew.heap[w.heap.size + 1 + 1]? = some z := by
  have e1 : (w.alloc x).heap.size = w.heap.size + 1 := by simp
  have e2 : ((w.alloc x).alloc y).heap.size = w.heap.size + 1 + 1 := by simp
  refine ⟨?_, ?_, ?_⟩
  · show (((w.alloc x).alloc y).alloc z).heap[w.heap.size]? = some x
    rw [Below.heap_alloc _ _ _ (by omega), Below.heap_alloc _ _ _ (by omega)]
    exact World.alloc_heap_new w x
  · show (((w.alloc x).alloc y).alloc z).heap[w.heap.size + 1]? = some y
    rw [Below.heap_alloc _ _ _ (by omega), ← e1]
    exact World.alloc_heap_new _ y
  · show (((w.alloc x).alloc y).alloc z).heap[w.heap.size + 1 + 1]? = some z
    rw [← e2]
    exact World.alloc_heap_new _ z
theorem below_three (w : World) (x y z : Obj) : Below w.heap.size w (((w.alloc x).alloc y).alloc z).drew :=
  ((((Below.refl _ _).alloc (Nat.le_refl _) _).alloc (by simp) _).alloc (by simp; omega) _).drew
structure New3 (n b o p : Nat) : Prop where
  b : n ≤ b
  o : n ≤ o
  p : n ≤ p
set_option maxRecDepth 100000 in
set_option maxHeartbeats 4000000 in
theorem new_c (room : Nat) (hr : room ≤ 100000) (w : World) :
    Calls Try.prog 27 #[.int .i64 room] w fun e w' => ∃ b o p, e = .returned (.tuple #[.pointer (some ⟨b, 0, none⟩), .int .i64 0]) ∧ MAt w' b o p room [] ∧ New3 w.heap.size b o p ∧ Below w.heap.size w w' := by
  have m0 := make_none room (by omega)
  have m1 := make_ints room room (Nat.le_refl _) (by omega)
  have h0 : (0 : Int) ≤ (room : Int) := by omega
  have h1 : (room : Int) ≤ 100000 := by omega
  go_enter Try.func27, Try.ntmps27
  go_wp2
  go_region
  all_goals go_wp2
  all_goals go_ret2
  · obtain ⟨e1, e2, e3⟩ := heap_three w (.cells (madeCells #[.int .i64 0] room) 3) (.cells (madeCells #[.int .i64 0] room) 3) (.cells #[.slice (some ⟨w.heap.size, 0, none⟩) 0 room, .slice (some ⟨w.heap.size + 1, 0, none⟩) room room] 68)
    exact ⟨_, _, _, rfl, MAt.made hr e3 e1 e2 (by omega), ⟨by omega, by omega, by omega⟩, below_three _ _ _ _⟩
  · obtain ⟨e1, e2, e3⟩ := heap_three w (.cells (madeCells #[.int .i64 0] room) 3) (.cells (madeCells #[.int .i64 0] room) 3) (.cells #[.slice (some ⟨w.heap.size + 1, 0, none⟩) 0 room, .slice (some ⟨w.heap.size, 0, none⟩) room room] 68)
    exact ⟨_, _, _, rfl, MAt.made hr e3 e2 e1 (by omega), ⟨by omega, by omega, by omega⟩, below_three _ _ _ _⟩
set_option maxRecDepth 100000 in
set_option maxHeartbeats 2000000 in
theorem new_bad (room : Int) (hr : room < 0 ∨ 100000 < room) (w : World) :
    Calls Try.prog 27 #[.int .i64 room] w fun e w' => e = .returned (.tuple #[.pointer none, .int .i64 1]) ∧ w' = w := by
  rcases hr with h | h
  · go_enter Try.func27, Try.ntmps27
    go_wp2
    go_ret2
    exact ⟨rfl, rfl⟩
  · have h' : (0 : Int) ≤ room := by omega
    go_enter Try.func27, Try.ntmps27
    go_wp2
    go_ret2
    exact ⟨rfl, rfl⟩
end Go.Proofs.Ytbghleihgcenmaa
namespace Go.Proofs.Ytbghleihgcenmaa
open Go Go.RowKit
attribute [local go_sem] Oper.semAt_some ext_cell
structure Pg where
  q : Option Addr
  L : List Ins
  c : Nat
  g : Int
  k : Int
  f : Bool
structure PgI (w : World) (p : Pg) : Prop where
  len : p.L.length ≤ 9223372036854775807
  li : LI w p.q p.L
theorem PgI.kept {w w' : World} {p : Pg} (h : PgI w p) (hb : Below w.heap.size w w') : PgI w' p := ⟨h.len, h.li.kept hb⟩
def isRef (i : Ins) : Bool := i.op == 8 || i.op == 9 || i.op == 10
set_option maxRecDepth 100000 in
set_option maxHeartbeats 1000000 in
theorem free1_c (i : Ins) (w : World) : Calls Try.prog 26 #[.agg #[.int .i64 i.op, .int .i64 i.x, .int .i64 i.y, .int .i64 i.n, .int .i64 i.mn, .int .i64 i.mx, .int .u64 (z1_wd i.s 0), .int .u64 (z1_wd i.s 1), .int .u64 (z1_wd i.s 2), .int .u64 (z1_wd i.s 3)]] w fun e w' => e = .returned (.bool (isRef i)) ∧ Below w.heap.size w w' := by
  have B1 : Hid (Below w.heap.size w (w.alloc (.cells #[.int .i64 i.op, .int .i64 i.x, .int .i64 i.y, .int .i64 i.n, .int .i64 i.mn, .int .i64 i.mx, .int .u64 (z1_wd i.s 0), .int .u64 (z1_wd i.s 1), .int .u64 (z1_wd i.s 2), .int .u64 (z1_wd i.s 3)] 42))) := (Below.refl _ _).alloc (Nat.le_refl _) _
  have c0 : (w.alloc (.cells #[.int .i64 i.op, .int .i64 i.x, .int .i64 i.y, .int .i64 i.n, .int .i64 i.mn, .int .i64 i.mx, .int .u64 (z1_wd i.s 0), .int .u64 (z1_wd i.s 1), .int .u64 (z1_wd i.s 2), .int .u64 (z1_wd i.s 3)] 42)).cell? ⟨w.heap.size, 0, none⟩ = some (.int .i64 i.op) := cell_row (alloc_new w (.cells #[.int .i64 i.op, .int .i64 i.x, .int .i64 i.y, .int .i64 i.n, .int .i64 i.mn, .int .i64 i.mx, .int .u64 (z1_wd i.s 0), .int .u64 (z1_wd i.s 1), .int .u64 (z1_wd i.s 2), .int .u64 (z1_wd i.s 3)] 42)) (i := 0) rfl
  obtain ⟨r, hr⟩ : ∃ r, isRef i = r := ⟨_, rfl⟩
  rw [hr]
  have R : Hid ((i.op == 8 || i.op == 9 || i.op == 10) = r) := hr
  clear hr
  go_enter Try.func26, Try.ntmps26
  go_upto_region 1 with fail
  generalize (w.alloc (.cells #[.int .i64 i.op, .int .i64 i.x, .int .i64 i.y, .int .i64 i.n, .int .i64 i.mn, .int .i64 i.mx, .int .u64 (z1_wd i.s 0), .int .u64 (z1_wd i.s 1), .int .u64 (z1_wd i.s 2), .int .u64 (z1_wd i.s 3)] 42)) = w1 at B1 c0 ⊢
  obtain ⟨o, ho⟩ : ∃ o, i.op = o := ⟨_, rfl⟩
  rw [ho] at c0 R ⊢
  clear ho
  by_cases h8 : o = 8
  · subst h8
    go_wp2
    go_ret
    exact ⟨by rw [← R.out]; rfl, B1.out⟩
  · by_cases h9 : o = 9
    · subst h9
      go_wp2
      go_ret
      exact ⟨by rw [← R.out]; rfl, B1.out⟩
    · go_wp2
      go_ret
      exact ⟨by rw [← R.out]; rfl, B1.out⟩
structure IxI (i : Int) (b : Bool) : Prop where
  h : 0 ≤ i ↔ b = true
set_option maxRecDepth 100000 in
set_option maxHeartbeats 4000000 in
theorem indexI_c {w : World} {L : List Ins} {q : Option Addr} {c : Nat} (hm : L.length ≤ 9223372036854775807) (hx : LI w q L) :
    Calls Try.prog 35 #[.slice q L.length c, .func (.func 26) #[] #[]] w fun e w' => ∃ i : Int, e = .returned (.int .i64 i) ∧ IxI i (L.any isRef) ∧ Below w.heap.size w w' := by
  have H1 := hide hx
  clear hx
  go_enter Try.func35, Try.ntmps35
  go_wp2
  go_loopw [8] (fun i wr => ∃ j : Nat, j ≤ L.length ∧ i = .int .i64 (j : Int) ∧ (L.take j).any isRef = false ∧ Below w.heap.size w wr) (fun i _ => L.length - (intOf i).toNat)
  case atStart => exact ⟨0, Nat.zero_le _, rfl, rfl, Below.refl _ _⟩
  case round =>
    obtain ⟨j, hj, rfl, hpre, hbel⟩ := hrel
    have HP := hide hpre
    have HB := hide hbel
    clear hpre hbel
    by_cases hjl : j < L.length
    · have i0 : (j : Int) < (L.length : Int) := by omega
      obtain ⟨a9, hga⟩ : ∃ a, L[j]? = some a := ⟨_, List.getElem?_eq_getElem hjl⟩
      obtain ⟨g1, o1, hq1, hl1, c0, c1, c2, c3, c4, c5, c6, c7, c8, c9⟩ := (H1.out.kept HB.out).ten hga
      have GA := hide hga
      have HC := hide (free1_c a9 wr)
      obtain ⟨sb, hsb⟩ : ∃ sb, isRef a9 = sb := ⟨_, rfl⟩
      have HSB := hide hsb
      rw [hsb] at HC
      rw [hq1]
      clear hga hsb
      cases sb with
      | true =>
        have HN : Hid (IxI (j : Int) (L.any isRef)) := ⟨⟨fun _ => List.any_eq_true.2 ⟨a9, List.mem_of_getElem? GA.out, HSB.out⟩, fun _ => by omega⟩⟩
        go_wp2_with (go_at_call 26; (with_reducible refine (HC.out).mono ?_); rintro e w5 ⟨rfl, h5⟩; have B5 : Hid (Below w.heap.size w w5) := chain HB.out h5 (Nat.le_refl _); clear h5)
        go_ret
        exact ⟨_, rfl, HN.out, B5.out⟩
      | false =>
        have HN := hide (show (L.take (j + 1)).any isRef = false by rw [List.take_add_one, GA.out, List.any_append, HP.out]; simpa using HSB.out)
        go_wp2_with (go_at_call 26; (with_reducible refine (HC.out).mono ?_); rintro e w5 ⟨rfl, h5⟩; have B5 : Hid (Below w.heap.size w w5) := chain HB.out h5 (Nat.le_refl _); clear h5)
        go_roundw
        case rel => exact ⟨j + 1, by omega, by go_num, HN.out, B5.out⟩
        case measure => simp only [intOf]; omega
    · have i0 : ¬ (j : Int) < (L.length : Int) := by omega
      have HN : Hid (IxI (-1) (L.any isRef)) := by
        have := HP.out
        rw [List.take_of_length_le (by omega)] at this
        refine ⟨⟨fun h => by omega, fun h => ?_⟩⟩
        rw [this] at h
        cases h
      go_wp2
      go_ret
      exact ⟨_, rfl, HN.out, HB.out⟩
set_option maxRecDepth 100000 in
set_option maxHeartbeats 1000000 in
theorem containsI_c {w : World} {L : List Ins} {q : Option Addr} {c : Nat} (hm : L.length ≤ 9223372036854775807) (hx : LI w q L) :
    Calls Try.prog 25 #[.slice q L.length c, .func (.func 26) #[] #[]] w fun e w' => e = .returned (.bool (L.any isRef)) ∧ Below w.heap.size w w' := by
  have HI := hide (indexI_c (c := c) hm hx)
  obtain ⟨r, hr⟩ : ∃ r, L.any isRef = r := ⟨_, rfl⟩
  rw [hr] at HI ⊢
  clear hr hx
  go_enter Try.func25, Try.ntmps25
  go_wp2_with (go_at_call 35; (with_reducible refine (HI.out).mono ?_); rintro e w5 ⟨ix, rfl, h51, h52⟩; have X5 := hide h51; have B5 := hide h52; clear h51 h52)
  go_ret
  refine ⟨?_, B5.out⟩
  have := X5.out.h
  cases r <;> simp_all
def freeB (p : Pg) : Bool := !p.L.any isRef
set_option maxRecDepth 100000 in
set_option maxHeartbeats 1000000 in
theorem free_c {w : World} {p : Pg} (h : PgI w p) : Calls Try.prog 16 #[.agg #[.slice p.q p.L.length p.c, .int .i64 p.g, .int .i64 p.k, .bool p.f]] w fun e w' => e = .returned (.bool (freeB p)) ∧ Below w.heap.size w w' := by
  have B1 : Hid (Below w.heap.size w (w.alloc (.cells #[.slice p.q p.L.length p.c, .int .i64 p.g, .int .i64 p.k, .bool p.f] 24))) := (Below.refl _ _).alloc (Nat.le_refl _) _
  have c0 : (w.alloc (.cells #[.slice p.q p.L.length p.c, .int .i64 p.g, .int .i64 p.k, .bool p.f] 24)).cell? ⟨w.heap.size, 0, none⟩ = some (.slice p.q p.L.length p.c) := cell_row (alloc_new w (.cells #[.slice p.q p.L.length p.c, .int .i64 p.g, .int .i64 p.k, .bool p.f] 24)) (i := 0) rfl
  have HC := hide (containsI_c (c := p.c) h.len (h.li.kept B1.out))
  unfold freeB
  obtain ⟨r, hr⟩ : ∃ r, p.L.any isRef = r := ⟨_, rfl⟩
  rw [hr] at HC ⊢
  clear hr h
  go_enter Try.func16, Try.ntmps16
  go_wp2_with (go_at_call 25; (with_reducible refine (HC.out).mono ?_); rintro e w5 ⟨rfl, h52⟩; have B5 := hide (chain B1.out h52 (Nat.le_refl _)); clear h52)
  go_ret
  exact ⟨rfl, B5.out⟩
end Go.Proofs.Ytbghleihgcenmaa
