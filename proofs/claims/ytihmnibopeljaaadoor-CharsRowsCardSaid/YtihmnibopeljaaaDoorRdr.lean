/-
  The reader of what is shown: its four cells, and what its calls do.
-/
import Derived.Test.YtihmnibopeljaaaDoorIdx
namespace Go.Proofs.YtihmnibopeljaaaDoor
open Go Go.RowKit

/-- A reader in memory: b its struct, v its list; what it read, its state, where the escape began, its first digit. -/
structure RD (base : Nat) (w : World) (b : Nat) (v : Value) (L : List UInt8) (st bg hi : Int) : Prop where
  hb : w.heap[b]? = some (.cells #[v, .int .i64 st, .int .i64 bg, .int .i64 hi] 64 (0, 0))
  lo : base ≤ b
  own : OB base w v L
theorem own_set {base : Nat} {w : World} {b : Nat} {v : Value} {L : List UInt8} {cs : Array Value} (h : OB base w v L) (hb : w.heap[b]? = some (.cells cs 64 (0, 0))) (j : Nat) (x : Value) : OB base (w.setCell ⟨b, j, none⟩ x) v L :=
  ownsRow_fr h ((Fr.refl (fun k => k = b) w).setCell (p := ⟨b, j, none⟩) rfl _) (fun _ hk e => ownsRow_not h hb (by decide) (e ▸ hk))
theorem RD.state {base : Nat} {w : World} {b : Nat} {v : Value} {L : List UInt8} {st bg hi : Int} (h : RD base w b v L st bg hi) (x : Int) : RD base (w.setCell ⟨b, 1, none⟩ (.int .i64 x)) b v L x bg hi :=
  ⟨heap_set_in h.hb 1 _, h.lo, own_set h.own h.hb 1 _⟩
theorem RD.begin {base : Nat} {w : World} {b : Nat} {v : Value} {L : List UInt8} {st bg hi : Int} (h : RD base w b v L st bg hi) (x : Int) : RD base (w.setCell ⟨b, 2, none⟩ (.int .i64 x)) b v L st x hi :=
  ⟨heap_set_in h.hb 2 _, h.lo, own_set h.own h.hb 2 _⟩
theorem RD.high {base : Nat} {w : World} {b : Nat} {v : Value} {L : List UInt8} {st bg hi : Int} (h : RD base w b v L st bg hi) (x : Int) : RD base (w.setCell ⟨b, 3, none⟩ (.int .i64 x)) b v L st bg x :=
  ⟨heap_set_in h.hb 3 _, h.lo, own_set h.own h.hb 3 _⟩
theorem RD.cells {base : Nat} {w : World} {b : Nat} {v : Value} {L : List UInt8} {st bg hi : Int} (h : RD base w b v L st bg hi) : w.cell? ⟨b, 0, none⟩ = some v ∧ w.cell? ⟨b, 1, none⟩ = some (.int .i64 st) ∧ w.cell? ⟨b, 2, none⟩ = some (.int .i64 bg) ∧ w.cell? ⟨b, 3, none⟩ = some (.int .i64 hi) :=
  ⟨cell_row h.hb (i := 0) rfl, cell_row h.hb (i := 1) rfl, cell_row h.hb (i := 2) rfl, cell_row h.hb (i := 3) rfl⟩
theorem RD.frz {base : Nat} {w : World} {b : Nat} {v : Value} {L : List UInt8} {st bg hi : Int} (h : RD base w b v L st bg hi) (j : Nat) : w.frozen? ⟨b, j, none⟩ = false := frz_row h.hb j
theorem RD.text {base : Nat} {w w6 : World} {b : Nat} {v v' : Value} {L M : List UInt8} {st bg hi : Int} (h : RD base w b v L st bg hi) (hf : Fr (ow v) w w6) (ho : OB base w6 v' M) : RD base (w6.setCell ⟨b, 0, none⟩ v') b v' M st bg hi ∧ w6.heap[b]? = some (.cells #[v, .int .i64 st, .int .i64 bg, .int .i64 hi] 64 (0, 0)) := by
  have e : w6.heap[b]? = some (.cells #[v, .int .i64 st, .int .i64 bg, .int .i64 hi] 64 (0, 0)) := (hf.block b (lt_of_heap h.hb) (fun q => ownsRow_not h.own h.hb (by decide) q)).trans h.hb
  exact ⟨⟨heap_set_in e 0 _, h.lo, own_set ho e 0 _⟩, e⟩
theorem RD.then {base : Nat} {w w6 : World} {b : Nat} {v : Value} {L : List UInt8} {st bg hi : Int} (h : RD base w b v L st bg hi) (hb : Below w.heap.size w w6) : RD base w6 b v L st bg hi :=
  ⟨(hb.block b (lt_of_heap h.hb)).trans h.hb, h.lo, ownsRow_fr h.own (Fr.of_below (S := fun _ => False) hb) (fun _ _ q => q)⟩

set_option maxHeartbeats 4000000 in
set_option maxRecDepth 1000000 in
theorem end_c {base : Nat} {w : World} {b : Nat} {v : Value} {L : List UInt8} {st bg hi : Int} (h : RD base w b v L st bg hi) (x : UInt8) (hbase : base ≤ w.heap.size) (hl : L.length ≤ 70368744177664) :
    Calls Tryd.prog 53 #[.pointer (some ⟨b, 0, none⟩), .int .u8 (x.toNat : Int)] w fun e w' => e = .returned (.tuple #[]) ∧ ∃ v', RD base w' b v' (L ++ [x]) 0 bg hi ∧ moved v v' w.heap.size ∧ Fr (foot b v) w w' := by
  obtain ⟨q, c, rfl⟩ := ownsRow_shape h.own
  have c0 := h.cells.1
  have lb := lt_of_heap h.hb
  have H : Hid (RD base w b (.slice q L.length c) L st bg hi) := h
  obtain ⟨t0, hi0, hz0, hz1, hz2⟩ := info_parts size_u8
  clear h
  go_enter Tryd.func53, Tryd.ntmps53
  go_wp2_with (at_builtin; refine wpList_append_own_at _ rfl _ _ 60 rfl base 5 t0 (.int .u8 0) 1 1 und_u8s hi0 hz0 hz1 hz2 rfl (by decide) (.slice q L.length c) L.length (Lib.byteCells L) rfl (World.ownsRow.alloc H.out.own (.cells #[.int .u8 (x.toNat : Int)] 5)) ⟨w.heap.size, 0, none⟩ 1 1 [.int .u8 (x.toNat : Int)] rfl rfl (news1 _ _ _) (by simp [Value.oneCell']) (by unfold maxLen; omega) (by omega) (by simp; omega) ?_; intro v' w6 hown' hgrow _ hblk; obtain ⟨g6, cap6, rfl⟩ := ownsRow_some hown' (Nat.succ_pos _); have F6 : Hid (Fr (ow (.slice q L.length c)) w w6) := ((Fr.refl _ w).alloc _).grown hgrow (fun k hk => hk); have M6 : Hid (moved (.slice q L.length c) (.slice (some ⟨g6, 0, none⟩) (L.length + 1) cap6) w.heap.size) := moved_new hblk (by simp); have O6 : Hid (OB base w6 (.slice (some ⟨g6, 0, none⟩) (L.length + 1) cap6) (L ++ [x])) := (by show World.ownsRow _ _ _ _ _ (L ++ [x]).length _; rw [List.length_append, Lib.byteCells_append]; exact hown'); have X6 : Hid _ := H.out.text F6.out O6.out; have d6 : w6.cell? ⟨b, 0, none⟩ = some (.slice q L.length c) := cell_row X6.out.2 (i := 0) rfl; have f6 := frz_row X6.out.2 0; have d7 : (w6.setCell ⟨b, 0, none⟩ (.slice (some ⟨g6, 0, none⟩) (L.length + 1) cap6)).cell? ⟨b, 1, none⟩ = some (.int .i64 st) := X6.out.1.cells.2.1; have f7 := X6.out.1.frz 1; clear hown' hgrow hblk c0)
  go_end0
  refine ⟨rfl, _, X6.out.1.state 0, M6.out, ?_⟩
  exact ((F6.out.mono (fun _ hk => .inr hk)).setCell (p := ⟨b, 0, none⟩) (.inl rfl) _).setCell (p := ⟨b, 1, none⟩) (.inl rfl) _
end Go.Proofs.YtihmnibopeljaaaDoor
