/-
  Parts of the proof.
-/
import Derived.Test.YtbghleihgcenmaaC1
import Derived.Test.YtbghleihgcenmaaC2
import Derived.Deep.MidRow
set_option linter.unusedSimpArgs false
namespace Go.Proofs.Ytbghleihgcenmaa
open Go Go.RowKit
theorem hide {p : Prop} (h : p) : Hid p := h
structure Ins where
  op : Int
  x : Int
  y : Int
  n : Int
  mn : Int
  mx : Int
  s : z1_S
  deriving DecidableEq
def inC (i : Ins) : List Value := #[.int .i64 i.op, .int .i64 i.x, .int .i64 i.y, .int .i64 i.n, .int .i64 i.mn, .int .i64 i.mx, .int .u64 (z1_wd i.s 0), .int .u64 (z1_wd i.s 1), .int .u64 (z1_wd i.s 2), .int .u64 (z1_wd i.s 3)].toList
theorem inC_len (i : Ins) : (inC i).length = 10 := rfl
def inA (i : Ins) : Array Value := (inC i).toArray
theorem und_inst : Try.prog.underlying 42 = some (.struct (Try.prog.fieldsOf 42)) := by kernel_rfl
theorem und_insts : Try.prog.underlying 22 = some (.slice 42) := by kernel_rfl
theorem siz_inst : (Try.prog.info? 42).map (·.size) = some 10 := by kernel_rfl
theorem inC_one (i : Ins) : ∀ v ∈ inC i, v.oneCell' = true := by
  intro v hv
  unfold inC at hv
  simp at hv
  rcases hv with rfl | rfl | rfl | rfl | rfl | rfl | rfl | rfl | rfl | rfl <;> rfl
theorem eqIn_wordsN (n : Nat) (x0 x1 x2 x3 y0 y1 y2 y3 : Int) (w : World) :
    (Op.equalIn (n + 2) 40 (.agg #[.int .u64 x0, .int .u64 x1, .int .u64 x2, .int .u64 x3]) (.agg #[.int .u64 y0, .int .u64 y1, .int .u64 y2, .int .u64 y3])).run Try.prog w
      = .ok (x0 == y0 && x1 == y1 && x2 == y2 && x3 == y3) w := by
  have u22 := Try.underlying38
  have a22 := Try.isAgg38
  have z22 := Try.sizeOf38
  have hu : Try.prog.underlying 40 = some (.array 4 38) := by kernel_rfl
  rw [show n + 2 = (n + 1) + 1 from rfl, Op.equalIn]
  simp only [Sem.run_bind, run_underlying hu, Result.andThen_ok]
  simp only [Std.Legacy.Range.forIn_eq_forIn_range', Std.Legacy.Range.size, Nat.sub_zero, Nat.add_sub_cancel, Nat.div_one, List.range'_succ, List.range'_zero, List.forIn_cons, List.forIn_nil]
  go_simp
  by_cases h0 : x0 = y0 <;> by_cases h1 : x1 = y1 <;> by_cases h2 : x2 = y2 <;> by_cases h3 : x3 = y3 <;> simp [h0, h1, h2, h3]
set_option maxRecDepth 100000 in
set_option maxHeartbeats 8000000 in
theorem eqIn_flat (n : Nat) (a0 a1 a2 a3 a4 a5 a6 a7 a8 a9 b0 b1 b2 b3 b4 b5 b6 b7 b8 b9 : Int) (w : World) :
    (Op.equalIn (n + 3) 42 (.agg #[.int .i64 a0, .int .i64 a1, .int .i64 a2, .int .i64 a3, .int .i64 a4, .int .i64 a5, .int .u64 a6, .int .u64 a7, .int .u64 a8, .int .u64 a9]) (.agg #[.int .i64 b0, .int .i64 b1, .int .i64 b2, .int .i64 b3, .int .i64 b4, .int .i64 b5, .int .u64 b6, .int .u64 b7, .int .u64 b8, .int .u64 b9])).run Try.prog w
      = .ok (a0 == b0 && a1 == b1 && a2 == b2 && a3 == b3 && a4 == b4 && a5 == b5 && (a6 == b6 && a7 == b7 && a8 == b8 && a9 == b9)) w := by
  have u3 := Try.underlying3
  have a3' := Try.isAgg3
  have z3 := Try.sizeOf3
  have zas := Try.isAgg40
  have zs := Try.sizeOf40
  have hS : Try.prog.underlying 42 = some (.struct (Try.prog.fieldsOf 42)) := by kernel_rfl
  have hp : Try.prog.stoodInHeld 42 = false := by kernel_rfl
  have EW := eqIn_wordsN n
  rw [show n + 3 = (n + 2) + 1 from rfl, run_equalIn_agg w (n + 2) 42 _ _ hS hp]
  simp only [Program.fieldsOf, Try.underlying42]
  go_simp
  clear EW hS hp zas zs u3 a3' z3
  by_cases h0 : a0 = b0
  case neg => simp [h0]
  by_cases h1 : a1 = b1
  case neg => simp [h0, h1]
  by_cases h2 : a2 = b2
  case neg => simp [h0, h1, h2]
  by_cases h3 : a3 = b3
  case neg => simp [h0, h1, h2, h3]
  by_cases h4 : a4 = b4
  case neg => simp [h0, h1, h2, h3, h4]
  by_cases h5 : a5 = b5
  case neg => simp [h0, h1, h2, h3, h4, h5]
  by_cases h6 : a6 = b6 <;> by_cases h7 : a7 = b7 <;> by_cases h8 : a8 = b8 <;> by_cases h9 : a9 = b9 <;> simp [h0, h1, h2, h3, h4, h5, h6, h7, h8, h9]
theorem ins_beq (a b : Ins) : (a.op == b.op && a.x == b.x && a.y == b.y && a.n == b.n && a.mn == b.mn && a.mx == b.mx && (z1_wd a.s 0 == z1_wd b.s 0 && z1_wd a.s 1 == z1_wd b.s 1 && z1_wd a.s 2 == z1_wd b.s 2 && z1_wd a.s 3 == z1_wd b.s 3)) = decide (a = b) := by
  rw [z1_wd_beq, Bool.eq_iff_iff]
  obtain ⟨a1, a2, a3, a4, a5, a6, a7⟩ := a
  obtain ⟨b1, b2, b3, b4, b5, b6, b7⟩ := b
  simp [and_assoc]
theorem eqIn_inst (a b : Ins) (w : World) : (Op.equalIn 10000 42 (.agg #[.int .i64 a.op, .int .i64 a.x, .int .i64 a.y, .int .i64 a.n, .int .i64 a.mn, .int .i64 a.mx, .int .u64 (z1_wd a.s 0), .int .u64 (z1_wd a.s 1), .int .u64 (z1_wd a.s 2), .int .u64 (z1_wd a.s 3)]) (.agg #[.int .i64 b.op, .int .i64 b.x, .int .i64 b.y, .int .i64 b.n, .int .i64 b.mn, .int .i64 b.mx, .int .u64 (z1_wd b.s 0), .int .u64 (z1_wd b.s 1), .int .u64 (z1_wd b.s 2), .int .u64 (z1_wd b.s 3)])).run Try.prog w = .ok (decide (a = b)) w := by
  rw [← ins_beq]
  exact eqIn_flat 9997 _ _ _ _ _ _ _ _ _ _ _ _ _ _ _ _ _ _ _ _ w
theorem eqg_inst : Try.prog.eqGuardType Try.prog.depth 42 = false := by kernel_rfl
theorem eq_inst (a b : Ins) (w : World) : (binOp .eql 42 (.agg #[.int .i64 a.op, .int .i64 a.x, .int .i64 a.y, .int .i64 a.n, .int .i64 a.mn, .int .i64 a.mx, .int .u64 (z1_wd a.s 0), .int .u64 (z1_wd a.s 1), .int .u64 (z1_wd a.s 2), .int .u64 (z1_wd a.s 3)]) (.agg #[.int .i64 b.op, .int .i64 b.x, .int .i64 b.y, .int .i64 b.n, .int .i64 b.mn, .int .i64 b.mx, .int .u64 (z1_wd b.s 0), .int .u64 (z1_wd b.s 1), .int .u64 (z1_wd b.s 2), .int .u64 (z1_wd b.s 3)])).run Try.prog w = .ok (.bool (decide (a = b))) w := by
  have e' : (Op.equal 42 (.agg #[.int .i64 a.op, .int .i64 a.x, .int .i64 a.y, .int .i64 a.n, .int .i64 a.mn, .int .i64 a.mx, .int .u64 (z1_wd a.s 0), .int .u64 (z1_wd a.s 1), .int .u64 (z1_wd a.s 2), .int .u64 (z1_wd a.s 3)]) (.agg #[.int .i64 b.op, .int .i64 b.x, .int .i64 b.y, .int .i64 b.n, .int .i64 b.mn, .int .i64 b.mx, .int .u64 (z1_wd b.s 0), .int .u64 (z1_wd b.s 1), .int .u64 (z1_wd b.s 2), .int .u64 (z1_wd b.s 3)])).run Try.prog w = .ok (decide (a = b)) w := eqIn_inst a b w
  simp only [binOp]
  simp [e']
theorem neq_inst (a b : Ins) (w : World) : (binOp .neq 42 (.agg #[.int .i64 a.op, .int .i64 a.x, .int .i64 a.y, .int .i64 a.n, .int .i64 a.mn, .int .i64 a.mx, .int .u64 (z1_wd a.s 0), .int .u64 (z1_wd a.s 1), .int .u64 (z1_wd a.s 2), .int .u64 (z1_wd a.s 3)]) (.agg #[.int .i64 b.op, .int .i64 b.x, .int .i64 b.y, .int .i64 b.n, .int .i64 b.mn, .int .i64 b.mx, .int .u64 (z1_wd b.s 0), .int .u64 (z1_wd b.s 1), .int .u64 (z1_wd b.s 2), .int .u64 (z1_wd b.s 3)])).run Try.prog w = .ok (.bool (!decide (a = b))) w := by
  have e' : (Op.equal 42 (.agg #[.int .i64 a.op, .int .i64 a.x, .int .i64 a.y, .int .i64 a.n, .int .i64 a.mn, .int .i64 a.mx, .int .u64 (z1_wd a.s 0), .int .u64 (z1_wd a.s 1), .int .u64 (z1_wd a.s 2), .int .u64 (z1_wd a.s 3)]) (.agg #[.int .i64 b.op, .int .i64 b.x, .int .i64 b.y, .int .i64 b.n, .int .i64 b.mn, .int .i64 b.mx, .int .u64 (z1_wd b.s 0), .int .u64 (z1_wd b.s 1), .int .u64 (z1_wd b.s 2), .int .u64 (z1_wd b.s 3)])).run Try.prog w = .ok (decide (a = b)) w := eqIn_inst a b w
  simp only [binOp]
  simp [e']
def LI (w : World) (q : Option Addr) (L : List Ins) : Prop := ∀ (j : Nat) (i : Ins), L[j]? = some i → ∃ g o, q = some ⟨g, o, none⟩ ∧ g < w.heap.size ∧ w.rangeAt g (o + j * 10) (inC i)
theorem range_keep {V V' : World} {g o : Nat} {cs : List Value} (h : V.rangeAt g o cs) (e : V'.heap[g]? = V.heap[g]?) : V'.rangeAt g o cs := fun j v hv => by
  have := h j v hv
  unfold World.cell? at this ⊢
  rw [e]
  exact this
theorem LI.same {w w' : World} {q : Option Addr} {L : List Ins} (h : LI w q L) (he : ∀ g o, q = some ⟨g, o, none⟩ → g < w.heap.size → w'.heap[g]? = w.heap[g]?) (hs : w.heap.size ≤ w'.heap.size) : LI w' q L := fun j i hi => by
  obtain ⟨g, o, h1, h2, h3⟩ := h j i hi
  exact ⟨g, o, h1, Nat.lt_of_lt_of_le h2 hs, range_keep h3 (he g o h1 h2)⟩
theorem LI.kept {w w' : World} {q : Option Addr} {L : List Ins} (h : LI w q L) (hb : Below w.heap.size w w') : LI w' q L := h.same (fun g _ _ hg => hb.block g hg) hb.size
theorem LI.ten {w : World} {q : Option Addr} {L : List Ins} (h : LI w q L) {j : Nat} {i : Ins} (hi : L[j]? = some i) : ∃ g o, q = some ⟨g, o, none⟩ ∧ g < w.heap.size ∧ w.cell? ⟨g, o + j * 10, none⟩ = some (.int .i64 i.op) ∧ w.cell? ⟨g, o + j * 10 + 1, none⟩ = some (.int .i64 i.x) ∧ w.cell? ⟨g, o + j * 10 + 2, none⟩ = some (.int .i64 i.y) ∧ w.cell? ⟨g, o + j * 10 + 3, none⟩ = some (.int .i64 i.n) ∧ w.cell? ⟨g, o + j * 10 + 4, none⟩ = some (.int .i64 i.mn) ∧ w.cell? ⟨g, o + j * 10 + 5, none⟩ = some (.int .i64 i.mx) ∧ w.cell? ⟨g, o + j * 10 + 6, none⟩ = some (.int .u64 (z1_wd i.s 0)) ∧ w.cell? ⟨g, o + j * 10 + 7, none⟩ = some (.int .u64 (z1_wd i.s 1)) ∧ w.cell? ⟨g, o + j * 10 + 8, none⟩ = some (.int .u64 (z1_wd i.s 2)) ∧ w.cell? ⟨g, o + j * 10 + 9, none⟩ = some (.int .u64 (z1_wd i.s 3)) := by
  obtain ⟨g, o, h1, h2, h3⟩ := h j i hi
  exact ⟨g, o, h1, h2, h3 0 _ rfl, h3 1 _ rfl, h3 2 _ rfl, h3 3 _ rfl, h3 4 _ rfl, h3 5 _ rfl, h3 6 _ rfl, h3 7 _ rfl, h3 8 _ rfl, h3 9 _ rfl⟩
end Go.Proofs.Ytbghleihgcenmaa
namespace Go.Proofs.Ytbghleihgcenmaa
open Go.RowKit
attribute [local go_sem] z1_idx0 z1_idx1 z1_idx2 z1_idx3 z1_bits_or z1_bits_and z1_bits_andNot0 z1_bits_andNot1 z1_bits_andNot2 z1_bits_andNot3 z1_bits_not0 z1_bits_not1 z1_bits_not2 z1_bits_not3 z1_u64_signed
set_option maxHeartbeats 400000 in
theorem z1_and_any (a b : z1_S) (w : World) :
    Calls Try.prog 38 #[.agg #[.int .u64 (z1_wd (a) 0), .int .u64 (z1_wd (a) 1), .int .u64 (z1_wd (a) 2), .int .u64 (z1_wd (a) 3)], .agg #[.int .u64 (z1_wd (b) 0), .int .u64 (z1_wd (b) 1), .int .u64 (z1_wd (b) 2), .int .u64 (z1_wd (b) 3)]] w fun e w' => e = .returned (.agg #[.int .u64 (z1_wd (z1_sand a b) 0), .int .u64 (z1_wd (z1_sand a b) 1), .int .u64 (z1_wd (z1_sand a b) 2), .int .u64 (z1_wd (z1_sand a b) 3)]) ∧ Below w.heap.size w w' := by
  go_enter Try.func38, Try.ntmps38
  go_wp2
  refine z1_wp_loop_unr 5 ?_
  refine z1_unr_succ ?_
  go_wp2
  refine z1_unr_succ ?_
  go_wp2
  refine z1_unr_succ ?_
  go_wp2
  refine z1_unr_succ ?_
  go_wp2
  refine z1_unr_succ ?_
  go_wp2
  exact bodyPost_ret (v := .agg #[.int .u64 (z1_wd (z1_sand a b) 0), .int .u64 (z1_wd (z1_sand a b) 1), .int .u64 (z1_wd (z1_sand a b) 2), .int .u64 (z1_wd (z1_sand a b) 3)]) (by simp [results, Try.results38, go_sem]) rfl ⟨rfl, (((Below.refl _ _).alloc (Nat.le_refl _) _).alloc (by simp) _).alloc (by simp; omega) _⟩
end Go.Proofs.Ytbghleihgcenmaa
