/-
  Parts of the proof.
-/
import Derived.Test.YtbfhahhcacnckaaGreatDoorUnreachedProofB1
import Derived.Test.YtbfhahhcacnckaaGreatDoorUnreachedProofB2
import Derived.Deep.MidRow
import Derived.Test.YtbfhahhcacnckaaGreatDoorUnreachedProofB0
set_option linter.unusedSimpArgs false
namespace Go.Proofs.YtbfhahhcacnckaaGreatDoor
open Go Go.RowKit
theorem hide {p : Prop} (h : p) : Hid p := h
structure Ins where
  op : Int
  x : Int
  y : Int
  n : Int
  mn : Int
  mx : Int
  s : z1_S
  deriving DecidableEq
def inC (i : Ins) : List Value := #[.int .i64 i.op, .int .i64 i.x, .int .i64 i.y, .int .i64 i.n, .int .i64 i.mn, .int .i64 i.mx, .int .u64 (z1_wd i.s 0), .int .u64 (z1_wd i.s 1), .int .u64 (z1_wd i.s 2), .int .u64 (z1_wd i.s 3)].toList
theorem inC_len (i : Ins) : (inC i).length = 10 := rfl
def inA (i : Ins) : Array Value := (inC i).toArray
theorem und_inst : Tryz.prog.underlying 35 = some (.struct (Tryz.prog.fieldsOf 35)) := by kernel_rfl
theorem und_insts : Tryz.prog.underlying 22 = some (.slice 35) := by kernel_rfl
theorem siz_inst : (Tryz.prog.info? 35).map (·.size) = some 10 := by kernel_rfl
theorem inC_one (i : Ins) : ∀ v ∈ inC i, v.oneCell' = true := by
  intro v hv
  unfold inC at hv
  simp at hv
  rcases hv with rfl | rfl | rfl | rfl | rfl | rfl | rfl | rfl | rfl | rfl <;> rfl
theorem eqIn_wordsN (n : Nat) (x0 x1 x2 x3 y0 y1 y2 y3 : Int) (w : World) :
    (Op.equalIn (n + 2) 33 (.agg #[.int .u64 x0, .int .u64 x1, .int .u64 x2, .int .u64 x3]) (.agg #[.int .u64 y0, .int .u64 y1, .int .u64 y2, .int .u64 y3])).run Tryz.prog w
      = .ok (x0 == y0 && x1 == y1 && x2 == y2 && x3 == y3) w := by
  have u22 := Tryz.underlying31
  have a22 := Tryz.isAgg31
  have z22 := Tryz.sizeOf31
  have hu : Tryz.prog.underlying 33 = some (.array 4 31) := by kernel_rfl
  rw [show n + 2 = (n + 1) + 1 from rfl, Op.equalIn]
  simp only [Sem.run_bind, run_underlying hu, Result.andThen_ok]
  simp only [Std.Legacy.Range.forIn_eq_forIn_range', Std.Legacy.Range.size, Nat.sub_zero, Nat.add_sub_cancel, Nat.div_one, List.range'_succ, List.range'_zero, List.forIn_cons, List.forIn_nil]
  go_simp
  by_cases h0 : x0 = y0 <;> by_cases h1 : x1 = y1 <;> by_cases h2 : x2 = y2 <;> by_cases h3 : x3 = y3 <;> simp [h0, h1, h2, h3]
set_option maxRecDepth 100000 in
set_option maxHeartbeats 8000000 in
theorem eqIn_flat (n : Nat) (a0 a1 a2 a3 a4 a5 a6 a7 a8 a9 b0 b1 b2 b3 b4 b5 b6 b7 b8 b9 : Int) (w : World) :
    (Op.equalIn (n + 3) 35 (.agg #[.int .i64 a0, .int .i64 a1, .int .i64 a2, .int .i64 a3, .int .i64 a4, .int .i64 a5, .int .u64 a6, .int .u64 a7, .int .u64 a8, .int .u64 a9]) (.agg #[.int .i64 b0, .int .i64 b1, .int .i64 b2, .int .i64 b3, .int .i64 b4, .int .i64 b5, .int .u64 b6, .int .u64 b7, .int .u64 b8, .int .u64 b9])).run Tryz.prog w
      = .ok (a0 == b0 && a1 == b1 && a2 == b2 && a3 == b3 && a4 == b4 && a5 == b5 && (a6 == b6 && a7 == b7 && a8 == b8 && a9 == b9)) w := by
  have u3 := Tryz.underlying3
  have a3' := Tryz.isAgg3
  have z3 := Tryz.sizeOf3
  have zas := Tryz.isAgg33
  have zs := Tryz.sizeOf33
  have hS : Tryz.prog.underlying 35 = some (.struct (Tryz.prog.fieldsOf 35)) := by kernel_rfl
  have hp : Tryz.prog.stoodInHeld 35 = false := by kernel_rfl
  have EW := eqIn_wordsN n
  rw [show n + 3 = (n + 2) + 1 from rfl, run_equalIn_agg w (n + 2) 35 _ _ hS hp]
  simp only [Program.fieldsOf, Tryz.underlying35]
  go_simp
  clear EW hS hp zas zs u3 a3' z3
  by_cases h0 : a0 = b0
  case neg => simp [h0]
  by_cases h1 : a1 = b1
  case neg => simp [h0, h1]
  by_cases h2 : a2 = b2
  case neg => simp [h0, h1, h2]
  by_cases h3 : a3 = b3
  case neg => simp [h0, h1, h2, h3]
  by_cases h4 : a4 = b4
  case neg => simp [h0, h1, h2, h3, h4]
  by_cases h5 : a5 = b5
  case neg => simp [h0, h1, h2, h3, h4, h5]
  by_cases h6 : a6 = b6 <;> by_cases h7 : a7 = b7 <;> by_cases h8 : a8 = b8 <;> by_cases h9 : a9 = b9 <;> simp [h0, h1, h2, h3, h4, h5, h6, h7, h8, h9]
theorem ins_beq (a b : Ins) : (a.op == b.op && a.x == b.x && a.y == b.y && a.n == b.n && a.mn == b.mn && a.mx == b.mx && (z1_wd a.s 0 == z1_wd b.s 0 && z1_wd a.s 1 == z1_wd b.s 1 && z1_wd a.s 2 == z1_wd b.s 2 && z1_wd a.s 3 == z1_wd b.s 3)) = decide (a = b) := by
  rw [z1_wd_beq, Bool.eq_iff_iff]
  obtain ⟨a1, a2, a3, a4, a5, a6, a7⟩ := a
  obtain ⟨b1, b2, b3, b4, b5, b6, b7⟩ := b
  simp [and_assoc]
theorem eqIn_inst (a b : Ins) (w : World) : (Op.equalIn 10000 35 (.agg #[.int .i64 a.op, .int .i64 a.x, .int .i64 a.y, .int .i64 a.n, .int .i64 a.mn, .int .i64 a.mx, .int .u64 (z1_wd a.s 0), .int .u64 (z1_wd a.s 1), .int .u64 (z1_wd a.s 2), .int .u64 (z1_wd a.s 3)]) (.agg #[.int .i64 b.op, .int .i64 b.x, .int .i64 b.y, .int .i64 b.n, .int .i64 b.mn, .int .i64 b.mx, .int .u64 (z1_wd b.s 0), .int .u64 (z1_wd b.s 1), .int .u64 (z1_wd b.s 2), .int .u64 (z1_wd b.s 3)])).run Tryz.prog w = .ok (decide (a = b)) w := by
  rw [← ins_beq]
  exact eqIn_flat 9997 _ _ _ _ _ _ _ _ _ _ _ _ _ _ _ _ _ _ _ _ w
theorem eqg_inst : Tryz.prog.eqGuardType Tryz.prog.depth 35 = false := by kernel_rfl
theorem eq_inst (a b : Ins) (w : World) : (binOp .eql 35 (.agg #[.int .i64 a.op, .int .i64 a.x, .int .i64 a.y, .int .i64 a.n, .int .i64 a.mn, .int .i64 a.mx, .int .u64 (z1_wd a.s 0), .int .u64 (z1_wd a.s 1), .int .u64 (z1_wd a.s 2), .int .u64 (z1_wd a.s 3)]) (.agg #[.int .i64 b.op, .int .i64 b.x, .int .i64 b.y, .int .i64 b.n, .int .i64 b.mn, .int .i64 b.mx, .int .u64 (z1_wd b.s 0), .int .u64 (z1_wd b.s 1), .int .u64 (z1_wd b.s 2), .int .u64 (z1_wd b.s 3)])).run Tryz.prog w = .ok (.bool (decide (a = b))) w := by
  have e' : (Op.equal 35 (.agg #[.int .i64 a.op, .int .i64 a.x, .int .i64 a.y, .int .i64 a.n, .int .i64 a.mn, .int .i64 a.mx, .int .u64 (z1_wd a.s 0), .int .u64 (z1_wd a.s 1), .int .u64 (z1_wd a.s 2), .int .u64 (z1_wd a.s 3)]) (.agg #[.int .i64 b.op, .int .i64 b.x, .int .i64 b.y, .int .i64 b.n, .int .i64 b.mn, .int .i64 b.mx, .int .u64 (z1_wd b.s 0), .int .u64 (z1_wd b.s 1), .int .u64 (z1_wd b.s 2), .int .u64 (z1_wd b.s 3)])).run Tryz.prog w = .ok (decide (a = b)) w := eqIn_inst a b w
  simp only [binOp]
  simp [e']
theorem neq_inst (a b : Ins) (w : World) : (binOp .neq 35 (.agg #[.int .i64 a.op, .int .i64 a.x, .int .i64 a.y, .int .i64 a.n, .int .i64 a.mn, .int .i64 a.mx, .int .u64 (z1_wd a.s 0), .int .u64 (z1_wd a.s 1), .int .u64 (z1_wd a.s 2), .int .u64 (z1_wd a.s 3)]) (.agg #[.int .i64 b.op, .int .i64 b.x, .int .i64 b.y, .int .i64 b.n, .int .i64 b.mn, .int .i64 b.mx, .int .u64 (z1_wd b.s 0), .int .u64 (z1_wd b.s 1), .int .u64 (z1_wd b.s 2), .int .u64 (z1_wd b.s 3)])).run Tryz.prog w = .ok (.bool (!decide (a = b))) w := by
  have e' : (Op.equal 35 (.agg #[.int .i64 a.op, .int .i64 a.x, .int .i64 a.y, .int .i64 a.n, .int .i64 a.mn, .int .i64 a.mx, .int .u64 (z1_wd a.s 0), .int .u64 (z1_wd a.s 1), .int .u64 (z1_wd a.s 2), .int .u64 (z1_wd a.s 3)]) (.agg #[.int .i64 b.op, .int .i64 b.x, .int .i64 b.y, .int .i64 b.n, .int .i64 b.mn, .int .i64 b.mx, .int .u64 (z1_wd b.s 0), .int .u64 (z1_wd b.s 1), .int .u64 (z1_wd b.s 2), .int .u64 (z1_wd b.s 3)])).run Tryz.prog w = .ok (decide (a = b)) w := eqIn_inst a b w
  simp only [binOp]
  simp [e']
def LI (w : World) (q : Option Addr) (L : List Ins) : Prop := ∀ (j : Nat) (i : Ins), L[j]? = some i → ∃ g o, q = some ⟨g, o, none⟩ ∧ g < w.heap.size ∧ w.rangeAt g (o + j * 10) (inC i)
theorem range_keep {V V' : World} {g o : Nat} {cs : List Value} (h : V.rangeAt g o cs) (e : V'.heap[g]? = V.heap[g]?) : V'.rangeAt g o cs := fun j v hv => by
  have := h j v hv
  unfold World.cell? at this ⊢
  rw [e]
  exact this
theorem LI.same {w w' : World} {q : Option Addr} {L : List Ins} (h : LI w q L) (he : ∀ g o, q = some ⟨g, o, none⟩ → g < w.heap.size → w'.heap[g]? = w.heap[g]?) (hs : w.heap.size ≤ w'.heap.size) : LI w' q L := fun j i hi => by
  obtain ⟨g, o, h1, h2, h3⟩ := h j i hi
  exact ⟨g, o, h1, Nat.lt_of_lt_of_le h2 hs, range_keep h3 (he g o h1 h2)⟩
theorem LI.kept {w w' : World} {q : Option Addr} {L : List Ins} (h : LI w q L) (hb : Below w.heap.size w w') : LI w' q L := h.same (fun g _ _ hg => hb.block g hg) hb.size
theorem LI.ten {w : World} {q : Option Addr} {L : List Ins} (h : LI w q L) {j : Nat} {i : Ins} (hi : L[j]? = some i) : ∃ g o, q = some ⟨g, o, none⟩ ∧ g < w.heap.size ∧ w.cell? ⟨g, o + j * 10, none⟩ = some (.int .i64 i.op) ∧ w.cell? ⟨g, o + j * 10 + 1, none⟩ = some (.int .i64 i.x) ∧ w.cell? ⟨g, o + j * 10 + 2, none⟩ = some (.int .i64 i.y) ∧ w.cell? ⟨g, o + j * 10 + 3, none⟩ = some (.int .i64 i.n) ∧ w.cell? ⟨g, o + j * 10 + 4, none⟩ = some (.int .i64 i.mn) ∧ w.cell? ⟨g, o + j * 10 + 5, none⟩ = some (.int .i64 i.mx) ∧ w.cell? ⟨g, o + j * 10 + 6, none⟩ = some (.int .u64 (z1_wd i.s 0)) ∧ w.cell? ⟨g, o + j * 10 + 7, none⟩ = some (.int .u64 (z1_wd i.s 1)) ∧ w.cell? ⟨g, o + j * 10 + 8, none⟩ = some (.int .u64 (z1_wd i.s 2)) ∧ w.cell? ⟨g, o + j * 10 + 9, none⟩ = some (.int .u64 (z1_wd i.s 3)) := by
  obtain ⟨g, o, h1, h2, h3⟩ := h j i hi
  exact ⟨g, o, h1, h2, h3 0 _ rfl, h3 1 _ rfl, h3 2 _ rfl, h3 3 _ rfl, h3 4 _ rfl, h3 5 _ rfl, h3 6 _ rfl, h3 7 _ rfl, h3 8 _ rfl, h3 9 _ rfl⟩
end Go.Proofs.YtbfhahhcacnckaaGreatDoor
namespace Go.Proofs.YtbfhahhcacnckaaGreatDoor
open Go Go.RowKit
def pk (c : Int) (n : Int) : Int := (if c < 0 then -(c + 1) else c).tmod n
theorem pk_range {c : Int} {n : Nat} (hn : 0 < n) : 0 ≤ pk c n ∧ pk c n < n := by
  unfold pk
  have h0 : 0 ≤ (if c < 0 then -(c + 1) else c) := by split <;> omega
  rw [Int.tmod_eq_emod_of_nonneg h0]
  exact ⟨Int.emod_nonneg _ (by omega), Int.emod_lt_of_pos _ (by omega)⟩
theorem wf_range {x : Int} (h : (Lit.int .i64 x).wf = true) : -9223372036854775808 ≤ x ∧ x ≤ 9223372036854775807 := by
  simp [Lit.wf, IntKind.min, IntKind.max, IntKind.signed, IntKind.bits] at h
  omega
set_option maxHeartbeats 1000000 in
theorem pick_c (c : Int) (n : Nat) (hn : 0 < n) (hs : n ≤ 1000000) (hc : (Lit.int .i64 c).wf = true) (w : World) :
    Calls Tryz.prog 12 #[.int .i64 c, .int .i64 n] w fun e w' => e = .returned (.int .i64 (pk c n)) ∧ w' = w := by
  have hr := wf_range hc
  have hq := pk_range (c := c) hn
  have hz : ¬ ((n : Int) = 0) := by omega
  by_cases h0 : c < 0
  · have e1 : IntKind.i64.wrap (c + 1) = c + 1 := by rw [IntKind.wrap_i64]; omega
    have e2 : IntKind.i64.wrap (-(c + 1)) = -(c + 1) := by rw [IntKind.wrap_i64]; omega
    have e4 : pk c n = (-(c + 1)).tmod n := by unfold pk; rw [if_pos h0]
    have e3 : IntKind.i64.wrap ((-(c + 1)).tmod n) = (-(c + 1)).tmod n := by rw [← e4, IntKind.wrap_i64]; omega
    have HE : Hid _ := e4
    clear e4 hq
    go_enter Tryz.func12, Tryz.ntmps12
    go_wp2
    go_ret
    exact ⟨by rw [HE.out, Int.neg_tmod]; rfl, rfl⟩
  · have e4 : pk c n = c.tmod n := by unfold pk; rw [if_neg h0]
    have e3 : IntKind.i64.wrap (c.tmod n) = c.tmod n := by rw [← e4, IntKind.wrap_i64]; omega
    have HE : Hid _ := e4
    clear e4 hq
    go_enter Tryz.func12, Tryz.ntmps12
    go_wp2
    go_ret
    exact ⟨by rw [HE.out, Int.tmod_eq_emod_of_nonneg h0]; rfl, rfl⟩
theorem pick_i (c : Int) (n : Int) (hn : 0 < n) (hs : n ≤ 1000000) (hc : (Lit.int .i64 c).wf = true) (w : World) :
    Calls Tryz.prog 12 #[.int .i64 c, .int .i64 n] w fun e w' => e = .returned (.int .i64 (pk c n)) ∧ w' = w := by
  obtain ⟨m, rfl⟩ : ∃ m : Nat, n = m := ⟨n.toNat, by omega⟩
  exact pick_c c m (by omega) (by omega) hc w
end Go.Proofs.YtbfhahhcacnckaaGreatDoor
namespace Go.Proofs.YtbfhahhcacnckaaGreatDoor
open Go Go.RowKit
attribute [local go_sem] Oper.semAt_some ext_cell
structure Pg where
  q : Option Addr
  L : List Ins
  c : Nat
  g : Int
  k : Int
  f : Bool
structure PgI (w : World) (p : Pg) : Prop where
  len : p.L.length ≤ 9223372036854775807
  li : LI w p.q p.L
theorem PgI.kept {w w' : World} {p : Pg} (h : PgI w p) (hb : Below w.heap.size w w') : PgI w' p := ⟨h.len, h.li.kept hb⟩
def isRef (i : Ins) : Bool := i.op == 8 || i.op == 9 || i.op == 10
set_option maxRecDepth 100000 in
set_option maxHeartbeats 1000000 in
theorem free1_c (i : Ins) (w : World) : Calls Tryz.prog 36 #[.agg #[.int .i64 i.op, .int .i64 i.x, .int .i64 i.y, .int .i64 i.n, .int .i64 i.mn, .int .i64 i.mx, .int .u64 (z1_wd i.s 0), .int .u64 (z1_wd i.s 1), .int .u64 (z1_wd i.s 2), .int .u64 (z1_wd i.s 3)]] w fun e w' => e = .returned (.bool (isRef i)) ∧ Below w.heap.size w w' := by
  have B1 : Hid (Below w.heap.size w (w.alloc (.cells #[.int .i64 i.op, .int .i64 i.x, .int .i64 i.y, .int .i64 i.n, .int .i64 i.mn, .int .i64 i.mx, .int .u64 (z1_wd i.s 0), .int .u64 (z1_wd i.s 1), .int .u64 (z1_wd i.s 2), .int .u64 (z1_wd i.s 3)] 35))) := (Below.refl _ _).alloc (Nat.le_refl _) _
  have c0 : (w.alloc (.cells #[.int .i64 i.op, .int .i64 i.x, .int .i64 i.y, .int .i64 i.n, .int .i64 i.mn, .int .i64 i.mx, .int .u64 (z1_wd i.s 0), .int .u64 (z1_wd i.s 1), .int .u64 (z1_wd i.s 2), .int .u64 (z1_wd i.s 3)] 35)).cell? ⟨w.heap.size, 0, none⟩ = some (.int .i64 i.op) := cell_row (alloc_new w (.cells #[.int .i64 i.op, .int .i64 i.x, .int .i64 i.y, .int .i64 i.n, .int .i64 i.mn, .int .i64 i.mx, .int .u64 (z1_wd i.s 0), .int .u64 (z1_wd i.s 1), .int .u64 (z1_wd i.s 2), .int .u64 (z1_wd i.s 3)] 35)) (i := 0) rfl
  obtain ⟨r, hr⟩ : ∃ r, isRef i = r := ⟨_, rfl⟩
  rw [hr]
  have R : Hid ((i.op == 8 || i.op == 9 || i.op == 10) = r) := hr
  clear hr
  go_enter Tryz.func36, Tryz.ntmps36
  go_upto_region 1 with fail
  generalize (w.alloc (.cells #[.int .i64 i.op, .int .i64 i.x, .int .i64 i.y, .int .i64 i.n, .int .i64 i.mn, .int .i64 i.mx, .int .u64 (z1_wd i.s 0), .int .u64 (z1_wd i.s 1), .int .u64 (z1_wd i.s 2), .int .u64 (z1_wd i.s 3)] 35)) = w1 at B1 c0 ⊢
  obtain ⟨o, ho⟩ : ∃ o, i.op = o := ⟨_, rfl⟩
  rw [ho] at c0 R ⊢
  clear ho
  by_cases h8 : o = 8
  · subst h8
    go_wp2
    go_ret
    exact ⟨by rw [← R.out]; rfl, B1.out⟩
  · by_cases h9 : o = 9
    · subst h9
      go_wp2
      go_ret
      exact ⟨by rw [← R.out]; rfl, B1.out⟩
    · go_wp2
      go_ret
      exact ⟨by rw [← R.out]; rfl, B1.out⟩
structure IxI (i : Int) (b : Bool) : Prop where
  h : 0 ≤ i ↔ b = true
set_option maxRecDepth 100000 in
set_option maxHeartbeats 4000000 in
theorem indexI_c {w : World} {L : List Ins} {q : Option Addr} {c : Nat} (hm : L.length ≤ 9223372036854775807) (hx : LI w q L) :
    Calls Tryz.prog 52 #[.slice q L.length c, .func (.func 36) #[] #[]] w fun e w' => ∃ i : Int, e = .returned (.int .i64 i) ∧ IxI i (L.any isRef) ∧ Below w.heap.size w w' := by
  have H1 := hide hx
  clear hx
  go_enter Tryz.func52, Tryz.ntmps52
  go_wp2
  go_loopw [8] (fun i wr => ∃ j : Nat, j ≤ L.length ∧ i = .int .i64 (j : Int) ∧ (L.take j).any isRef = false ∧ Below w.heap.size w wr) (fun i _ => L.length - (intOf i).toNat)
  case atStart => exact ⟨0, Nat.zero_le _, rfl, rfl, Below.refl _ _⟩
  case round =>
    obtain ⟨j, hj, rfl, hpre, hbel⟩ := hrel
    have HP := hide hpre
    have HB := hide hbel
    clear hpre hbel
    by_cases hjl : j < L.length
    · have i0 : (j : Int) < (L.length : Int) := by omega
      obtain ⟨a9, hga⟩ : ∃ a, L[j]? = some a := ⟨_, List.getElem?_eq_getElem hjl⟩
      obtain ⟨g1, o1, hq1, hl1, c0, c1, c2, c3, c4, c5, c6, c7, c8, c9⟩ := (H1.out.kept HB.out).ten hga
      have GA := hide hga
      have HC := hide (free1_c a9 wr)
      obtain ⟨sb, hsb⟩ : ∃ sb, isRef a9 = sb := ⟨_, rfl⟩
      have HSB := hide hsb
      rw [hsb] at HC
      rw [hq1]
      clear hga hsb
      cases sb with
      | true =>
        have HN : Hid (IxI (j : Int) (L.any isRef)) := ⟨⟨fun _ => List.any_eq_true.2 ⟨a9, List.mem_of_getElem? GA.out, HSB.out⟩, fun _ => by omega⟩⟩
        go_wp2_with (go_at_call 36; (with_reducible refine (HC.out).mono ?_); rintro e w5 ⟨rfl, h5⟩; have B5 : Hid (Below w.heap.size w w5) := chain HB.out h5 (Nat.le_refl _); clear h5)
        go_ret
        exact ⟨_, rfl, HN.out, B5.out⟩
      | false =>
        have HN := hide (show (L.take (j + 1)).any isRef = false by rw [List.take_add_one, GA.out, List.any_append, HP.out]; simpa using HSB.out)
        go_wp2_with (go_at_call 36; (with_reducible refine (HC.out).mono ?_); rintro e w5 ⟨rfl, h5⟩; have B5 : Hid (Below w.heap.size w w5) := chain HB.out h5 (Nat.le_refl _); clear h5)
        go_roundw
        case rel => exact ⟨j + 1, by omega, by go_num, HN.out, B5.out⟩
        case measure => simp only [intOf]; omega
    · have i0 : ¬ (j : Int) < (L.length : Int) := by omega
      have HN : Hid (IxI (-1) (L.any isRef)) := by
        have := HP.out
        rw [List.take_of_length_le (by omega)] at this
        refine ⟨⟨fun h => by omega, fun h => ?_⟩⟩
        rw [this] at h
        cases h
      go_wp2
      go_ret
      exact ⟨_, rfl, HN.out, HB.out⟩
set_option maxRecDepth 100000 in
set_option maxHeartbeats 1000000 in
theorem containsI_c {w : World} {L : List Ins} {q : Option Addr} {c : Nat} (hm : L.length ≤ 9223372036854775807) (hx : LI w q L) :
    Calls Tryz.prog 35 #[.slice q L.length c, .func (.func 36) #[] #[]] w fun e w' => e = .returned (.bool (L.any isRef)) ∧ Below w.heap.size w w' := by
  have HI := hide (indexI_c (c := c) hm hx)
  obtain ⟨r, hr⟩ : ∃ r, L.any isRef = r := ⟨_, rfl⟩
  rw [hr] at HI ⊢
  clear hr hx
  go_enter Tryz.func35, Tryz.ntmps35
  go_wp2_with (go_at_call 52; (with_reducible refine (HI.out).mono ?_); rintro e w5 ⟨ix, rfl, h51, h52⟩; have X5 := hide h51; have B5 := hide h52; clear h51 h52)
  go_ret
  refine ⟨?_, B5.out⟩
  have := X5.out.h
  cases r <;> simp_all
def freeB (p : Pg) : Bool := !p.L.any isRef
set_option maxRecDepth 100000 in
set_option maxHeartbeats 1000000 in
theorem free_c {w : World} {p : Pg} (h : PgI w p) : Calls Tryz.prog 18 #[.agg #[.slice p.q p.L.length p.c, .int .i64 p.g, .int .i64 p.k, .bool p.f]] w fun e w' => e = .returned (.bool (freeB p)) ∧ Below w.heap.size w w' := by
  have B1 : Hid (Below w.heap.size w (w.alloc (.cells #[.slice p.q p.L.length p.c, .int .i64 p.g, .int .i64 p.k, .bool p.f] 24))) := (Below.refl _ _).alloc (Nat.le_refl _) _
  have c0 : (w.alloc (.cells #[.slice p.q p.L.length p.c, .int .i64 p.g, .int .i64 p.k, .bool p.f] 24)).cell? ⟨w.heap.size, 0, none⟩ = some (.slice p.q p.L.length p.c) := cell_row (alloc_new w (.cells #[.slice p.q p.L.length p.c, .int .i64 p.g, .int .i64 p.k, .bool p.f] 24)) (i := 0) rfl
  have HC := hide (containsI_c (c := p.c) h.len (h.li.kept B1.out))
  unfold freeB
  obtain ⟨r, hr⟩ : ∃ r, p.L.any isRef = r := ⟨_, rfl⟩
  rw [hr] at HC ⊢
  clear hr h
  go_enter Tryz.func18, Tryz.ntmps18
  go_wp2_with (go_at_call 35; (with_reducible refine (HC.out).mono ?_); rintro e w5 ⟨rfl, h52⟩; have B5 := hide (chain B1.out h52 (Nat.le_refl _)); clear h52)
  go_ret
  exact ⟨rfl, B5.out⟩
end Go.Proofs.YtbfhahhcacnckaaGreatDoor
