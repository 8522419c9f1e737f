/-
  What is wrong with groups: the other tokens; all tokens. within, measure. checkGroups, checkSize. What the checker asks of where a node stands. Has a group ended? A node that is right is taken up. The library's sort by a comparison, as it lies in this program (laid by program). order: where the ranges stand, by where they begin. add: a class with one range more.
-/
import Derived.Test.YtpfdapnfkghgkaaGreatDoorC4
import Derived.Test.YtpfdapnfkghgkaaGreatDoorC3
import Derived.Shelf.SlGeneric
import Derived.Ground.SlsfProg
import Derived.Shelf.SlSortCmp.Whole1
import Derived.Test.YtpfdapnfkghgkaaGreatDoorProg
import Derived.Test.YtpfdapnfkghgkaaGreatDoorC0
import Derived.Shelf.SlSortCmp.NoneTotal
import Derived.Deep.QuietTactic
import Derived.BigQuiet
namespace Go.Proofs.YtpfdapnfkghgkaaGreatDoor
open Go Go.RowKit
attribute [local go_sem] ext_cell

set_option maxRecDepth 100000 in
set_option maxHeartbeats 4000000 in
theorem look_close_bad {lo b : Nat} {w : World} {s : GS} {d : Dt} {q : Option Addr} {c : Nat} (h : GX lo w b s) (ho0 : s.o = []) :
    Calls Tryz.prog 50 #[.pointer (some ⟨b, 0, none⟩), .agg (tkArg 4 d q c)] w (LookIs lo w b (.error (40, d.1.2.1))) := by
  obtain ⟨qo, co, hgb, ho⟩ := h.gb
  have lb := hgb.lt
  have c1 := hgb.c1
  rw [ho0, List.length_nil] at c1
  have B1 : Hid (Below w.heap.size w (w.alloc (.cells (tkArg 4 d q c) 104))) := (Below.refl _ _).alloc (Nat.le_refl _) _
  have PW : Hid (∀ W, Calls Tryz.prog 51 #[.int .i64 40, .int .i64 (d.1.2.1 : Int)] W fun e w' => ∃ g, W.heap.size ≤ g ∧ e = .returned (.iface 62 (.pointer (some ⟨g, 0, none⟩))) ∧ BadAt w' g 40 d.1.2.1 ∧ Below W.heap.size W w') := fun W => pwrong_c 40 d.1.2.1 W
  clear h hgb ho ho0
  go_enter Tryz.func50, Tryz.ntmps50
  go_wp2_with (go_at_call 51; (with_reducible refine (PW.out _).mono ?_); rintro e w5 ⟨g5, h1, rfl, h2, h3⟩; have X5 := hide (⟨h1, h2, h3⟩ : _ ∧ BadAt w5 g5 40 d.1.2.1 ∧ _); clear h1 h2 h3)
  go_ret
  exact ⟨Fr.of_below (chain B1.out X5.out.2.2 (Nat.le_refl _)), g5, Nat.le_trans B1.out.size X5.out.1, rfl, X5.out.2.1⟩
set_option maxRecDepth 100000 in
set_option maxHeartbeats 4000000 in
theorem look_other {lo b : Nat} {w : World} {s : GS} {d : Dt} {q : Option Addr} {c : Nat} {K : Int} (h : GX lo w b s) (h3 : (K == 3) = false) (h4 : (K == 4) = false) (h6 : (K == 6) = false) :
    Calls Tryz.prog 50 #[.pointer (some ⟨b, 0, none⟩), .agg (tkArg K d q c)] w (LookIs lo w b (.ok s)) := by
  have B1 : Hid (Below w.heap.size w (w.alloc (.cells (tkArg K d q c) 104))) := (Below.refl _ _).alloc (Nat.le_refl _) _
  have HH := hide h
  clear h
  go_enter Tryz.func50, Tryz.ntmps50
  go_wp2
  go_ret
  exact ⟨Fr.of_below B1.out, rfl, HH.out.kept B1.out⟩
set_option maxRecDepth 100000 in
set_option maxHeartbeats 4000000 in
theorem look_back {lo b : Nat} {w : World} {s : GS} {d : Dt} {q : Option Addr} {c : Nat} (h : GX lo w b s) (hn : d.1.1.n ≤ 9) :
    Calls Tryz.prog 50 #[.pointer (some ⟨b, 0, none⟩), .agg (tkArg 6 d q c)] w (LookIs lo w b (if d.1.1.n ∈ s.e then .ok s else .error (41, d.1.2.1))) := by
  obtain ⟨qo, co, hgb, ho⟩ := h.gb
  have B1 : Below w.heap.size w (w.alloc (.cells (tkArg 6 d q c) 104)) := (Below.refl _ _).alloc (Nat.le_refl _) _
  have lb := (hgb.kept B1).lt
  have ce := (hgb.kept B1).ce d.1.1.n (by omega)
  have M1 := alloc_new w (.cells (tkArg 6 d q c) 104)
  have m3 := cell_row M1 (i := 3) rfl
  have m1 := cell_row M1 (i := 1) rfl
  have lm := lt_of_heap M1
  have HB1 := hide B1
  have HH := hide h
  have PW : Hid (∀ W, Calls Tryz.prog 51 #[.int .i64 41, .int .i64 (d.1.2.1 : Int)] W fun e w' => ∃ g, W.heap.size ≤ g ∧ e = .returned (.iface 62 (.pointer (some ⟨g, 0, none⟩))) ∧ BadAt w' g 41 d.1.2.1 ∧ Below W.heap.size W w') := fun W => pwrong_c 41 d.1.2.1 W
  have i0 : (d.1.1.n : Int) < 31 := by omega
  by_cases hm : d.1.1.n ∈ s.e
  · rw [if_pos hm]
    rw [decide_eq_true hm] at ce
    clear h hgb ho B1 hm M1
    go_enter Tryz.func50, Tryz.ntmps50
    go_upto_region 14 with fail
    generalize (w.alloc (.cells (tkArg 6 d q c) 104)) = W1 at ce lb m3 m1 lm HB1 ⊢
    refine wp_region_ext (by kernel_rfl) (by kernel_rfl) ?_
    repeat (go_big_quiet_step (first | exact rfl))
    refine wpQuiet_nil ?_
    intro w5 hw5
    have B5 : Hid (Below W1.heap.size W1 w5) := ext_of hw5
    clear hw5
    go_wp2
    go_ret
    exact ⟨Fr.of_below (chain HB1.out B5.out (Nat.le_refl _)), rfl, HH.out.kept (chain HB1.out B5.out (Nat.le_refl _))⟩
  · rw [if_neg hm]
    rw [decide_eq_false hm] at ce
    clear h hgb ho B1 hm M1
    go_enter Tryz.func50, Tryz.ntmps50
    go_upto_region 14 with fail
    generalize (w.alloc (.cells (tkArg 6 d q c) 104)) = W1 at ce lb m3 m1 lm HB1 ⊢
    refine wp_region_ext (by kernel_rfl) (by kernel_rfl) ?_
    repeat (go_big_quiet_step (first | exact rfl))
    refine wpQuiet_nil ?_
    intro w5 hw5
    have B5 : Hid (Below W1.heap.size W1 w5) := ext_of hw5
    have m5 := (B5.out.cell (p := ⟨w.heap.size, 1, none⟩) lm).trans m1
    have l5 : w.heap.size < w5.heap.size := Nat.lt_of_lt_of_le lm B5.out.size
    clear hw5
    go_wp2_with (go_at_call 51; (with_reducible refine (PW.out _).mono ?_); rintro e w6 ⟨g6, h1, rfl, h2, h3⟩; have X6 := hide (⟨h1, h2, h3⟩ : _ ∧ BadAt w6 g6 41 d.1.2.1 ∧ _); clear h1 h2 h3)
    go_ret
    exact ⟨Fr.of_below (chain (chain HB1.out B5.out (Nat.le_refl _)) X6.out.2.2 (Nat.le_refl _)), g6, Nat.le_trans (Nat.le_of_lt l5) X6.out.1, rfl, X6.out.2.1⟩
set_option maxRecDepth 100000 in
set_option maxHeartbeats 4000000 in
theorem look_close {lo b : Nat} {w : World} {s : GS} {d : Dt} {q : Option Addr} {c : Nat} {o : List (Nat × Nat)} {x : Nat × Nat} (h : GX lo w b s) (ho0 : s.o = o ++ [x]) :
    Calls Tryz.prog 50 #[.pointer (some ⟨b, 0, none⟩), .agg (tkArg 4 d q c)] w (LookIs lo w b (.ok ⟨s.g, o, x.1 :: s.e⟩)) := by
  obtain ⟨qo, co, hgb, ho⟩ := h.gb
  have hx30 : x.1 ≤ 30 := h.ho x (by rw [ho0]; simp)
  have hln : o.length + 1 ≤ 30 := by have := h.hn; rw [ho0] at this; simpa using this
  have hol : s.o.length = o.length + 1 := by rw [ho0]; simp
  obtain ⟨go, co', e⟩ := ownsRow_some ho (by omega)
  injection e with e1 _ e3
  subst e1 e3
  rw [hol] at hgb ho
  have B1 : Below w.heap.size w (w.alloc (.cells (tkArg 4 d q c) 104)) := (Below.refl _ _).alloc (Nat.le_refl _) _
  have HB1 := hide B1
  have G1 := hide (hgb.kept B1)
  have O1 := hide (ownsRow_fr ho (Fr.of_below (S := fun _ => False) B1) (fun _ _ z => z))
  have HH := hide h
  have HO0 := hide ho0
  have cx : (w.alloc (.cells (tkArg 4 d q c) 104)).cell? ⟨go, o.length * 2, none⟩ = some (.int .i64 (x.1 : Int)) := ownsRow_cell O1.out (cellsO_get s.o o.length x (by rw [ho0, List.getElem?_append_right (Nat.le_refl _), Nat.sub_self]; rfl)).1
  have c1 := G1.out.c1
  have lb := G1.out.lt
  have lgo := (ownsRow_at O1.out (g := go) rfl).2.1
  have ce := G1.out.ce x.1 (by omega)
  have fb := fun z => G1.out.frz z
  have i0 : (x.1 : Int) < 31 := by omega
  have i1 : ¬ (o.length : Int) < 0 := by omega
  have i2 : ((o.length : Int) + 1) - 1 = (o.length : Int) := by omega
  clear h hgb ho B1 ho0 hol
  go_enter Tryz.func50, Tryz.ntmps50
  go_upto_region 11 with fail
  generalize (w.alloc (.cells (tkArg 4 d q c) 104)) = W1 at HB1 G1 O1 cx c1 lb lgo ce fb ⊢
  have i3 : (o.length : Int) < (o.length : Int) + 1 := by omega
  have i4 : o.length < o.length + 1 := by omega
  have hcap : o.length + 1 ≤ co := by
    rcases O1.out.2 with ⟨e, -⟩ | ⟨g', cap, cur, e, -, -, h3, -⟩
    · cases e
    · injection e with _ _ e3; omega
  go_region
  have FB : Fr (At b) W1 (W1.setCell ⟨b, 2 + x.1, none⟩ (.bool true)).drew := ((Fr.refl (At b) W1).setCell (p := ⟨b, 2 + x.1, none⟩) rfl _).drew
  have G2 := hide ((G1.out.sete (n := x.1) (by omega)).kept (Below.refl _ _).drew)
  have O2 := hide (ownsRow_fr O1.out FB (fun k hk e => by obtain rfl : k = b := e; obtain ⟨cs, z⟩ := G1.out.blk; exact ownsRow_not O1.out z (by decide) hk))
  have HFB := hide FB
  clear FB c1 ce fb cx
  generalize (W1.setCell ⟨b, 2 + x.1, none⟩ (.bool true)).drew = W2 at G2 O2 HFB ⊢
  have c1 := G2.out.c1
  have fb := fun z => G2.out.frz z
  have lb2 := G2.out.lt
  have j1 : (0 : Int) ≤ (o.length : Int) := by omega
  have j2 : (o.length : Int) ≤ (co : Int) := by omega
  have j3 : o.length ≤ co := by omega
  go_wp2
  have G3 := G2.out.set1 (.slice (some ⟨go, 0, none⟩) o.length co)
  have FC : Fr (At b) W2 (W2.setCell ⟨b, 1, none⟩ (.slice (some ⟨go, 0, none⟩) o.length co)) := (Fr.refl (At b) W2).setCell (p := ⟨b, 1, none⟩) rfl _
  have O3 := ownsRow_fr O2.out FC (fun k hk e => by obtain rfl : k = b := e; obtain ⟨cs, z⟩ := G2.out.blk; exact ownsRow_not O2.out z (by decide) hk)
  have O4 := ownsRow_take O3 (k := o.length) (by omega)
  rw [HO0.out, cellsO_append, List.take_append_of_le_length (by rw [cellsO_length]; exact Nat.le_refl _), List.take_of_length_le (by rw [cellsO_length]; exact Nat.le_refl _)] at O4
  go_ret
  exact ⟨(((Fr.of_below HB1.out).over HFB.out (fun k hk => .inl (by rw [show k = b from hk]; exact HH.out.hb))).over FC (fun k hk => .inl (by rw [show k = b from hk]; exact HH.out.hb))), rfl, ⟨_, _, G3, O4⟩, HH.out.hb, HH.out.hg, fun y hy => HH.out.ho y (by rw [HO0.out]; exact List.mem_append_left _ hy), by show o.length ≤ 30; omega⟩
/-- What look answers of any token. -/
theorem glook_c {lo b : Nat} {w : World} {s : GS} {d : Dt} {q : Option Addr} {c : Nat} (h : GX lo w b s) (hlo : lo ≤ w.heap.size) (hok : TokOK d.1.1) (hlen : s.o.length ≤ s.g) :
    Calls Tryz.prog 50 #[.pointer (some ⟨b, 0, none⟩), .agg (tkArg (d.1.1.kind : Int) d q c)] w (LookIs lo w b (glk s d.1)) := by
  unfold glk
  by_cases k3 : d.1.1.kind = 3
  · rw [if_pos k3, k3]
    by_cases hg : s.g = 30
    · rw [if_pos hg]; exact look_open_bad h hg
    · rw [if_neg hg]; have := h.hg; exact look_open h hlo (by omega) (by omega)
  rw [if_neg k3]
  by_cases k4 : d.1.1.kind = 4
  · rw [if_pos k4, k4]
    cases hl : s.o.getLast? with
    | none => exact look_close_bad h (List.getLast?_eq_none_iff.1 hl)
    | some x =>
      have hne : s.o ≠ [] := fun e => by rw [e] at hl; cases hl
      rw [List.getLast?_eq_some_getLast hne] at hl
      cases hl
      exact look_close h (List.dropLast_concat_getLast hne).symm
  rw [if_neg k4]
  by_cases k6 : d.1.1.kind = 6
  · rw [if_pos k6, k6]
    exact look_back h hok.2.2.1
  rw [if_neg k6]
  exact look_other h (by rw [beq_eq_false_iff_ne]; omega) (by rw [beq_eq_false_iff_ne]; omega) (by rw [beq_eq_false_iff_ne]; omega)
theorem glk_len {s s' : GS} {t : Tp} (h : glk s t = .ok s') (hl : s.o.length ≤ s.g) : s'.o.length ≤ s'.g := by
  unfold glk at h
  repeat' split at h
  all_goals cases h
  · simp; omega
  · simp only [List.length_dropLast]; omega
  · exact hl
  · exact hl
end Go.Proofs.YtpfdapnfkghgkaaGreatDoor
namespace Go.Proofs.YtpfdapnfkghgkaaGreatDoor
open Go Go.RowKit

theorem meth_leaf (a0 a1 a2 a3 a4 a5 : Value) (w : World) : (method 336 120 (.agg #[a0, a1, a2, a3, a4, a5]) "dredge/parse.within").run Tryz.prog w = .ok (204, .agg #[a0, a1, a2, a3, a4, a5]) w := by kernel_rfl
theorem meth_group (a0 a1 : Value) (w : World) : (method 336 122 (.agg #[a0, a1]) "dredge/parse.within").run Tryz.prog w = .ok (205, .agg #[a0, a1]) w := by kernel_rfl
theorem meth_turns (a0 a1 a2 : Value) (w : World) : (method 336 125 (.agg #[a0, a1, a2]) "dredge/parse.within").run Tryz.prog w = .ok (206, .agg #[a0, a1, a2]) w := by kernel_rfl
theorem meth_row (a0 : Value) (w : World) : (method 336 127 (.agg #[a0]) "dredge/parse.within").run Tryz.prog w = .ok (207, .agg #[a0]) w := by kernel_rfl
theorem meth_choice (a0 : Value) (w : World) : (method 336 117 (.agg #[a0]) "dredge/parse.within").run Tryz.prog w = .ok (203, .agg #[a0]) w := by kernel_rfl
theorem call_leaf (u : Value) (w : World) : (callFunc 204 #[u]).run Tryz.prog w = .ok (.enter 204 #[u]) w := by kernel_rfl
theorem call_group (u : Value) (w : World) : (callFunc 205 #[u]).run Tryz.prog w = .ok (.enter 205 #[u]) w := by kernel_rfl
theorem call_turns (u : Value) (w : World) : (callFunc 206 #[u]).run Tryz.prog w = .ok (.enter 206 #[u]) w := by kernel_rfl
theorem call_row (u : Value) (w : World) : (callFunc 207 #[u]).run Tryz.prog w = .ok (.enter 207 #[u]) w := by kernel_rfl
theorem call_choice (u : Value) (w : World) : (callFunc 203 #[u]).run Tryz.prog w = .ok (.enter 203 #[u]) w := by kernel_rfl
/-- What within answers: a list of parts that can be read. -/
def WinP (base : Nat) (N : Nat → Prop) (W : World) (x : Ps) (e : Ending) (w' : World) : Prop :=
  ∃ (q : Option Addr) (c : Nat) (vs : List Value), e = .returned (.slice q x.kids.length c) ∧ Below W.heap.size W w' ∧ vs.length = x.kids.length ∧ (∀ (i : Nat) (u : Value), vs[i]? = some u → ∃ g, q = some ⟨g, 0, none⟩ ∧ g < w'.heap.size ∧ w'.cell? ⟨g, i, none⟩ = some u) ∧
    ∀ (i : Nat) (y : Ps) (u : Value), x.kids[i]? = some y → vs[i]? = some u → PV base N w' y u
/-- A part whose within is known. -/
def Win (base : Nat) (N : Nat → Prop) (W : World) (x : Ps) (v : Value) : Prop :=
  ∃ (T : TypeId) (u : Value) (F : FuncId), v = .iface T u ∧ (∀ w, (method 336 T u "dredge/parse.within").run Tryz.prog w = .ok (F, u) w) ∧ (∀ w, (callFunc F #[u]).run Tryz.prog w = .ok (.enter F #[u]) w) ∧ Calls Tryz.prog F #[u] W (WinP base N W x)
theorem win_leaf {base : Nat} {N : Nat → Prop} {W : World} {x : Ps} {v : Value} (h : PV base N W x v) : Win base N W x v := by
  cases h with
  | lf k n rs q c h hf hl =>
    refine ⟨_, _, _, rfl, meth_leaf _ _ _ _ _ _, call_leaf _, ?_⟩
    go_enter Tryz.func204, Tryz.ntmps204
    go_wp2
    go_ret
    exact ⟨none, 0, [], rfl, (Below.refl _ _).alloc (Nat.le_refl _) _, rfl, fun i u hu => by simp at hu, fun i y u hy => by simp [Ps.kids] at hy⟩
  | grp n y u h =>
    have HV := hide h
    obtain ⟨T, z, rfl⟩ := h.shape
    clear h
    refine ⟨_, _, _, rfl, meth_group _ _, call_group _, ?_⟩
    go_enter Tryz.func205, Tryz.ntmps205
    go_wp2
    go_ret
    have B : Below W.heap.size W ((W.alloc (.cells #[.int .i64 (n : Int), .iface T z] 122)).alloc (.cells #[.iface T z] 58)) := ((Below.refl _ _).alloc (Nat.le_refl _) _).alloc (by simp) _
    have M := alloc_new (W.alloc (.cells #[.int .i64 (n : Int), .iface T z] 122)) (.cells #[.iface T z] 58)
    rw [World.size_alloc] at M
    refine ⟨_, _, [.iface T z], rfl, B, rfl, fun i u hu => ?_, fun i y' u hy hu => ?_⟩
    · match i, hu with
      | 0, hu => simp at hu; subst hu; exact ⟨_, rfl, lt_of_heap M, cell_row M (i := 0) rfl⟩
    · match i, hy, hu with
      | 0, hy, hu => simp [Ps.kids] at hy hu; subst hy hu; exact HV.out.kept B
  | rep a b y u h =>
    have HV := hide h
    obtain ⟨T, z, rfl⟩ := h.shape
    clear h
    refine ⟨_, _, _, rfl, meth_turns _ _ _, call_turns _, ?_⟩
    go_enter Tryz.func206, Tryz.ntmps206
    go_wp2
    go_ret
    have B : Below W.heap.size W ((W.alloc (.cells #[.int .i64 a, .int .i64 b, .iface T z] 125)).alloc (.cells #[.iface T z] 58)) := ((Below.refl _ _).alloc (Nat.le_refl _) _).alloc (by simp) _
    have M := alloc_new (W.alloc (.cells #[.int .i64 a, .int .i64 b, .iface T z] 125)) (.cells #[.iface T z] 58)
    rw [World.size_alloc] at M
    refine ⟨_, _, [.iface T z], rfl, B, rfl, fun i u hu => ?_, fun i y' u hy hu => ?_⟩
    · match i, hu with
      | 0, hu => simp at hu; subst hu; exact ⟨_, rfl, lt_of_heap M, cell_row M (i := 0) rfl⟩
    · match i, hy, hu with
      | 0, hy, hu => simp [Ps.kids] at hy hu; subst hy hu; exact HV.out.kept B
  | row l vs q c hl h hN he =>
    refine ⟨_, _, _, rfl, meth_row _, call_row _, ?_⟩
    have HO := hide h
    have HE := hide he
    have HLN := hide hl
    clear h he hl hN
    go_enter Tryz.func207, Tryz.ntmps207
    go_wp2
    go_ret
    have B : Below W.heap.size W (W.alloc (.cells #[.slice q l.length c] 127)) := (Below.refl _ _).alloc (Nat.le_refl _) _
    have O := ownsRow_fr HO.out (Fr.of_below (S := fun _ => False) B) (fun _ _ z => z)
    refine ⟨q, c, vs, rfl, B, HLN.out, fun i u hu => ?_, fun i y' u hy hu => (HE.out i y' u hy hu).kept B⟩
    obtain ⟨g, c', e⟩ := ownsRow_some O (by have := (List.getElem?_eq_some_iff.1 hu).1; have := HLN.out; omega)
    injection e with e1 _ e3
    subst e1 e3
    exact ⟨g, rfl, (ownsRow_at O rfl).2.1, ownsRow_cell O hu⟩
  | alt l vs q c hl h hN he =>
    refine ⟨_, _, _, rfl, meth_choice _, call_choice _, ?_⟩
    have HO := hide h
    have HE := hide he
    have HLN := hide hl
    clear h he hl hN
    go_enter Tryz.func203, Tryz.ntmps203
    go_wp2
    go_ret
    have B : Below W.heap.size W (W.alloc (.cells #[.slice q l.length c] 117)) := (Below.refl _ _).alloc (Nat.le_refl _) _
    have O := ownsRow_fr HO.out (Fr.of_below (S := fun _ => False) B) (fun _ _ z => z)
    refine ⟨q, c, vs, rfl, B, HLN.out, fun i u hu => ?_, fun i y' u hy hu => (HE.out i y' u hy hu).kept B⟩
    obtain ⟨g, c', e⟩ := ownsRow_some O (by have := (List.getElem?_eq_some_iff.1 hu).1; have := HLN.out; omega)
    injection e with e1 _ e3
    subst e1 e3
    exact ⟨g, rfl, (ownsRow_at O rfl).2.1, ownsRow_cell O hu⟩
theorem psz_kids (x : Ps) : x.sz = pszs x.kids + 1 := by cases x <;> simp [Ps.sz, Ps.kids, pszs]
theorem pdp_kids (x : Ps) : x.dp = pdps x.kids + 1 := by cases x <;> simp [Ps.dp, Ps.kids, pdps]
theorem pszs_append (a b : List Ps) : pszs (a ++ b) = pszs a + pszs b := by
  induction a with
  | nil => rw [pszs_nil]; simp
  | cons x a ih => rw [List.cons_append, pszs_cons, pszs_cons, ih]; omega
theorem pdps_append (a b : List Ps) : pdps (a ++ b) = max (pdps a) (pdps b) := by
  induction a with
  | nil => simp [pdps]
  | cons x a ih => simp only [List.cons_append, pdps, ih]; omega
theorem pdps_le (a : List Ps) (h : ∀ x ∈ a, x.dp ≤ x.sz) : pdps a ≤ pszs a := by
  induction a with
  | nil => simp [pdps]
  | cons x a ih =>
    have h1 := h x (List.mem_cons_self ..)
    have h2 := ih (fun y hy => h y (List.mem_cons_of_mem _ hy))
    rw [pdps, pszs]
    omega
theorem pdp_le (x : Ps) : x.dp ≤ x.sz := by
  refine Ps.ind (P := fun x => x.dp ≤ x.sz) (fun x ih => ?_) x
  rw [pdp_kids, psz_kids]
  have := pdps_le x.kids ih
  omega
set_option maxRecDepth 100000 in
set_option maxHeartbeats 4000000 in
theorem measure_c {base : Nat} {N : Nat → Prop} : ∀ (m : Nat) (x : Ps) (W : World) (v : Value), x.sz ≤ m → x.sz ≤ 1000000 → PV base N W x v →
    Calls Tryz.prog 55 #[v] W fun e w' => e = .returned (.tuple #[.int .i64 (x.sz : Int), .int .i64 (x.dp : Int)]) ∧ Below W.heap.size W w' := by
  intro m
  induction m with
  | zero => intro x W v hm; exact absurd (psz_pos x) (by omega)
  | succ m ih =>
    intro x W v hm hsz h
    obtain ⟨T, u, F, rfl, hmeth, hcf, hc⟩ := win_leaf h
    have WC := hide hc
    have IH := hide ih
    clear ih h hc
    go_enter Tryz.func55, Tryz.ntmps55
    go_wp2_with ((with_reducible refine (WC.out).mono ?_); rintro e w5 ⟨q5, c5, vs, rfl, h1, h2, h3, h4⟩; have B5 := hide h1; have L5 := hide h2; have R5 := hide h3; have V5 := hide h4; clear h1 h2 h3 h4)
    have hk := psz_kids x
    have hd := pdp_kids x
    obtain ⟨n, hn⟩ : ∃ n, x.kids.length = n := ⟨_, rfl⟩
    have HN := hide hn
    rw [hn]
    have hnl : n ≤ 1000000 := by
      have : ∀ l : List Ps, l.length ≤ pszs l := by
        intro l
        induction l with
        | nil => simp
        | cons y l ih => rw [pszs_cons, List.length_cons]; have := psz_pos y; omega
      have := this x.kids
      omega
    have HK := hide hk
    have HD := hide hd
    clear hn hk hd
    go_loopw [11, 2, 3] (fun i a d wr => ∃ j : Nat, j ≤ n ∧ i = .int .i64 (j : Int) ∧ a = .int .i64 (pszs (x.kids.take j) : Int) ∧ d = .int .i64 (pdps (x.kids.take j) : Int) ∧ Below w5.heap.size w5 wr) (fun i _ _ _ => n - (intOf i).toNat)
    case atStart => exact ⟨0, Nat.zero_le _, rfl, by simp [pszs], by simp [pdps], Below.refl _ _⟩
    case round =>
      obtain ⟨j, hj, rfl, rfl, rfl, hb⟩ := hrel
      have HB := hide hb
      clear hb
      by_cases hjn : j < n
      · have i0 : (j : Int) < (n : Int) := by omega
        obtain ⟨y, hy⟩ : ∃ y, x.kids[j]? = some y := ⟨_, List.getElem?_eq_getElem (by have := HN.out; omega)⟩
        obtain ⟨uu, hu⟩ : ∃ uu, vs[j]? = some uu := ⟨_, List.getElem?_eq_getElem (by have := HN.out; have := L5.out; omega)⟩
        obtain ⟨g, rfl, hg, hcell⟩ := R5.out j uu hu
        have hV := (V5.out j y uu hy hu).kept HB.out
        obtain ⟨T6, u6, rfl⟩ := hV.shape
        have cc := (HB.out.cell (p := ⟨g, j, none⟩) hg).trans hcell
        have lg : g < wr.heap.size := Nat.lt_of_lt_of_le hg HB.out.size
        have hym : y ∈ x.kids := List.mem_of_getElem? hy
        have hys := psz_kid hym
        have MC := hide (IH.out y wr (.iface T6 u6) (by omega) (by omega) hV)
        have e1 : pszs (x.kids.take (j + 1)) = pszs (x.kids.take j) + y.sz := by rw [List.take_add_one, hy, pszs_append]; simp [pszs]
        have e2 : pdps (x.kids.take (j + 1)) = max (pdps (x.kids.take j)) y.dp := by rw [List.take_add_one, hy, pdps_append]; simp [pdps]
        have b1 : pszs (x.kids.take (j + 1)) ≤ 1000000 := by
          have h1 := pszs_append (x.kids.take (j + 1)) (x.kids.drop (j + 1))
          rw [List.take_append_drop] at h1
          have := HK.out
          omega
        have b2 : y.dp ≤ 1000000 := by have := pdp_le y; omega
        have b3 : pdps (x.kids.take j) ≤ 1000000 := by have := pdps_le (x.kids.take j) (fun z _ => pdp_le z); omega
        rw [e1] at b1
        have E1 := hide e1
        have E2 := hide e2
        clear e1 e2 hV hcell hu hy hym
        generalize pszs (x.kids.take j) = A at *
        generalize pdps (x.kids.take j) = Bd at *
        go_wp2_with (go_at_call 55; (with_reducible refine (MC.out).mono ?_); rintro e w6 ⟨rfl, h1⟩; have B6 := hide h1; clear h1)
        go_roundw
        case rel => exact ⟨j + 1, by omega, by go_num, by rw [E1.out]; go_num, by rw [E2.out]; congr 1; omega, chain HB.out B6.out (Nat.le_refl _)⟩
        case measure => simp only [intOf]; omega
      · have i0 : ¬ (j : Int) < (n : Int) := by omega
        have e1 : x.kids.take j = x.kids := List.take_of_length_le (by have := HN.out; omega)
        rw [e1]
        have hk := HK.out
        have hd := HD.out
        have hdl := pdp_le x
        have b1 : pszs x.kids + 1 ≤ 1000000 := by omega
        have b2 : pdps x.kids + 1 ≤ 1000000 := by omega
        clear e1 hk hd hdl
        go_wp2
        refine bodyPost_ret (results_tmp2 rfl _ _ _) rfl ?_
        refine ⟨?_, chain B5.out HB.out (Nat.le_refl _)⟩
        rw [HK.out, HD.out]
        rfl
end Go.Proofs.YtpfdapnfkghgkaaGreatDoor
namespace Go.Proofs.YtpfdapnfkghgkaaGreatDoor
open Go Go.RowKit
attribute [local go_sem] ext_cell

abbrev grpZ : Array Value := #[.int .i64 0, .slice none 0 0, .bool false, .bool false, .bool false, .bool false, .bool false, .bool false, .bool false, .bool false, .bool false, .bool false, .bool false, .bool false, .bool false, .bool false, .bool false, .bool false, .bool false, .bool false, .bool false, .bool false, .bool false, .bool false, .bool false, .bool false, .bool false, .bool false, .bool false, .bool false, .bool false, .bool false, .bool false]
theorem zero_groups : grpZ.toList = .int .i64 0 :: .slice none 0 0 :: List.replicate 31 (.bool false) := by kernel_rfl
theorem new_groups (w : World) : GX w.heap.size (w.alloc (.cells grpZ 109)) w.heap.size gs0 := by
  have N := alloc_new w (.cells grpZ 109)
  have at' : ∀ (i : Nat) (v : Value), grpZ.toList[i]? = some v → (w.alloc (.cells grpZ 109)).cell? ⟨w.heap.size, i, none⟩ = some v := fun i v hv => cell_row N (i := i) (by simpa using hv)
  rw [zero_groups] at at'
  refine ⟨⟨none, 0, ⟨⟨_, N⟩, at' 0 _ rfl, at' 1 _ rfl, fun i hi => at' (2 + i) _ ?_⟩, World.ownsRow_nil _ _ _ _⟩, Nat.le_refl _, by simp [gs0], fun x hx => (by cases hx), by simp [gs0]⟩
  rw [show 2 + i = i + 1 + 1 by omega, List.getElem?_cons_succ, List.getElem?_cons_succ, List.getElem?_replicate, if_pos hi]
  simp [gs0]
def BadRet (w : World) (c a : Nat) (e : Ending) (w' : World) : Prop := ∃ g, w.heap.size ≤ g ∧ e = .returned (.iface 62 (.pointer (some ⟨g, 0, none⟩))) ∧ BadAt w' g c a
/-- What checkGroups, checkSize answer. -/
def ChkIs (w : World) (r : Option (Nat × Nat)) (e : Ending) (w' : World) : Prop := Below w.heap.size w w' ∧ match r with
  | some (c, a) => BadRet w c a e w'
  | none => e = .returned .nilIface
set_option maxRecDepth 100000 in
set_option maxHeartbeats 8000000 in
theorem groups_c9 {base : Nat} {w : World} {tv : Value} {D : List Dt} (h : TL base w tv D) (hok : ∀ d ∈ D, TokOK d.1.1) (hfew : D.length ≤ 2000) :
    Calls Tryz.prog 24 #[tv] w (ChkIs w (heldM (D.map Prod.fst))) := by
  obtain ⟨q, c, rfl⟩ := ownsRow_shape h.own
  have HT := hide h
  have HOK := hide hok
  have G0 := hide (new_groups w)
  have B0 : Hid (Below w.heap.size w (w.alloc (.cells grpZ 109))) := (Below.refl _ _).alloc (Nat.le_refl _) _
  obtain ⟨X, hX⟩ : ∃ X, ChkIs w (heldM (D.map Prod.fst)) = X := ⟨_, rfl⟩
  have HX := hide hX
  rw [hX]
  clear h hok hX
  go_enter Tryz.func24, Tryz.ntmps24
  go_wp2
  go_loopw [9] (fun i wr => ∃ (j : Nat) (s : GS), j ≤ D.length ∧ i = .int .i64 (j : Int) ∧ GX w.heap.size wr w.heap.size s ∧ s.o.length ≤ s.g ∧ gck s ((D.map Prod.fst).drop j) = gck gs0 (D.map Prod.fst) ∧ Below w.heap.size w wr) (fun i _ => D.length - (intOf i).toNat)
  case atStart => exact ⟨0, gs0, Nat.zero_le _, rfl, G0.out, by simp [gs0], by simp, B0.out⟩
  case round =>
    clear G0 B0
    obtain ⟨j, s, hj, rfl, g1, g2, g3, g4⟩ := hrel
    have HG := hide g1
    have HL := hide g2
    have HK := hide g3
    have HB := hide g4
    clear g1 g2 g3 g4
    by_cases hjl : j < D.length
    · have i0 : (j : Int) < (D.length : Int) := by omega
      obtain ⟨d, hd⟩ : ∃ d, D[j]? = some d := ⟨_, List.getElem?_eq_getElem hjl⟩
      obtain ⟨qt, ct, e, hq, hc⟩ := (HT.out.kept HB.out).tok hd
      injection e with e1 _ e3
      subst e1 e3
      have hm := List.mem_of_getElem? hd
      obtain ⟨qr, cr, hv⟩ := ownsRow_shape (HT.out.each d hm).1
      have k0 : wr.cell? ⟨qt, j * 7, none⟩ = _ := hc 0 _ rfl
      have k1 : wr.cell? ⟨qt, j * 7 + 1, none⟩ = _ := hc 1 _ rfl
      have k2 : wr.cell? ⟨qt, j * 7 + 2, none⟩ = _ := hc 2 _ rfl
      have k3 : wr.cell? ⟨qt, j * 7 + 3, none⟩ = _ := hc 3 _ rfl
      have k4 : wr.cell? ⟨qt, j * 7 + 4, none⟩ = _ := hc 4 _ rfl
      have k5 : wr.cell? ⟨qt, j * 7 + 5, none⟩ = _ := hc 5 _ rfl
      have k6 : wr.cell? ⟨qt, j * 7 + 6, none⟩ = some (.slice qr d.2.2.length cr) := by rw [← hv]; exact hc 6 _ rfl
      have hstep : gck s ((D.map Prod.fst).drop j) = match glk s d.1 with
        | .error x => .error x
        | .ok s' => gck s' ((D.map Prod.fst).drop (j + 1)) := by
        rw [List.drop_eq_getElem_cons (by simpa using hjl), gck]
        have : (D.map Prod.fst)[j]'(by simpa using hjl) = d.1 := by rw [List.getElem_map]; have := (List.getElem?_eq_some_iff.1 hd).2; rw [this]
        rw [this]
        cases glk s d.1 <;> rfl
      have B1 : Hid (Below wr.heap.size wr (wr.alloc (.cells (tkArg (d.1.1.kind : Int) d qr cr) 104))) := (Below.refl _ _).alloc (Nat.le_refl _) _
      have LC := hide (glook_c (lo := w.heap.size) (b := w.heap.size) (q := qr) (c := cr) (HG.out.kept B1.out) (Nat.le_trans HB.out.size B1.out.size) (HOK.out d hm) HL.out)
      have HST := hide hstep
      clear hc hd hv hm hstep
      cases hr : glk s d.1 with
      | error x =>
        obtain ⟨xc, xa⟩ := x
        rw [hr] at LC HST
        have RES : Hid (∀ e w', BadRet w xc xa e w' → Below w.heap.size w w' → X e w') := fun e w' h1 h2 => by
          rw [← HX.out]
          refine ⟨h2, ?_⟩
          have : heldM (D.map Prod.fst) = some (xc, xa) := by unfold heldM; rw [← HK.out, HST.out]
          rw [this]
          exact h1
        clear hr
        go_wp2_with (go_at_call 50; (with_reducible refine (LC.out).mono ?_); rintro e w6 ⟨h1, g6, h2, rfl, h3⟩; have F6 := hide h1; have X6 := hide (⟨h2, h3⟩ : _ ∧ BadAt w6 g6 xc xa); clear h1 h2 h3)
        exact RES.out _ _ ⟨g6, Nat.le_trans (Nat.le_trans HB.out.size B1.out.size) X6.out.1, rfl, X6.out.2⟩ (chainF (chain HB.out B1.out (Nat.le_refl _)) F6.out (Nat.le_refl _) (fun k hk => hk))
      | ok s' =>
        rw [hr] at LC HST
        have hl2 := hide (glk_len hr HL.out)
        clear hr
        go_wp2_with (go_at_call 50; (with_reducible refine (LC.out).mono ?_); rintro e w6 ⟨h1, rfl, h3⟩; have F6 := hide h1; have X6 := hide h3; clear h1 h3)
        go_roundw
        case rel => exact ⟨j + 1, s', by omega, by go_num, X6.out, hl2.out, HST.out.symm.trans HK.out, chainF (chain HB.out B1.out (Nat.le_refl _)) F6.out (Nat.le_refl _) (fun k hk => hk)⟩
        case measure => simp only [intOf]; omega
    · have i0 : ¬ (j : Int) < (D.length : Int) := by omega
      have hk := HK.out
      rw [List.drop_of_length_le (by simp; omega), gck] at hk
      obtain ⟨qo, co, hgb, hor⟩ := HG.out.gb
      have c1 := hgb.c1
      have lb := hgb.lt
      have hn30 := HG.out.hn
      cases ho : s.o with
      | nil =>
        rw [ho, List.length_nil] at c1
        have RES : Hid (∀ w', Below w.heap.size w w' → X (.returned .nilIface) w') := fun w' h2 => by
          rw [← HX.out]
          refine ⟨h2, ?_⟩
          have : heldM (D.map Prod.fst) = none := by unfold heldM; rw [← hk]; simp only [ho]
          rw [this]
        clear hk hgb hor ho
        go_wp2
        exact RES.out _ HB.out
      | cons x r =>
        obtain ⟨go, co', e⟩ := ownsRow_some hor (by rw [ho]; simp)
        injection e with e1 _ e3
        subst e1 e3
        have cx : wr.cell? ⟨go, 1, none⟩ = some (.int .i64 (x.2 : Int)) := ownsRow_cell hor (cellsO_get s.o 0 x (by rw [ho]; rfl)).2
        have lgo := (ownsRow_at hor (g := go) rfl).2.1
        have PW : Hid (∀ W, Calls Tryz.prog 51 #[.int .i64 39, .int .i64 (x.2 : Int)] W fun e w' => ∃ g, W.heap.size ≤ g ∧ e = .returned (.iface 62 (.pointer (some ⟨g, 0, none⟩))) ∧ BadAt w' g 39 x.2 ∧ Below W.heap.size W w') := fun W => pwrong_c 39 x.2 W
        have RES : Hid (∀ e w', BadRet w 39 x.2 e w' → Below w.heap.size w w' → X e w') := fun e w' h1 h2 => by
          rw [← HX.out]
          refine ⟨h2, ?_⟩
          have : heldM (D.map Prod.fst) = some (39, x.2) := by unfold heldM; rw [← hk]; simp only [ho]
          rw [this]
          exact h1
        obtain ⟨n, hn⟩ : ∃ n, s.o.length = n + 1 := ⟨r.length, by rw [ho]; rfl⟩
        rw [hn] at c1
        have n0 : (0 : Int) < (n : Int) + 1 := by omega
        have n1 : n + 1 ≤ 30 := by omega
        clear hk hgb hor ho hn hn30
        go_wp2_with (go_at_call 51; (with_reducible refine (PW.out _).mono ?_); rintro e w6 ⟨g6, h1, rfl, h2, h3⟩; have X6 := hide (⟨h1, h2, h3⟩ : _ ∧ BadAt w6 g6 39 x.2 ∧ _); clear h1 h2 h3)
        exact RES.out _ _ ⟨g6, Nat.le_trans HB.out.size X6.out.1, rfl, X6.out.2.1⟩ (chain HB.out X6.out.2.2 (Nat.le_refl _))
set_option maxRecDepth 100000 in
set_option maxHeartbeats 4000000 in
theorem size_c9 {base : Nat} {N : Nat → Prop} {W : World} {x : Ps} {v : Value} (h : PV base N W x v) (hsz : x.sz ≤ 1000000) :
    Calls Tryz.prog 26 #[v] W (ChkIs W (if 40 < x.dp then some (43, 0) else if 2000 < x.sz then some (42, 0) else none)) := by
  obtain ⟨T, u, rfl⟩ := h.shape
  have MC := hide (measure_c x.sz x W _ (Nat.le_refl _) hsz h)
  have hdl := pdp_le x
  have PW3 : Hid (∀ W, Calls Tryz.prog 51 #[.int .i64 43, .int .i64 0] W fun e w' => ∃ g, W.heap.size ≤ g ∧ e = .returned (.iface 62 (.pointer (some ⟨g, 0, none⟩))) ∧ BadAt w' g 43 0 ∧ Below W.heap.size W w') := fun W => pwrong_c 43 0 W
  have PW2 : Hid (∀ W, Calls Tryz.prog 51 #[.int .i64 42, .int .i64 0] W fun e w' => ∃ g, W.heap.size ≤ g ∧ e = .returned (.iface 62 (.pointer (some ⟨g, 0, none⟩))) ∧ BadAt w' g 42 0 ∧ Below W.heap.size W w') := fun W => pwrong_c 42 0 W
  clear h
  by_cases h1 : 40 < x.dp
  · rw [if_pos h1]
    have j1 : (40 : Int) < (x.dp : Int) := by omega
    go_enter Tryz.func26, Tryz.ntmps26
    go_wp2_with first
      | (go_at_call 55; (with_reducible refine (MC.out).mono ?_); rintro e w5 ⟨rfl, h1⟩; have B5 := hide h1; clear h1)
      | (go_at_call 51; (with_reducible refine (PW3.out _).mono ?_); rintro e w6 ⟨g6, h1, rfl, h2, h3⟩; have X6 := hide (⟨h1, h2, h3⟩ : _ ∧ BadAt w6 g6 43 0 ∧ _); clear h1 h2 h3)
    go_ret
    exact ⟨chain B5.out X6.out.2.2 (Nat.le_refl _), g6, Nat.le_trans B5.out.size X6.out.1, rfl, X6.out.2.1⟩
  · rw [if_neg h1]
    have j1 : ¬ (40 : Int) < (x.dp : Int) := by omega
    by_cases h2 : 2000 < x.sz
    · rw [if_pos h2]
      have j2 : (2000 : Int) < (x.sz : Int) := by omega
      go_enter Tryz.func26, Tryz.ntmps26
      go_wp2_with first
        | (go_at_call 55; (with_reducible refine (MC.out).mono ?_); rintro e w5 ⟨rfl, h1⟩; have B5 := hide h1; clear h1)
        | (go_at_call 51; (with_reducible refine (PW2.out _).mono ?_); rintro e w6 ⟨g6, h1, rfl, h2, h3⟩; have X6 := hide (⟨h1, h2, h3⟩ : _ ∧ BadAt w6 g6 42 0 ∧ _); clear h1 h2 h3)
      go_ret
      exact ⟨chain B5.out X6.out.2.2 (Nat.le_refl _), g6, Nat.le_trans B5.out.size X6.out.1, rfl, X6.out.2.1⟩
    · rw [if_neg h2]
      have j2 : ¬ (2000 : Int) < (x.sz : Int) := by omega
      go_enter Tryz.func26, Tryz.ntmps26
      go_wp2_with (go_at_call 55; (with_reducible refine (MC.out).mono ?_); rintro e w5 ⟨rfl, h1⟩; have B5 := hide h1; clear h1)
      go_ret
      exact ⟨B5.out, rfl⟩
end Go.Proofs.YtpfdapnfkghgkaaGreatDoor
namespace Go.Proofs.YtpfdapnfkghgkaaGreatDoor
open Go Go.RowKit
attribute [local go_sem] ext_cell

/-- May a node of a kind stand within one, as its Kid of that number? -/
def standB (pk : Int) (seen : Int) (kl : Nat) (k : Int) : Bool :=
  if pk = 5 then thingB k || (k == 3 && seen == 0) || (k == 4 && seen == (kl : Int) - 1)
  else if pk = 9 then thingB k
  else if pk = 6 then kindB k && k != 6
  else kindB k

set_option maxRecDepth 100000 in
set_option maxHeartbeats 4000000 in
theorem mayStand_c {w : World} {b : Nat} {c f : Bool} {ah gr : Int} {A : Nat → Spot} (h : CB w b c f ah gr A) {d : Nat} (hd : d < 41) (k : Int) (hkl : (A d).f.kl ≤ 9223372036854775807) :
    Calls Tryz.prog 59 #[.pointer (some ⟨b, 0, none⟩), .int .i64 ((d : Int) + 1), .int .i64 k] w fun e w' => e = .returned (.bool (standB (A d).f.k (A d).s (A d).f.kl k)) ∧ Below w.heap.size w w' := by
  obtain ⟨⟨k0, k1, k2, k3, k4, k5⟩, k6⟩ := h.sp d hd
  have hlt := h.lt
  have e1 : ((d : Int) + 1) - 1 = (d : Int) := by omega
  have e2 : (d : Int) < 41 := by omega
  have B1 : Hid (Below w.heap.size w (w.alloc (.cells #[.int .i64 (A d).f.k, .int .i64 (A d).f.n, .int .i64 (A d).f.mn, .int .i64 (A d).f.mx, .slice (A d).f.rq (A d).f.rs.length (A d).f.rc, .slice (A d).f.kq (A d).f.kl (A d).f.kc, .int .i64 (A d).s] 67))) := (Below.refl _ _).alloc (Nat.le_refl _) _
  have N1 := alloc_new w (.cells #[.int .i64 (A d).f.k, .int .i64 (A d).f.n, .int .i64 (A d).f.mn, .int .i64 (A d).f.mx, .slice (A d).f.rq (A d).f.rs.length (A d).f.rc, .slice (A d).f.kq (A d).f.kl (A d).f.kc, .int .i64 (A d).s] 67)
  obtain ⟨r, hr⟩ : ∃ r, standB (A d).f.k (A d).s (A d).f.kl k = r := ⟨_, rfl⟩
  rw [hr]
  have HR := hide hr
  clear hr
  go_enter Tryz.func59, Tryz.ntmps59
  go_upto_region 2 with fail
  have m0 : (w.alloc (.cells #[.int .i64 (A d).f.k, .int .i64 (A d).f.n, .int .i64 (A d).f.mn, .int .i64 (A d).f.mx, .slice (A d).f.rq (A d).f.rs.length (A d).f.rc, .slice (A d).f.kq (A d).f.kl (A d).f.kc, .int .i64 (A d).s] 67)).cell? ⟨w.heap.size, 0, none⟩ = some (.int .i64 (A d).f.k) := cell_row N1 (i := 0) rfl
  have m5 : (w.alloc (.cells #[.int .i64 (A d).f.k, .int .i64 (A d).f.n, .int .i64 (A d).f.mn, .int .i64 (A d).f.mx, .slice (A d).f.rq (A d).f.rs.length (A d).f.rc, .slice (A d).f.kq (A d).f.kl (A d).f.kc, .int .i64 (A d).s] 67)).cell? ⟨w.heap.size, 5, none⟩ = some (.slice (A d).f.kq (A d).f.kl (A d).f.kc) := cell_row N1 (i := 5) rfl
  have m6 : (w.alloc (.cells #[.int .i64 (A d).f.k, .int .i64 (A d).f.n, .int .i64 (A d).f.mn, .int .i64 (A d).f.mx, .slice (A d).f.rq (A d).f.rs.length (A d).f.rc, .slice (A d).f.kq (A d).f.kl (A d).f.kc, .int .i64 (A d).s] 67)).cell? ⟨w.heap.size, 6, none⟩ = some (.int .i64 (A d).s) := cell_row N1 (i := 6) rfl
  have hlw := lt_of_heap N1
  generalize (w.alloc (.cells #[.int .i64 (A d).f.k, .int .i64 (A d).f.n, .int .i64 (A d).f.mn, .int .i64 (A d).f.mx, .slice (A d).f.rq (A d).f.rs.length (A d).f.rc, .slice (A d).f.kq (A d).f.kl (A d).f.kc, .int .i64 (A d).s] 67)) = W1 at B1 m0 m5 m6 hlw ⊢
  clear N1 k0 k1 k2 k3 k4 k5 k6 hlt e1 e2 h hd
  generalize (A d).f.k = pk at m0 HR ⊢
  generalize (A d).f.kl = kl at m5 HR hkl ⊢
  generalize (A d).s = se at m6 HR ⊢
  cases h5 : (pk == 5) with
  | true =>
    obtain rfl : pk = 5 := by simpa using h5
    go_upto_region 4 with fail
    refine wp_region_ext (by kernel_rfl) (by kernel_rfl) ?_
    repeat (go_big_quiet_step (first | exact rfl))
    refine wpQuiet_nil ?_
    intro w2 hw
    have B2 : Hid (Below w.heap.size w w2) := chain B1.out (ext_of hw) (Nat.le_refl _)
    clear hw B1
    have RR0 : r = (thingB k || (k == 3 && se == 0) || (k == 4 && se == (kl : Int) - 1)) := by rw [← HR.out]; simp [standB]
    have HK := hide (mayRepeat_c k)
    obtain ⟨tb, htb⟩ : ∃ tb, thingB k = tb := ⟨_, rfl⟩
    rw [htb] at HK RR0
    obtain ⟨b1, hb1⟩ : ∃ b1, (se == 0) = b1 := ⟨_, rfl⟩
    obtain ⟨b2, hb2⟩ : ∃ b2, (se == (kl : Int) - 1) = b2 := ⟨_, rfl⟩
    rw [hb1, hb2] at RR0
    rw [hb1, hb2]
    have RRX := hide RR0
    clear htb hb1 hb2 m0 m5 m6 RR0
    cases tb
    · cases h3 : (k == 3)
      · cases h4 : (k == 4)
        · go_wp2_with (go_at_call 33; (with_reducible refine (HK.out _).mono ?_); rintro e w5 ⟨rfl, h5⟩; subst w5)
          go_ret
          exact ⟨by rw [RRX.out, h3, h4]; rfl, B2.out⟩
        · go_wp2_with (go_at_call 33; (with_reducible refine (HK.out _).mono ?_); rintro e w5 ⟨rfl, h5⟩; subst w5)
          go_ret
          exact ⟨by rw [RRX.out, h3, h4]; simp, B2.out⟩
      · obtain rfl : k = 3 := by simpa using h3
        cases b1
        all_goals
          go_wp2_with (go_at_call 33; (with_reducible refine (HK.out _).mono ?_); rintro e w5 ⟨rfl, h5⟩; subst w5)
          go_ret
          exact ⟨by rw [RRX.out]; rfl, B2.out⟩
    · go_wp2_with (go_at_call 33; (with_reducible refine (HK.out _).mono ?_); rintro e w5 ⟨rfl, h5⟩; subst w5)
      go_ret
      exact ⟨by rw [RRX.out]; rfl, B2.out⟩
  | false =>
    cases h9 : (pk == 9) with
    | true =>
      obtain rfl : pk = 9 := by simpa using h9
      go_wp2_with (go_at_call 33; (with_reducible refine (mayRepeat_c _ _).mono ?_); rintro e w5 ⟨rfl, h5⟩; subst w5)
      go_ret
      exact ⟨by rw [← HR.out]; simp [standB], B1.out⟩
    | false =>
      cases h6 : (pk == 6) with
      | true =>
        obtain rfl : pk = 6 := by simpa using h6
        obtain ⟨kb, hkb⟩ : ∃ kb, kindB k = kb := ⟨_, rfl⟩
        have HK := hide (isKind_c k)
        rw [hkb] at HK
        have R2 : r = (kb && k != 6) := by rw [← HR.out, ← hkb]; simp [standB]
        clear hkb
        cases kb with
        | true =>
          go_wp2_with (go_at_call 87; (with_reducible refine (HK.out _).mono ?_); rintro e w5 ⟨rfl, h5⟩; subst w5)
          go_ret
          exact ⟨by rw [R2, Bool.true_and]; rfl, B1.out⟩
        | false =>
          go_wp2_with (go_at_call 87; (with_reducible refine (HK.out _).mono ?_); rintro e w5 ⟨rfl, h5⟩; subst w5)
          go_ret
          exact ⟨by rw [R2, Bool.false_and]; rfl, B1.out⟩
      | false =>
        have R2 : kindB k = r := by rw [← HR.out]; simp at h5 h9 h6; simp [standB, h5, h9, h6]
        go_wp2_with (go_at_call 87; (with_reducible refine (isKind_c _ _).mono ?_); rintro e w5 ⟨rfl, h5⟩; subst w5)
        go_ret
        exact ⟨by rw [← R2]; rfl, B1.out⟩
end Go.Proofs.YtpfdapnfkghgkaaGreatDoor
namespace Go.Proofs.YtpfdapnfkghgkaaGreatDoor
open Go Go.RowKit
attribute [local go_sem] ext_cell

def inB (A : Nat → Spot) (d : Nat) (num : Int) : Bool := (List.range d).any fun i => (A i).f.k == 7 && (A i).f.n == num
theorem inB_succ (A : Nat → Spot) (d : Nat) (num : Int) : inB A (d + 1) num = (inB A d num || ((A d).f.k == 7 && (A d).f.n == num)) := by
  unfold inB
  rw [List.range_succ, List.any_append]
  simp
theorem inB_le {A : Nat → Spot} {d e : Nat} {num : Int} (h : inB A d num = true) (hde : d ≤ e) : inB A e num = true := by
  unfold inB at *
  rw [List.any_eq_true] at *
  obtain ⟨x, hx, h⟩ := h
  exact ⟨x, by rw [List.mem_range] at *; omega, h⟩
set_option maxRecDepth 100000 in
set_option maxHeartbeats 4000000 in
theorem hasEnded_c {w : World} {b : Nat} {c f : Bool} {ah gr : Int} {A : Nat → Spot} (h : CB w b c f ah gr A) {d : Nat} (hd : d ≤ 41) (num : Int) :
    Calls Tryz.prog 62 #[.pointer (some ⟨b, 0, none⟩), .int .i64 (d : Int), .int .i64 num] w fun e w' => e = .returned (.bool (!inB A d num && decide (num ≤ gr))) ∧ Below w.heap.size w w' := by
  have H := hide h
  have hlt := h.lt
  have e2 : (d : Int) ≤ 41 := by omega
  obtain ⟨r, hr⟩ : ∃ r, (!inB A d num && decide (num ≤ gr)) = r := ⟨_, rfl⟩
  rw [hr]
  have HR := hide hr
  clear h hr
  go_enter Tryz.func62, Tryz.ntmps62
  go_wp2
  go_loopw [15] (fun i wr => ∃ j : Nat, j ≤ d ∧ i = .int .i64 (j : Int) ∧ inB A j num = false ∧ Below w.heap.size w wr) (fun i _ => d - (intOf i).toNat)
  case atStart => exact ⟨0, Nat.zero_le _, rfl, rfl, Below.refl _ _⟩
  case round =>
    obtain ⟨j, hj, rfl, hin, hb⟩ := hrel
    have HI := hide hin
    have HB := hide hb
    have H1 : Hid (CB wr b c f ah gr A) := H.out.kept hb
    clear hin hb hlt
    have hlt := H1.out.lt
    by_cases hjl : j < d
    · have e0 : (j : Int) < (d : Int) := by omega
      obtain ⟨⟨k0, k1, k2, k3, k4, k5⟩, k6⟩ := H1.out.sp j (by omega)
      have B2 : Hid (Below w.heap.size w (wr.alloc (.cells #[.int .i64 (A j).f.k, .int .i64 (A j).f.n, .int .i64 (A j).f.mn, .int .i64 (A j).f.mx, .slice (A j).f.rq (A j).f.rs.length (A j).f.rc, .slice (A j).f.kq (A j).f.kl (A j).f.kc, .int .i64 (A j).s] 67))) := HB.out.alloc HB.out.size _
      have N2 := alloc_new wr (.cells #[.int .i64 (A j).f.k, .int .i64 (A j).f.n, .int .i64 (A j).f.mn, .int .i64 (A j).f.mx, .slice (A j).f.rq (A j).f.rs.length (A j).f.rc, .slice (A j).f.kq (A j).f.kl (A j).f.kc, .int .i64 (A j).s] 67)
      have m0 : (wr.alloc (.cells #[.int .i64 (A j).f.k, .int .i64 (A j).f.n, .int .i64 (A j).f.mn, .int .i64 (A j).f.mx, .slice (A j).f.rq (A j).f.rs.length (A j).f.rc, .slice (A j).f.kq (A j).f.kl (A j).f.kc, .int .i64 (A j).s] 67)).cell? ⟨wr.heap.size, 0, none⟩ = some (.int .i64 (A j).f.k) := cell_row N2 (i := 0) rfl
      have m1 : (wr.alloc (.cells #[.int .i64 (A j).f.k, .int .i64 (A j).f.n, .int .i64 (A j).f.mn, .int .i64 (A j).f.mx, .slice (A j).f.rq (A j).f.rs.length (A j).f.rc, .slice (A j).f.kq (A j).f.kl (A j).f.kc, .int .i64 (A j).s] 67)).cell? ⟨wr.heap.size, 1, none⟩ = some (.int .i64 (A j).f.n) := cell_row N2 (i := 1) rfl
      have HS := hide (inB_succ A j num)
      clear N2
      go_upto_region 4 with fail
      generalize (wr.alloc (.cells #[.int .i64 (A j).f.k, .int .i64 (A j).f.n, .int .i64 (A j).f.mn, .int .i64 (A j).f.mx, .slice (A j).f.rq (A j).f.rs.length (A j).f.rc, .slice (A j).f.kq (A j).f.kl (A j).f.kc, .int .i64 (A j).s] 67)) = W2 at B2 m0 m1 ⊢
      cases h7 : ((A j).f.k == 7)
      · have HN : Hid (inB A (j + 1) num = false) := (by rw [HS.out, HI.out, h7]; rfl)
        clear HS
        go_wp2
        go_roundw
        case rel => exact ⟨j + 1, by omega, by go_num, HN.out, B2.out⟩
        case measure => simp only [intOf]; omega
      · cases hn : ((A j).f.n == num)
        · have HN : Hid (inB A (j + 1) num = false) := (by rw [HS.out, HI.out, h7, hn]; rfl)
          clear HS
          go_wp2
          go_roundw
          case rel => exact ⟨j + 1, by omega, by go_num, HN.out, B2.out⟩
          case measure => simp only [intOf]; omega
        · have HN : Hid (inB A d num = true) := inB_le (d := j + 1) (by rw [HS.out, HI.out, h7, hn]; rfl) (by omega)
          clear HS
          go_wp2
          go_ret
          exact ⟨by rw [← HR.out, HN.out]; rfl, B2.out⟩
    · have e0 : ¬ (j : Int) < (d : Int) := by omega
      obtain rfl : j = d := by omega
      have k3 := H1.out.c3
      go_wp2
      go_ret
      exact ⟨by rw [← HR.out, HI.out]; rfl, HB.out⟩

theorem CB.frz {W : World} {b : Nat} {c f : Bool} {ah gr : Int} {A : Nat → Spot} (h : CB W b c f ah gr A) (j : Nat) : W.frozen? ⟨b, j, none⟩ = false := by
  obtain ⟨cur, hc⟩ := h.blk
  exact frz_row hc j
theorem box_set {W : World} {k b j : Nat} {f : Fl} {u : Value} (h : BoxN W k f) (hk : k ≠ b) : BoxN (W.setCell ⟨b, j, none⟩ u) k f := (((Fr.refl (fun z => z = b) W).setCell (p := ⟨b, j, none⟩) rfl u).block _ (lt_of_heap h) hk).trans h
set_option maxRecDepth 100000 in
set_option maxHeartbeats 4000000 in
/-- The last two steps of enter. -/
theorem enter_c {w : World} {b : Nat} {c f : Bool} {ah gr : Int} {A : Nat → Spot} (h : CB w b c f ah gr A) {d : Nat} (hd : d + 1 < 41) (x : Fl) (ha : 0 ≤ ah ∧ ah ≤ 1000000) (hg : 0 ≤ gr ∧ gr ≤ 1000000) (hs : 0 ≤ (A d).s ∧ (A d).s ≤ 1000000) :
    Calls Tryz.prog 63 #[.pointer (some ⟨b, 0, none⟩), .int .i64 ((d : Int) + 1), .agg #[.int .i64 x.k, .int .i64 x.n, .int .i64 x.mn, .int .i64 x.mx, .slice x.rq x.rs.length x.rc, .slice x.kq x.kl x.kc]] w fun e w' => e = .returned (.tuple #[]) ∧ CB w' b c f (ah + 1) (gr + (if x.k = 7 then 1 else 0)) (setS (setS A d ⟨(A d).f, (A d).s + 1⟩) (d + 1) ⟨x, 0⟩) ∧ Fr (fun z => z = b) w w' := by
  have H := hide h
  have hlt := h.lt
  have B1 : Hid (Below w.heap.size w (w.alloc (.cells #[.int .i64 x.k, .int .i64 x.n, .int .i64 x.mn, .int .i64 x.mx, .slice x.rq x.rs.length x.rc, .slice x.kq x.kl x.kc] 28))) := (Below.refl _ _).alloc (Nat.le_refl _) _
  have N1 : Hid (BoxN (w.alloc (.cells #[.int .i64 x.k, .int .i64 x.n, .int .i64 x.mn, .int .i64 x.mx, .slice x.rq x.rs.length x.rc, .slice x.kq x.kl x.kc] 28)) w.heap.size x) := alloc_new w _
  have H1 : Hid (CB (w.alloc (.cells #[.int .i64 x.k, .int .i64 x.n, .int .i64 x.mn, .int .i64 x.mx, .slice x.rq x.rs.length x.rc, .slice x.kq x.kl x.kc] 28)) b c f ah gr A) := h.kept B1.out
  have F1 : Hid (Fr (fun z => z = b) w (w.alloc (.cells #[.int .i64 x.k, .int .i64 x.n, .int .i64 x.mn, .int .i64 x.mx, .slice x.rq x.rs.length x.rc, .slice x.kq x.kl x.kc] 28))) := Fr.of_below B1.out
  have hne : w.heap.size ≠ b := by omega
  clear h H
  obtain ⟨g2, hg2⟩ : ∃ g2, gr + (if x.k = 7 then 1 else 0) = g2 := ⟨_, rfl⟩
  rw [hg2]
  have HG := hide hg2
  clear hg2
  go_enter Tryz.func63, Tryz.ntmps63
  go_upto_region 1 with fail
  generalize (w.alloc (.cells #[.int .i64 x.k, .int .i64 x.n, .int .i64 x.mn, .int .i64 x.mx, .slice x.rq x.rs.length x.rc, .slice x.kq x.kl x.kc] 28)) = w1 at B1 N1 H1 F1 ⊢
  have c2 := H1.out.c2
  have f2 := H1.out.frz 2
  have lb := H1.out.lt
  have H2 : Hid (CB (w1.setCell ⟨b, 2, none⟩ (.int .i64 (ah + 1))) b c f (ah + 1) gr A) := H1.out.setAh _
  have N2 : Hid (BoxN (w1.setCell ⟨b, 2, none⟩ (.int .i64 (ah + 1))) w.heap.size x) := box_set N1.out hne
  have F2 : Hid (Fr (fun z => z = b) w (w1.setCell ⟨b, 2, none⟩ (.int .i64 (ah + 1)))) := F1.out.setCell (p := ⟨b, 2, none⟩) rfl _
  clear B1 N1 H1 F1
  go_upto_region 2 with fail
  generalize (w1.setCell ⟨b, 2, none⟩ (.int .i64 (ah + 1))) = w2 at H2 N2 F2 ⊢
  clear c2 f2 lb hlt
  obtain ⟨c0, -⟩ := N2.out.six
  have c3 := H2.out.c3
  have f3 := H2.out.frz 3
  have lb := H2.out.lt
  have e1 : ((d : Int) + 1) - 1 = (d : Int) := by omega
  have e2 : (d : Int) < 41 := by omega
  have e3 : (d : Int) + 1 < 41 := by omega
  by_cases hk : x.k = 7
  · have hkb : (x.k == 7) = true := by simpa using hk
    have E2 := HG.out
    rw [if_pos hk] at E2
    subst E2
    have H3 : Hid (CB (w2.setCell ⟨b, 3, none⟩ (.int .i64 (gr + 1))) b c f (ah + 1) (gr + 1) A) := H2.out.setGr _
    have N3 : Hid (BoxN (w2.setCell ⟨b, 3, none⟩ (.int .i64 (gr + 1))) w.heap.size x) := box_set N2.out hne
    have F3 : Hid (Fr (fun z => z = b) w (w2.setCell ⟨b, 3, none⟩ (.int .i64 (gr + 1)))) := F2.out.setCell (p := ⟨b, 3, none⟩) rfl _
    clear H2 N2 F2 hk
    go_upto_region 4 with fail
    generalize (w2.setCell ⟨b, 3, none⟩ (.int .i64 (gr + 1))) = w3 at H3 N3 F3 ⊢
    clear c0 c3 f3 lb
    have p6 := (H3.out.sp d (by omega)).2
    have lb := H3.out.lt
    have f6 := H3.out.frz (4 + d * 7 + 6)
    have H5 := hide ((H3.out.setSeen (d := d) (by omega) ((A d).s + 1)).kept ((Below.refl _ _).drew))
    have N5 : Hid (BoxN (w3.setCell ⟨b, 4 + d * 7 + 6, none⟩ (.int .i64 ((A d).s + 1))).drew w.heap.size x) := box_set N3.out hne
    have F5 : Hid (Fr (fun z => z = b) w (w3.setCell ⟨b, 4 + d * 7 + 6, none⟩ (.int .i64 ((A d).s + 1))).drew) := (F3.out.setCell (p := ⟨b, 4 + d * 7 + 6, none⟩) rfl _).trans (Fr.of_below ((Below.refl _ _).drew))
    clear H3 N3 F3
    go_region
    go_upto_region 5 with fail
    generalize (w3.setCell ⟨b, 4 + d * 7 + 6, none⟩ (.int .i64 ((A d).s + 1))).drew = w5 at H5 N5 F5 ⊢
    clear p6 f6 lb
    have lb := H5.out.lt
    have ln := lt_of_heap N5.out
    obtain ⟨n0, n1, n2, n3, n4, n5⟩ := N5.out.six
    simp only [Nat.zero_add] at n1 n2 n3 n4 n5
    have fr := fun j => H5.out.frz j
    obtain ⟨⟨q0, q1, q2, q3, q4, q5⟩, q6⟩ := H5.out.sp (d + 1) (by omega)
    have H7 := hide ((H5.out.setSpot (d := d + 1) (by omega) ⟨x, 0⟩).kept ((Below.refl _ _).drew))
    have F7 : Hid (Fr (fun z => z = b) w (put7c w5 b (4 + (d + 1) * 7) ⟨x, 0⟩).drew) := (F5.out.trans (put7_fr _ _ _ _)).trans (Fr.of_below ((Below.refl _ _).drew))
    unfold put7c at H7 F7
    clear H5 F5
    go_region
    go_wp2
    go_end0
    exact ⟨rfl, H7.out, F7.out⟩
  · have hkb : (x.k == 7) = false := by simpa using hk
    have E2 := HG.out
    rw [if_neg hk, Int.add_zero] at E2
    subst E2
    have H3 := H2
    have N3 := N2
    have F3 := F2
    clear H2 N2 F2 hk
    go_upto_region 4 with fail
    clear c0 c3 f3 lb
    have p6 := (H3.out.sp d (by omega)).2
    have lb := H3.out.lt
    have f6 := H3.out.frz (4 + d * 7 + 6)
    have H5 := hide ((H3.out.setSeen (d := d) (by omega) ((A d).s + 1)).kept ((Below.refl _ _).drew))
    have N5 : Hid (BoxN (w2.setCell ⟨b, 4 + d * 7 + 6, none⟩ (.int .i64 ((A d).s + 1))).drew w.heap.size x) := box_set N3.out hne
    have F5 : Hid (Fr (fun z => z = b) w (w2.setCell ⟨b, 4 + d * 7 + 6, none⟩ (.int .i64 ((A d).s + 1))).drew) := (F3.out.setCell (p := ⟨b, 4 + d * 7 + 6, none⟩) rfl _).trans (Fr.of_below ((Below.refl _ _).drew))
    clear H3 N3 F3
    go_region
    go_upto_region 5 with fail
    generalize (w2.setCell ⟨b, 4 + d * 7 + 6, none⟩ (.int .i64 ((A d).s + 1))).drew = w5 at H5 N5 F5 ⊢
    clear p6 f6 lb
    have lb := H5.out.lt
    have ln := lt_of_heap N5.out
    obtain ⟨n0, n1, n2, n3, n4, n5⟩ := N5.out.six
    simp only [Nat.zero_add] at n1 n2 n3 n4 n5
    have fr := fun j => H5.out.frz j
    obtain ⟨⟨q0, q1, q2, q3, q4, q5⟩, q6⟩ := H5.out.sp (d + 1) (by omega)
    have H7 := hide ((H5.out.setSpot (d := d + 1) (by omega) ⟨x, 0⟩).kept ((Below.refl _ _).drew))
    have F7 : Hid (Fr (fun z => z = b) w (put7c w5 b (4 + (d + 1) * 7) ⟨x, 0⟩).drew) := (F5.out.trans (put7_fr _ _ _ _)).trans (Fr.of_below ((Below.refl _ _).drew))
    unfold put7c at H7 F7
    clear H5 F5
    go_region
    go_wp2
    go_end0
    exact ⟨rfl, H7.out, F7.out⟩
end Go.Proofs.YtpfdapnfkghgkaaGreatDoor
namespace Go.Proofs
open Go.Shelf
def Tryz.sortPl_ren : Go.Shelf.Ren := ⟨fun | 6 => 136 | 15 => 154 | 14 => 153 | 28 => 171 | 29 => 172 | 20 => 163 | 21 => 164 | 22 => 165 | 23 => 166 | 24 => 167 | 25 => 168 | 26 => 169 | 27 => 170 | 46 => 174 | 47 => 175 | 48 => 176 | 49 => 177 | 50 => 178 | 57 => 183 | n => n, fun | 22 => 80 | 24 => 3 | 25 => 177 | 3 => 3 | 39 => 189 | 0 => 0 | 53 => 203 | 55 => 205 | 4 => 4 | 46 => 197 | 45 => 196 | 50 => 179 | 5 => 5 | 9 => 9 | 66 => 210 | 70 => 214 | 76 => 217 | 77 => 86 | n => n, fun | n => n⟩
theorem Tryz.sortPl : Go.Proofs.SlLaysF.n6 Tryz.prog Tryz.sortPl_ren := {
  mixed := by kernel_rfl
  f6 := ⟨Tryz.f136.name, by decide, Tryz.func136.trans (congrArg some (by kernel_rfl))⟩
  f14 := ⟨Tryz.f153.name, by decide, Tryz.func153.trans (congrArg some (by kernel_rfl))⟩
  f15 := Tryz.func154.trans (congrArg some (by kernel_rfl))
  f20 := ⟨Tryz.f163.name, by decide, Tryz.func163.trans (congrArg some (by kernel_rfl))⟩
  f21 := ⟨Tryz.f164.name, by decide, Tryz.func164.trans (congrArg some (by kernel_rfl))⟩
  f22 := ⟨Tryz.f165.name, by decide, Tryz.func165.trans (congrArg some (by kernel_rfl))⟩
  f23 := ⟨Tryz.f166.name, by decide, Tryz.func166.trans (congrArg some (by kernel_rfl))⟩
  f24 := ⟨Tryz.f167.name, by decide, Tryz.func167.trans (congrArg some (by kernel_rfl))⟩
  f25 := ⟨Tryz.f168.name, by decide, Tryz.func168.trans (congrArg some (by kernel_rfl))⟩
  f26 := ⟨Tryz.f169.name, by decide, Tryz.func169.trans (congrArg some (by kernel_rfl))⟩
  f27 := ⟨Tryz.f170.name, by decide, Tryz.func170.trans (congrArg some (by kernel_rfl))⟩
  f28 := Tryz.func171.trans (congrArg some (by kernel_rfl))
  f29 := Tryz.func172.trans (congrArg some (by kernel_rfl))
  f46 := ⟨Tryz.f174.name, by decide, Tryz.func174.trans (congrArg some (by kernel_rfl))⟩
  f47 := Tryz.func175.trans (congrArg some (by kernel_rfl))
  f48 := Tryz.func176.trans (congrArg some (by kernel_rfl))
  f49 := ⟨Tryz.f177.name, by decide, Tryz.func177.trans (congrArg some (by kernel_rfl))⟩
  f50 := ⟨Tryz.f178.name, by decide, Tryz.func178.trans (congrArg some (by kernel_rfl))⟩
  f57 := ⟨Tryz.f183.name, by decide, Tryz.func183.trans (congrArg some (by kernel_rfl))⟩
  t0 := Tryz.underlying0
  a0 := Tryz.isAgg0
  z0 := Tryz.sizeOf0
  v0 := Tryz.zeroValue0
  t3 := Tryz.underlying3
  a3 := Tryz.isAgg3
  z3 := Tryz.sizeOf3
  v3 := Tryz.zeroValue3
  t4 := Tryz.underlying4
  a4 := Tryz.isAgg4
  z4 := Tryz.sizeOf4
  v4 := Tryz.zeroValue4
  t5 := Tryz.underlying5
  a5 := Tryz.isAgg5
  z5 := Tryz.sizeOf5
  v5 := Tryz.zeroValue5
  t9 := Tryz.underlying9
  a9 := Tryz.isAgg9
  z9 := Tryz.sizeOf9
  v9 := Tryz.zeroValue9
  t22 := Tryz.underlying80
  a22 := Tryz.isAgg80
  z22 := Tryz.sizeOf80
  v22 := Tryz.zeroValue80
  a24 := Tryz.isAgg3
  z24 := Tryz.sizeOf3
  t25 := Tryz.underlying177
  a25 := Tryz.isAgg177
  z25 := Tryz.sizeOf177
  v25 := Tryz.zeroValue177
  t39 := Tryz.underlying189
  a39 := Tryz.isAgg189
  z39 := Tryz.sizeOf189
  v39 := Tryz.zeroValue189
  t45 := Tryz.underlying196
  a45 := Tryz.isAgg196
  z45 := Tryz.sizeOf196
  v45 := Tryz.zeroValue196
  t46 := Tryz.underlying197
  a46 := Tryz.isAgg197
  z46 := Tryz.sizeOf197
  v46 := Tryz.zeroValue197
  t50 := Tryz.underlying179
  a50 := Tryz.isAgg179
  z50 := Tryz.sizeOf179
  v50 := Tryz.zeroValue179
  t53 := Tryz.underlying203
  a53 := Tryz.isAgg203
  z53 := Tryz.sizeOf203
  v53 := Tryz.zeroValue203
  t55 := Tryz.underlying205
  a55 := Tryz.isAgg205
  z55 := Tryz.sizeOf205
  v55 := Tryz.zeroValue205
  t66 := Tryz.underlying210
  a66 := Tryz.isAgg210
  z66 := Tryz.sizeOf210
  v66 := Tryz.zeroValue210
  t70 := Tryz.underlying214
  a70 := Tryz.isAgg214
  z70 := Tryz.sizeOf214
  v70 := Tryz.zeroValue214
  t76 := Tryz.underlying217
  a76 := Tryz.isAgg217
  z76 := Tryz.sizeOf217
  v76 := Tryz.zeroValue217
  t77 := Tryz.underlying86
  a77 := Tryz.isAgg86
  z77 := Tryz.sizeOf86
  v77 := Tryz.zeroValue86 }
end Go.Proofs
namespace Go.Proofs.YtpfdapnfkghgkaaGreatDoor
open Go Go.RowKit Go.Shelf
attribute [local go_sem] ext_cell

set_option maxHeartbeats 1000000 in
theorem nan_c (x : Int) (w : World) : Calls Tryz.prog 155 #[.int .i64 x] w fun e w' => e = .returned (.bool false) ∧ w' = w := by
  have h : (x != x) = false := by simp
  go_enter Tryz.func155, Tryz.ntmps155
  go_wp2
  go_ret
  exact ⟨rfl, rfl⟩
def cmpI (x y : Int) : Int := if x < y then -1 else if y < x then 1 else 0
set_option maxHeartbeats 1000000 in
theorem cmpi_c (x y : Int) (w : World) : Calls Tryz.prog 138 #[.int .i64 x, .int .i64 y] w fun e w' => e = .returned (.int .i64 (cmpI x y)) ∧ w' = w := by
  by_cases h1 : x < y
  · have HE : Hid (cmpI x y = -1) := if_pos h1
    go_enter Tryz.func138, Tryz.ntmps138
    go_wp2_with (go_at_call 155; refine (nan_c _ _).mono ?_; rintro e w5 ⟨rfl, h5⟩; subst w5)
    go_ret
    exact ⟨by rw [HE.out]; rfl, rfl⟩
  · by_cases h2 : y < x
    · have HE : Hid (cmpI x y = 1) := hide (by unfold cmpI; rw [if_neg h1, if_pos h2])
      go_enter Tryz.func138, Tryz.ntmps138
      go_wp2_with (go_at_call 155; refine (nan_c _ _).mono ?_; rintro e w5 ⟨rfl, h5⟩; subst w5)
      go_ret
      exact ⟨by rw [HE.out]; rfl, rfl⟩
    · have HE : Hid (cmpI x y = 0) := hide (by unfold cmpI; rw [if_neg h1, if_neg h2])
      go_enter Tryz.func138, Tryz.ntmps138
      go_wp2_with (go_at_call 155; refine (nan_c _ _).mono ?_; rintro e w5 ⟨rfl, h5⟩; subst w5)
      go_ret
      exact ⟨by rw [HE.out]; rfl, rfl⟩

set_option maxHeartbeats 1000000 in
theorem order1_c {W : World} {bb g off cap n : Nat} {i j : Nat} {x y : Int} (hc : W.cell? ⟨bb, 0, none⟩ = some (.slice (some ⟨g, off, none⟩) n cap)) (hx : W.cell? ⟨g, off + i * 2, none⟩ = some (.int .i64 x)) (hy : W.cell? ⟨g, off + j * 2, none⟩ = some (.int .i64 y)) (hi : i < n) (hj : j < n) :
    Calls Tryz.prog 137 #[.int .i64 (i : Int), .int .i64 (j : Int), .pointer (some ⟨bb, 0, none⟩)] W fun e w' => e = .returned (.int .i64 (cmpI x y)) ∧ ∃ q os', w' = Go.Sort.grow (W.drewN q) os' := by
  have i0 : (0 : Int) ≤ (i : Int) := by omega
  have j0 : (0 : Int) ≤ (j : Int) := by omega
  have i1 : (i : Int) < (n : Int) := by omega
  have j1 : (j : Int) < (n : Int) := by omega
  go_enter Tryz.func137, Tryz.ntmps137
  go_wp2
  go_quiet (first | (go_at_call 138; exact Calls.quiet_of_same (cmpi_c _ _ _)))
  go_wp2
  go_ret
  exact ⟨rfl, _, #[], by rw [Go.Sort.grow_empty]⟩

theorem swBlock {α : Type} [Inhabited α] (enc : α → Value) (w : World) (blk off m : Nat) (dk : Array α) (os : Array Obj) {j : Nat} (h1 : j ≠ blk) (h2 : j < w.heap.size) : (sortWorld enc w blk off m dk os).heap[j]? = w.heap[j]? := by
  unfold sortWorld Go.Sort.grow Go.Sort.putRow Go.Sort.mapBlock Go.Sort.ahead
  simp only
  rw [Array.getElem?_append_left (by simpa using h2), Array.getElem?_modify, if_neg (Ne.symm h1)]
theorem swSelf {α : Type} [Inhabited α] (enc : α → Value) (w : World) (blk off m : Nat) (dk : Array α) (os : Array Obj) {cur : Array Value} {t : TypeId} {fr : Nat × Nat} (h : w.heap[blk]? = some (.cells cur t fr)) : ∃ cur', (sortWorld enc w blk off m dk os).heap[blk]? = some (.cells cur' t fr) := by
  have hlt := lt_of_heap h
  unfold sortWorld Go.Sort.grow Go.Sort.putRow Go.Sort.mapBlock Go.Sort.ahead
  simp only
  rw [Array.getElem?_append_left (by simpa using hlt), Array.getElem?_modify, if_pos rfl, h]
  exact ⟨_, rfl⟩
theorem swSize {α : Type} [Inhabited α] (enc : α → Value) (w : World) (blk off m : Nat) (dk : Array α) (os : Array Obj) : w.heap.size ≤ (sortWorld enc w blk off m dk os).heap.size := by
  unfold sortWorld Go.Sort.grow Go.Sort.putRow Go.Sort.mapBlock Go.Sort.ahead
  simp
theorem swCell {α : Type} [Inhabited α] (enc : α → Value) (w : World) (blk off m : Nat) (dk : Array α) (os : Array Obj) {j o : Nat} (h1 : j ≠ blk) (h2 : j < w.heap.size) : (sortWorld enc w blk off m dk os).cell? ⟨j, o, none⟩ = w.cell? ⟨j, o, none⟩ := by
  unfold World.cell?
  simp only [swBlock enc w blk off m dk os h1 h2]

/-- Places, in a block. -/
def IdxAt (w : World) (g : Nat) (I : List Nat) : Prop := ∃ cur, w.heap[g]? = some (.cells cur 3 (0, 0)) ∧ ∀ (i x : Nat), I[i]? = some x → cur[i]? = some (.int .i64 (x : Int))
def loAt (L : List (Int × Int)) (i : Nat) : Int := ((L[i]?).getD (0, 0)).1
theorem loAt_get {L : List (Int × Int)} {i : Nat} {r : Int × Int} (h : L[i]? = some r) : loAt L i = r.1 := by unfold loAt; rw [h]; rfl
theorem ltI (x y : Int) : decide (cmpI x y < 0) = decide (x < y) := by
  unfold cmpI
  by_cases h1 : x < y
  · simp [h1]
  · by_cases h2 : y < x <;> simp [h1, h2]
theorem hbang {α : Type} [Inhabited α] (X : List α) (i : Nat) (h : i < X.length) : X.toArray[i]! = X[i] := by simp [h]

theorem range_sub (n : Nat) : ∃ D : List { x : Nat // x < n }, D.map (fun x => x.1) = List.range n :=
  ⟨(List.range n).attachWith (fun x => x < n) (fun _ hx => List.mem_range.1 hx), (List.attachWith_map_val (f := id) (fun _ hx => List.mem_range.1 hx)).trans (List.map_id _)⟩
theorem sort_idx {w : World} {bb g off cap cap2 g2 : Nat} {L : List (Int × Int)} (hne : 0 < L.length) (hlen : L.length ≤ 8796093022208) (hc : w.cell? ⟨bb, 0, none⟩ = some (.slice (some ⟨g, off, none⟩) L.length cap)) (hL : ∀ (i : Nat) (r : Int × Int), L[i]? = some r → w.cell? ⟨g, off + i * 2, none⟩ = some (.int .i64 r.1))
    (hb : bb ≠ g2) (hg : g ≠ g2) (lb : bb < w.heap.size) (lg : g < w.heap.size) (hI : IdxAt w g2 (List.range L.length)) :
    Calls Tryz.prog 136 #[.slice (some ⟨g2, 0, none⟩) L.length cap2, .func (.func 137) #[] #[.pointer (some ⟨bb, 0, none⟩)]] w fun e w' => e = .returned (.tuple #[]) ∧ ∃ I : List Nat, IdxAt w' g2 I ∧ I.Perm (List.range L.length) ∧ (I.map (loAt L)).Pairwise (· ≤ ·) ∧ Fr (fun k => k = g2) w w' := by
  let α := { x : Nat // x < L.length }
  have : Inhabited α := ⟨⟨0, hne⟩⟩
  let enc : α → Value := fun x => .int .i64 (x.1 : Int)
  let cf : α → α → Int := fun x y => cmpI (loAt L x.1) (loAt L y.1)
  obtain ⟨cur, hcur, hcv⟩ := hI
  obtain ⟨D, hD⟩ : ∃ D : List α, D.map (fun x => x.1) = List.range L.length := range_sub L.length
  have hDl : D.length = L.length := by have := congrArg List.length hD; simpa using this
  have hDi : ∀ i (h : i < D.length), (D[i]).1 = i := fun i h => by
    have e : (D.map (fun x => x.1))[i]? = (List.range L.length)[i]? := by rw [hD]
    rw [List.getElem?_map, List.getElem?_eq_getElem h, List.getElem?_eq_getElem (by simpa using hDl ▸ h)] at e
    simpa using e
  have hgl := lt_of_heap hcur
  have hH : Go.Sort.Holds enc w g2 0 D.toArray := fun j hj => by
    have hj' : j < D.length := by simpa using hj
    rw [Nat.zero_add, hbang D j hj']
    refine ⟨cell_row hcur ?_, frz_row hcur j⟩
    rw [hcv j j (by rw [List.getElem?_eq_getElem (by simpa using hDl ▸ hj')]; simp)]
    show _ = some (Value.int .i64 ((D[j]).1 : Int))
    rw [hDi j hj']
  have hO : Go.Sort.SWO (ltOf cf) := by
    have hlt : ∀ x y : α, ltOf cf x y = decide (loAt L x.1 < loAt L y.1) := fun x y => ltI _ _
    exact ⟨fun x => by rw [hlt]; simp, fun x y z h1 h2 => by rw [hlt] at *; simp at *; omega, fun x y z h1 h2 => by rw [hlt] at *; simp at *; omega⟩
  have hcmp : CmpLays1 Tryz.prog 137 #[.pointer (some ⟨bb, 0, none⟩)] enc cf g2 0 D.toArray.size w := fun m os dk _ x y => by
    have h1 := (swCell enc w g2 0 m dk os (o := 0) hb lb).trans hc
    have h2 := (swCell enc w g2 0 m dk os (o := off + x.1 * 2) hg lg).trans (hL x.1 _ (List.getElem?_eq_getElem x.2))
    have h3 := (swCell enc w g2 0 m dk os (o := off + y.1 * 2) hg lg).trans (hL y.1 _ (List.getElem?_eq_getElem y.2))
    rw [← loAt_get (List.getElem?_eq_getElem x.2)] at h2
    rw [← loAt_get (List.getElem?_eq_getElem y.2)] at h3
    exact order1_c h1 h2 h3 x.2 y.2
  have eg : ∀ args w, (callFunc 137 args).run Tryz.prog w = .ok (.enter 137 args) w := enters_of Tryz.func137 (by kernel_rfl) rfl
  have hcon := Any.slices_SortFunc Tryz.sortPl enc (fun _ => rfl) cf hO 137 #[.pointer (some ⟨bb, 0, none⟩)] g2 0 cap2 D.toArray w eg hcmp hH hgl (by rw [List.size_toArray]; omega)
  rw [List.size_toArray, hDl] at hcon
  refine Calls.mono (show Calls Tryz.prog 136 _ _ _ from hcon) ?_
  rintro e w' ⟨rfl, d', n, os, hp, hs, rfl⟩
  obtain ⟨X, rfl⟩ : ∃ X : List α, d' = X.toArray := ⟨d'.toList, by simp⟩
  have hXl : X.length = L.length := by have := hp.1; simpa [hDl] using this
  have hperm : X.Perm D := by
    have := hp.2.2
    simpa [List.take_of_length_le (show X.length ≤ L.length by omega), List.take_of_length_le (show D.length ≤ L.length by omega)] using this
  have hH' := holds_sortWorld enc w g2 0 n D.toArray X.toArray os hgl hH (by simp [hXl, hDl])
  obtain ⟨cur', hcur'⟩ := swSelf enc w g2 0 n X.toArray os hcur
  refine ⟨rfl, X.map (fun x => x.1), ⟨cur', hcur', fun i x hx => ?_⟩, by rw [← hD]; exact hperm.map _, ?_, rfl, rfl, rfl, swSize enc w g2 0 n X.toArray os, fun k hk hs => swBlock enc w g2 0 n X.toArray os hs hk⟩
  · rw [List.getElem?_map] at hx
    cases hy : X[i]? with
    | none => rw [hy] at hx; cases hx
    | some y =>
      rw [hy] at hx
      obtain ⟨hi, e2⟩ := List.getElem?_eq_some_iff.1 hy
      have h1 := (hH' i (by simpa using hi)).1
      rw [Nat.zero_add, hbang X i hi, e2] at h1
      unfold World.cell? at h1
      simp only [hcur'] at h1
      rw [← Option.some.inj hx]
      exact h1
  · rw [List.pairwise_iff_getElem]
    intro i j hi hj hij
    simp only [List.length_map] at hi hj
    have := hs i j (Nat.zero_le _) hij (by omega)
    rw [hbang X i hi, hbang X j hj] at this
    have h2 : decide (loAt L X[j].1 < loAt L X[i].1) = false := (ltI _ _).symm.trans this
    simp only [List.getElem_map]
    have := of_decide_eq_false h2
    omega
end Go.Proofs.YtpfdapnfkghgkaaGreatDoor
namespace Go.Proofs.YtpfdapnfkghgkaaGreatDoor
open Go Go.RowKit
attribute [local go_sem] ext_cell

/-- What may have changed in the list that came. -/
def blk (v : Value) (k : Nat) : Prop := v.ownBlock = some k
theorem appended {base : Nat} {w w1 w6 : World} {q : Option Addr} {c g6 cap6 : Nat} {C : List (Int × Int)} {r : Int × Int} (B1 : Below w.heap.size w w1) (hg : w1.grownBy w6 (Value.slice q C.length c).ownBlock)
    (ho : w6.ownsRow base 99 2 (.slice (some ⟨g6, 0, none⟩) (C.length + 1) cap6) (C.length + 1) (cellsR C ++ [.int .i64 r.1, .int .i64 r.2]))
    (hb : (Value.slice (some ⟨g6, 0, none⟩) (C.length + 1) cap6).ownBlock = (Value.slice q C.length c).ownBlock ∨ (Value.slice (some ⟨g6, 0, none⟩) (C.length + 1) cap6).ownBlock = some w1.heap.size) :
    RR base w6 (.slice (some ⟨g6, 0, none⟩) (C.length + 1) cap6) (C ++ [r]) ∧ moved (.slice q C.length c) (.slice (some ⟨g6, 0, none⟩) (C.length + 1) cap6) w.heap.size ∧ Fr (blk (.slice q C.length c)) w w6 := by
  refine ⟨?_, ?_, (Fr.of_below B1).grown hg fun k hk => hk⟩
  · unfold RR
    rw [List.length_append, List.length_singleton, cellsR_append]
    exact ho
  · rcases hb with hb | hb
    · exact .inl hb
    · exact .inr (.inr ⟨_, B1.size, hb⟩)

theorem appendedN {base : Nat} {w w1 w6 : World} {q : Option Addr} {n c g6 cap6 : Nat} {C : List (Int × Int)} {r : Int × Int} (hn : C.length = n) (B1 : Below w.heap.size w w1) (hg : w1.grownBy w6 (Value.slice q n c).ownBlock)
    (ho : w6.ownsRow base 99 2 (.slice (some ⟨g6, 0, none⟩) (n + 1) cap6) (n + 1) (cellsR C ++ [.int .i64 r.1, .int .i64 r.2]))
    (hb : (Value.slice (some ⟨g6, 0, none⟩) (n + 1) cap6).ownBlock = (Value.slice q n c).ownBlock ∨ (Value.slice (some ⟨g6, 0, none⟩) (n + 1) cap6).ownBlock = some w1.heap.size) :
    RR base w6 (.slice (some ⟨g6, 0, none⟩) (n + 1) cap6) (C ++ [r]) ∧ moved (.slice q n c) (.slice (some ⟨g6, 0, none⟩) (n + 1) cap6) w.heap.size ∧ Fr (blk (.slice q n c)) w w6 := by
  subst hn
  exact appended B1 hg ho hb

set_option maxHeartbeats 1000000 in
theorem add_empty {w : World} {v : Value} {r : Int × Int} (hr : r.2 < r.1) :
    Calls Tryz.prog 118 #[v, .agg #[.int .i64 r.1, .int .i64 r.2]] w fun e w' => e = .returned v ∧ Below w.heap.size w w' := by
  go_enter Tryz.func118, Tryz.ntmps118
  go_wp2
  go_ret
  exact ⟨rfl, (Below.refl _ _).alloc (Nat.le_refl _) _⟩

set_option maxRecDepth 100000 in
set_option maxHeartbeats 1000000 in
theorem add_nil {base : Nat} {w : World} {q : Option Addr} {c : Nat} {r : Int × Int} (h : RR base w (.slice q 0 c) []) (hr : ¬ r.2 < r.1) (hbase : base ≤ w.heap.size) :
    Calls Tryz.prog 118 #[.slice q 0 c, .agg #[.int .i64 r.1, .int .i64 r.2]] w fun e w' => ∃ v', e = .returned v' ∧ RR base w' v' [r] ∧ moved (.slice q 0 c) v' w.heap.size ∧ Fr (blk (.slice q 0 c)) w w' := by
  obtain ⟨t0, hi, hz0, hz1, hz2⟩ := info_parts size_range
  have H : Hid (RR base w (.slice q 0 c) []) := h
  clear h
  go_enter Tryz.func118, Tryz.ntmps118
  go_wp2
  refine wp_region_ext (by kernel_rfl) (by kernel_rfl) ?_
  repeat (go_big_quiet_step (first | exact rfl))
  refine wpQuiet_nil ?_
  intro w1 hw
  have B1 : Hid (Below w.heap.size w w1) := chain ((Below.refl _ _).alloc (Nat.le_refl _) _) (ext_of hw) (by simp)
  have hb1 := ext_of hw
  have m0 : w1.cell? ⟨w.heap.size, 0, none⟩ = some (.int .i64 r.1) := (hb1.cell (p := ⟨w.heap.size, 0, none⟩) (by simp)).trans (cell_row (alloc_new w _) (i := 0) rfl)
  have m1 : w1.cell? ⟨w.heap.size, 1, none⟩ = some (.int .i64 r.2) := (hb1.cell (p := ⟨w.heap.size, 1, none⟩) (by simp)).trans (cell_row (alloc_new w _) (i := 1) rfl)
  have hsz : w.heap.size ≤ w1.heap.size := B1.out.size
  have O1 : Hid (RR base w1 (.slice q 0 c) []) := H.out.kept B1.out
  clear hb1 hw
  go_wp2_with (at_builtin; refine wpList_append_own_at _ rfl _ _ 25 rfl base 99 t0 (.agg #[.int .i64 0, .int .i64 0]) 2 16 und_ranges hi hz0 hz1 hz2 rfl (by decide) (.slice q 0 c) 0 [] rfl (World.ownsRow.alloc O1.out (.cells #[.int .i64 r.1, .int .i64 r.2] 99)) ⟨w1.heap.size, 0, none⟩ 1 1 [.int .i64 r.1, .int .i64 r.2] rfl rfl (news2 _ _ _ _) (by simp [Value.oneCell']) (by unfold maxLen; omega) (by omega) (by simp; omega) ?_; intro v' w6 hown' hgrow _ hblk; obtain ⟨g6, cap6, rfl⟩ := ownsRow_some hown' (Nat.succ_pos _); have A6 : Hid _ := appended (C := []) (r := r) (B1.out.alloc B1.out.size _) hgrow hown' hblk; clear hown' hgrow hblk)
  go_ret
  exact ⟨_, rfl, A6.out.1, A6.out.2.1, A6.out.2.2⟩

theorem last_cell {base : Nat} {w : World} {g n c : Nat} {D : List (Int × Int)} {x : Int × Int} (h : w.ownsRow base 99 2 (.slice (some ⟨g, 0, none⟩) (n + 1) c) (n + 1) (cellsR (D ++ [x]))) (hn : D.length = n) : w.cell? ⟨g, n * 2, none⟩ = some (.int .i64 x.1) ∧ w.cell? ⟨g, n * 2 + 1, none⟩ = some (.int .i64 x.2) := by
  have hx : (D ++ [x])[n]? = some x := by subst hn; simp
  obtain ⟨p1, p2⟩ := cellsR_get (D ++ [x]) n x hx
  rw [Nat.mul_comm] at p1 p2
  exact ⟨ownsRow_cell h p1, ownsRow_cell h p2⟩

set_option maxRecDepth 100000 in
set_option maxHeartbeats 1000000 in
theorem add_far {base : Nat} {w : World} {g n c : Nat} {D : List (Int × Int)} {x r : Int × Int} (h : w.ownsRow base 99 2 (.slice (some ⟨g, 0, none⟩) (n + 1) c) (n + 1) (cellsR (D ++ [x]))) (hn : D.length = n) (hr : ¬ r.2 < r.1) (hbase : base ≤ w.heap.size) (hf : x.2 + 1 < r.1)
    (hlo : -9223372036854775808 ≤ x.2) (hm : r.1 ≤ 9223372036854775807) (hl : n + 2 ≤ 8796093022208) :
    Calls Tryz.prog 118 #[.slice (some ⟨g, 0, none⟩) (n + 1) c, .agg #[.int .i64 r.1, .int .i64 r.2]] w fun e w' => ∃ v', e = .returned v' ∧ RR base w' v' (D ++ [x] ++ [r]) ∧ moved (.slice (some ⟨g, 0, none⟩) (n + 1) c) v' w.heap.size ∧ Fr (blk (.slice (some ⟨g, 0, none⟩) (n + 1) c)) w w' := by
  obtain ⟨t0, hi, hz0, hz1, hz2⟩ := info_parts size_range
  have H : Hid (w.ownsRow base 99 2 (.slice (some ⟨g, 0, none⟩) (n + 1) c) (n + 1) (cellsR (D ++ [x]))) := h
  have HN : Hid (D.length = n) := hn
  have glt : g < w.heap.size := (ownsRow_at h rfl).2.1
  have hcell := (last_cell h hn).2
  clear h hn
  have e1 : IntKind.wrap .i64 ((n : Int) + 1 - 1) = (n : Int) := by rw [IntKind.wrap_i64]; omega
  have e2 : IntKind.wrap .i64 (x.2 + 1) = x.2 + 1 := by rw [IntKind.wrap_i64]; omega
  have hx := hcell
  generalize x.2 = y at *
  have i0 : ¬ (n : Int) < 0 := by omega
  have i1 : (0 : Int) ≤ (n : Int) := by omega
  have i2 : (n : Int) < (n : Int) + 1 := by omega
  have d0 : decide ((n : Int) < 0) = false := decide_eq_false i0
  have d1 : decide (y < r.1) = true := decide_eq_true (by omega)
  have d2 : decide (y + 1 < r.1) = true := decide_eq_true hf
  go_enter Tryz.func118, Tryz.ntmps118
  go_wp2
  refine wp_region_ext (by kernel_rfl) (by kernel_rfl) ?_
  repeat (go_big_quiet_step (first | exact rfl))
  refine wpQuiet_nil ?_
  intro w1 hw
  have B1 : Hid (Below w.heap.size w w1) := chain ((Below.refl _ _).alloc (Nat.le_refl _) _) (ext_of hw) (by simp)
  have hb1 := ext_of hw
  have m0 : w1.cell? ⟨w.heap.size, 0, none⟩ = some (.int .i64 r.1) := (hb1.cell (p := ⟨w.heap.size, 0, none⟩) (by simp)).trans (cell_row (alloc_new w _) (i := 0) rfl)
  have m1 : w1.cell? ⟨w.heap.size, 1, none⟩ = some (.int .i64 r.2) := (hb1.cell (p := ⟨w.heap.size, 1, none⟩) (by simp)).trans (cell_row (alloc_new w _) (i := 1) rfl)
  have hsz : w.heap.size ≤ w1.heap.size := B1.out.size
  have O1 : Hid (w1.ownsRow base 99 2 (.slice (some ⟨g, 0, none⟩) (n + 1) c) (n + 1) (cellsR (D ++ [x]))) := ownsRow_fr (S := fun _ => False) H.out (Fr.of_below B1.out) (fun _ _ q => q)
  clear hb1 hw
  go_wp2_with (at_builtin; refine wpList_append_own_at _ rfl _ _ 25 rfl base 99 t0 (.agg #[.int .i64 0, .int .i64 0]) 2 16 und_ranges hi hz0 hz1 hz2 rfl (by decide) (.slice (some ⟨g, 0, none⟩) (n + 1) c) (n + 1) (cellsR (D ++ [x])) rfl (World.ownsRow.alloc O1.out (.cells #[.int .i64 r.1, .int .i64 r.2] 99)) ⟨w1.heap.size, 0, none⟩ 1 1 [.int .i64 r.1, .int .i64 r.2] rfl rfl (news2 _ _ _ _) (by simp [Value.oneCell']) (by unfold maxLen; omega) (by omega) (by simp; omega) ?_; intro v' w6 hown' hgrow _ hblk; obtain ⟨g6, cap6, rfl⟩ := ownsRow_some hown' (Nat.succ_pos _); have A6 : Hid _ := appendedN (n := n + 1) (C := D ++ [x]) (r := r) (by have := HN.out; simp; omega) (B1.out.alloc B1.out.size _) hgrow hown' hblk; clear hown' hgrow hblk)
  go_ret
  exact ⟨_, rfl, A6.out.1, A6.out.2.1, A6.out.2.2⟩
end Go.Proofs.YtpfdapnfkghgkaaGreatDoor
