/-
  Parts of the proof.
-/
import Derived.Test.YtaikcnoiaaiopaaDoorPlaysProofB27
set_option linter.unusedSimpArgs false
namespace Go.Proofs.YtaikcnoiaaiopaaDoor
open Go Go.RowKit Go.Shelf
attribute [local go_sem] Oper.semAt_some ext_cell
def tyA (t : TypeId) : Prop := t = 25 ∨ t = 9 ∨ t = 81 ∨ t = 82 ∨ t = 102 ∨ t = 63 ∨ t = 4
def keepA (n0 : Nat) (k : Nat) (t : TypeId) : Prop := (n0 ≤ k ∧ tyA t) ∨ t = 65
def keepB (n0 : Nat) (k : Nat) (t : TypeId) : Prop := (n0 ≤ k ∧ (t = 25 ∨ t = 9 ∨ t = 81 ∨ t = 82)) ∨ t = 65
theorem keepB_A {n0 k : Nat} {t : TypeId} (h : keepB n0 k t) : keepA n0 k t := by
  rcases h with ⟨h1, h2⟩ | h
  · refine .inl ⟨h1, ?_⟩
    unfold tyA
    rcases h2 with e | e | e | e <;> simp [e]
  · exact .inr h
theorem keepB_P {n0 k : Nat} {t : TypeId} (h : keepB n0 k t) : ¬ (t = 102 ∨ t = 63 ∨ t = 4) := fun q => by
  rcases h with ⟨_, h2⟩ | h
  · rcases h2 with e | e | e | e <;> rcases q with r | r | r <;> exact absurd (e.symm.trans r) (by decide)
  · rcases q with r | r | r <;> exact absurd (h.symm.trans r) (by decide)
def tyP (t : TypeId) : Prop := t = 102 ∨ t = 63 ∨ t = 4
def AInv (base : Nat) (f : Bool) (T : Pt) (D : List Nat → Prop) (R : List Nat → Nat → Prop) (K : List Nat → Kn) (hb : Nat) (lg : Int) (V : World) : Prop := HInv base f T D R K hb lg V ∧ z1_Tab V
def OkA (f : Bool) (ws : List ByteArray) (line : ByteArray) (pre : List Ev) (x : Nat × Nat) : Prop := tl pre ++ [x] <+: allM f ws line line.size ∧ bs pre ≤ 4 * line.size + (tl pre).length + 5
def OkB (f : Bool) (ws : List ByteArray) (line : ByteArray) (pre : List Ev) (x : Nat × Nat) : Prop := tl pre ++ [x] <+: allM f ws line line.size ∧ bs pre ≤ 4 * line.size + (tl pre).length + 4
structure AH (base : Nat) (f : Bool) (ws : List ByteArray) (line : ByteArray) (T : Pt) (D : List Nat → Prop) (R : List Nat → Nat → Prop) (K : List Nat → Kn) (hb : Nat) (lg : Int) (n l n0 N0 : Nat) (J Jx : List Ev → World → Prop) : Prop where
  own : OwnFrom N0 J
  ownx : OwnFrom N0 Jx
  inv : ∀ pre V, J pre V → AInv base f T D R K hb lg V
  ft : ∀ pre A B, J pre A → FT N0 tyP A B → J pre B
  ftx : ∀ pre A B, Jx pre A → FT N0 tyP A B → Jx pre B
  bu : ∀ pre (d : Nat) A B, J pre A → Bump hb (d : Int) A B → J (pre ++ [.inr d]) B
  yi : ∀ pre x V, J pre V → OkA f ws line pre x → YieldAt Fence.wide (n - 1) Tryd.prog l (encP x) V fun e V' => KeepsFrom N0 V V' ∧ ((e = .returned (.bool true) ∧ J (pre ++ [.inl x]) V' ∧ TKeep (keepA n0) V V') ∨ (e = .returned (.bool false) ∧ Jx (pre ++ [.inl x]) V' ∧ TKeep (keepA n0) V V'))
  le : n0 ≤ N0
  hok : mayB ws = true
  hp : 0 < n0
structure AlS (J : List Ev → World → Prop) (l hb B1 YB wb cb m : Nat) (pre : List Ev) (cs : List z1_S) (nx : Nat) (V : World) : Prop where
  j : J pre V
  w : WM V wb cb m cs nx
  b1 : V.heap[B1]? = some (.cells #[.pointer (some ⟨hb, 0, none⟩)] 25 (0, 0))
  yb : V.heap[YB]? = some (.cells #[.func (.yield l) #[] #[]] 81 (0, 0))
structure AlP (n0 N0 B1 YB wb cb : Nat) : Prop where
  b1 : n0 ≤ B1
  yb : n0 ≤ YB
  wb : N0 ≤ wb
  cb : N0 ≤ cb
section
variable {base : Nat} {f : Bool} {ws : List ByteArray} {line : ByteArray} {T : Pt} {D : List Nat → Prop} {R : List Nat → Nat → Prop} {K : List Nat → Kn} {hb : Nat} {lg : Int} {n l n0 N0 : Nat} {J Jx : List Ev → World → Prop} {B1 YB wb cb m nx : Nat} {pre : List Ev} {cs : List z1_S} {V V' : World}
theorem AlS.below (hA : AH base f ws line T D R K hb lg n l n0 N0 J Jx) (h : AlS J l hb B1 YB wb cb m pre cs nx V) (hb' : Below V.heap.size V V') : AlS J l hb B1 YB wb cb m pre cs nx V' :=
  ⟨ownFrom_below hA.own h.j hb', h.w.below hb', (hb'.block _ (lt_of_heap h.b1)).trans h.b1, (hb'.block _ (lt_of_heap h.yb)).trans h.yb⟩
theorem AlS.grown {B : Nat} {row : Option Nat} (hA : AH base f ws line T D R K hb lg n l n0 N0 J Jx) (h : AlS J l hb B1 YB wb cb m pre cs nx V) (hB : N0 ≤ B) (hg : V.grownBy V' row) (hr : ∀ r, row = some r → B ≤ r ∧ ∃ o : Obj, V.heap[r]? = some o ∧ o.isCells = false) : AlS J l hb B1 YB wb cb m pre cs nx V' :=
  ⟨ownFrom_le hA.own hB _ _ _ _ h.j hg hr, ⟨cells_kept hg hr h.w.h, cells_kept hg hr h.w.c, h.w.len⟩, cells_kept hg hr h.b1, cells_kept hg hr h.yb⟩
theorem AlS.round {pre' : List Ev} (hA : AH base f ws line T D R K hb lg n l n0 N0 J Jx) (hP : AlP n0 N0 B1 YB wb cb) (h : AlS J l hb B1 YB wb cb m pre cs nx V) (hj : J pre' V') (hk : TKeep (keepA n0) V V') : AlS J l hb B1 YB wb cb m pre' cs nx V' := by
  have hle := hA.le
  have h1 := hP.b1
  have h2 := hP.yb
  have h3 := hP.wb
  have h4 := hP.cb
  exact ⟨hj, ⟨hk.same _ _ _ _ (.inl ⟨by omega, by unfold tyA; simp⟩) h.w.h, hk.same _ _ _ _ (.inl ⟨by omega, by unfold tyA; simp⟩) h.w.c, h.w.len⟩, hk.same _ _ _ _ (.inl ⟨h1, by unfold tyA; simp⟩) h.b1, hk.same _ _ _ _ (.inl ⟨h2, by unfold tyA; simp⟩) h.yb⟩
theorem AlS.bump {d : Nat} (hA : AH base f ws line T D R K hb lg n l n0 N0 J Jx) (h : AlS J l hb B1 YB wb cb m pre cs nx V) (hu : Bump hb (d : Int) V V') : AlS J l hb B1 YB wb cb m (pre ++ [.inr d]) cs nx V' ∧ TKeep (keepA n0) V V' ∧ KeepsFrom N0 V V' := by
  obtain ⟨⟨_, st, hh⟩, _⟩ := hA.inv _ _ h.j
  have kk : ∀ (k : Nat) (cur : Array Value) (t : TypeId) (fr : Nat × Nat), t ≠ 67 → V.heap[k]? = some (.cells cur t fr) → V'.heap[k]? = some (.cells cur t fr) := fun k cur t fr ht hc => (hu.fr.block k (lt_of_heap hc) (fun e => by
    subst e
    rw [hh] at hc
    injection hc with hc
    injection hc with _ hc _
    exact ht hc.symm)).trans hc
  refine ⟨⟨hA.bu _ _ _ _ h.j hu, ⟨kk _ _ _ _ (by decide) h.w.h, kk _ _ _ _ (by decide) h.w.c, h.w.len⟩, kk _ _ _ _ (by decide) h.b1, kk _ _ _ _ (by decide) h.yb⟩, ⟨hu.fr.size, fun k cur t fr hk hc => kk k cur t fr (fun e => ?_) hc⟩, (hu.only hh).keeps hu.fr.size _⟩
  subst e
  rcases hk with hk | hk
  · rcases hk.2 with q | q | q | q | q | q | q <;> exact absurd q (by decide)
  · exact absurd hk (by decide)
theorem yield_any {P : Program} {a b l : Nat} {args : Array Value} {W : World} {R : Ending → World → Prop} (h : YieldAt Fence.wide a P l args W R) : YieldAt Fence.wide b P l args W R := by
  obtain ⟨fn, tmps, assign, body, h1, h2⟩ := h
  exact ⟨fn, tmps, assign, body, h1, ⟨h2.1, fun c cs _ => h2.2 c cs (room_wide _)⟩⟩
def TdR (J Jx : List Ev → World → Prop) (n0 N0 l hb B1 YB wb cb m : Nat) (pre : List Ev) (x : Nat × Nat) (cs : List z1_S) (nx : Nat) (V : World) (e : Ending) (V' : World) : Prop :=
  KeepsFrom N0 V V' ∧ TKeep (keepA n0) V V' ∧ ((e = .returned (.bool true) ∧ AlS J l hb B1 YB wb cb m (pre ++ [.inr 1] ++ [.inl x]) cs nx V') ∨ (e = .returned (.bool false) ∧ Jx (pre ++ [.inr 1] ++ [.inl x]) V'))
theorem told_c (hA : AH base f ws line T D R K hb lg n l n0 N0 J Jx) (hP : AlP n0 N0 B1 YB wb cb) (h : AlS J l hb B1 YB wb cb m pre cs nx V) {x : Nat × Nat} (hx : OkB f ws line pre x) :
    Calls Tryd.prog 31 #[.int .i64 (x.1 : Int), .int .i64 (x.2 : Int), .pointer (some ⟨B1, 0, none⟩), .pointer (some ⟨YB, 0, none⟩)] V (TdR J Jx n0 N0 l hb B1 YB wb cb m pre x cs nx V) := by
  obtain ⟨⟨_, st, hh⟩, _⟩ := hA.inv _ _ h.j
  refine (callsIn_wide (n := 1)).1 (told_in 1 (Nat.le_refl _) h.b1 h.yb hh (fun V1 hu => ?_) (fun e V' hr => ?_))
  · obtain ⟨q1, q2, q3⟩ := h.bump hA hu
    have hy := hA.yi (pre ++ [.inr 1]) x V1 q1.j (by unfold OkA; rw [tl_inr, bs_inr]; exact ⟨hx.1, by have := hx.2; omega⟩)
    have hy2 := yield_any (b := 1 - 1) hy
    obtain ⟨fn, tmps, assign, body, y1, y2⟩ := hy2
    refine ⟨fn, tmps, assign, body, y1, y2.mono ?_⟩
    rintro e V' ⟨r1, (⟨rfl, r2, r3⟩ | ⟨rfl, r2, r3⟩)⟩
    · exact ⟨q3.trans r1, q2.trans r3, .inl ⟨rfl, q1.round hA hP r2 r3⟩⟩
    · exact ⟨q3.trans r1, q2.trans r3, .inr ⟨rfl, r2⟩⟩
  · rcases hr with ⟨_, _, (⟨q, _⟩ | ⟨q, _⟩)⟩
    · exact ⟨true, q⟩
    · exact ⟨false, q⟩
end
def twF (f : Nat → Value) (p0 pl tv : Value) (b3 : Nat) : Array Value := #[p0, pl, tv, .pointer (some ⟨b3, 0, none⟩), f 4, .pointer (some ⟨b3 + 1, 0, none⟩), .pointer (some ⟨b3 + 1 + 1, 0, none⟩), f 7, f 8, f 9, f 10, f 11, f 12, f 13, f 14, f 15, f 16, f 17, f 18, f 19, f 20, f 21, f 22, f 23, f 24, f 25, f 26, f 27, f 28, f 29, f 30, f 31, f 32, f 33, f 34, f 35, f 36, f 37, f 38, f 39, f 40, f 41, f 42, f 43]
structure TlS (J : List Ev → World → Prop) (n0 N0 l hb B1 YB wb cb m : Nat) (V0 : World) (b3 : Nat) (tv : Value) (hi : Nat) (Ds : List Nat) (pre : List Ev) (cs : List z1_S) (nx : Nat) (U : World) : Prop where
  a : AlS J l hb B1 YB wb cb m pre cs nx U
  x3 : U.heap[b3]? = some (.cells #[.pointer (some ⟨wb, 0, none⟩)] 82 (0, 0))
  x5 : U.heap[b3 + 1]? = some (.cells #[tv] 81 (0, 0))
  x6 : ∃ b, U.heap[b3 + 1 + 1]? = some (.cells #[.bool b] 4 (0, 0))
  dm : MK N0 hi Ds U
  dv : ∀ D ∈ Ds, V0.heap.size ≤ D
  tk : TKeep (keepB n0) V0 U
  kf : KeepsFrom N0 V0 U
section
variable {base : Nat} {f : Bool} {ws : List ByteArray} {line : ByteArray} {T : Pt} {D : List Nat → Prop} {R : List Nat → Nat → Prop} {K : List Nat → Kn} {hb : Nat} {lg : Int} {n l n0 N0 : Nat} {J Jx : List Ev → World → Prop} {B1 YB wb cb m nx : Nat} {pre : List Ev} {cs : List z1_S} {V V' V0 : World} {b3 hi : Nat} {tv : Value} {Ds : List Nat}
theorem TlS.below (hA : AH base f ws line T D R K hb lg n l n0 N0 J Jx) (h : TlS J n0 N0 l hb B1 YB wb cb m V0 b3 tv hi Ds pre cs nx V) (hb' : Below V.heap.size V V') : TlS J n0 N0 l hb B1 YB wb cb m V0 b3 tv hi Ds pre cs nx V' := by
  obtain ⟨b, h6⟩ := h.x6
  exact ⟨h.a.below hA hb', (hb'.block _ (lt_of_heap h.x3)).trans h.x3, (hb'.block _ (lt_of_heap h.x5)).trans h.x5, ⟨b, (hb'.block _ (lt_of_heap h6)).trans h6⟩, h.dm.keeps (keeps_below hb') (Nat.le_refl _), h.dv, h.tk.trans (TKeep.below hb'), h.kf.trans (keeps_below hb')⟩
theorem TlS.grown {B : Nat} {row : Option Nat} (hA : AH base f ws line T D R K hb lg n l n0 N0 J Jx) (h : TlS J n0 N0 l hb B1 YB wb cb m V0 b3 tv hi Ds pre cs nx V) (hB : N0 ≤ B) (hB2 : hi ≤ B) (hB3 : V0.heap.size ≤ B) (hg : V.grownBy V' row) (hr : ∀ r, row = some r → B ≤ r ∧ ∃ o : Obj, V.heap[r]? = some o ∧ o.isCells = false) : TlS J n0 N0 l hb B1 YB wb cb m V0 b3 tv hi Ds pre cs nx V' := by
  obtain ⟨b, h6⟩ := h.x6
  refine ⟨h.a.grown hA hB hg hr, cells_kept hg hr h.x3, cells_kept hg hr h.x5, ⟨b, cells_kept hg hr h6⟩, h.dm.grown hB2 hg hr, h.dv, h.tk.trans ⟨hg.size, fun k cur t fr _ hc => cells_kept hg hr hc⟩, ⟨Nat.le_trans h.kf.size hg.size, fun k o hk hc ho => ?_⟩⟩
  have h5 := h.kf.same k o hk hc ho
  exact (hg.block k (Array.getElem?_eq_some_iff.1 h5).1 (fun e => by have := (hr k e.symm).1; have := (Array.getElem?_eq_some_iff.1 hc).1; omega)).trans h5
theorem TlS.round {pre' : List Ev} {cs' : List z1_S} {nx' : Nat} (hA : AH base f ws line T D R K hb lg n l n0 N0 J Jx) (h : TlS J n0 N0 l hb B1 YB wb cb m V0 b3 tv hi Ds pre cs nx V) (hb3 : N0 ≤ b3) (ha : AlS J l hb B1 YB wb cb m pre' cs' nx' V') (hk : TKeep (keepA n0) V V') (hf : KeepsFrom N0 V V') : TlS J n0 N0 l hb B1 YB wb cb m V0 b3 tv hi Ds pre' cs' nx' V' := by
  obtain ⟨b, h6⟩ := h.x6
  have hle := hA.le
  exact ⟨ha, hk.same _ _ _ _ (.inl ⟨by omega, by unfold tyA; simp⟩) h.x3, hk.same _ _ _ _ (.inl ⟨by omega, by unfold tyA; simp⟩) h.x5, ⟨b, hk.same _ _ _ _ (.inl ⟨by omega, by unfold tyA; simp⟩) h6⟩, h.dm.keeps hf (Nat.le_refl _), h.dv, h.tk.trans (hk.mono (fun k t q => keepB_A q)), h.kf.trans hf⟩
end
def nxOf (wb : Nat) (U : World) : Nat := match U.cell? ⟨wb, 1, none⟩ with
  | some (.int _ z) => z.toNat
  | _ => 0
def TellR (J Jx : List Ev → World → Prop) (f : Bool) (ws : List ByteArray) (line : ByteArray) (n0 N0 l hb B1 YB wb cb m i place : Nat) (pre : List Ev) (V : World) (e : Ending) (V' : World) : Prop :=
  KeepsFrom N0 V V' ∧ ((e = .returned (.bool true) ∧ TKeep (keepB n0) V V' ∧ ∃ pre' cs', AlS J l hb B1 YB wb cb m pre' cs' place V' ∧ WaitI f ws line i place m cs' ∧ tl pre' = allM f ws line place ∧ bs pre' + (tl pre).length = bs pre + (tl pre').length) ∨ (e = .returned (.bool false) ∧ TKeep (keepB n0) V V' ∧ ∃ pre', Jx pre' V' ∧ tl pre' <+: allM f ws line line.size))
def evs (q : Nat) (pre6 : List z1_B8) : List Ev := pre6.flatMap fun x => [.inr 1, .inl (q, x.1.toNat)]
theorem tl_app (a b : List Ev) : tl (a ++ b) = tl a ++ tl b := by simp [tl]
theorem tl_evs (q : Nat) (l : List z1_B8) : tl (evs q l) = l.map fun x => (q, x.1.toNat) := by
  induction l with
  | nil => rfl
  | cons x l ih => simp only [evs, List.flatMap_cons] at ih ⊢; rw [tl_app, ih]; rfl
theorem bs_evs (q : Nat) (l : List z1_B8) : bs (evs q l) = l.length := by
  induction l with
  | nil => rfl
  | cons x l ih => simp only [evs, List.flatMap_cons] at ih ⊢; rw [bs_app, ih]; simp [bs]; omega
structure TlX (Jx : List Ev → World → Prop) (f : Bool) (ws : List ByteArray) (line : ByteArray) (n0 N0 : Nat) (V0 : World) (b3 hi : Nat) (Ds : List Nat) (Z : World) : Prop where
  j : ∃ p', Jx p' Z ∧ tl p' <+: allM f ws line line.size
  x6 : Z.heap[b3 + 1 + 1]? = some (.cells #[.bool false] 4 (0, 0))
  dm : MK N0 hi Ds Z
  dv : ∀ D ∈ Ds, V0.heap.size ≤ D
  kf : KeepsFrom N0 V0 Z
  tk : TKeep (keepB n0) V0 Z
theorem TlX.grown {Jx : List Ev → World → Prop} {f : Bool} {ws : List ByteArray} {line : ByteArray} {n0 N0 : Nat} {V0 : World} {b3 hi B : Nat} {Ds : List Nat} {V V' : World} {row : Option Nat} (hJ : OwnFrom N0 Jx) (h : TlX Jx f ws line n0 N0 V0 b3 hi Ds V) (hB : N0 ≤ B) (hB2 : hi ≤ B) (hB3 : V0.heap.size ≤ B) (hg : V.grownBy V' row) (hr : ∀ r, row = some r → B ≤ r ∧ ∃ o : Obj, V.heap[r]? = some o ∧ o.isCells = false) : TlX Jx f ws line n0 N0 V0 b3 hi Ds V' := by
  obtain ⟨p', h1, h2⟩ := h.j
  refine ⟨⟨p', ownFrom_le hJ hB _ _ _ _ h1 hg hr, h2⟩, cells_kept hg hr h.x6, h.dm.grown hB2 hg hr, h.dv, ⟨Nat.le_trans h.kf.size hg.size, fun k o hk hc ho => ?_⟩, h.tk.trans ⟨hg.size, fun k cur t fr _ hc => cells_kept hg hr hc⟩⟩
  have h5 := h.kf.same k o hk hc ho
  exact (hg.block k (Array.getElem?_eq_some_iff.1 h5).1 (fun e => by have := (hr k e.symm).1; have := (Array.getElem?_eq_some_iff.1 hc).1; omega)).trans h5
def tw (a : Act) (i : Nat) : Value := a.tmps.getD i undef
theorem keeps_new {N : Nat} {V v : World} {E : Nat} {o o' : Obj} (h : KeepsFrom N V v) (_ : v.heap[E]? = some o) (hE : V.heap.size ≤ E) : KeepsFrom N V (v.putObj E o') :=
  ⟨Nat.le_trans h.size (grownBy_putObj' v E o').size, fun k ob hk hc ho => (World.putObj_heap_other (fun e => by have := (Array.getElem?_eq_some_iff.1 hc).1; omega)).trans (h.same k ob hk hc ho)⟩
def nxW (Z : World) (cb j wb q : Nat) : World := (((((Z.setCell ⟨cb, j * 4, none⟩ (.int .u64 0)).setCell ⟨cb, j * 4 + 1, none⟩ (.int .u64 0)).setCell ⟨cb, j * 4 + 2, none⟩ (.int .u64 0)).setCell ⟨cb, j * 4 + 3, none⟩ (.int .u64 0)).setCell ⟨wb, 1, none⟩ (.int .i64 ((q : Int) + 1)))
theorem tell_next {base : Nat} {f : Bool} {ws : List ByteArray} {line : ByteArray} {T : Pt} {D : List Nat → Prop} {R : List Nat → Nat → Prop} {K : List Nat → Kn} {hb : Nat} {lg : Int} {n l n0 N0 : Nat} {J Jx : List Ev → World → Prop} {B1 YB wb cb m q : Nat} {pre : List Ev} {cs : List z1_S} {Z V0 : World} {b3 hi D' : Nat} {tv : Value} {Ds : List Nat}
    (hA : AH base f ws line T D R K hb lg n l n0 N0 J Jx) (hP : AlP n0 N0 B1 YB wb cb) (h : TlS J n0 N0 l hb B1 YB wb cb m V0 b3 tv hi Ds pre cs q Z) (hm : 0 < m) (hD : hi ≤ D') (hN : N0 ≤ hi) (hK : Z.heap[D']? = some (.deferred (some []))) (hV : V0.heap.size ≤ hi) :
    ∃ hi', hi' = (nxW Z cb (q % m) wb q).heap.size ∧ TlS J n0 N0 l hb B1 YB wb cb m V0 b3 tv hi' (D' :: Ds) pre (cs.set (q % m) 0#256) (q + 1) (nxW Z cb (q % m) wb q) ∧ Z.heap.size ≤ (nxW Z cb (q % m) wb q).heap.size := by
  have hj : q % m < m := Nat.mod_lt _ hm
  obtain ⟨w1, f1⟩ := h.a.w.set hj 0#256
  have e1 : nxW Z cb (q % m) wb q = (set4 Z cb (q % m) 0#256).setCell ⟨wb, 1, none⟩ (.int .i64 ((q : Int) + 1)) := by simp [nxW, set4, wd00]
  rw [e1]
  generalize hZ1 : set4 Z cb (q % m) 0#256 = Z1 at w1 f1 ⊢
  have hle := hA.le
  have hNZ : N0 ≤ Z.heap.size := by have := hP.cb; have := lt_of_heap h.a.w.c; omega
  have F1 : FT N0 tyP Z Z1 := ⟨f1.mono (fun k hk => by subst hk; exact ⟨hP.cb, _, _, h.a.w.c, .inr (.inl rfl)⟩), hNZ⟩
  have hcw : wb ≠ cb := ne_type h.a.w.h h.a.w.c (by decide)
  have F2 : FT N0 tyP Z1 (Z1.setCell ⟨wb, 1, none⟩ (.int .i64 ((q : Int) + 1))) := FT.set (Nat.le_trans hNZ F1.size) w1.h (.inl rfl) hP.wb _
  have F := F1.trans F2
  have kk : ∀ (k : Nat) (cur : Array Value) (t : TypeId), k ≠ cb → k ≠ wb → Z.heap[k]? = some (.cells cur t (0, 0)) → (Z1.setCell ⟨wb, 1, none⟩ (.int .i64 ((q : Int) + 1))).heap[k]? = some (.cells cur t (0, 0)) := fun k cur t n1 n2 hc => (Below.heap_setCell _ _ _ _ n2).trans ((f1.block k (lt_of_heap hc) n1).trans hc)
  have nt : ∀ (k : Nat) (cur : Array Value) (t : TypeId), t ≠ 102 → t ≠ 63 → Z.heap[k]? = some (.cells cur t (0, 0)) → (Z1.setCell ⟨wb, 1, none⟩ (.int .i64 ((q : Int) + 1))).heap[k]? = some (.cells cur t (0, 0)) := fun k cur t n1 n2 hc => kk k cur t (ne_type hc h.a.w.c n2) (ne_type hc h.a.w.h n1) hc
  obtain ⟨b, h6⟩ := h.x6
  refine ⟨_, rfl, ⟨⟨hA.ft _ _ _ h.a.j F, ⟨(heap_set_in w1.h 1 _).trans (by simp), (Below.heap_setCell _ _ _ _ (Ne.symm hcw)).trans w1.c, w1.len⟩, nt _ _ _ (by decide) (by decide) h.a.b1, nt _ _ _ (by decide) (by decide) h.a.yb⟩, nt _ _ _ (by decide) (by decide) h.x3, nt _ _ _ (by decide) (by decide) h.x5, ⟨b, nt _ _ _ (by decide) (by decide) h6⟩, ?_, fun E hE => (List.mem_cons.1 hE).elim (fun e => by rw [e]; exact Nat.le_trans hV hD) (h.dv E), h.tk.trans (F.tkeep (fun k t ht => keepB_P ht)), h.kf.trans (F.keeps _)⟩, F.size⟩
  have hD2 := (F.keeps 0).same D' _ (Nat.zero_le _) hK rfl
  refine ⟨List.nodup_cons.2 ⟨fun e => by have := (h.dm.2 D' e).2.1; omega, h.dm.1⟩, fun E hE => ?_⟩
  rcases List.mem_cons.1 hE with rfl | hE
  · exact ⟨by omega, (Array.getElem?_eq_some_iff.1 hD2).1, hD2⟩
  · obtain ⟨q1, _, q3⟩ := h.dm.2 E hE
    have q4 := (F.keeps 0).same E _ (Nat.zero_le _) q3 rfl
    exact ⟨q1, (Array.getElem?_eq_some_iff.1 q4).1, q4⟩
set_option maxRecDepth 100000 in
set_option maxHeartbeats 4000000 in
theorem tell_in (nn : Nat) (hnn : 3 ≤ nn) {base : Nat} {f : Bool} {ws : List ByteArray} {line : ByteArray} {T : Pt} {D : List Nat → Prop} {R : List Nat → Nat → Prop} {K : List Nat → Kn} {hb : Nat} {lg : Int} {n l n0 N0 : Nat} {J Jx : List Ev → World → Prop} {B1 YB wb cb m nx : Nat} {pre : List Ev} {cs : List z1_S} {V : World}
    (hA : AH base f ws line T D R K hb lg n l n0 N0 J Jx) (hP : AlP n0 N0 B1 YB wb cb) (h : AlS J l hb B1 YB wb cb m pre cs nx V) {i : Nat} (hw : WaitI f ws line i nx m cs) (hi : i ≤ nx + m) (place : Nat) (hm : nx < place → 0 < m) (hm2 : m ≤ 1000000) (hnp : nx ≤ place) (hpl : place ≤ line.size) (hsz : line.size ≤ 140737488355328)
    (hfull : ∀ q k, q < place → Sd f ws line q k → SdE f ws line 0 i q k) (htl : tl pre = allM f ws line nx) (hN : N0 ≤ V.heap.size) (hbs0 : bs pre ≤ 4 * line.size + (tl pre).length + 4) :
    CallsIn Fence.wide nn Tryd.prog 33 #[.pointer (some ⟨wb, 0, none⟩), .int .i64 (place : Int), .func (.func 31) #[] #[.pointer (some ⟨B1, 0, none⟩), .pointer (some ⟨YB, 0, none⟩)]] V (TellR J Jx f ws line n0 N0 l hb B1 YB wb cb m i place pre V) := by
  have h1 : 1 ≤ nn := by omega
  have h2 : 1 ≤ nn - 1 - 1 := by omega
  have hfn : ∀ f, Fence.wide.fn f := fun _ => trivial
  have hmx : Tryd.prog.follows .mixedOrders = true := by kernel_rfl
  have HA := hide hA
  have HPP := hide hP
  have HW := hide hw
  have HF := hide hfull
  have HTL := hide htl
  have HNX := hide hnp
  have HM := hide hm
  have HBS0 := hide hbs0
  have B1' : Below V.heap.size V (V.alloc (.cells #[.pointer (some ⟨wb, 0, none⟩)] 82)) := (Below.refl _ _).alloc (Nat.le_refl _) _
  have X1 := alloc_new V (.cells #[.pointer (some ⟨wb, 0, none⟩)] 82)
  have S1 : (V.alloc (.cells #[.pointer (some ⟨wb, 0, none⟩)] 82)).heap.size = V.heap.size + 1 := by simp
  refine callsIn_of_wp_marks Tryd.func33 rfl trivial ?_ rfl
  simp only [Tryd.ntmps33, List.size_toArray, List.length_cons, List.length_nil, Nat.reduceAdd, Nat.reduceSub, Array.replicate_succ, Array.replicate_zero, List.push_toArray, List.append_toArray, List.nil_append, List.cons_append]
  gi_wp2
  have B2' : Below V.heap.size V (((V.alloc (.cells #[.pointer (some ⟨wb, 0, none⟩)] 82)).alloc (.cells #[.func (.func 31) #[] #[.pointer (some ⟨B1, 0, none⟩), .pointer (some ⟨YB, 0, none⟩)]] 81)).alloc (.cells #[.bool false] 4)) := (B1'.alloc (by simp) _).alloc (by simp; omega) _
  have S0 : Hid (TlS J n0 N0 l hb B1 YB wb cb m V V.heap.size (.func (.func 31) #[] #[.pointer (some ⟨B1, 0, none⟩), .pointer (some ⟨YB, 0, none⟩)]) V.heap.size [] pre cs nx (((V.alloc (.cells #[.pointer (some ⟨wb, 0, none⟩)] 82)).alloc (.cells #[.func (.func 31) #[] #[.pointer (some ⟨B1, 0, none⟩), .pointer (some ⟨YB, 0, none⟩)]] 81)).alloc (.cells #[.bool false] 4))) := hide (by
    have X2 := alloc_new (V.alloc (.cells #[.pointer (some ⟨wb, 0, none⟩)] 82)) (.cells #[.func (.func 31) #[] #[.pointer (some ⟨B1, 0, none⟩), .pointer (some ⟨YB, 0, none⟩)]] 81)
    have X3 := alloc_new ((V.alloc (.cells #[.pointer (some ⟨wb, 0, none⟩)] 82)).alloc (.cells #[.func (.func 31) #[] #[.pointer (some ⟨B1, 0, none⟩), .pointer (some ⟨YB, 0, none⟩)]] 81)) (.cells #[.bool false] 4)
    have Z2 : ((V.alloc (.cells #[.pointer (some ⟨wb, 0, none⟩)] 82)).alloc (.cells #[.func (.func 31) #[] #[.pointer (some ⟨B1, 0, none⟩), .pointer (some ⟨YB, 0, none⟩)]] 81)).heap.size = V.heap.size + 1 + 1 := by simp
    rw [S1] at X2
    rw [Z2] at X3
    refine ⟨h.below HA.out B2', ?_, ?_, ⟨false, X3⟩, ⟨List.nodup_nil, fun D hD => by simp at hD⟩, fun D hD => by simp at hD, TKeep.below B2', keeps_below B2'⟩
    · exact (Below.heap_alloc _ _ _ (by rw [Z2]; omega)).trans ((Below.heap_alloc _ _ _ (by rw [S1]; omega)).trans X1)
    · exact (Below.heap_alloc _ _ _ (by rw [Z2]; omega)).trans X2)
  have HNV := hide hN
  have SZ0 := hide (show V.heap.size ≤ (((V.alloc (.cells #[.pointer (some ⟨wb, 0, none⟩)] 82)).alloc (.cells #[.func (.func 31) #[] #[.pointer (some ⟨B1, 0, none⟩), .pointer (some ⟨YB, 0, none⟩)]] 81)).alloc (.cells #[.bool false] 4)).heap.size from B2'.size)
  clear hA hP h hw hfull htl hnp hm hN B1' X1 S1 B2'
  generalize (((V.alloc (.cells #[.pointer (some ⟨wb, 0, none⟩)] 82)).alloc (.cells #[.func (.func 31) #[] #[.pointer (some ⟨B1, 0, none⟩), .pointer (some ⟨YB, 0, none⟩)]] 81)).alloc (.cells #[.bool false] 4)) = V1 at S0 SZ0 ⊢
  refine wpIn_loop (fun a U => ∃ (pre' : List Ev) (cs' : List z1_S) (q : Nat) (Ds : List Nat), a.tmps = #[.pointer (some ⟨wb, 0, none⟩), .int .i64 (place : Int), .func (.func 31) #[] #[.pointer (some ⟨B1, 0, none⟩), .pointer (some ⟨YB, 0, none⟩)], .pointer (some ⟨V.heap.size, 0, none⟩), tw a 4, .pointer (some ⟨V.heap.size + 1, 0, none⟩), .pointer (some ⟨V.heap.size + 1 + 1, 0, none⟩), tw a 7, tw a 8, tw a 9, tw a 10, tw a 11, tw a 12, tw a 13, tw a 14, tw a 15, tw a 16, tw a 17, tw a 18, tw a 19, tw a 20, tw a 21, tw a 22, tw a 23, tw a 24, tw a 25, tw a 26, tw a 27, tw a 28, tw a 29, tw a 30, tw a 31, tw a 32, tw a 33, tw a 34, tw a 35, tw a 36, tw a 37, tw a 38, tw a 39, tw a 40, tw a 41, tw a 42, tw a 43] ∧ a.defers = Ds.map mkD ∧ TlS J n0 N0 l hb B1 YB wb cb m V V.heap.size (.func (.func 31) #[] #[.pointer (some ⟨B1, 0, none⟩), .pointer (some ⟨YB, 0, none⟩)]) U.heap.size Ds pre' cs' q U ∧ WaitI f ws line i q m cs' ∧ nx ≤ q ∧ q ≤ place ∧ tl pre' = allM f ws line q ∧ bs pre' + (tl pre).length = bs pre + (tl pre').length ∧ V.heap.size ≤ U.heap.size) (fun _ U => place - nxOf wb U) ?_ ?_
  · exact ⟨pre, cs, nx, [], rfl, rfl, ⟨S0.out.a, S0.out.x3, S0.out.x5, S0.out.x6, S0.out.dm.keeps (KeepsFrom.refl _ _) SZ0.out, S0.out.dv, S0.out.tk, S0.out.kf⟩, HW.out, Nat.le_refl _, HNX.out, HTL.out, rfl, SZ0.out⟩
  · clear S0 SZ0 HW HNX
    rintro ⟨tm, ds⟩ U ⟨pre', cs', q, Ds, ha, hd, hS, hw, hq1, hq2, htl, hbs, hsz2⟩
    dsimp only at ha hd
    generalize tw { tmps := tm, defers := ds } = f' at ha
    subst ha hd
    have HS := hide hS
    have HW := hide hw
    have HT := hide htl
    have HBS := hide hbs
    have HZ2 := hide hsz2
    have HQ1 := hide hq1
    have e1 := cell_row hS.a.w.h (i := 1) rfl
    have e3 := cell_row hS.x3 (i := 0) rfl
    have l3 := lt_of_heap hS.x3
    have lw := lt_of_heap hS.a.w.h
    have NXU := hide (show nxOf wb U = q by unfold nxOf; rw [e1]; simp)
    clear hS hw htl hbs hsz2
    by_cases hlt : q < place
    · have i0 : (q : Int) < (place : Int) := by omega
      have hm' : 0 < m := HM.out (by have := HQ1.out; omega)
      obtain ⟨s, hs, hbit⟩ := HW.out q (Nat.le_refl _) (by omega)
      have HSET := hide hs
      have SQ := hide (show ∀ k, s.getLsbD k = true ↔ Sd f ws line q k from fun k => (hbit k).trans ⟨fun h => (sdE_sd h).2, fun h => HF.out q k hlt h⟩)
      have EL := hide (elems_at (f := f) (ws := ws) (line := line) (by have := (mayB_of HA.out.hok).2.2; omega) SQ.out)
      have CC := hide (fun W (h : Below U.heap.size U W) => cell_c (HS.out.a.w.below h) hm' hm2 q)
      clear hs hbit
      gi_upto_region 3 with fail
      refine (wpIn_wide (n := nn)).2 ?_
      refine wp_region_ext (by kernel_rfl) (by kernel_rfl) ?_
      repeat (go_big_quiet_step (first | exact rfl | (go_at_call 44; (with_reducible exact ext_call (CC.out _ (ext_below _))))))
      refine wpQuiet_nil ?_
      intro V5 hw5
      have B5 := hide (ext_of hw5)
      have S5 := hide (HS.out.below HA.out B5.out)
      obtain ⟨d0, d1, d2, d3⟩ := S5.out.a.w.cells HSET.out
      clear hw5 e1 e3 l3 lw CC
      have AC := hide (fun W => z1_all_any s W)
      have B6 : Below V5.heap.size V5 (V5.alloc (.cells #[.int .u64 (z1_wd s 0), .int .u64 (z1_wd s 1), .int .u64 (z1_wd s 2), .int .u64 (z1_wd s 3)] 63)) := (Below.refl _ _).alloc (Nat.le_refl _) _
      have X6 := hide (z1_SetAt.new V5 s)
      have S6 := hide (S5.out.below HA.out B6)
      have Z6 := hide (show V.heap.size ≤ (V5.alloc (.cells #[.int .u64 (z1_wd s 0), .int .u64 (z1_wd s 1), .int .u64 (z1_wd s 2), .int .u64 (z1_wd s 3)] 63)).heap.size ∧ U.heap.size ≤ (V5.alloc (.cells #[.int .u64 (z1_wd s 0), .int .u64 (z1_wd s 1), .int .u64 (z1_wd s 2), .int .u64 (z1_wd s 3)] 63)).heap.size ∧ N0 ≤ V5.heap.size from ⟨Nat.le_trans HZ2.out (Nat.le_trans B5.out.size B6.size), Nat.le_trans B5.out.size B6.size, Nat.le_trans HNV.out (Nat.le_trans HZ2.out B5.out.size)⟩)
      clear B6
      gi_wp2_with (gi_at_call 45; refine (callsIn_wide.2 (AC.out _)).mono ?_; rintro e w6 ⟨rfl, h6⟩; subst w6)
      generalize (V5.alloc (.cells #[.int .u64 (z1_wd s 0), .int .u64 (z1_wd s 1), .int .u64 (z1_wd s 2), .int .u64 (z1_wd s 3)] 63)) = W6 at X6 S6 Z6 ⊢
      clear d0 d1 d2 d3
      have TL := sets_tells (nn - 1) (by omega) X6.out
      refine range_told6 (α := z1_B8) h1 (gf := 54) (lb := #[.pointer (some ⟨V5.heap.size, 0, none⟩)]) rfl (enters_of Tryd.func54 (by kernel_rfl) rfl) (encs := encB) (fun _ => rfl) TL
        (fun pre6 Z => TlS J n0 N0 l hb B1 YB wb cb m V V.heap.size (.func (.func 31) #[] #[.pointer (some ⟨B1, 0, none⟩), .pointer (some ⟨YB, 0, none⟩)]) W6.heap.size Ds (pre' ++ evs q pre6) cs' q Z) (fun pre6 x Z => TlS J n0 N0 l hb B1 YB wb cb m V V.heap.size (.func (.func 31) #[] #[.pointer (some ⟨B1, 0, none⟩), .pointer (some ⟨YB, 0, none⟩)]) W6.heap.size Ds (pre' ++ evs q pre6) cs' q Z ∧ pre6 ++ [x] <+: z1_elems s) (fun c _ Z => c = .ret ∧ TlX Jx f ws line n0 N0 V V.heap.size W6.heap.size Ds Z)
        (fun pre6 A A' row hi hg hr => TlS.grown HA.out hi (Nat.le_trans HNV.out Z6.out.1) (Nat.le_refl _) Z6.out.1 hg hr) (fun pre6 x => ?_) (fun c pre6 A A' row hi hg hr => ⟨hi.1, TlX.grown HA.out.ownx hi.2 (Nat.le_trans HNV.out Z6.out.1) (Nat.le_refl _) Z6.out.1 hg hr⟩) (fun pre6 V h => (HA.out.inv _ _ h.a.j).2) (fun pre6 A B hi hf => hi.below HA.out ⟨hf.fr.os, hf.fr.tape, hf.fr.output, hf.fr.size, fun k hk => hf.fr.block k hk (fun ⟨_, _, _, _, q⟩ => q)⟩) (fun pre6 x V0 V ht => CellsOnly.below ht.1) (fun pre6 x V0 V hi ht => ⟨hi.below HA.out ht.1, ht.2⟩) (by simpa [evs] using (show TlS J n0 N0 l hb B1 YB wb cb m V V.heap.size (.func (.func 31) #[] #[.pointer (some ⟨B1, 0, none⟩), .pointer (some ⟨YB, 0, none⟩)]) W6.heap.size Ds pre' cs' q W6 from ⟨S6.out.a, S6.out.x3, S6.out.x5, S6.out.x6, S6.out.dm.keeps (KeepsFrom.refl _ _) Z6.out.2.1, S6.out.dv, S6.out.tk, S6.out.kf⟩))
        (fun x => { tmps := #[.pointer (some ⟨wb, 0, none⟩), .int .i64 (place : Int), .func (.func 31) #[] #[.pointer (some ⟨B1, 0, none⟩), .pointer (some ⟨YB, 0, none⟩)], .pointer (some ⟨V.heap.size, 0, none⟩), f' 4, .pointer (some ⟨V.heap.size + 1, 0, none⟩), .pointer (some ⟨V.heap.size + 1 + 1, 0, none⟩), .pointer (some ⟨cb, q % m * 4, none⟩), .int .i64 x.1, .pointer (some ⟨wb, 0, none⟩), .pointer (some ⟨wb, 0, none⟩), .pointer (some ⟨wb, 1, none⟩), .int .i64 (q : Int), .int .i64 (place : Int), .bool true, f' 15, f' 16, f' 17, f' 18, f' 19, f' 20, f' 21, .pointer (some ⟨wb, 0, none⟩), .pointer (some ⟨wb, 0, none⟩), .pointer (some ⟨wb, 0, none⟩), .pointer (some ⟨wb, 1, none⟩), .int .i64 (q : Int), .pointer (some ⟨cb, q % m * 4, none⟩), .pointer (some ⟨cb, q % m * 4, none⟩), .pointer (some ⟨cb, q % m * 4, none⟩), .agg #[.int .u64 (z1_wd s 0), .int .u64 (z1_wd s 1), .int .u64 (z1_wd s 2), .int .u64 (z1_wd s 3)], .func (.func 54) #[] #[.pointer (some ⟨V5.heap.size, 0, none⟩)], .int .i64 x.1, f' 33, f' 34, f' 35, f' 36, f' 37, f' 38, f' 39, f' 40, f' 41, f' 42, f' 43], defers := [] }) ?_ ?_ ?_ ?_
      · exact fun _ A A' row h hg hr => ⟨TlS.grown HA.out h.1 (Nat.le_trans HNV.out Z6.out.1) (Nat.le_refl _) Z6.out.1 hg hr, h.2⟩
      · intro l' x Z K' hK
        simp only [encB]
        gi_wp2
        exact hK
      · rintro l' pre6 x Z ⟨hI, hpx⟩
        obtain ⟨x, hx0, hx1⟩ := x
        obtain ⟨xn, rfl⟩ : ∃ xn : Nat, x = (xn : Int) := ⟨x.toNat, by omega⟩
        dsimp only
        have I1 := hide hI
        have PX := hide hpx
        have OK := hide (show OkB f ws line (pre' ++ evs q pre6) (q, xn) by
          unfold OkB
          refine ⟨?_, by have h7 := HBS.out; rw [tl_app, bs_app, bs_evs, tl_evs, List.length_append, List.length_map]; have := HBS0.out; omega⟩
          rw [tl_app, tl_evs, HT.out]
          refine List.IsPrefix.trans ?_ (allM_le (show q + 1 ≤ line.size by omega))
          rw [allM_next, List.append_assoc, List.prefix_append_right_inj, ← EL.out]
          have h5 := hpx.map (fun x : z1_B8 => ((q, x.1.toNat) : Nat × Nat))
          have h6 : ((z1_elems s).map fun x => x.1.toNat).map (fun k => (q, k)) = (z1_elems s).map fun x : z1_B8 => ((q, x.1.toNat) : Nat × Nat) := by rw [List.map_map]; rfl
          rw [h6]
          rw [List.map_append] at h5
          exact h5)
        have TC := hide (fun W (h : Below Z.heap.size Z W) => told_c HA.out HPP.out ((hI.below HA.out h).a) OK.out)
        obtain ⟨e1, e2⟩ := And.intro (cell_row hI.a.w.h (i := 1) rfl) (cell_row hI.x3 (i := 0) rfl)
        have e5 := cell_row hI.x5 (i := 0) rfl
        have ZZ := hide (show Z.drew.cell? ⟨V.heap.size + 1, 0, none⟩ = some (.func (.func 31) #[] #[.pointer (some ⟨B1, 0, none⟩), .pointer (some ⟨YB, 0, none⟩)]) ∧ Z.drew.cell? ⟨V.heap.size, 0, none⟩ = some (.pointer (some ⟨wb, 0, none⟩)) ∧ Z.drew.cell? ⟨wb, 1, none⟩ = some (.int .i64 (q : Int)) from ⟨e5, e2, e1⟩)
        clear hI hpx e1 e2 e5
        gi_upto_region 6 with fail
        refine wpIn_region_held (S := fun w' => w'.cell? ⟨V.heap.size + 1, 0, none⟩ = some (.func (.func 31) #[] #[.pointer (some ⟨B1, 0, none⟩), .pointer (some ⟨YB, 0, none⟩)]) ∧ w'.cell? ⟨V.heap.size, 0, none⟩ = some (.pointer (some ⟨wb, 0, none⟩)) ∧ w'.cell? ⟨wb, 1, none⟩ = some (.int .i64 (q : Int))) (by kernel_rfl) (by kernel_rfl) (fun ⟨_, _, h⟩ => h) ZZ.out ?_
        intro hS0
        refine wpAnyH_take (i := 0) (oi := _) (v := ?_) rfl (by kernel_rfl) (by kernel_rfl) (by kernel_rfl) (fun _ _ _ h => h) (Or.inl ⟨by rfl, ?_⟩) (by assumption) ?_
        rotate_left
        · intro wz hSw
          obtain ⟨hs0, hs1, hs2⟩ := hSw
          go_simp
          try with_reducible rfl
        dsimp only [Act.put, List.getElem_toArray, List.getElem_cons_zero, List.getElem_cons_succ]
        simp only [List.setIfInBounds_toArray, List.set_cons_zero, List.set_cons_succ]
        refine wpAnyH_take (i := 1) (oi := _) (v := ?_) rfl (by kernel_rfl) (by kernel_rfl) (by kernel_rfl) (fun _ _ _ h => h) (Or.inl ⟨by rfl, ?_⟩) (by assumption) ?_
        rotate_left
        · intro wz hSw
          obtain ⟨hs0, hs1, hs2⟩ := hSw
          go_simp
          try with_reducible rfl
        dsimp only [Act.put, List.getElem_toArray, List.getElem_cons_zero, List.getElem_cons_succ]
        simp only [List.setIfInBounds_toArray, List.set_cons_zero, List.set_cons_succ]
        refine wpAnyH_take (i := 2) (oi := _) (v := ?_) rfl (by kernel_rfl) (by kernel_rfl) (by kernel_rfl) (fun _ _ _ h => h) (Or.inl ⟨by rfl, ?_⟩) (by assumption) ?_
        rotate_left
        · intro wz hSw
          obtain ⟨hs0, hs1, hs2⟩ := hSw
          go_simp
          try with_reducible rfl
        dsimp only [Act.put, List.getElem_toArray, List.getElem_cons_zero, List.getElem_cons_succ]
        simp only [List.setIfInBounds_toArray, List.set_cons_zero, List.set_cons_succ]
        refine wpAnyH_take (i := 3) (oi := _) (v := ?_) rfl (by kernel_rfl) (by kernel_rfl) (by kernel_rfl) (fun _ _ _ h => h) (Or.inl ⟨by rfl, ?_⟩) (by assumption) ?_
        rotate_left
        · intro wz hSw
          obtain ⟨hs0, hs1, hs2⟩ := hSw
          go_simp
          try with_reducible rfl
        dsimp only [Act.put, List.getElem_toArray, List.getElem_cons_zero, List.getElem_cons_succ]
        simp only [List.setIfInBounds_toArray, List.set_cons_zero, List.set_cons_succ]
        refine wpAnyH_take (i := 4) (oi := _) (v := ?_) rfl (by kernel_rfl) (by kernel_rfl) (by kernel_rfl) (fun _ _ _ h => h) (Or.inl ⟨by rfl, ?_⟩) (by assumption) ?_
        rotate_left
        · intro wz hSw
          obtain ⟨hs0, hs1, hs2⟩ := hSw
          go_simp
          try with_reducible rfl
        dsimp only [Act.put, List.getElem_toArray, List.getElem_cons_zero, List.getElem_cons_succ]
        simp only [List.setIfInBounds_toArray, List.set_cons_zero, List.set_cons_succ]
        refine wpAnyH_take (i := 5) (oi := _) (v := ?_) rfl (by kernel_rfl) (by kernel_rfl) (by kernel_rfl) (fun _ _ _ h => h) (Or.inl ⟨by rfl, ?_⟩) (by assumption) ?_
        rotate_left
        · intro wz hSw
          obtain ⟨hs0, hs1, hs2⟩ := hSw
          go_simp
          try with_reducible rfl
        dsimp only [Act.put, List.getElem_toArray, List.getElem_cons_zero, List.getElem_cons_succ]
        simp only [List.setIfInBounds_toArray, List.set_cons_zero, List.set_cons_succ]
        refine wpAnyH_ready (rs := [6]) (by kernel_rfl) (by simp) ?_
        refine AllReadyH.cons rfl (fun KK hKK => ?_) AllReadyH.nil
        go_simp
        go_at_call 31
        refine (TC.out Z.drew (Below.refl _ _).drew).mono ?_
        rintro e W3 ⟨k1, k2, k3⟩
        have SD := hide (I1.out.below HA.out (Below.refl Z.heap.size Z).drew)
        have K1 := hide k1
        have K2 := hide k2
        have hle := HA.out.le
        have hwb := HPP.out.wb
        have hN := HNV.out
        have ST3 := hide (show W3.cell? ⟨V.heap.size + 1, 0, none⟩ = some (.func (.func 31) #[] #[.pointer (some ⟨B1, 0, none⟩), .pointer (some ⟨YB, 0, none⟩)]) ∧ W3.cell? ⟨V.heap.size, 0, none⟩ = some (.pointer (some ⟨wb, 0, none⟩)) ∧ W3.cell? ⟨wb, 1, none⟩ = some (.int .i64 (q : Int)) from
          ⟨cell_row (k2.same _ _ _ _ (.inl ⟨by omega, by unfold tyA; simp⟩) SD.out.x5) (i := 0) rfl, cell_row (k2.same _ _ _ _ (.inl ⟨by omega, by unfold tyA; simp⟩) SD.out.x3) (i := 0) rfl, cell_row (k2.same _ _ _ _ (.inl ⟨by omega, by unfold tyA; simp⟩) SD.out.a.w.h) (i := 1) rfl⟩)
        have KZ := hide ((keeps_below (B := N0) (Below.refl Z.heap.size Z).drew).trans k1)
        have BS6 := hide (show V.heap.size + 1 + 1 < V5.heap.size ∨ True from .inr trivial)
        clear hle hwb hN k1 k2
        rcases k3 with ⟨rfl, k3⟩ | ⟨rfl, k3⟩
        · have A3 := hide k3
          clear k3
          refine hKK.out _ _ ST3.out (fun hS1 => ?_)
          clear hKK KK hS0
          refine wpAnyH_take (i := 7) (oi := _) (v := ?_) rfl (by kernel_rfl) (by kernel_rfl) (by kernel_rfl) (fun _ _ _ h => h) (Or.inl ⟨by rfl, ?_⟩) (by assumption) ?_
          rotate_left
          · intro wz hSw
            obtain ⟨hs0, hs1, hs2⟩ := hSw
            go_simp
            try with_reducible rfl
          dsimp only [Act.put, List.getElem_toArray, List.getElem_cons_zero, List.getElem_cons_succ]
          simp only [List.setIfInBounds_toArray, List.set_cons_zero, List.set_cons_succ]
          refine wpAnyH_done (by kernel_rfl) ?_ _
          have FIN := hide (show KeepsFrom W6.heap.size Z W3 ∧ TKeep (fun k t => k = V5.heap.size ∧ t = 63) Z W3 ∧ TlS J n0 N0 l hb B1 YB wb cb m V V.heap.size (.func (.func 31) #[] #[.pointer (some ⟨B1, 0, none⟩), .pointer (some ⟨YB, 0, none⟩)]) W6.heap.size Ds (pre' ++ evs q (pre6 ++ [⟨(xn : Int), hx0, hx1⟩])) cs' q W3 from by
            refine ⟨keeps_le KZ.out (Nat.le_trans HNV.out Z6.out.1), ?_, ?_⟩
            · exact (TKeep.below (Below.refl Z.heap.size Z).drew).trans (K2.out.mono (fun k t ⟨q1, q2⟩ => .inl ⟨by subst q1; exact Nat.le_trans HA.out.le Z6.out.2.2, by subst q2; unfold tyA; simp⟩))
            · have h7 := SD.out.round (pre' := pre' ++ evs q pre6 ++ [.inr 1] ++ [.inl (q, xn)]) HA.out HNV.out A3.out K2.out K1.out
              have e7 : pre' ++ evs q (pre6 ++ [⟨(xn : Int), hx0, hx1⟩]) = pre' ++ evs q pre6 ++ [.inr 1] ++ [.inl (q, xn)] := by simp [evs]
              rw [e7]; exact h7)
          gi_wp2
          exact FIN.out
        · have J3 := hide k3
          clear k3
          refine hKK.out _ _ ST3.out (fun hS1 => ?_)
          clear hKK KK hS0
          refine wpAnyH_take (i := 7) (oi := _) (v := ?_) rfl (by kernel_rfl) (by kernel_rfl) (by kernel_rfl) (fun _ _ _ h => h) (Or.inl ⟨by rfl, ?_⟩) (by assumption) ?_
          rotate_left
          · intro wz hSw
            obtain ⟨hs0, hs1, hs2⟩ := hSw
            go_simp
            try with_reducible rfl
          dsimp only [Act.put, List.getElem_toArray, List.getElem_cons_zero, List.getElem_cons_succ]
          simp only [List.setIfInBounds_toArray, List.set_cons_zero, List.set_cons_succ]
          refine wpAnyH_done (by kernel_rfl) ?_ _
          obtain ⟨b6, h6⟩ := SD.out.x6
          have h6' := K2.out.same _ _ _ _ (.inl ⟨by have := HA.out.le; have := HNV.out; omega, by unfold tyA; simp⟩) h6
          have c6 := cell_row h6' (i := 0) rfl
          have f6 := frz_row h6' 0
          have FIN := hide (show KeepsFrom W6.heap.size Z (W3.setCell ⟨V.heap.size + 1 + 1, 0, none⟩ (.bool false)) ∧ (Code.ret = .ret ∧ TlX Jx f ws line n0 N0 V V.heap.size W6.heap.size Ds (W3.setCell ⟨V.heap.size + 1 + 1, 0, none⟩ (.bool false))) from by
            have hC : CellsOnly W3 (W3.setCell ⟨V.heap.size + 1 + 1, 0, none⟩ (.bool false)) := cellsOnly_set h6' _
            have hsz : W3.heap.size ≤ (W3.setCell ⟨V.heap.size + 1 + 1, 0, none⟩ (.bool false)).heap.size := by simp [World.setCell]
            refine ⟨(keeps_le KZ.out (Nat.le_trans HNV.out Z6.out.1)).trans (hC.keeps hsz _), rfl, ⟨_, HA.out.ftx _ _ _ J3.out (FT.set (by have := K1.out.size; have := HNV.out; have h9 := (Array.getElem?_eq_some_iff.1 h6').1; omega) h6' (.inr (.inr rfl)) (by have := HNV.out; omega) _), ?_⟩, (heap_set_in h6' 0 _).trans (by simp), (SD.out.dm.keeps K1.out (Nat.le_refl _)).keeps (hC.keeps hsz _) (Nat.le_refl _), SD.out.dv, (SD.out.kf.trans K1.out).trans (hC.keeps hsz _), (SD.out.tk.trans (K2.out.mono (fun k t q => keepB_A q))).trans ((FT.set (τ := tyP) (by have := K1.out.size; have := HNV.out; have h9 := (Array.getElem?_eq_some_iff.1 h6').1; omega : N0 ≤ W3.heap.size) h6' (.inr (.inr rfl)) (by have := HNV.out; omega) (.bool false) (j := 0)).tkeep (fun k t ht => keepB_P ht))⟩
            have h7 := OK.out.1
            rw [tl_inl, tl_inr]
            exact h7)
          clear h6 h6' ST3 hS1
          gi_wp2
          exact ⟨FIN.out.1, rfl, FIN.out.2.2⟩
      · rintro D' xs Z hD' hS hI hK
        subst hS
        have I1 := hide hI
        have K1 := hide hK
        have HD' := hide hD'
        have ZS := hide (show V.heap.size ≤ Z.heap.size from by have := (Array.getElem?_eq_some_iff.1 hK).1; have := Z6.out.1; omega)
        have NW := hide (tell_next HA.out HPP.out hI hm' hD' (Nat.le_trans HNV.out Z6.out.1) hK Z6.out.1)
        obtain ⟨d0, d1, d2, d3⟩ := hI.a.w.cells HSET.out
        have f0 := frz_row hI.a.w.c (q % m * 4)
        have f1 := frz_row hI.a.w.c (q % m * 4 + 1)
        have f2 := frz_row hI.a.w.c (q % m * 4 + 2)
        have f3 := frz_row hI.a.w.c (q % m * 4 + 3)
        have e1 := cell_row hI.a.w.h (i := 1) rfl
        have fe1 := frz_row hI.a.w.h 1
        have e3 := cell_row hI.x3 (i := 0) rfl
        have n1 : wb ≠ cb := ne_type hI.a.w.h hI.a.w.c (by decide)
        have n2 : V.heap.size ≠ cb := ne_type hI.x3 hI.a.w.c (by decide)
        have wq : IntKind.wrap .i64 ((q : Int) + 1) = (q : Int) + 1 := wrap_small _ (by omega) (by omega)
        have TLN := hide (show tl (pre' ++ evs q (z1_elems s)) = allM f ws line (q + 1) by
          rw [tl_app, tl_evs, HT.out, allM_next, ← EL.out, List.map_map]; rfl)
        have BSN := hide (show bs (pre' ++ evs q (z1_elems s)) + (tl pre).length = bs pre + (tl (pre' ++ evs q (z1_elems s))).length by
          have h7 := HBS.out
          rw [tl_app, bs_app, bs_evs, tl_evs, List.length_append, List.length_map]; omega)
        have WN := hide (HW.out.next HA.out.hok (by have := HQ1.out; omega) hm' hI.a.w.len)
        clear hI hK hD' TL
        gi_wp2
        obtain ⟨hi', rfl, N1, N2⟩ := NW.out
        refine ⟨⟨pre' ++ evs q (z1_elems s), _, q + 1, D' :: Ds, rfl, rfl, N1, WN.out, by have := HQ1.out; omega, by omega, TLN.out, BSN.out, Nat.le_trans ZS.out N2⟩, ?_⟩
        have e9 : nxOf wb (nxW Z cb (q % m) wb q) = q + 1 := by
          have h9 := cell_row N1.a.w.h (i := 1) rfl
          unfold nxOf; rw [h9]; simp
        show place - nxOf wb (nxW Z cb (q % m) wb q) < place - nxOf wb U
        rw [e9, NXU.out]
        omega
      · rintro D' c pre6 Z hD' hSp ⟨rfl, hX⟩ hK
        have HX := hide hX
        have HK := hide hK
        have HDD := hide hD'
        clear hX hK hD' TL
        gi_wp2
        show LeavesInM _ _ _ _ _ _ (mkD D' :: Ds.map mkD) .returning Z
        rw [← List.map_cons]
        refine leaves_marks (fun v => (∃ p', Jx p' v ∧ tl p' <+: allM f ws line line.size) ∧ v.heap[V.heap.size + 1 + 1]? = some (.cells #[.bool false] 4 (0, 0)) ∧ KeepsFrom N0 V v ∧ TKeep (keepB n0) V v) (D' :: Ds) Z (List.nodup_cons.2 ⟨fun e => by have := (HX.out.dm.2 D' e).2.1; have := HDD.out; omega, HX.out.dm.1⟩) (fun E hE => ?_) (fun v E hE hq hh => ?_) ⟨HX.out.j, HX.out.x6, HX.out.kf, HX.out.tk⟩ (fun v hq => ?_)
        · rcases List.mem_cons.1 hE with rfl | hE
          · exact HK.out
          · exact (HX.out.dm.2 E hE).2.2
        · obtain ⟨⟨p', q1, q2⟩, q3, q4, q5⟩ := hq
          have hEV : V.heap.size ≤ E := by
            rcases List.mem_cons.1 hE with rfl | hE
            · exact Nat.le_trans Z6.out.1 HDD.out
            · exact HX.out.dv E hE
          refine ⟨⟨p', HA.out.ownx.putObj _ q1 (Nat.le_trans HNV.out hEV) hh rfl, q2⟩, (World.putObj_heap_other (fun e => by rw [e, hh] at q3; cases q3)).trans q3, keeps_new q4 hh hEV, q5.trans (TKeep.put _ hh rfl)⟩
        · obtain ⟨⟨p', q1, q2⟩, q3, q4, q5⟩ := hq
          have c6 := cell_row q3 (i := 0) rfl
          exact ⟨.bool false, by simp [results, Tryd.results33, go_sem, c6], q4, .inr ⟨rfl, q5, p', q1, q2⟩⟩
    · have i0 : ¬ (q : Int) < (place : Int) := by omega
      have hqe : q = place := by omega
      obtain ⟨b6, h6⟩ := HS.out.x6
      have c6 := cell_row h6 (i := 0) rfl
      have f6 := frz_row h6 0
      have W6' := (heap_set_in h6 0 (.bool true)).trans (show _ = some (.cells #[.bool true] 4 (0, 0)) by simp)
      have hC : CellsOnly U (U.setCell ⟨V.heap.size + 1 + 1, 0, none⟩ (.bool true)) := cellsOnly_set h6 _
      have hz : U.heap.size ≤ (U.setCell ⟨V.heap.size + 1 + 1, 0, none⟩ (.bool true)).heap.size := by simp [World.setCell]
      have hNU : N0 ≤ U.heap.size := Nat.le_trans HNV.out HZ2.out
      have F1 : FT N0 tyP U (U.setCell ⟨V.heap.size + 1 + 1, 0, none⟩ (.bool true)) := FT.set hNU h6 (.inr (.inr rfl)) (by have := HNV.out; omega) _
      have kk : ∀ (k : Nat) (cur : Array Value) (t : TypeId), t ≠ 4 → U.heap[k]? = some (.cells cur t (0, 0)) → (U.setCell ⟨V.heap.size + 1 + 1, 0, none⟩ (.bool true)).heap[k]? = some (.cells cur t (0, 0)) := fun k cur t ht hc => (Below.heap_setCell _ _ _ _ (ne_type hc h6 ht)).trans hc
      have AL := hide (show AlS J l hb B1 YB wb cb m pre' cs' place (U.setCell ⟨V.heap.size + 1 + 1, 0, none⟩ (.bool true)) from by
        have h9 := HS.out.a
        rw [hqe] at h9
        exact ⟨HA.out.ft _ _ _ h9.j F1, ⟨kk _ _ _ (by decide) h9.w.h, kk _ _ _ (by decide) h9.w.c, h9.w.len⟩, kk _ _ _ (by decide) h9.b1, kk _ _ _ (by decide) h9.yb⟩)
      have WT := hide (show WaitI f ws line i place m cs' by rw [← hqe]; exact HW.out)
      have TT := hide (show tl pre' = allM f ws line place by rw [← hqe]; exact HT.out)
      have KF := hide (HS.out.kf.trans (hC.keeps hz _))
      have TK := hide (HS.out.tk.trans (F1.tkeep (N := keepB n0) (fun k t ht => keepB_P ht)))
      have DM := hide (HS.out.dm.keeps (hC.keeps hz _) (Nat.le_refl _))
      have C6 := hide W6'
      clear W6' hC hz F1 kk hqe h6
      gi_wp2
      generalize (U.setCell ⟨V.heap.size + 1 + 1, 0, none⟩ (.bool true)) = U2 at AL KF TK DM C6 ⊢
      show LeavesInM _ _ _ _ _ _ (Ds.map mkD) .returning U2
      refine leaves_marks (fun v => AlS J l hb B1 YB wb cb m pre' cs' place v ∧ v.heap[V.heap.size + 1 + 1]? = some (.cells #[.bool true] 4 (0, 0)) ∧ KeepsFrom N0 V v ∧ TKeep (keepB n0) V v) Ds U2 DM.out.1 (fun E hE => (DM.out.2 E hE).2.2) (fun v E hE hq hh => ?_) ⟨AL.out, C6.out, KF.out, TK.out⟩ (fun v hq => ?_)
      · obtain ⟨q1, q2, q3, q4⟩ := hq
        have hEV : V.heap.size ≤ E := HS.out.dv E hE
        exact ⟨q1.grown HA.out (Nat.le_trans HNV.out hEV) (grownBy_putObj' v E _) (fun r e => by cases e; exact ⟨Nat.le_refl _, _, hh, rfl⟩), (World.putObj_heap_other (fun e => by rw [e, hh] at q2; cases q2)).trans q2, keeps_new q3 hh hEV, q4.trans (TKeep.put _ hh rfl)⟩
      · obtain ⟨q1, q2, q3, q4⟩ := hq
        have c7 := cell_row q2 (i := 0) rfl
        exact ⟨.bool true, by simp [results, Tryd.results33, go_sem, c7], q3, .inl ⟨rfl, q4, pre', cs', q1, WT.out, TT.out, HBS.out⟩⟩
end Go.Proofs.YtaikcnoiaaiopaaDoor
