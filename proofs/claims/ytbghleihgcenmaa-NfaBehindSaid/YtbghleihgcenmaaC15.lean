/-
  Parts of the proof.
-/
import Derived.Test.YtbghleihgcenmaaC1
import Derived.Lib.Builder
import Derived.Lib.AppendStr
import Derived.Lib.UnsafeStr
import Derived.Lib.OthersKept
import Derived.Lib.FrozenHead
import Derived.Laws.Externs
import Derived.Shelf.RegionOpenPlain
import Derived.Test.YtbghleihgcenmaaC8
set_option linter.unusedSimpArgs false
namespace Go.Proofs.Ytbghleihgcenmaa
open Go Go.RowKit
theorem size_u8 : (Try.prog.info? 5).map (fun i => (i.zero, i.size, i.bytes)) = some (some (.int .u8 0), 1, 1) := by kernel_rfl
theorem und_str : Try.prog.underlying 9 = some .string := by kernel_rfl
theorem und_un : Try.prog.underlying 96 = some .unsafePointer := by kernel_rfl
def txt (l : List UInt8) : ByteArray := ⟨l.toArray⟩
theorem txt_size (l : List UInt8) : (txt l).size = l.length := by simp [txt, ByteArray.size]
theorem txt_cells (l : List UInt8) : Lib.strCells (txt l) = Lib.byteCells l := rfl
abbrev OB (base : Nat) (w : World) (v : Value) (l : List UInt8) : Prop := w.ownsRow base 5 1 v l.length (Lib.byteCells l)
abbrev Oth (b : Nat) (w w' : World) : Prop := Lib.OthersKept 5 (some b) w w'
def BL (T : TypeId) (base : Nat) (w : World) (b : Nat) (pre : List Value) (l : List UInt8) : Prop :=
  ∃ p v, w.heap[b]? = some (.cells (pre ++ [p, v]).toArray T (0, 0)) ∧ (p = .pointer none ∨ p = .pointer (some ⟨b, pre.length, none⟩)) ∧ OB base w v l ∧ (l = [] → v = .slice none 0 0) ∧ base ≤ b
theorem pre_at {w : World} {b : Nat} {T : TypeId} {pre : List Value} {p v : Value} (h : w.heap[b]? = some (.cells (pre ++ [p, v]).toArray T (0, 0))) :
    w.cell? ⟨b, pre.length, none⟩ = some p ∧ w.cell? ⟨b, pre.length + 1, none⟩ = some v ∧ ∀ i, w.frozen? ⟨b, i, none⟩ = false :=
  ⟨cell_row h (by simp), cell_row h (by simp), frz_row h⟩
theorem pre_set {w : World} {b : Nat} {T : TypeId} {pre : List Value} {p v : Value} (h : w.heap[b]? = some (.cells (pre ++ [p, v]).toArray T (0, 0))) (q : Value) :
    (w.setCell ⟨b, pre.length, none⟩ q).heap[b]? = some (.cells (pre ++ [q, v]).toArray T (0, 0)) ∧ (w.setCell ⟨b, pre.length + 1, none⟩ q).heap[b]? = some (.cells (pre ++ [p, q]).toArray T (0, 0)) := by
  refine ⟨(heap_set_in h _ _).trans ?_, (heap_set_in h _ _).trans ?_⟩
  · congr 2
    apply Array.ext'
    simp
  · congr 2
    apply Array.ext'
    simp
theorem ob_not {base : Nat} {w : World} {v : Value} {l : List UInt8} {b : Nat} {cs : Array Value} {T : TypeId} (h : OB base w v l) (hb : w.heap[b]? = some (.cells cs T (0, 0))) (hT : T ≠ 5) : v.ownBlock ≠ some b := ownsRow_not h hb hT
theorem ob_set {base : Nat} {w : World} {v : Value} {l : List UInt8} {b : Nat} (h : OB base w v l) (hn : v.ownBlock ≠ some b) (i : Nat) (q : Value) : OB base (w.setCell ⟨b, i, none⟩ q) v l :=
  ownsRow_fr h ((Fr.refl (fun z => z = b) w).setCell (p := ⟨b, i, none⟩) rfl q) (fun k hk e => hn (by rw [hk, e]))
def CkPost (T : TypeId) (base : Nat) (w : World) (b : Nat) (pre : List Value) (l : List UInt8) (e : Ending) (w' : World) : Prop :=
  e = .returned (.tuple #[]) ∧ (∃ v, w'.heap[b]? = some (.cells (pre ++ [.pointer (some ⟨b, pre.length, none⟩), v]).toArray T (0, 0)) ∧ OB base w' v l ∧ (l = [] → v = .slice none 0 0) ∧ base ≤ b) ∧ Below base w w' ∧ Oth b w w'
def WPost (T : TypeId) (base : Nat) (w : World) (b : Nat) (pre : List Value) (l : List UInt8) (w' : World) : Prop := BL T base w' b pre l ∧ Below base w w' ∧ Oth b w w'
theorem news1b (W : World) (a : Value) (t : TypeId) : ∀ (j : Nat) (u : Value), [a][j]? = some u → (W.alloc (.cells #[a] t)).cell? ((⟨W.heap.size, 0, none⟩ : Addr).add j) = some u := by
  intro j u h
  match j, h with
  | 0, h =>
    simp at h
    subst h
    have e : (⟨W.heap.size, 0, none⟩ : Addr).add 0 = ⟨W.heap.size, 0, none⟩ := by simp [Addr.add]
    rw [e]
    exact cell_row (alloc_new W _) rfl
end Go.Proofs.Ytbghleihgcenmaa
namespace Go.Proofs.Ytbghleihgcenmaa
open Go Go.RowKit
attribute [local go_sem] Oper.semAt_some ext_cell
def shW (o : Int) : List UInt8 :=
  if o = 1 then [98, 121, 116, 101] else if o = 2 then [115, 112, 108, 105, 116] else if o = 3 then [106, 117, 109, 112] else if o = 4 then [98, 101, 103, 105, 110] else if o = 5 then [101, 110, 100] else if o = 6 then [111, 112, 101, 110] else if o = 7 then [99, 108, 111, 115, 101] else if o = 8 then [98, 97, 99, 107] else if o = 9 then [122, 101, 114, 111] else if o = 10 then [116, 117, 114, 110] else if o = 11 then [109, 97, 116, 99, 104] else []
def shT (o : Int) : Int := if o = 1 then 65 else if o = 2 then 6 else if o = 3 then 2 else if o = 4 then 64 else if o = 5 then 64 else if o = 6 then 72 else if o = 7 then 72 else if o = 8 then 72 else if o = 9 then 80 else if o = 10 then 54 else 0
def trs : List Int := [65, 6, 2, 64, 72, 80, 54, 0]
theorem shT_mem (o : Int) : shT o ∈ trs := by
  unfold shT
  repeat' split
  all_goals decide
set_option maxRecDepth 100000 in
set_option maxHeartbeats 4000000 in
theorem shape_c (o : Int) (w : World) : Calls Try.prog 31 #[.int .i64 o] w fun e w' => e = .returned (.tuple #[.string (txt (shW o)), .int .i64 (shT o)]) ∧ w' = w := by
  by_cases h1 : o = 1
  · subst h1; go_enter Try.func31, Try.ntmps31; go_wp2; go_ret2; exact ⟨rfl, rfl⟩
  by_cases h2 : o = 2
  · subst h2; go_enter Try.func31, Try.ntmps31; go_wp2; go_ret2; exact ⟨rfl, rfl⟩
  by_cases h3 : o = 3
  · subst h3; go_enter Try.func31, Try.ntmps31; go_wp2; go_ret2; exact ⟨rfl, rfl⟩
  by_cases h4 : o = 4
  · subst h4; go_enter Try.func31, Try.ntmps31; go_wp2; go_ret2; exact ⟨rfl, rfl⟩
  by_cases h5 : o = 5
  · subst h5; go_enter Try.func31, Try.ntmps31; go_wp2; go_ret2; exact ⟨rfl, rfl⟩
  by_cases h6 : o = 6
  · subst h6; go_enter Try.func31, Try.ntmps31; go_wp2; go_ret2; exact ⟨rfl, rfl⟩
  by_cases h7 : o = 7
  · subst h7; go_enter Try.func31, Try.ntmps31; go_wp2; go_ret2; exact ⟨rfl, rfl⟩
  by_cases h8 : o = 8
  · subst h8; go_enter Try.func31, Try.ntmps31; go_wp2; go_ret2; exact ⟨rfl, rfl⟩
  by_cases h9 : o = 9
  · subst h9; go_enter Try.func31, Try.ntmps31; go_wp2; go_ret2; exact ⟨rfl, rfl⟩
  by_cases h10 : o = 10
  · subst h10; go_enter Try.func31, Try.ntmps31; go_wp2; go_ret2; exact ⟨rfl, rfl⟩
  by_cases h11 : o = 11
  · subst h11; go_enter Try.func31, Try.ntmps31; go_wp2; go_ret2; exact ⟨rfl, rfl⟩
  have e1 : shW o = [] := by unfold shW; simp [h1, h2, h3, h4, h5, h6, h7, h8, h9, h10, h11]
  have e2 : shT o = 0 := by unfold shT; simp [h1, h2, h3, h4, h5, h6, h7, h8, h9, h10]
  rw [e1, e2]
  clear e1 e2
  go_enter Try.func31, Try.ntmps31
  go_wp2
  go_ret2
  exact ⟨rfl, rfl⟩
def hsT (t m : Int) : Bool := bits .and .i64 t m != 0
set_option maxRecDepth 100000 in
set_option maxHeartbeats 1000000 in
theorem has_t (t m : Int) (w : World) : Calls Try.prog 33 #[.int .i64 t, .int .i64 m] w fun e w' => e = .returned (.bool (hsT t m)) ∧ w' = w := by
  go_enter Try.func33, Try.ntmps33
  go_wp2
  go_ret
  exact ⟨rfl, rfl⟩
def blw (n m : Int) : Bool := decide (0 ≤ n) && decide (n < m)
set_option maxRecDepth 100000 in
set_option maxHeartbeats 1000000 in
theorem below_c (n m : Int) (w : World) : Calls Try.prog 23 #[.int .i64 n, .int .i64 m] w fun e w' => e = .returned (.bool (blw n m)) ∧ w' = w := by
  unfold blw
  by_cases h : 0 ≤ n
  · rw [decide_eq_true h, Bool.true_and]
    go_enter Try.func23, Try.ntmps23
    go_wp2
    go_ret
    exact ⟨rfl, rfl⟩
  · rw [decide_eq_false h, Bool.false_and]
    go_enter Try.func23, Try.ntmps23
    go_wp2
    go_ret
    exact ⟨rfl, rfl⟩
def rbd (a b : Int) : Bool := blw a 256 && (b == -1 || (decide (a ≤ b) && decide (b ≤ 255)))
set_option maxRecDepth 100000 in
set_option maxHeartbeats 1000000 in
theorem bounds_c (a b : Int) (w : World) : Calls Try.prog 34 #[.int .i64 a, .int .i64 b] w fun e w' => e = .returned (.bool (rbd a b)) ∧ w' = w := by
  unfold rbd
  have HB := hide (below_c a 256 w)
  obtain ⟨r, hr⟩ : ∃ r, blw a 256 = r := ⟨_, rfl⟩
  rw [hr] at HB ⊢
  clear hr
  cases r with
  | false =>
    go_enter Try.func34, Try.ntmps34
    go_wp2_with (go_at_call 23; (with_reducible refine (HB.out).mono ?_); rintro e w5 ⟨rfl, rfl⟩)
    go_ret
    exact ⟨rfl, rfl⟩
  | true =>
    by_cases h1 : b = -1
    · subst h1
      go_enter Try.func34, Try.ntmps34
      go_wp2_with (go_at_call 23; (with_reducible refine (HB.out).mono ?_); rintro e w5 ⟨rfl, rfl⟩)
      go_ret
      exact ⟨rfl, rfl⟩
    · rw [Bool.true_and]
      by_cases h2 : a ≤ b
      · rw [decide_eq_true h2, Bool.true_and]
        go_enter Try.func34, Try.ntmps34
        go_wp2_with (go_at_call 23; (with_reducible refine (HB.out).mono ?_); rintro e w5 ⟨rfl, rfl⟩)
        go_ret
        first | exact ⟨rfl, rfl⟩ | exact ⟨by simp, rfl⟩
      · rw [decide_eq_false h2, Bool.false_and]
        go_enter Try.func34, Try.ntmps34
        go_wp2_with (go_at_call 23; (with_reducible refine (HB.out).mono ?_); rintro e w5 ⟨rfl, rfl⟩)
        go_ret
        first | exact ⟨rfl, rfl⟩ | exact ⟨by simp, rfl⟩
end Go.Proofs.Ytbghleihgcenmaa
