/-
  The document's items of brackets. The document's items of brackets: those that are named, as a whole.
-/
import Derived.Test.YtloeajhmmjdlgaaGreatDoorReadsProofB7
import Derived.Test.YtloeajhmmjdlgaaGreatDoorReadsProofB8
namespace Go.Proofs.YtloeajhmmjdlgaaGreatDoor
open Go Go.RowKit
attribute [local go_sem] ext_cell

abbrev It := Bool × Int × List (Int × Int) × Nat
/-- What comes of an item's reading. -/
def ItIs (w : World) (b : Nat) (s : ByteArray) (m : Md) (p : Nat) (v : Value) (r : Rs It) (e : Ending) (w' : World) : Prop :=
  Fr (At b) w w' ∧ match r with
  | .error (c, a) => ∃ ev cv q n k tv, e = .returned (.agg #[.bool ev, .int .i64 cv, .slice q n k, .int .i64 tv]) ∧ SX w' b s m p v c a
  | .ok (ev, cv, L, q) => ∃ lv, e = .returned (.agg #[.bool ev, .int .i64 cv, lv, .int .i64 (q : Int)]) ∧ RR w.heap.size w' lv L ∧ SX w' b s m p v 0 0
def namI (s : ByteArray) (o k : Nat) : Rs It := match nam s o k with
  | .error e => .error e
  | .ok (L, q) => .ok (false, 0, L, q)
def elmI (m : Md) (s : ByteArray) (o k : Nat) (d : Bool) : Rs It := match elem m s o k with
  | .error e => .error e
  | .ok (c, q) => .ok (d, c, [(c, c)], q)
def chrI (m : Md) (s : ByteArray) (o k : Nat) : Rs It := if s.size ≤ k then .error (33, o) else match chr m s k with
  | .error e => .error e
  | .ok (c, q) => .ok (true, c, [(c, c)], q)
def itmI (m : Md) (s : ByteArray) (o k : Nat) : Rs It :=
  if sees s k [91, 58] then namI s o k else if sees s k [91, 61] then elmI m s o k false else if sees s k [91, 46] then elmI m s o k true else chrI m s o k
theorem sign_is {s : ByteArray} {k : Nat} {x : UInt8} (h : sees s k [91, x] = true) : s.extract (k + 1) (k + 2) = ⟨#[x]⟩ := by
  have h2 := sees_two.1 h
  have e1 : s.data.toList[k + 1]? = some x := bt_at.2 ⟨h2.1, h2.2.2⟩
  refine ByteArray.ext (Array.toList_inj.1 ?_)
  rw [ByteArray.data_extract, Array.toList_extract, List.extract_eq_take_drop, show k + 2 - (k + 1) = 1 by omega, List.take_one, List.head?_drop, e1]
  rfl
abbrev itZ : Obj := .cells #[.bool false, .int .i64 0, .slice none 0 0, .int .i64 0] 70
/-- An item's place that nothing has been laid into. -/
def IZ (w : World) (g : Nat) : Prop := w.heap[g]? = some itZ
theorem IZ.all {w : World} {g : Nat} (h : IZ w g) : w.cell? ⟨g, 0, none⟩ = some (.bool false) ∧ w.cell? ⟨g, 1, none⟩ = some (.int .i64 0) ∧ w.cell? ⟨g, 2, none⟩ = some (.slice none 0 0) ∧ w.cell? ⟨g, 3, none⟩ = some (.int .i64 0) ∧
    w.frozen? ⟨g, 0, none⟩ = false ∧ w.frozen? ⟨g, 1, none⟩ = false ∧ w.frozen? ⟨g, 2, none⟩ = false ∧ w.frozen? ⟨g, 3, none⟩ = false :=
  ⟨cell_row h (i := 0) rfl, cell_row h (i := 1) rfl, cell_row h (i := 2) rfl, cell_row h (i := 3) rfl, frz_row h 0, frz_row h 1, frz_row h 2, frz_row h 3⟩
theorem IZ.fr {w w' : World} {g : Nat} {S : Nat → Prop} (h : IZ w g) (hb : Fr S w w') (hn : ¬ S g) : IZ w' g := (hb.block g (lt_of_heap h) hn).trans h
theorem IZ.new (w : World) : IZ (w.alloc itZ) w.heap.size := alloc_new _ _
abbrev put4 (w : World) (g : Nat) (a b c d : Value) : World := (((w.setCell ⟨g, 0, none⟩ a).setCell ⟨g, 1, none⟩ b).setCell ⟨g, 2, none⟩ c).setCell ⟨g, 3, none⟩ d
theorem put4_cells {w : World} {g : Nat} (h : IZ w g) (a b c d : Value) : (put4 w g a b c d).cell? ⟨g, 0, none⟩ = some a ∧ (put4 w g a b c d).cell? ⟨g, 1, none⟩ = some b ∧ (put4 w g a b c d).cell? ⟨g, 2, none⟩ = some c ∧ (put4 w g a b c d).cell? ⟨g, 3, none⟩ = some d := by
  have k : (put4 w g a b c d).heap[g]? = some (.cells #[a, b, c, d] 70 (0, 0)) := heap_set_in (heap_set_in (heap_set_in (heap_set_in h 0 a) 1 b) 2 c) 3 d
  exact ⟨cell_row k (i := 0) rfl, cell_row k (i := 1) rfl, cell_row k (i := 2) rfl, cell_row k (i := 3) rfl⟩
theorem fr4 {S : Nat → Prop} {a w : World} {g : Nat} (h : Fr S a w) (hg : a.heap.size ≤ g) (x0 x1 x2 x3 : Value) : Fr S a (put4 w g x0 x1 x2 x3) :=
  (((h.setNew (p := ⟨g, 0, none⟩) hg _).setNew (p := ⟨g, 1, none⟩) hg _).setNew (p := ⟨g, 2, none⟩) hg _).setNew (p := ⟨g, 3, none⟩) hg _
theorem fr4' {w : World} {g : Nat} (x0 x1 x2 x3 : Value) : Fr (fun k => k = g) w (put4 w g x0 x1 x2 x3) :=
  ((((Fr.refl (fun k => k = g) w).setCell (S := fun k => k = g) (p := ⟨g, 0, none⟩) rfl _).setCell (S := fun k => k = g) (p := ⟨g, 1, none⟩) rfl _).setCell (S := fun k => k = g) (p := ⟨g, 2, none⟩) rfl _).setCell (S := fun k => k = g) (p := ⟨g, 3, none⟩) rfl _
set_option maxRecDepth 100000 in
set_option maxHeartbeats 4000000 in
theorem rnam_none {w : World} {b : Nat} {s : ByteArray} {m : Md} {p : Nat} {v : Value} (h : SX w b s m p v 0 0) (hs : s.size ≤ 2000) (o k : Nat) (hsee : sees s k [91, 58] = true) (hf : fnd s [58, 93] (k + 2) = none) :
    Calls Tryz.prog 53 #[.pointer (some ⟨b, 0, none⟩), .int .i64 (k : Int), .int .i64 (o : Int)] w (ItIs w b s m p v (.error (33, o))) := by
  have hsl := sees_len hsee (by simp)
  simp only [List.length_cons, List.length_nil] at hsl
  have hsg := sign_is hsee
  obtain ⟨K1, hK1⟩ : ∃ K1, K1 = k + 1 := ⟨_, rfl⟩
  obtain ⟨K2, hK2⟩ : ∃ K2, K2 = k + 2 := ⟨_, rfl⟩
  obtain ⟨K3, hK3⟩ : ∃ K3, K3 = k + 2 := ⟨_, rfl⟩
  rw [← hK1, ← hK2] at hsg
  rw [← hK3] at hf
  have w1 : IntKind.wrap .i64 ((k : Int) + 1) = (K1 : Int) := by rw [wrap_small _ (by omega) (by omega)]; omega
  have w2 : IntKind.wrap .i64 ((k : Int) + 2) = (K2 : Int) := by rw [wrap_small _ (by omega) (by omega)]; omega
  have w3 : IntKind.wrap .i64 ((K2 : Int) + 1) = (K2 : Int) + 1 := by rw [wrap_small _ (by omega) (by omega)]
  have i1 : (0 : Int) ≤ (K1 : Int) := by omega
  have i2 : (K1 : Int) ≤ (K2 : Int) := by omega
  have i3 : (K2 : Int) ≤ (s.size : Int) := by omega
  have W1 : Below w.heap.size w (w.alloc itZ) := (Below.refl _ _).alloc (Nat.le_refl _) _
  have lb := h.lt
  have c0 := (h.kept W1).c0
  have HF : Hid (∀ W, SX W b s m p v 0 0 → Calls Tryz.prog 69 #[.pointer (some ⟨b, 0, none⟩), .int .i64 (K2 : Int), .string (⟨#[58]⟩ ++ ⟨#[93]⟩)] W fun e w' => e = .returned (.int .i64 (-1)) ∧ Below W.heap.size W w') := fun W hW => by
    have := rfind_c hW hs K3 (by omega) ⟨#[58, 93]⟩ rfl
    rw [show fnd s (ByteArray.mk #[58, 93]).data.toList K3 = none from hf, show (K3 : Int) = (K2 : Int) by omega] at this
    exact this
  have H : Hid (SX w b s m p v 0 0 ∧ Below w.heap.size w (w.alloc itZ)) := ⟨h, W1⟩
  clear h W1 hf hsee hK1 hsl
  clear hK2 hK3
  go_enter Tryz.func53, Tryz.ntmps53
  go_wp2_with first
    | (go_at_call 69; (with_reducible refine (HF.out _ (H.out.1.kept H.out.2)).mono ?_); rintro e w5 ⟨rfl, h5⟩; have X5 : Hid (SX w5 b s m p v 0 0 ∧ Below w.heap.size w w5 ∧ IZ w5 w.heap.size) := ⟨(H.out.1.kept H.out.2).kept h5, chain H.out.2 h5 (Nat.le_refl _), (IZ.new w).fr (Fr.of_below h5) (S := fun _ => False) (fun q => q)⟩; have q0 := X5.out.1.c0; have q1 := X5.out.1.c1; have ql := X5.out.1.lt; clear h5)
    | (go_at_call 19; refine (rno_new X5.out.1 33 o).mono ?_; rintro e w6 ⟨rfl, h6, g6⟩; have X6 : Hid (SX w6 b s m p v 33 o ∧ Fr (At b) w w6 ∧ IZ w6 w.heap.size) := ⟨h6, (Fr.of_below X5.out.2.1).trans g6, X5.out.2.2.fr g6 (by intro q; have : w.heap.size = b := q; omega)⟩; have r0 := X6.out.1.c0; have rl := X6.out.1.lt; obtain ⟨z0, z1, z2, z3, y0, y1, y2, y3⟩ := X6.out.2.2.all; clear h6 g6)
  refine bodyPost_ret (v := .agg #[.bool false, .int .i64 0, .slice none 0 0, .int .i64 (s.size : Int)]) (by obtain ⟨e0, e1, e2, e3⟩ := put4_cells X6.out.2.2 (.bool false) (.int .i64 0) (.slice none 0 0) (.int .i64 (s.size : Int)); simp [results, Tryz.results53, go_sem, e0, e1, e2, e3]) rfl ⟨fr4 X6.out.2.1 (Nat.le_refl _) _ _ _ _, _, _, _, _, _, _, rfl, X6.out.1.fr (fr4' _ _ _ _) (by intro q; have : b = w.heap.size := q; omega)⟩
set_option maxRecDepth 100000 in
set_option maxHeartbeats 4000000 in
theorem relm_none61 {w : World} {b : Nat} {s : ByteArray} {m : Md} {p : Nat} {v : Value} (h : SX w b s m p v 0 0) (hs : s.size ≤ 2000) (o k : Nat) (hsee : sees s k [91, 61] = true) (hf : fnd s [61, 93] (k + 3) = none) :
    Calls Tryz.prog 53 #[.pointer (some ⟨b, 0, none⟩), .int .i64 (k : Int), .int .i64 (o : Int)] w (ItIs w b s m p v (.error (33, o))) := by
  have hsl := sees_len hsee (by simp)
  simp only [List.length_cons, List.length_nil] at hsl
  have hsg := sign_is hsee
  obtain ⟨K1, hK1⟩ : ∃ K1, K1 = k + 1 := ⟨_, rfl⟩
  obtain ⟨K2, hK2⟩ : ∃ K2, K2 = k + 2 := ⟨_, rfl⟩
  obtain ⟨K3, hK3⟩ : ∃ K3, K3 = k + 3 := ⟨_, rfl⟩
  rw [← hK1, ← hK2] at hsg
  rw [← hK3] at hf
  have w1 : IntKind.wrap .i64 ((k : Int) + 1) = (K1 : Int) := by rw [wrap_small _ (by omega) (by omega)]; omega
  have w2 : IntKind.wrap .i64 ((k : Int) + 2) = (K2 : Int) := by rw [wrap_small _ (by omega) (by omega)]; omega
  have w3 : IntKind.wrap .i64 ((K2 : Int) + 1) = (K2 : Int) + 1 := by rw [wrap_small _ (by omega) (by omega)]
  have i1 : (0 : Int) ≤ (K1 : Int) := by omega
  have i2 : (K1 : Int) ≤ (K2 : Int) := by omega
  have i3 : (K2 : Int) ≤ (s.size : Int) := by omega
  have W1 : Below w.heap.size w (w.alloc itZ) := (Below.refl _ _).alloc (Nat.le_refl _) _
  have lb := h.lt
  have c0 := (h.kept W1).c0
  have HF : Hid (∀ W, SX W b s m p v 0 0 → Calls Tryz.prog 69 #[.pointer (some ⟨b, 0, none⟩), .int .i64 ((K2 : Int) + 1), .string (⟨#[61]⟩ ++ ⟨#[93]⟩)] W fun e w' => e = .returned (.int .i64 (-1)) ∧ Below W.heap.size W w') := fun W hW => by
    have := rfind_c hW hs K3 (by omega) ⟨#[61, 93]⟩ rfl
    rw [show fnd s (ByteArray.mk #[61, 93]).data.toList K3 = none from hf, show (K3 : Int) = ((K2 : Int) + 1) by omega] at this
    exact this
  have H : Hid (SX w b s m p v 0 0 ∧ Below w.heap.size w (w.alloc itZ)) := ⟨h, W1⟩
  clear h W1 hf hsee hK1 hsl
  clear hK2 hK3
  go_enter Tryz.func53, Tryz.ntmps53
  go_wp2_with first
    | (go_at_call 69; (with_reducible refine (HF.out _ (H.out.1.kept H.out.2)).mono ?_); rintro e w5 ⟨rfl, h5⟩; have X5 : Hid (SX w5 b s m p v 0 0 ∧ Below w.heap.size w w5 ∧ IZ w5 w.heap.size) := ⟨(H.out.1.kept H.out.2).kept h5, chain H.out.2 h5 (Nat.le_refl _), (IZ.new w).fr (Fr.of_below h5) (S := fun _ => False) (fun q => q)⟩; have q0 := X5.out.1.c0; have q1 := X5.out.1.c1; have ql := X5.out.1.lt; clear h5)
    | (go_at_call 19; refine (rno_new X5.out.1 33 o).mono ?_; rintro e w6 ⟨rfl, h6, g6⟩; have X6 : Hid (SX w6 b s m p v 33 o ∧ Fr (At b) w w6 ∧ IZ w6 w.heap.size) := ⟨h6, (Fr.of_below X5.out.2.1).trans g6, X5.out.2.2.fr g6 (by intro q; have : w.heap.size = b := q; omega)⟩; have r0 := X6.out.1.c0; have rl := X6.out.1.lt; obtain ⟨z0, z1, z2, z3, y0, y1, y2, y3⟩ := X6.out.2.2.all; clear h6 g6)
  refine bodyPost_ret (v := .agg #[.bool false, .int .i64 0, .slice none 0 0, .int .i64 (s.size : Int)]) (by obtain ⟨e0, e1, e2, e3⟩ := put4_cells X6.out.2.2 (.bool false) (.int .i64 0) (.slice none 0 0) (.int .i64 (s.size : Int)); simp [results, Tryz.results53, go_sem, e0, e1, e2, e3]) rfl ⟨fr4 X6.out.2.1 (Nat.le_refl _) _ _ _ _, _, _, _, _, _, _, rfl, X6.out.1.fr (fr4' _ _ _ _) (by intro q; have : b = w.heap.size := q; omega)⟩
set_option maxRecDepth 100000 in
set_option maxHeartbeats 4000000 in
theorem relm_none46 {w : World} {b : Nat} {s : ByteArray} {m : Md} {p : Nat} {v : Value} (h : SX w b s m p v 0 0) (hs : s.size ≤ 2000) (o k : Nat) (hsee : sees s k [91, 46] = true) (hf : fnd s [46, 93] (k + 3) = none) :
    Calls Tryz.prog 53 #[.pointer (some ⟨b, 0, none⟩), .int .i64 (k : Int), .int .i64 (o : Int)] w (ItIs w b s m p v (.error (33, o))) := by
  have hsl := sees_len hsee (by simp)
  simp only [List.length_cons, List.length_nil] at hsl
  have hsg := sign_is hsee
  obtain ⟨K1, hK1⟩ : ∃ K1, K1 = k + 1 := ⟨_, rfl⟩
  obtain ⟨K2, hK2⟩ : ∃ K2, K2 = k + 2 := ⟨_, rfl⟩
  obtain ⟨K3, hK3⟩ : ∃ K3, K3 = k + 3 := ⟨_, rfl⟩
  rw [← hK1, ← hK2] at hsg
  rw [← hK3] at hf
  have w1 : IntKind.wrap .i64 ((k : Int) + 1) = (K1 : Int) := by rw [wrap_small _ (by omega) (by omega)]; omega
  have w2 : IntKind.wrap .i64 ((k : Int) + 2) = (K2 : Int) := by rw [wrap_small _ (by omega) (by omega)]; omega
  have w3 : IntKind.wrap .i64 ((K2 : Int) + 1) = (K2 : Int) + 1 := by rw [wrap_small _ (by omega) (by omega)]
  have i1 : (0 : Int) ≤ (K1 : Int) := by omega
  have i2 : (K1 : Int) ≤ (K2 : Int) := by omega
  have i3 : (K2 : Int) ≤ (s.size : Int) := by omega
  have W1 : Below w.heap.size w (w.alloc itZ) := (Below.refl _ _).alloc (Nat.le_refl _) _
  have lb := h.lt
  have c0 := (h.kept W1).c0
  have HF : Hid (∀ W, SX W b s m p v 0 0 → Calls Tryz.prog 69 #[.pointer (some ⟨b, 0, none⟩), .int .i64 ((K2 : Int) + 1), .string (⟨#[46]⟩ ++ ⟨#[93]⟩)] W fun e w' => e = .returned (.int .i64 (-1)) ∧ Below W.heap.size W w') := fun W hW => by
    have := rfind_c hW hs K3 (by omega) ⟨#[46, 93]⟩ rfl
    rw [show fnd s (ByteArray.mk #[46, 93]).data.toList K3 = none from hf, show (K3 : Int) = ((K2 : Int) + 1) by omega] at this
    exact this
  have H : Hid (SX w b s m p v 0 0 ∧ Below w.heap.size w (w.alloc itZ)) := ⟨h, W1⟩
  clear h W1 hf hsee hK1 hsl
  clear hK2 hK3
  go_enter Tryz.func53, Tryz.ntmps53
  go_wp2_with first
    | (go_at_call 69; (with_reducible refine (HF.out _ (H.out.1.kept H.out.2)).mono ?_); rintro e w5 ⟨rfl, h5⟩; have X5 : Hid (SX w5 b s m p v 0 0 ∧ Below w.heap.size w w5 ∧ IZ w5 w.heap.size) := ⟨(H.out.1.kept H.out.2).kept h5, chain H.out.2 h5 (Nat.le_refl _), (IZ.new w).fr (Fr.of_below h5) (S := fun _ => False) (fun q => q)⟩; have q0 := X5.out.1.c0; have q1 := X5.out.1.c1; have ql := X5.out.1.lt; clear h5)
    | (go_at_call 19; refine (rno_new X5.out.1 33 o).mono ?_; rintro e w6 ⟨rfl, h6, g6⟩; have X6 : Hid (SX w6 b s m p v 33 o ∧ Fr (At b) w w6 ∧ IZ w6 w.heap.size) := ⟨h6, (Fr.of_below X5.out.2.1).trans g6, X5.out.2.2.fr g6 (by intro q; have : w.heap.size = b := q; omega)⟩; have r0 := X6.out.1.c0; have rl := X6.out.1.lt; obtain ⟨z0, z1, z2, z3, y0, y1, y2, y3⟩ := X6.out.2.2.all; clear h6 g6)
  refine bodyPost_ret (v := .agg #[.bool false, .int .i64 0, .slice none 0 0, .int .i64 (s.size : Int)]) (by obtain ⟨e0, e1, e2, e3⟩ := put4_cells X6.out.2.2 (.bool false) (.int .i64 0) (.slice none 0 0) (.int .i64 (s.size : Int)); simp [results, Tryz.results53, go_sem, e0, e1, e2, e3]) rfl ⟨fr4 X6.out.2.1 (Nat.le_refl _) _ _ _ _, _, _, _, _, _, _, rfl, X6.out.1.fr (fr4' _ _ _ _) (by intro q; have : b = w.heap.size := q; omega)⟩
set_option maxRecDepth 100000 in
set_option maxHeartbeats 4000000 in
theorem rnam_ok {w : World} {b : Nat} {s : ByteArray} {m : Md} {p : Nat} {v : Value} (h : SX w b s m p v 0 0) (hs : s.size ≤ 2000) (o k : Nat) (hsee : sees s k [91, 58] = true) (t0 : Nat) (LL : List (Int × Int)) (hf : fnd s [58, 93] (k + 2) = some t0) (hnm : nmd (s.extract (k + 2) t0) = (true, LL)) :
    Calls Tryz.prog 53 #[.pointer (some ⟨b, 0, none⟩), .int .i64 (k : Int), .int .i64 (o : Int)] w (ItIs w b s m p v (.ok (false, 0, LL, t0 + 2))) := by
  have hsl := sees_len hsee (by simp)
  simp only [List.length_cons, List.length_nil] at hsl
  have hsg := sign_is hsee
  obtain ⟨K1, hK1⟩ : ∃ K1, K1 = k + 1 := ⟨_, rfl⟩
  obtain ⟨K2, hK2⟩ : ∃ K2, K2 = k + 2 := ⟨_, rfl⟩
  obtain ⟨K3, hK3⟩ : ∃ K3, K3 = k + 2 := ⟨_, rfl⟩
  rw [← hK1, ← hK2] at hsg
  rw [← hK3] at hf
  have w1 : IntKind.wrap .i64 ((k : Int) + 1) = (K1 : Int) := by rw [wrap_small _ (by omega) (by omega)]; omega
  have w2 : IntKind.wrap .i64 ((k : Int) + 2) = (K2 : Int) := by rw [wrap_small _ (by omega) (by omega)]; omega
  have w3 : IntKind.wrap .i64 ((K2 : Int) + 1) = (K2 : Int) + 1 := by rw [wrap_small _ (by omega) (by omega)]
  have i1 : (0 : Int) ≤ (K1 : Int) := by omega
  have i2 : (K1 : Int) ≤ (K2 : Int) := by omega
  have i3 : (K2 : Int) ≤ (s.size : Int) := by omega
  have W1 : Below w.heap.size w (w.alloc itZ) := (Below.refl _ _).alloc (Nat.le_refl _) _
  have lb := h.lt
  have c0 := (h.kept W1).c0
  have HF : Hid (∀ W, SX W b s m p v 0 0 → Calls Tryz.prog 69 #[.pointer (some ⟨b, 0, none⟩), .int .i64 (K2 : Int), .string (⟨#[58]⟩ ++ ⟨#[93]⟩)] W fun e w' => e = .returned (.int .i64 (t0 : Int)) ∧ Below W.heap.size W w') := fun W hW => by
    have := rfind_c hW hs K3 (by omega) ⟨#[58, 93]⟩ rfl
    rw [show fnd s (ByteArray.mk #[58, 93]).data.toList K3 = some t0 from hf, show (K3 : Int) = (K2 : Int) by omega] at this
    exact this
  obtain ⟨T2, hT2⟩ : ∃ T2, T2 = t0 + 2 := ⟨_, rfl⟩
  rw [← hT2]
  have ht := fnd_some hf
  have ht2 := sees_len ht.2.1 (by simp)
  simp only [List.length_cons, List.length_nil] at ht2
  have i4 : (K2 : Int) ≤ (t0 : Int) := by omega
  have i5 : (t0 : Int) ≤ (s.size : Int) := by omega
  have i6 : (0 : Int) ≤ (K2 : Int) := by omega
  have i7 : ¬ (t0 : Int) < 0 := by omega
  have w4 : IntKind.wrap .i64 ((t0 : Int) + 2) = (T2 : Int) := by rw [wrap_small _ (by omega) (by omega)]; omega
  have HNM : Hid (∀ W, Calls Tryz.prog 70 #[.string (s.extract K2 t0)] W (TellsN W true LL)) := fun W => by
    have := rnamed_is (s.extract K2 t0) W
    rw [hK2, hnm] at this
    rw [hK2]
    exact this
  have H : Hid (SX w b s m p v 0 0 ∧ Below w.heap.size w (w.alloc itZ)) := ⟨h, W1⟩
  clear h W1 hf hsee hK1 hsl
  clear hK2 hK3 hT2 hnm ht ht2
  go_enter Tryz.func53, Tryz.ntmps53
  go_wp2_with first
    | (go_at_call 69; (with_reducible refine (HF.out _ (H.out.1.kept H.out.2)).mono ?_); rintro e w5 ⟨rfl, h5⟩; have X5 : Hid (SX w5 b s m p v 0 0 ∧ Below w.heap.size w w5 ∧ IZ w5 w.heap.size) := ⟨(H.out.1.kept H.out.2).kept h5, chain H.out.2 h5 (Nat.le_refl _), (IZ.new w).fr (Fr.of_below h5) (S := fun _ => False) (fun q => q)⟩; have q0 := X5.out.1.c0; have q1 := X5.out.1.c1; have ql := X5.out.1.lt; clear h5)
    | (go_at_call 70; (with_reducible refine (HNM.out _).mono ?_); rintro e w7 ⟨v7, rfl, h7, g7⟩; obtain ⟨q7, k7, rfl⟩ := h7.shape; have X7 : Hid (SX w7 b s m p v 0 0 ∧ Below w.heap.size w w7 ∧ IZ w7 w.heap.size ∧ RR w.heap.size w7 (.slice q7 LL.length k7) LL) := ⟨X5.out.1.kept g7, chain X5.out.2.1 g7 (Nat.le_refl _), X5.out.2.2.fr (S := fun _ => False) (Fr.of_below g7) (fun q => q), h7.mono X5.out.2.1.size⟩; obtain ⟨z0, z1, z2, z3, y0, y1, y2, y3⟩ := X7.out.2.2.1.all; clear h7 g7)
  refine bodyPost_ret (v := .agg #[.bool false, .int .i64 0, .slice q7 LL.length k7, .int .i64 (T2 : Int)]) (by obtain ⟨e0, e1, e2, e3⟩ := put4_cells X7.out.2.2.1 (.bool false) (.int .i64 0) (.slice q7 LL.length k7) (.int .i64 (T2 : Int)); simp [results, Tryz.results53, go_sem, e0, e1, e2, e3]) rfl ⟨fr4 (Fr.of_below X7.out.2.1) (Nat.le_refl _) _ _ _ _, _, rfl, (X7.out.2.2.2.fr (S := fun k => k = w.heap.size) (fr4' _ _ _ _) (fun k hk e => ownsRow_not X7.out.2.2.2 X7.out.2.2.1 (by decide) (by rw [hk, show k = _ from e]))), X7.out.1.fr (fr4' _ _ _ _) (by intro q; have : b = w.heap.size := q; omega)⟩
set_option maxRecDepth 100000 in
set_option maxHeartbeats 4000000 in
theorem rnam_bad {w : World} {b : Nat} {s : ByteArray} {m : Md} {p : Nat} {v : Value} (h : SX w b s m p v 0 0) (hs : s.size ≤ 2000) (o k : Nat) (hsee : sees s k [91, 58] = true) (t0 : Nat) (LL : List (Int × Int)) (hf : fnd s [58, 93] (k + 2) = some t0) (hnm : nmd (s.extract (k + 2) t0) = (false, LL)) :
    Calls Tryz.prog 53 #[.pointer (some ⟨b, 0, none⟩), .int .i64 (k : Int), .int .i64 (o : Int)] w (ItIs w b s m p v (.error (35, k))) := by
  have hsl := sees_len hsee (by simp)
  simp only [List.length_cons, List.length_nil] at hsl
  have hsg := sign_is hsee
  obtain ⟨K1, hK1⟩ : ∃ K1, K1 = k + 1 := ⟨_, rfl⟩
  obtain ⟨K2, hK2⟩ : ∃ K2, K2 = k + 2 := ⟨_, rfl⟩
  obtain ⟨K3, hK3⟩ : ∃ K3, K3 = k + 2 := ⟨_, rfl⟩
  rw [← hK1, ← hK2] at hsg
  rw [← hK3] at hf
  have w1 : IntKind.wrap .i64 ((k : Int) + 1) = (K1 : Int) := by rw [wrap_small _ (by omega) (by omega)]; omega
  have w2 : IntKind.wrap .i64 ((k : Int) + 2) = (K2 : Int) := by rw [wrap_small _ (by omega) (by omega)]; omega
  have w3 : IntKind.wrap .i64 ((K2 : Int) + 1) = (K2 : Int) + 1 := by rw [wrap_small _ (by omega) (by omega)]
  have i1 : (0 : Int) ≤ (K1 : Int) := by omega
  have i2 : (K1 : Int) ≤ (K2 : Int) := by omega
  have i3 : (K2 : Int) ≤ (s.size : Int) := by omega
  have W1 : Below w.heap.size w (w.alloc itZ) := (Below.refl _ _).alloc (Nat.le_refl _) _
  have lb := h.lt
  have c0 := (h.kept W1).c0
  have HF : Hid (∀ W, SX W b s m p v 0 0 → Calls Tryz.prog 69 #[.pointer (some ⟨b, 0, none⟩), .int .i64 (K2 : Int), .string (⟨#[58]⟩ ++ ⟨#[93]⟩)] W fun e w' => e = .returned (.int .i64 (t0 : Int)) ∧ Below W.heap.size W w') := fun W hW => by
    have := rfind_c hW hs K3 (by omega) ⟨#[58, 93]⟩ rfl
    rw [show fnd s (ByteArray.mk #[58, 93]).data.toList K3 = some t0 from hf, show (K3 : Int) = (K2 : Int) by omega] at this
    exact this
  obtain ⟨T2, hT2⟩ : ∃ T2, T2 = t0 + 2 := ⟨_, rfl⟩
  have ht := fnd_some hf
  have ht2 := sees_len ht.2.1 (by simp)
  simp only [List.length_cons, List.length_nil] at ht2
  have i4 : (K2 : Int) ≤ (t0 : Int) := by omega
  have i5 : (t0 : Int) ≤ (s.size : Int) := by omega
  have i6 : (0 : Int) ≤ (K2 : Int) := by omega
  have i7 : ¬ (t0 : Int) < 0 := by omega
  have w4 : IntKind.wrap .i64 ((t0 : Int) + 2) = (T2 : Int) := by rw [wrap_small _ (by omega) (by omega)]; omega
  have HNM : Hid (∀ W, Calls Tryz.prog 70 #[.string (s.extract K2 t0)] W (TellsN W false LL)) := fun W => by
    have := rnamed_is (s.extract K2 t0) W
    rw [hK2, hnm] at this
    rw [hK2]
    exact this
  have H : Hid (SX w b s m p v 0 0 ∧ Below w.heap.size w (w.alloc itZ)) := ⟨h, W1⟩
  clear h W1 hf hsee hK1 hsl
  clear hK2 hK3 hT2 hnm ht ht2
  go_enter Tryz.func53, Tryz.ntmps53
  go_wp2_with first
    | (go_at_call 69; (with_reducible refine (HF.out _ (H.out.1.kept H.out.2)).mono ?_); rintro e w5 ⟨rfl, h5⟩; have X5 : Hid (SX w5 b s m p v 0 0 ∧ Below w.heap.size w w5 ∧ IZ w5 w.heap.size) := ⟨(H.out.1.kept H.out.2).kept h5, chain H.out.2 h5 (Nat.le_refl _), (IZ.new w).fr (Fr.of_below h5) (S := fun _ => False) (fun q => q)⟩; have q0 := X5.out.1.c0; have q1 := X5.out.1.c1; have ql := X5.out.1.lt; clear h5)
    | (go_at_call 70; (with_reducible refine (HNM.out _).mono ?_); rintro e w7 ⟨v7, rfl, h7, g7⟩; obtain ⟨q7, k7, rfl⟩ := h7.shape; have X7 : Hid (SX w7 b s m p v 0 0 ∧ Below w.heap.size w w7 ∧ IZ w7 w.heap.size ∧ RR w.heap.size w7 (.slice q7 LL.length k7) LL) := ⟨X5.out.1.kept g7, chain X5.out.2.1 g7 (Nat.le_refl _), X5.out.2.2.fr (S := fun _ => False) (Fr.of_below g7) (fun q => q), h7.mono X5.out.2.1.size⟩;  clear h7 g7)
    | (go_at_call 19; refine (rno_new X7.out.1 35 k).mono ?_; rintro e w6 ⟨rfl, h6, g6⟩; have X6 : Hid (SX w6 b s m p v 35 k ∧ Fr (At b) w w6 ∧ IZ w6 w.heap.size) := ⟨h6, (Fr.of_below X7.out.2.1).trans g6, X7.out.2.2.1.fr g6 (by intro q; have : w.heap.size = b := q; omega)⟩; have r0 := X6.out.1.c0; have rl := X6.out.1.lt; obtain ⟨z0, z1, z2, z3, y0, y1, y2, y3⟩ := X6.out.2.2.all; clear h6 g6)
  refine bodyPost_ret (v := .agg #[.bool false, .int .i64 0, .slice q7 LL.length k7, .int .i64 (T2 : Int)]) (by obtain ⟨e0, e1, e2, e3⟩ := put4_cells X6.out.2.2 (.bool false) (.int .i64 0) (.slice q7 LL.length k7) (.int .i64 (T2 : Int)); simp [results, Tryz.results53, go_sem, e0, e1, e2, e3]) rfl ⟨fr4 (X6.out.2.1) (Nat.le_refl _) _ _ _ _, _, _, _, _, _, _, rfl, X6.out.1.fr (fr4' _ _ _ _) (by intro q; have : b = w.heap.size := q; omega)⟩
set_option maxRecDepth 100000 in
set_option maxHeartbeats 4000000 in
theorem relm_ok61 {w : World} {b : Nat} {s : ByteArray} {m : Md} {p : Nat} {v : Value} (h : SX w b s m p v 0 0) (hs : s.size ≤ 2000) (o k : Nat) (hsee : sees s k [91, 61] = true) (t0 : Nat) (c : Int) (n : Nat) (hf : fnd s [61, 93] (k + 3) = some t0) (hun : un m (s.extract (k + 2) t0) 0 = (c, n)) (hcn : ¬ c < 0 ∧ n = t0 - (k + 2)) :
    Calls Tryz.prog 53 #[.pointer (some ⟨b, 0, none⟩), .int .i64 (k : Int), .int .i64 (o : Int)] w (ItIs w b s m p v (.ok (false, c, [(c, c)], t0 + 2))) := by
  have hsl := sees_len hsee (by simp)
  simp only [List.length_cons, List.length_nil] at hsl
  have hsg := sign_is hsee
  obtain ⟨K1, hK1⟩ : ∃ K1, K1 = k + 1 := ⟨_, rfl⟩
  obtain ⟨K2, hK2⟩ : ∃ K2, K2 = k + 2 := ⟨_, rfl⟩
  obtain ⟨K3, hK3⟩ : ∃ K3, K3 = k + 3 := ⟨_, rfl⟩
  rw [← hK1, ← hK2] at hsg
  rw [← hK3] at hf
  have w1 : IntKind.wrap .i64 ((k : Int) + 1) = (K1 : Int) := by rw [wrap_small _ (by omega) (by omega)]; omega
  have w2 : IntKind.wrap .i64 ((k : Int) + 2) = (K2 : Int) := by rw [wrap_small _ (by omega) (by omega)]; omega
  have w3 : IntKind.wrap .i64 ((K2 : Int) + 1) = (K2 : Int) + 1 := by rw [wrap_small _ (by omega) (by omega)]
  have i1 : (0 : Int) ≤ (K1 : Int) := by omega
  have i2 : (K1 : Int) ≤ (K2 : Int) := by omega
  have i3 : (K2 : Int) ≤ (s.size : Int) := by omega
  have W1 : Below w.heap.size w (w.alloc itZ) := (Below.refl _ _).alloc (Nat.le_refl _) _
  have lb := h.lt
  have c0 := (h.kept W1).c0
  have HF : Hid (∀ W, SX W b s m p v 0 0 → Calls Tryz.prog 69 #[.pointer (some ⟨b, 0, none⟩), .int .i64 ((K2 : Int) + 1), .string (⟨#[61]⟩ ++ ⟨#[93]⟩)] W fun e w' => e = .returned (.int .i64 (t0 : Int)) ∧ Below W.heap.size W w') := fun W hW => by
    have := rfind_c hW hs K3 (by omega) ⟨#[61, 93]⟩ rfl
    rw [show fnd s (ByteArray.mk #[61, 93]).data.toList K3 = some t0 from hf, show (K3 : Int) = ((K2 : Int) + 1) by omega] at this
    exact this
  obtain ⟨T2, hT2⟩ : ∃ T2, T2 = t0 + 2 := ⟨_, rfl⟩
  rw [← hT2]
  have ht := fnd_some hf
  have ht2 := sees_len ht.2.1 (by simp)
  simp only [List.length_cons, List.length_nil] at ht2
  have i4 : (K2 : Int) ≤ (t0 : Int) := by omega
  have i5 : (t0 : Int) ≤ (s.size : Int) := by omega
  have i6 : (0 : Int) ≤ (K2 : Int) := by omega
  have i7 : ¬ (t0 : Int) < 0 := by omega
  have w4 : IntKind.wrap .i64 ((t0 : Int) + 2) = (T2 : Int) := by rw [wrap_small _ (by omega) (by omega)]; omega
  obtain ⟨TT, hTT⟩ : ∃ TT, TT = s.extract K2 t0 := ⟨_, rfl⟩
  have hTs : TT.size = t0 - K2 := by rw [hTT, ByteArray.size_extract]; omega
  have HU : Hid (∀ W, Calls Tryz.prog 15 #[.string TT, .int .i64 0, .bool m.c] W fun e w' => e = .returned (.tuple #[.int .i64 c, .int .i64 (n : Int)]) ∧ Below W.heap.size W w') := fun W => by
    have := runit_c TT 0 m W (by omega) (by omega)
    rw [hTT, hK2, hun] at this
    rw [hTT, hK2]
    exact this
  rw [← hK2] at hcn
  have j0 : ¬ c < 0 := by omega
  have j1 : n = TT.size := by omega
  have j2 : ((n : Int) != (TT.size : Int)) = false := by rw [j1]; simp
  have hTT' := hTT.symm
  have H : Hid (SX w b s m p v 0 0 ∧ Below w.heap.size w (w.alloc itZ)) := ⟨h, W1⟩
  clear h W1 hf hsee hK1 hsl
  clear hK2 hK3 hT2 hun hcn ht ht2 hTT hTs j1
  go_enter Tryz.func53, Tryz.ntmps53
  go_wp2_with first
    | (go_at_call 69; (with_reducible refine (HF.out _ (H.out.1.kept H.out.2)).mono ?_); rintro e w5 ⟨rfl, h5⟩; have X5 : Hid (SX w5 b s m p v 0 0 ∧ Below w.heap.size w w5 ∧ IZ w5 w.heap.size) := ⟨(H.out.1.kept H.out.2).kept h5, chain H.out.2 h5 (Nat.le_refl _), (IZ.new w).fr (Fr.of_below h5) (S := fun _ => False) (fun q => q)⟩; have q0 := X5.out.1.c0; have q1 := X5.out.1.c1; have ql := X5.out.1.lt; clear h5)
    | (go_at_call 15; (with_reducible refine (HU.out _).mono ?_); rintro e w7 ⟨rfl, g7⟩; have X7 : Hid (SX w7 b s m p v 0 0 ∧ Below w.heap.size w w7 ∧ IZ w7 w.heap.size) := ⟨X5.out.1.kept g7, chain X5.out.2.1 g7 (Nat.le_refl _), X5.out.2.2.fr (S := fun _ => False) (Fr.of_below g7) (fun q => q)⟩; have r1 := X7.out.1.lt; have X8 : Hid (SX (w7.alloc (.cells #[.int .i64 c, .int .i64 c] 39)) b s m p v 0 0 ∧ Below w.heap.size w (w7.alloc (.cells #[.int .i64 c, .int .i64 c] 39)) ∧ IZ (w7.alloc (.cells #[.int .i64 c, .int .i64 c] 39)) w.heap.size ∧ RR w.heap.size (w7.alloc (.cells #[.int .i64 c, .int .i64 c] 39)) (.slice (some ⟨w7.heap.size, 0, none⟩) 1 1) [(c, c)]) := ⟨X7.out.1.kept ((Below.refl _ _).alloc (Nat.le_refl _) _), X7.out.2.1.alloc X7.out.2.1.size _, X7.out.2.2.fr (S := fun _ => False) (Fr.of_below ((Below.refl _ _).alloc (Nat.le_refl _) _)) (fun q => q), RR.mono (World.ownsRow_lit w7 #[.int .i64 c, .int .i64 c] 1 (Nat.le_refl _) (by unfold maxLen; omega) rfl) X7.out.2.1.size⟩; obtain ⟨z0, z1, z2, z3, y0, y1, y2, y3⟩ := X8.out.2.2.1.all; clear g7)
  refine bodyPost_ret (v := .agg #[.bool false, .int .i64 c, .slice (some ⟨w7.heap.size, 0, none⟩) 1 1, .int .i64 (T2 : Int)]) (by obtain ⟨e0, e1, e2, e3⟩ := put4_cells X8.out.2.2.1 (.bool false) (.int .i64 c) (.slice (some ⟨w7.heap.size, 0, none⟩) 1 1) (.int .i64 (T2 : Int)); simp [results, Tryz.results53, go_sem, e0, e1, e2, e3]) rfl ⟨fr4 (Fr.of_below X8.out.2.1) (Nat.le_refl _) _ _ _ _, _, rfl, (X8.out.2.2.2.fr (S := fun k => k = w.heap.size) (fr4' _ _ _ _) (fun k hk e => ownsRow_not X8.out.2.2.2 X8.out.2.2.1 (by decide) (by rw [hk, show k = _ from e]))), X8.out.1.fr (fr4' _ _ _ _) (by intro q; have : b = w.heap.size := q; omega)⟩
set_option maxRecDepth 100000 in
set_option maxHeartbeats 4000000 in
theorem relm_bad61 {w : World} {b : Nat} {s : ByteArray} {m : Md} {p : Nat} {v : Value} (h : SX w b s m p v 0 0) (hs : s.size ≤ 2000) (o k : Nat) (hsee : sees s k [91, 61] = true) (t0 : Nat) (c : Int) (n : Nat) (hf : fnd s [61, 93] (k + 3) = some t0) (hun : un m (s.extract (k + 2) t0) 0 = (c, n)) (hcn : c < 0 ∨ n ≠ t0 - (k + 2)) :
    Calls Tryz.prog 53 #[.pointer (some ⟨b, 0, none⟩), .int .i64 (k : Int), .int .i64 (o : Int)] w (ItIs w b s m p v (.error (35, k))) := by
  have hsl := sees_len hsee (by simp)
  simp only [List.length_cons, List.length_nil] at hsl
  have hsg := sign_is hsee
  obtain ⟨K1, hK1⟩ : ∃ K1, K1 = k + 1 := ⟨_, rfl⟩
  obtain ⟨K2, hK2⟩ : ∃ K2, K2 = k + 2 := ⟨_, rfl⟩
  obtain ⟨K3, hK3⟩ : ∃ K3, K3 = k + 3 := ⟨_, rfl⟩
  rw [← hK1, ← hK2] at hsg
  rw [← hK3] at hf
  have w1 : IntKind.wrap .i64 ((k : Int) + 1) = (K1 : Int) := by rw [wrap_small _ (by omega) (by omega)]; omega
  have w2 : IntKind.wrap .i64 ((k : Int) + 2) = (K2 : Int) := by rw [wrap_small _ (by omega) (by omega)]; omega
  have w3 : IntKind.wrap .i64 ((K2 : Int) + 1) = (K2 : Int) + 1 := by rw [wrap_small _ (by omega) (by omega)]
  have i1 : (0 : Int) ≤ (K1 : Int) := by omega
  have i2 : (K1 : Int) ≤ (K2 : Int) := by omega
  have i3 : (K2 : Int) ≤ (s.size : Int) := by omega
  have W1 : Below w.heap.size w (w.alloc itZ) := (Below.refl _ _).alloc (Nat.le_refl _) _
  have lb := h.lt
  have c0 := (h.kept W1).c0
  have HF : Hid (∀ W, SX W b s m p v 0 0 → Calls Tryz.prog 69 #[.pointer (some ⟨b, 0, none⟩), .int .i64 ((K2 : Int) + 1), .string (⟨#[61]⟩ ++ ⟨#[93]⟩)] W fun e w' => e = .returned (.int .i64 (t0 : Int)) ∧ Below W.heap.size W w') := fun W hW => by
    have := rfind_c hW hs K3 (by omega) ⟨#[61, 93]⟩ rfl
    rw [show fnd s (ByteArray.mk #[61, 93]).data.toList K3 = some t0 from hf, show (K3 : Int) = ((K2 : Int) + 1) by omega] at this
    exact this
  obtain ⟨T2, hT2⟩ : ∃ T2, T2 = t0 + 2 := ⟨_, rfl⟩
  have ht := fnd_some hf
  have ht2 := sees_len ht.2.1 (by simp)
  simp only [List.length_cons, List.length_nil] at ht2
  have i4 : (K2 : Int) ≤ (t0 : Int) := by omega
  have i5 : (t0 : Int) ≤ (s.size : Int) := by omega
  have i6 : (0 : Int) ≤ (K2 : Int) := by omega
  have i7 : ¬ (t0 : Int) < 0 := by omega
  have w4 : IntKind.wrap .i64 ((t0 : Int) + 2) = (T2 : Int) := by rw [wrap_small _ (by omega) (by omega)]; omega
  obtain ⟨TT, hTT⟩ : ∃ TT, TT = s.extract K2 t0 := ⟨_, rfl⟩
  have hTs : TT.size = t0 - K2 := by rw [hTT, ByteArray.size_extract]; omega
  have HU : Hid (∀ W, Calls Tryz.prog 15 #[.string TT, .int .i64 0, .bool m.c] W fun e w' => e = .returned (.tuple #[.int .i64 c, .int .i64 (n : Int)]) ∧ Below W.heap.size W w') := fun W => by
    have := runit_c TT 0 m W (by omega) (by omega)
    rw [hTT, hK2, hun] at this
    rw [hTT, hK2]
    exact this
  rw [← hK2] at hcn
  have j2 : c < 0 ∨ (¬ c < 0 ∧ ((n : Int) != (TT.size : Int)) = true) := by
    by_cases hc0 : c < 0
    · exact .inl hc0
    · exact .inr ⟨hc0, bne_iff_ne.2 (by omega)⟩
  have hTT' := hTT.symm
  have H : Hid (SX w b s m p v 0 0 ∧ Below w.heap.size w (w.alloc itZ)) := ⟨h, W1⟩
  clear h W1 hf hsee hK1 hsl
  clear hK2 hK3 hT2 hun hcn ht ht2 hTT hTs
  rcases j2 with j2 | ⟨j1, j2⟩
  · skip
    go_enter Tryz.func53, Tryz.ntmps53
    go_wp2_with first
      | (go_at_call 69; (with_reducible refine (HF.out _ (H.out.1.kept H.out.2)).mono ?_); rintro e w5 ⟨rfl, h5⟩; have X5 : Hid (SX w5 b s m p v 0 0 ∧ Below w.heap.size w w5 ∧ IZ w5 w.heap.size) := ⟨(H.out.1.kept H.out.2).kept h5, chain H.out.2 h5 (Nat.le_refl _), (IZ.new w).fr (Fr.of_below h5) (S := fun _ => False) (fun q => q)⟩; have q0 := X5.out.1.c0; have q1 := X5.out.1.c1; have ql := X5.out.1.lt; clear h5)
      | (go_at_call 15; (with_reducible refine (HU.out _).mono ?_); rintro e w7 ⟨rfl, g7⟩; have X7 : Hid (SX w7 b s m p v 0 0 ∧ Below w.heap.size w w7 ∧ IZ w7 w.heap.size) := ⟨X5.out.1.kept g7, chain X5.out.2.1 g7 (Nat.le_refl _), X5.out.2.2.fr (S := fun _ => False) (Fr.of_below g7) (fun q => q)⟩; have r1 := X7.out.1.lt; clear g7)
      | (go_at_call 19; refine (rno_new X7.out.1 35 k).mono ?_; rintro e w6 ⟨rfl, h6, g6⟩; have X6 : Hid (SX w6 b s m p v 35 k ∧ Fr (At b) w w6 ∧ IZ w6 w.heap.size) := ⟨h6, (Fr.of_below X7.out.2.1).trans g6, X7.out.2.2.fr g6 (by intro q; have : w.heap.size = b := q; omega)⟩; have r0 := X6.out.1.c0; have rl := X6.out.1.lt;  have X8 : Hid (SX (w6.alloc (.cells #[.int .i64 c, .int .i64 c] 39)) b s m p v 35 k ∧ Fr (At b) w (w6.alloc (.cells #[.int .i64 c, .int .i64 c] 39)) ∧ IZ (w6.alloc (.cells #[.int .i64 c, .int .i64 c] 39)) w.heap.size) := ⟨X6.out.1.kept ((Below.refl _ _).alloc (Nat.le_refl _) _), X6.out.2.1.alloc _, X6.out.2.2.fr (S := fun _ => False) (Fr.of_below ((Below.refl _ _).alloc (Nat.le_refl _) _)) (fun q => q)⟩; obtain ⟨z0, z1, z2, z3, y0, y1, y2, y3⟩ := X8.out.2.2.all; clear h6 g6)
    refine bodyPost_ret (v := .agg #[.bool false, .int .i64 c, .slice (some ⟨w6.heap.size, 0, none⟩) 1 1, .int .i64 (T2 : Int)]) (by obtain ⟨e0, e1, e2, e3⟩ := put4_cells X8.out.2.2 (.bool false) (.int .i64 c) (.slice (some ⟨w6.heap.size, 0, none⟩) 1 1) (.int .i64 (T2 : Int)); simp [results, Tryz.results53, go_sem, e0, e1, e2, e3]) rfl ⟨fr4 (X8.out.2.1) (Nat.le_refl _) _ _ _ _, _, _, _, _, _, _, rfl, X8.out.1.fr (fr4' _ _ _ _) (by intro q; have : b = w.heap.size := q; omega)⟩
  · skip
    go_enter Tryz.func53, Tryz.ntmps53
    go_wp2_with first
      | (go_at_call 69; (with_reducible refine (HF.out _ (H.out.1.kept H.out.2)).mono ?_); rintro e w5 ⟨rfl, h5⟩; have X5 : Hid (SX w5 b s m p v 0 0 ∧ Below w.heap.size w w5 ∧ IZ w5 w.heap.size) := ⟨(H.out.1.kept H.out.2).kept h5, chain H.out.2 h5 (Nat.le_refl _), (IZ.new w).fr (Fr.of_below h5) (S := fun _ => False) (fun q => q)⟩; have q0 := X5.out.1.c0; have q1 := X5.out.1.c1; have ql := X5.out.1.lt; clear h5)
      | (go_at_call 15; (with_reducible refine (HU.out _).mono ?_); rintro e w7 ⟨rfl, g7⟩; have X7 : Hid (SX w7 b s m p v 0 0 ∧ Below w.heap.size w w7 ∧ IZ w7 w.heap.size) := ⟨X5.out.1.kept g7, chain X5.out.2.1 g7 (Nat.le_refl _), X5.out.2.2.fr (S := fun _ => False) (Fr.of_below g7) (fun q => q)⟩; have r1 := X7.out.1.lt; clear g7)
      | (go_at_call 19; refine (rno_new X7.out.1 35 k).mono ?_; rintro e w6 ⟨rfl, h6, g6⟩; have X6 : Hid (SX w6 b s m p v 35 k ∧ Fr (At b) w w6 ∧ IZ w6 w.heap.size) := ⟨h6, (Fr.of_below X7.out.2.1).trans g6, X7.out.2.2.fr g6 (by intro q; have : w.heap.size = b := q; omega)⟩; have r0 := X6.out.1.c0; have rl := X6.out.1.lt;  have X8 : Hid (SX (w6.alloc (.cells #[.int .i64 c, .int .i64 c] 39)) b s m p v 35 k ∧ Fr (At b) w (w6.alloc (.cells #[.int .i64 c, .int .i64 c] 39)) ∧ IZ (w6.alloc (.cells #[.int .i64 c, .int .i64 c] 39)) w.heap.size) := ⟨X6.out.1.kept ((Below.refl _ _).alloc (Nat.le_refl _) _), X6.out.2.1.alloc _, X6.out.2.2.fr (S := fun _ => False) (Fr.of_below ((Below.refl _ _).alloc (Nat.le_refl _) _)) (fun q => q)⟩; obtain ⟨z0, z1, z2, z3, y0, y1, y2, y3⟩ := X8.out.2.2.all; clear h6 g6)
    refine bodyPost_ret (v := .agg #[.bool false, .int .i64 c, .slice (some ⟨w6.heap.size, 0, none⟩) 1 1, .int .i64 (T2 : Int)]) (by obtain ⟨e0, e1, e2, e3⟩ := put4_cells X8.out.2.2 (.bool false) (.int .i64 c) (.slice (some ⟨w6.heap.size, 0, none⟩) 1 1) (.int .i64 (T2 : Int)); simp [results, Tryz.results53, go_sem, e0, e1, e2, e3]) rfl ⟨fr4 (X8.out.2.1) (Nat.le_refl _) _ _ _ _, _, _, _, _, _, _, rfl, X8.out.1.fr (fr4' _ _ _ _) (by intro q; have : b = w.heap.size := q; omega)⟩
set_option maxRecDepth 100000 in
set_option maxHeartbeats 4000000 in
theorem relm_ok46 {w : World} {b : Nat} {s : ByteArray} {m : Md} {p : Nat} {v : Value} (h : SX w b s m p v 0 0) (hs : s.size ≤ 2000) (o k : Nat) (hsee : sees s k [91, 46] = true) (t0 : Nat) (c : Int) (n : Nat) (hf : fnd s [46, 93] (k + 3) = some t0) (hun : un m (s.extract (k + 2) t0) 0 = (c, n)) (hcn : ¬ c < 0 ∧ n = t0 - (k + 2)) :
    Calls Tryz.prog 53 #[.pointer (some ⟨b, 0, none⟩), .int .i64 (k : Int), .int .i64 (o : Int)] w (ItIs w b s m p v (.ok (true, c, [(c, c)], t0 + 2))) := by
  have hsl := sees_len hsee (by simp)
  simp only [List.length_cons, List.length_nil] at hsl
  have hsg := sign_is hsee
  obtain ⟨K1, hK1⟩ : ∃ K1, K1 = k + 1 := ⟨_, rfl⟩
  obtain ⟨K2, hK2⟩ : ∃ K2, K2 = k + 2 := ⟨_, rfl⟩
  obtain ⟨K3, hK3⟩ : ∃ K3, K3 = k + 3 := ⟨_, rfl⟩
  rw [← hK1, ← hK2] at hsg
  rw [← hK3] at hf
  have w1 : IntKind.wrap .i64 ((k : Int) + 1) = (K1 : Int) := by rw [wrap_small _ (by omega) (by omega)]; omega
  have w2 : IntKind.wrap .i64 ((k : Int) + 2) = (K2 : Int) := by rw [wrap_small _ (by omega) (by omega)]; omega
  have w3 : IntKind.wrap .i64 ((K2 : Int) + 1) = (K2 : Int) + 1 := by rw [wrap_small _ (by omega) (by omega)]
  have i1 : (0 : Int) ≤ (K1 : Int) := by omega
  have i2 : (K1 : Int) ≤ (K2 : Int) := by omega
  have i3 : (K2 : Int) ≤ (s.size : Int) := by omega
  have W1 : Below w.heap.size w (w.alloc itZ) := (Below.refl _ _).alloc (Nat.le_refl _) _
  have lb := h.lt
  have c0 := (h.kept W1).c0
  have HF : Hid (∀ W, SX W b s m p v 0 0 → Calls Tryz.prog 69 #[.pointer (some ⟨b, 0, none⟩), .int .i64 ((K2 : Int) + 1), .string (⟨#[46]⟩ ++ ⟨#[93]⟩)] W fun e w' => e = .returned (.int .i64 (t0 : Int)) ∧ Below W.heap.size W w') := fun W hW => by
    have := rfind_c hW hs K3 (by omega) ⟨#[46, 93]⟩ rfl
    rw [show fnd s (ByteArray.mk #[46, 93]).data.toList K3 = some t0 from hf, show (K3 : Int) = ((K2 : Int) + 1) by omega] at this
    exact this
  obtain ⟨T2, hT2⟩ : ∃ T2, T2 = t0 + 2 := ⟨_, rfl⟩
  rw [← hT2]
  have ht := fnd_some hf
  have ht2 := sees_len ht.2.1 (by simp)
  simp only [List.length_cons, List.length_nil] at ht2
  have i4 : (K2 : Int) ≤ (t0 : Int) := by omega
  have i5 : (t0 : Int) ≤ (s.size : Int) := by omega
  have i6 : (0 : Int) ≤ (K2 : Int) := by omega
  have i7 : ¬ (t0 : Int) < 0 := by omega
  have w4 : IntKind.wrap .i64 ((t0 : Int) + 2) = (T2 : Int) := by rw [wrap_small _ (by omega) (by omega)]; omega
  obtain ⟨TT, hTT⟩ : ∃ TT, TT = s.extract K2 t0 := ⟨_, rfl⟩
  have hTs : TT.size = t0 - K2 := by rw [hTT, ByteArray.size_extract]; omega
  have HU : Hid (∀ W, Calls Tryz.prog 15 #[.string TT, .int .i64 0, .bool m.c] W fun e w' => e = .returned (.tuple #[.int .i64 c, .int .i64 (n : Int)]) ∧ Below W.heap.size W w') := fun W => by
    have := runit_c TT 0 m W (by omega) (by omega)
    rw [hTT, hK2, hun] at this
    rw [hTT, hK2]
    exact this
  rw [← hK2] at hcn
  have j0 : ¬ c < 0 := by omega
  have j1 : n = TT.size := by omega
  have j2 : ((n : Int) != (TT.size : Int)) = false := by rw [j1]; simp
  have hTT' := hTT.symm
  have H : Hid (SX w b s m p v 0 0 ∧ Below w.heap.size w (w.alloc itZ)) := ⟨h, W1⟩
  clear h W1 hf hsee hK1 hsl
  clear hK2 hK3 hT2 hun hcn ht ht2 hTT hTs j1
  go_enter Tryz.func53, Tryz.ntmps53
  go_wp2_with first
    | (go_at_call 69; (with_reducible refine (HF.out _ (H.out.1.kept H.out.2)).mono ?_); rintro e w5 ⟨rfl, h5⟩; have X5 : Hid (SX w5 b s m p v 0 0 ∧ Below w.heap.size w w5 ∧ IZ w5 w.heap.size) := ⟨(H.out.1.kept H.out.2).kept h5, chain H.out.2 h5 (Nat.le_refl _), (IZ.new w).fr (Fr.of_below h5) (S := fun _ => False) (fun q => q)⟩; have q0 := X5.out.1.c0; have q1 := X5.out.1.c1; have ql := X5.out.1.lt; clear h5)
    | (go_at_call 15; (with_reducible refine (HU.out _).mono ?_); rintro e w7 ⟨rfl, g7⟩; have X7 : Hid (SX w7 b s m p v 0 0 ∧ Below w.heap.size w w7 ∧ IZ w7 w.heap.size) := ⟨X5.out.1.kept g7, chain X5.out.2.1 g7 (Nat.le_refl _), X5.out.2.2.fr (S := fun _ => False) (Fr.of_below g7) (fun q => q)⟩; have r1 := X7.out.1.lt; have X8 : Hid (SX (w7.alloc (.cells #[.int .i64 c, .int .i64 c] 39)) b s m p v 0 0 ∧ Below w.heap.size w (w7.alloc (.cells #[.int .i64 c, .int .i64 c] 39)) ∧ IZ (w7.alloc (.cells #[.int .i64 c, .int .i64 c] 39)) w.heap.size ∧ RR w.heap.size (w7.alloc (.cells #[.int .i64 c, .int .i64 c] 39)) (.slice (some ⟨w7.heap.size, 0, none⟩) 1 1) [(c, c)]) := ⟨X7.out.1.kept ((Below.refl _ _).alloc (Nat.le_refl _) _), X7.out.2.1.alloc X7.out.2.1.size _, X7.out.2.2.fr (S := fun _ => False) (Fr.of_below ((Below.refl _ _).alloc (Nat.le_refl _) _)) (fun q => q), RR.mono (World.ownsRow_lit w7 #[.int .i64 c, .int .i64 c] 1 (Nat.le_refl _) (by unfold maxLen; omega) rfl) X7.out.2.1.size⟩; obtain ⟨z0, z1, z2, z3, y0, y1, y2, y3⟩ := X8.out.2.2.1.all; clear g7)
  refine bodyPost_ret (v := .agg #[.bool true, .int .i64 c, .slice (some ⟨w7.heap.size, 0, none⟩) 1 1, .int .i64 (T2 : Int)]) (by obtain ⟨e0, e1, e2, e3⟩ := put4_cells X8.out.2.2.1 (.bool true) (.int .i64 c) (.slice (some ⟨w7.heap.size, 0, none⟩) 1 1) (.int .i64 (T2 : Int)); simp [results, Tryz.results53, go_sem, e0, e1, e2, e3]) rfl ⟨fr4 (Fr.of_below X8.out.2.1) (Nat.le_refl _) _ _ _ _, _, rfl, (X8.out.2.2.2.fr (S := fun k => k = w.heap.size) (fr4' _ _ _ _) (fun k hk e => ownsRow_not X8.out.2.2.2 X8.out.2.2.1 (by decide) (by rw [hk, show k = _ from e]))), X8.out.1.fr (fr4' _ _ _ _) (by intro q; have : b = w.heap.size := q; omega)⟩
set_option maxRecDepth 100000 in
set_option maxHeartbeats 4000000 in
theorem relm_bad46 {w : World} {b : Nat} {s : ByteArray} {m : Md} {p : Nat} {v : Value} (h : SX w b s m p v 0 0) (hs : s.size ≤ 2000) (o k : Nat) (hsee : sees s k [91, 46] = true) (t0 : Nat) (c : Int) (n : Nat) (hf : fnd s [46, 93] (k + 3) = some t0) (hun : un m (s.extract (k + 2) t0) 0 = (c, n)) (hcn : c < 0 ∨ n ≠ t0 - (k + 2)) :
    Calls Tryz.prog 53 #[.pointer (some ⟨b, 0, none⟩), .int .i64 (k : Int), .int .i64 (o : Int)] w (ItIs w b s m p v (.error (35, k))) := by
  have hsl := sees_len hsee (by simp)
  simp only [List.length_cons, List.length_nil] at hsl
  have hsg := sign_is hsee
  obtain ⟨K1, hK1⟩ : ∃ K1, K1 = k + 1 := ⟨_, rfl⟩
  obtain ⟨K2, hK2⟩ : ∃ K2, K2 = k + 2 := ⟨_, rfl⟩
  obtain ⟨K3, hK3⟩ : ∃ K3, K3 = k + 3 := ⟨_, rfl⟩
  rw [← hK1, ← hK2] at hsg
  rw [← hK3] at hf
  have w1 : IntKind.wrap .i64 ((k : Int) + 1) = (K1 : Int) := by rw [wrap_small _ (by omega) (by omega)]; omega
  have w2 : IntKind.wrap .i64 ((k : Int) + 2) = (K2 : Int) := by rw [wrap_small _ (by omega) (by omega)]; omega
  have w3 : IntKind.wrap .i64 ((K2 : Int) + 1) = (K2 : Int) + 1 := by rw [wrap_small _ (by omega) (by omega)]
  have i1 : (0 : Int) ≤ (K1 : Int) := by omega
  have i2 : (K1 : Int) ≤ (K2 : Int) := by omega
  have i3 : (K2 : Int) ≤ (s.size : Int) := by omega
  have W1 : Below w.heap.size w (w.alloc itZ) := (Below.refl _ _).alloc (Nat.le_refl _) _
  have lb := h.lt
  have c0 := (h.kept W1).c0
  have HF : Hid (∀ W, SX W b s m p v 0 0 → Calls Tryz.prog 69 #[.pointer (some ⟨b, 0, none⟩), .int .i64 ((K2 : Int) + 1), .string (⟨#[46]⟩ ++ ⟨#[93]⟩)] W fun e w' => e = .returned (.int .i64 (t0 : Int)) ∧ Below W.heap.size W w') := fun W hW => by
    have := rfind_c hW hs K3 (by omega) ⟨#[46, 93]⟩ rfl
    rw [show fnd s (ByteArray.mk #[46, 93]).data.toList K3 = some t0 from hf, show (K3 : Int) = ((K2 : Int) + 1) by omega] at this
    exact this
  obtain ⟨T2, hT2⟩ : ∃ T2, T2 = t0 + 2 := ⟨_, rfl⟩
  have ht := fnd_some hf
  have ht2 := sees_len ht.2.1 (by simp)
  simp only [List.length_cons, List.length_nil] at ht2
  have i4 : (K2 : Int) ≤ (t0 : Int) := by omega
  have i5 : (t0 : Int) ≤ (s.size : Int) := by omega
  have i6 : (0 : Int) ≤ (K2 : Int) := by omega
  have i7 : ¬ (t0 : Int) < 0 := by omega
  have w4 : IntKind.wrap .i64 ((t0 : Int) + 2) = (T2 : Int) := by rw [wrap_small _ (by omega) (by omega)]; omega
  obtain ⟨TT, hTT⟩ : ∃ TT, TT = s.extract K2 t0 := ⟨_, rfl⟩
  have hTs : TT.size = t0 - K2 := by rw [hTT, ByteArray.size_extract]; omega
  have HU : Hid (∀ W, Calls Tryz.prog 15 #[.string TT, .int .i64 0, .bool m.c] W fun e w' => e = .returned (.tuple #[.int .i64 c, .int .i64 (n : Int)]) ∧ Below W.heap.size W w') := fun W => by
    have := runit_c TT 0 m W (by omega) (by omega)
    rw [hTT, hK2, hun] at this
    rw [hTT, hK2]
    exact this
  rw [← hK2] at hcn
  have j2 : c < 0 ∨ (¬ c < 0 ∧ ((n : Int) != (TT.size : Int)) = true) := by
    by_cases hc0 : c < 0
    · exact .inl hc0
    · exact .inr ⟨hc0, bne_iff_ne.2 (by omega)⟩
  have hTT' := hTT.symm
  have H : Hid (SX w b s m p v 0 0 ∧ Below w.heap.size w (w.alloc itZ)) := ⟨h, W1⟩
  clear h W1 hf hsee hK1 hsl
  clear hK2 hK3 hT2 hun hcn ht ht2 hTT hTs
  rcases j2 with j2 | ⟨j1, j2⟩
  · skip
    go_enter Tryz.func53, Tryz.ntmps53
    go_wp2_with first
      | (go_at_call 69; (with_reducible refine (HF.out _ (H.out.1.kept H.out.2)).mono ?_); rintro e w5 ⟨rfl, h5⟩; have X5 : Hid (SX w5 b s m p v 0 0 ∧ Below w.heap.size w w5 ∧ IZ w5 w.heap.size) := ⟨(H.out.1.kept H.out.2).kept h5, chain H.out.2 h5 (Nat.le_refl _), (IZ.new w).fr (Fr.of_below h5) (S := fun _ => False) (fun q => q)⟩; have q0 := X5.out.1.c0; have q1 := X5.out.1.c1; have ql := X5.out.1.lt; clear h5)
      | (go_at_call 15; (with_reducible refine (HU.out _).mono ?_); rintro e w7 ⟨rfl, g7⟩; have X7 : Hid (SX w7 b s m p v 0 0 ∧ Below w.heap.size w w7 ∧ IZ w7 w.heap.size) := ⟨X5.out.1.kept g7, chain X5.out.2.1 g7 (Nat.le_refl _), X5.out.2.2.fr (S := fun _ => False) (Fr.of_below g7) (fun q => q)⟩; have r1 := X7.out.1.lt; clear g7)
      | (go_at_call 19; refine (rno_new X7.out.1 35 k).mono ?_; rintro e w6 ⟨rfl, h6, g6⟩; have X6 : Hid (SX w6 b s m p v 35 k ∧ Fr (At b) w w6 ∧ IZ w6 w.heap.size) := ⟨h6, (Fr.of_below X7.out.2.1).trans g6, X7.out.2.2.fr g6 (by intro q; have : w.heap.size = b := q; omega)⟩; have r0 := X6.out.1.c0; have rl := X6.out.1.lt;  have X8 : Hid (SX (w6.alloc (.cells #[.int .i64 c, .int .i64 c] 39)) b s m p v 35 k ∧ Fr (At b) w (w6.alloc (.cells #[.int .i64 c, .int .i64 c] 39)) ∧ IZ (w6.alloc (.cells #[.int .i64 c, .int .i64 c] 39)) w.heap.size) := ⟨X6.out.1.kept ((Below.refl _ _).alloc (Nat.le_refl _) _), X6.out.2.1.alloc _, X6.out.2.2.fr (S := fun _ => False) (Fr.of_below ((Below.refl _ _).alloc (Nat.le_refl _) _)) (fun q => q)⟩; obtain ⟨z0, z1, z2, z3, y0, y1, y2, y3⟩ := X8.out.2.2.all; clear h6 g6)
    refine bodyPost_ret (v := .agg #[.bool true, .int .i64 c, .slice (some ⟨w6.heap.size, 0, none⟩) 1 1, .int .i64 (T2 : Int)]) (by obtain ⟨e0, e1, e2, e3⟩ := put4_cells X8.out.2.2 (.bool true) (.int .i64 c) (.slice (some ⟨w6.heap.size, 0, none⟩) 1 1) (.int .i64 (T2 : Int)); simp [results, Tryz.results53, go_sem, e0, e1, e2, e3]) rfl ⟨fr4 (X8.out.2.1) (Nat.le_refl _) _ _ _ _, _, _, _, _, _, _, rfl, X8.out.1.fr (fr4' _ _ _ _) (by intro q; have : b = w.heap.size := q; omega)⟩
  · skip
    go_enter Tryz.func53, Tryz.ntmps53
    go_wp2_with first
      | (go_at_call 69; (with_reducible refine (HF.out _ (H.out.1.kept H.out.2)).mono ?_); rintro e w5 ⟨rfl, h5⟩; have X5 : Hid (SX w5 b s m p v 0 0 ∧ Below w.heap.size w w5 ∧ IZ w5 w.heap.size) := ⟨(H.out.1.kept H.out.2).kept h5, chain H.out.2 h5 (Nat.le_refl _), (IZ.new w).fr (Fr.of_below h5) (S := fun _ => False) (fun q => q)⟩; have q0 := X5.out.1.c0; have q1 := X5.out.1.c1; have ql := X5.out.1.lt; clear h5)
      | (go_at_call 15; (with_reducible refine (HU.out _).mono ?_); rintro e w7 ⟨rfl, g7⟩; have X7 : Hid (SX w7 b s m p v 0 0 ∧ Below w.heap.size w w7 ∧ IZ w7 w.heap.size) := ⟨X5.out.1.kept g7, chain X5.out.2.1 g7 (Nat.le_refl _), X5.out.2.2.fr (S := fun _ => False) (Fr.of_below g7) (fun q => q)⟩; have r1 := X7.out.1.lt; clear g7)
      | (go_at_call 19; refine (rno_new X7.out.1 35 k).mono ?_; rintro e w6 ⟨rfl, h6, g6⟩; have X6 : Hid (SX w6 b s m p v 35 k ∧ Fr (At b) w w6 ∧ IZ w6 w.heap.size) := ⟨h6, (Fr.of_below X7.out.2.1).trans g6, X7.out.2.2.fr g6 (by intro q; have : w.heap.size = b := q; omega)⟩; have r0 := X6.out.1.c0; have rl := X6.out.1.lt;  have X8 : Hid (SX (w6.alloc (.cells #[.int .i64 c, .int .i64 c] 39)) b s m p v 35 k ∧ Fr (At b) w (w6.alloc (.cells #[.int .i64 c, .int .i64 c] 39)) ∧ IZ (w6.alloc (.cells #[.int .i64 c, .int .i64 c] 39)) w.heap.size) := ⟨X6.out.1.kept ((Below.refl _ _).alloc (Nat.le_refl _) _), X6.out.2.1.alloc _, X6.out.2.2.fr (S := fun _ => False) (Fr.of_below ((Below.refl _ _).alloc (Nat.le_refl _) _)) (fun q => q)⟩; obtain ⟨z0, z1, z2, z3, y0, y1, y2, y3⟩ := X8.out.2.2.all; clear h6 g6)
    refine bodyPost_ret (v := .agg #[.bool true, .int .i64 c, .slice (some ⟨w6.heap.size, 0, none⟩) 1 1, .int .i64 (T2 : Int)]) (by obtain ⟨e0, e1, e2, e3⟩ := put4_cells X8.out.2.2 (.bool true) (.int .i64 c) (.slice (some ⟨w6.heap.size, 0, none⟩) 1 1) (.int .i64 (T2 : Int)); simp [results, Tryz.results53, go_sem, e0, e1, e2, e3]) rfl ⟨fr4 (X8.out.2.1) (Nat.le_refl _) _ _ _ _, _, _, _, _, _, _, rfl, X8.out.1.fr (fr4' _ _ _ _) (by intro q; have : b = w.heap.size := q; omega)⟩
end Go.Proofs.YtloeajhmmjdlgaaGreatDoor
namespace Go.Proofs.YtloeajhmmjdlgaaGreatDoor
open Go Go.RowKit
attribute [local go_sem] ext_cell

theorem mark_is {s : ByteArray} {k : Nat} {x : UInt8} (h : sees s k [91, x] = true) : UInt8.ofNat (bt s (k + 1)) = x := by
  rw [(sees_two.1 h).2.2]
  exact UInt8.ofNat_toNat
theorem wit0 {s : ByteArray} {o k : Nat} {x : UInt8} (h : sees s k [91, x] = true) : wit s o k 0 = match fnd s [x, 93] (k + 2) with
    | none => .error (33, o)
    | some e => .ok e := by
  unfold wit
  rw [mark_is h, Nat.zero_min, Nat.add_zero]
  cases fnd s [x, 93] (k + 2) <;> rfl
theorem wit1 {s : ByteArray} {o k : Nat} {x : UInt8} (h : sees s k [91, x] = true) : wit s o k 1 = match fnd s [x, 93] (k + 3) with
    | none => .error (33, o)
    | some e => .ok e := by
  have hl := sees_len h (by simp)
  simp only [List.length_cons, List.length_nil] at hl
  have e : fnd s [x, 93] (k + 2 + min 1 (s.size - (k + 2))) = fnd s [x, 93] (k + 3) := by
    by_cases g : k + 2 < s.size
    · rw [show k + 2 + min 1 (s.size - (k + 2)) = k + 3 by omega]
    · have a : ∀ n, k + 2 ≤ n → fnd s [x, 93] n = none := fun n hn => fnd_isnone fun i hi => sees_off (by simp) (by simp only [List.length_cons, List.length_nil]; omega)
      rw [a _ (by omega), a _ (by omega)]
  unfold wit
  rw [mark_is h, e]
  cases fnd s [x, 93] (k + 3) <;> rfl
theorem rnam_c {w : World} {b : Nat} {s : ByteArray} {m : Md} {p : Nat} {v : Value} (h : SX w b s m p v 0 0) (hs : s.size ≤ 2000) (o k : Nat) (hsee : sees s k [91, 58] = true) :
    Calls Tryz.prog 53 #[.pointer (some ⟨b, 0, none⟩), .int .i64 (k : Int), .int .i64 (o : Int)] w (ItIs w b s m p v (namI s o k)) := by
  unfold namI nam
  rw [wit0 hsee]
  cases hf : fnd s [58, 93] (k + 2) with
  | none => exact rnam_none h hs o k hsee hf
  | some t0 =>
    dsimp only
    cases hnm : nmd (s.extract (k + 2) t0) with
    | mk B LL => cases B with
      | false => exact rnam_bad h hs o k hsee t0 LL hf hnm
      | true => exact rnam_ok h hs o k hsee t0 LL hf hnm
theorem relm61_c {w : World} {b : Nat} {s : ByteArray} {m : Md} {p : Nat} {v : Value} (h : SX w b s m p v 0 0) (hs : s.size ≤ 2000) (o k : Nat) (hsee : sees s k [91, 61] = true) :
    Calls Tryz.prog 53 #[.pointer (some ⟨b, 0, none⟩), .int .i64 (k : Int), .int .i64 (o : Int)] w (ItIs w b s m p v (elmI m s o k false)) := by
  unfold elmI elem
  rw [wit1 hsee]
  cases hf : fnd s [61, 93] (k + 3) with
  | none => exact relm_none61 h hs o k hsee hf
  | some t0 =>
    dsimp only
    have ht := fnd_some hf
    have ht2 := sees_len ht.2.1 (by simp)
    simp only [List.length_cons, List.length_nil] at ht2
    have hz : (s.extract (k + 2) t0).size = t0 - (k + 2) := by rw [ByteArray.size_extract]; omega
    have hu := un_wd m (s.extract (k + 2) t0) 0 (by omega)
    cases hun : un m (s.extract (k + 2) t0) 0 with
    | mk c n =>
      rw [hun] at hu
      dsimp only at hu ⊢
      by_cases g : c < 0 ∨ n < t0 - (k + 2)
      · rw [if_pos g]
        exact relm_bad61 h hs o k hsee t0 c n hf hun (g.imp id (fun q => by omega))
      · rw [if_neg g]
        exact relm_ok61 h hs o k hsee t0 c n hf hun ⟨fun q => g (.inl q), by omega⟩
theorem relm46_c {w : World} {b : Nat} {s : ByteArray} {m : Md} {p : Nat} {v : Value} (h : SX w b s m p v 0 0) (hs : s.size ≤ 2000) (o k : Nat) (hsee : sees s k [91, 46] = true) :
    Calls Tryz.prog 53 #[.pointer (some ⟨b, 0, none⟩), .int .i64 (k : Int), .int .i64 (o : Int)] w (ItIs w b s m p v (elmI m s o k true)) := by
  unfold elmI elem
  rw [wit1 hsee]
  cases hf : fnd s [46, 93] (k + 3) with
  | none => exact relm_none46 h hs o k hsee hf
  | some t0 =>
    dsimp only
    have ht := fnd_some hf
    have ht2 := sees_len ht.2.1 (by simp)
    simp only [List.length_cons, List.length_nil] at ht2
    have hz : (s.extract (k + 2) t0).size = t0 - (k + 2) := by rw [ByteArray.size_extract]; omega
    have hu := un_wd m (s.extract (k + 2) t0) 0 (by omega)
    cases hun : un m (s.extract (k + 2) t0) 0 with
    | mk c n =>
      rw [hun] at hu
      dsimp only at hu ⊢
      by_cases g : c < 0 ∨ n < t0 - (k + 2)
      · rw [if_pos g]
        exact relm_bad46 h hs o k hsee t0 c n hf hun (g.imp id (fun q => by omega))
      · rw [if_neg g]
        exact relm_ok46 h hs o k hsee t0 c n hf hun ⟨fun q => g (.inl q), by omega⟩
end Go.Proofs.YtloeajhmmjdlgaaGreatDoor
