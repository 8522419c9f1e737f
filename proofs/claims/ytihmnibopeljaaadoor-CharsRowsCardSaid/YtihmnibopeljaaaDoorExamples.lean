/-
  The chapter's examples.
-/
import Derived.Test.YtihmnibopeljaaaDoorRowsLit
namespace Go.Proofs.YtihmnibopeljaaaDoor
open Go Go.RowKit

/-- What lies of package variables. -/
structure Glob (w : World) : Prop where
  tabs : Tabs w
  spans : Spans w
theorem Glob.then {n : Nat} {w w' : World} (h : Glob w) (hb : Below n w w') (hn : 2 < n) : Glob w' := ⟨h.tabs.below hb hn, h.spans.below hb (by omega)⟩
theorem Glob.size {w : World} (h : Glob w) : 2 < w.heap.size := h.tabs.blocks.2
theorem one_arg (w : World) (x : Int) : ArgI (w.alloc (.cells #[.int .i64 x] 3)) (.slice (some ⟨w.heap.size, 0, none⟩) 1 1) [x] := by
  refine .inr ⟨w.heap.size, 0, 1, rfl, by simp, Nat.le_refl _, by decide, fun i y hy => ?_⟩
  match i, hy with
  | 0, hy => simp at hy; subst hy; simp

def tA : ByteArray := ⟨#[97, 195, 169]⟩
def tB : ByteArray := ⟨#[97, 92, 110]⟩
def tC : ByteArray := ⟨#[92, 113]⟩
def tD : ByteArray := ⟨#[97, 9, 92]⟩
def tE : ByteArray := ⟨#[97, 195, 169, 98]⟩
theorem ex1 : ch tA 1 = 233 ∧ wd tA 1 = 2 ∧ ch tA 2 = -1 ∧ wd tA 2 = 1 := by decide +kernel
theorem ex2 : txt (eTxt [8364]) = ⟨#[226, 130, 172]⟩ ∧ eErr [8364] = 0 ∧ eErr [55296] = 20 ∧ txt (eTxt [55296]) = ⟨#[]⟩ := by decide +kernel
theorem ex3 : txt (rdTxt tB (readO tB)) = ⟨#[97, 10]⟩ ∧ rdErr tB (readO tB) = 0 ∧ rdPl tB (readO tB) = 0 := by decide +kernel
theorem ex4 : rdErr tC (readO tC) = 32 ∧ rdPl tC (readO tC) = 0 := by decide +kernel
theorem ex5 : txt (shown tD) = ⟨#[97, 92, 120, 48, 57, 92, 92]⟩ := by decide +kernel
theorem ex6 : colOf 3 (us tE) = 2 := by decide +kernel

theorem nextA1 (W : World) (hT : Tabs W) : Calls Tryd.prog 22 #[.string ⟨#[97, 195, 169]⟩, .int .i64 1] W fun e w' => e = .returned (.tuple #[.int .i64 233, .int .i64 2]) ∧ Below W.heap.size W w' := by
  have := next_in tA 1 W hT (by decide) (by decide)
  rw [ex1.1, ex1.2.1] at this
  exact this
theorem nextA2 (W : World) (hT : Tabs W) : Calls Tryd.prog 22 #[.string ⟨#[97, 195, 169]⟩, .int .i64 2] W fun e w' => e = .returned (.tuple #[.int .i64 (-1), .int .i64 1]) ∧ Below W.heap.size W w' := by
  have := next_in tA 2 W hT (by decide) (by decide)
  rw [ex1.2.2.1, ex1.2.2.2] at this
  exact this
theorem encA {W : World} {v : Value} (h : ArgI W v [8364]) : Calls Tryd.prog 15 #[v] W fun e w' => e = .returned (.tuple #[.string ⟨#[226, 130, 172]⟩, .int .i64 0]) ∧ Below W.heap.size W w' := by
  have := encode_c h (by decide)
  rw [ex2.1, ex2.2.1] at this
  exact this
theorem encB' {W : World} {v : Value} (h : ArgI W v [55296]) : Calls Tryd.prog 15 #[v] W fun e w' => e = .returned (.tuple #[.string ⟨#[]⟩, .int .i64 20]) ∧ Below W.heap.size W w' := by
  have := encode_c h (by decide)
  rw [ex2.2.2.2, ex2.2.2.1] at this
  exact this
theorem readA (W : World) (hT : Tabs W) : Calls Tryd.prog 19 #[.string ⟨#[97, 92, 110]⟩] W fun e w' => e = .returned (.tuple #[.string ⟨#[97, 10]⟩, .int .i64 0, .int .i64 0]) ∧ Below W.heap.size W w' := by
  have := read_c tB W hT (by decide)
  rw [ex3.1, ex3.2.1, ex3.2.2] at this
  exact this
theorem readB (W : World) (hT : Tabs W) : Calls Tryd.prog 19 #[.string ⟨#[92, 113]⟩] W fun e w' => ∃ t, e = .returned (.tuple #[.string t, .int .i64 32, .int .i64 0]) ∧ Below W.heap.size W w' := by
  have := read_c tC W hT (by decide)
  rw [ex4.1, ex4.2] at this
  exact this.mono fun e w' h => ⟨_, h⟩
theorem shownA (W : World) (hT : Tabs W) : Calls Tryd.prog 20 #[.string ⟨#[97, 9, 92]⟩] W fun e w' => e = .returned (.string ⟨#[97, 92, 120, 48, 57, 92, 92]⟩) ∧ Below W.heap.size W w' := by
  have := shown_c tD W hT (by decide)
  rw [ex5] at this
  exact this
theorem columnA (W : World) : Calls Tryd.prog 23 #[.string ⟨#[97, 195, 169, 98]⟩, .int .i64 3] W fun e w' => e = .returned (.int .i64 2) ∧ Below W.heap.size W w' := by
  have := column_c tE 3 W (by decide)
  rw [ex6] at this
  exact this

set_option maxHeartbeats 8000000 in
set_option maxRecDepth 1000000 in
theorem examples_c (w : World) (hG : Glob w) : Calls Tryd.prog 9 #[] w fun e w' => e = .returned (.bool true) ∧ Below w.heap.size w w' := by
  have G : Hid (Glob w) := hG
  have hz := hG.size
  clear hG
  go_enter Tryd.func9, Tryd.ntmps9
  go_upto_region 2 with (go_at_call 22; (with_reducible refine (nextA1 _ G.out.tabs).mono ?_); rintro e w1 ⟨rfl, h1⟩; have B1 : Hid (Below w.heap.size w w1) := h1; clear h1)
  go_upto_region 3 with (go_at_call 22; (with_reducible refine (nextA2 _ (G.out.then B1.out hz).tabs).mono ?_); rintro e w2 ⟨rfl, h2⟩; have B2 : Hid (Below w.heap.size w w2) := chain B1.out h2 (Nat.le_refl _); clear h2)
  go_upto_region 4 with (go_at_call 15; (refine (encA (one_arg w2 8364)).mono ?_); rintro e w3 ⟨rfl, h3⟩; have B3 : Hid (Below w.heap.size w w3) := chain (B2.out.alloc B2.out.size _) h3 (Nat.le_refl _); clear h3)
  go_upto_region 5 with (go_at_call 15; (refine (encB' (one_arg w3 55296)).mono ?_); rintro e w4 ⟨rfl, h4⟩; have B4 : Hid (Below w.heap.size w w4) := chain (B3.out.alloc B3.out.size _) h4 (Nat.le_refl _); clear h4)
  go_upto_region 6 with (go_at_call 10; (with_reducible refine (rows_lit _ (G.out.then B4.out hz).spans).mono ?_); rintro e w5 ⟨g5, c5, rfl, h5⟩; have B5 : Hid (Below w.heap.size w w5) := chain B4.out h5 (Nat.le_refl _); clear h5)
  go_upto_region 7 with (go_at_call 10; (with_reducible refine (rows_bad _ _ _ (.inr (.inr (by decide)))).mono ?_); rintro e w6 ⟨rfl, h6⟩; subst w6)
  go_upto_region 8 with (go_at_call 19; (with_reducible refine (readA _ (G.out.then B5.out hz).tabs).mono ?_); rintro e w7 ⟨rfl, h7⟩; have B7 : Hid (Below w.heap.size w w7) := chain B5.out h7 (Nat.le_refl _); clear h7)
  go_upto_region 9 with (go_at_call 19; (with_reducible refine (readB _ (G.out.then B7.out hz).tabs).mono ?_); rintro e w8 ⟨t8, rfl, h8⟩; have B8 : Hid (Below w.heap.size w w8) := chain B7.out h8 (Nat.le_refl _); clear h8)
  go_wp2_with first
    | (go_at_call 20; (with_reducible refine (shownA _ (G.out.then B8.out hz).tabs).mono ?_); rintro e w9 ⟨rfl, h9⟩; have B9 : Hid (Below w.heap.size w w9) := chain B8.out h9 (Nat.le_refl _); clear h9)
    | (go_at_call 23; (with_reducible refine (columnA _).mono ?_); rintro e w10 ⟨rfl, h10⟩; have B10 : Hid (Below w.heap.size w w10) := chain B9.out h10 (Nat.le_refl _); clear h10)
  go_ret
  exact ⟨rfl, B10.out⟩
end Go.Proofs.YtihmnibopeljaaaDoor
