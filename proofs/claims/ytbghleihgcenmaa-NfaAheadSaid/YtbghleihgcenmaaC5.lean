/-
  Parts of the proof.
-/
import Derived.Test.YtbghleihgcenmaaC2
import Derived.BigQuiet
import Derived.Test.YtbghleihgcenmaaC3
import Derived.Test.YtbghleihgcenmaaC4
import Derived.Deep.RegionHeld3
import Derived.Deep.DrawnRows
set_option linter.unusedSimpArgs false
namespace Go.Proofs.Ytbghleihgcenmaa
open Go Go.RowKit
def z1_Ext (W : World) : Type := { w : World // Below W.heap.size W w }
theorem z1_wp_region_ext {P : Program} {id : Nat} {Q : Exit → Act → World → Prop} {a : Act} {w : World} {l : List Oper} (hm : P.follows .mixedOrders = true) (hB : Region.lexB .any l.toArray = true)
    (h : wpQuiet P l.toArray (fun w' => ∃ x : z1_Ext w, w' = x.val) (fun a' => ∀ w', (∃ x : z1_Ext w, w' = x.val) → Q .normal a' w') l a) : (Code.region id l.toArray true).wp P Q a w :=
  wp_region_quiet (C := fun w' => ∃ x : z1_Ext w, w' = x.val) hm hB ⟨⟨w.drew, (Below.refl _ _).drew⟩, rfl⟩ (by simpa using h)
theorem z1_ext_call {P : Program} {f : FuncId} {args : Array Value} {W : World} {x : z1_Ext W} {v : Value}
    (h : Calls P f args x.val fun e w' => e = .returned v ∧ Below x.val.heap.size x.val w') : Calls P f args x.val fun e w'' => e = .returned v ∧ ∃ y : z1_Ext W, w'' = y.val :=
  h.mono fun _ w' ⟨he, hb⟩ => ⟨he, ⟨w', x.2.trans (hb.mono x.2.size)⟩, rfl⟩
theorem z1_ext_call_same {P : Program} {f : FuncId} {args : Array Value} {W : World} {x : z1_Ext W} {v : Value}
    (h : Calls P f args x.val fun e w' => e = .returned v ∧ w' = x.val) : Calls P f args x.val fun e w'' => e = .returned v ∧ ∃ y : z1_Ext W, w'' = y.val :=
  h.mono fun _ _ ⟨he, hb⟩ => ⟨he, x, hb⟩
theorem z1_ext_cell {W : World} (x : z1_Ext W) (b o : Nat) (h : b < W.heap.size) : x.val.cell? ⟨b, o, none⟩ = W.cell? ⟨b, o, none⟩ := x.2.cell (p := ⟨b, o, none⟩) h
theorem z1_ext_frozen {W : World} (x : z1_Ext W) (b o : Nat) (h : b < W.heap.size) : x.val.frozen? ⟨b, o, none⟩ = W.frozen? ⟨b, o, none⟩ := x.2.frozen (p := ⟨b, o, none⟩) h
theorem z1_ext_below {W : World} (x : z1_Ext W) : Below W.heap.size W x.val := x.2
theorem z1_ext_size {W : World} (x : z1_Ext W) : W.heap.size ≤ x.val.heap.size := x.2.size
theorem z1_ext_of {W w1 : World} (h : ∃ x : z1_Ext W, w1 = x.val) : Below W.heap.size W w1 := by
  obtain ⟨x, rfl⟩ := h
  exact x.2
theorem z1_bcell {W w1 : World} (hb : Below W.heap.size W w1) : (∀ b o, b < W.heap.size → w1.cell? ⟨b, o, none⟩ = W.cell? ⟨b, o, none⟩) ∧ (∀ b o, b < W.heap.size → w1.frozen? ⟨b, o, none⟩ = W.frozen? ⟨b, o, none⟩) :=
  ⟨fun b o h => hb.cell (p := ⟨b, o, none⟩) h, fun b o h => hb.frozen (p := ⟨b, o, none⟩) h⟩
end Go.Proofs.Ytbghleihgcenmaa
namespace Go.Proofs.Ytbghleihgcenmaa
open Go Go.RowKit
attribute [local go_sem] z1_idx0 z1_idx1 z1_idx2 z1_idx3 z1_u64_signed z1_ext_cell z1_eqg_set z1_eqIn_set z1_eqIn_nil
attribute [local go_sem ↓] Go.wp_at_zero Go.wp_at_succ
def z1_shas (s : z1_S) (b : Int) : Bool := !decide (z1_sand s (z1_sonly b) = 0#256)
set_option maxHeartbeats 1000000 in
theorem z1_has_any (s : z1_S) (b : Int) (w : World) :
    Calls Try.prog 30 #[.agg #[.int .u64 (z1_wd (s) 0), .int .u64 (z1_wd (s) 1), .int .u64 (z1_wd (s) 2), .int .u64 (z1_wd (s) 3)], .int .i64 b] w fun e w' => e = .returned (.bool (z1_shas s b)) ∧ Below w.heap.size w w' := by
  go_enter Try.func30, Try.ntmps30
  go_wp2
  refine z1_wp_region_ext (by kernel_rfl) (by kernel_rfl) ?_
  repeat (go_big_quiet_step (first | exact rfl | (go_at_call 39; exact z1_ext_call (z1_only_any _ _)) | (go_at_call 38; exact z1_ext_call (z1_and_any _ _ _))))
  refine wpQuiet_nil ?_
  rintro _ ⟨x, rfl⟩
  go_wp2
  go_ret
  exact ⟨rfl, ((Below.refl _ _).alloc (Nat.le_refl _) _).trans (x.2.mono (by simp))⟩
end Go.Proofs.Ytbghleihgcenmaa
