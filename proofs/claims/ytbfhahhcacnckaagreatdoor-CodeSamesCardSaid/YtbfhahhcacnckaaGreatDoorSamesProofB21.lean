/-
  Parts of the proof.
-/
import Derived.Test.YtbfhahhcacnckaaGreatDoorSamesProofB9
import Derived.Test.YtbfhahhcacnckaaGreatDoorSamesProofB10
import Derived.Test.YtbfhahhcacnckaaGreatDoorSamesProofB12
import Derived.Test.YtbfhahhcacnckaaGreatDoorSamesProofB20
import Derived.Test.YtbfhahhcacnckaaGreatDoorSamesProofB11
import Derived.Lib.ConvBytes
set_option linter.unusedSimpArgs false
namespace Go.Proofs.YtbfhahhcacnckaaGreatDoor
open Go Go.RowKit
attribute [local go_sem] Oper.semAt_some
theorem und_strs : Tryz.prog.underlying 66 = some (.slice 9) := by kernel_rfl
theorem size_str : (Tryz.prog.info? 9).map (fun i => (i.zero, i.size, i.bytes)) = some (some (.string ⟨#[]⟩), 1, 16) := by kernel_rfl
def stC (xs : List (List UInt8)) : List Value := xs.map fun x => .string (txt x)
theorem stC_len (xs : List (List UInt8)) : (stC xs).length = xs.length := by simp [stC]
theorem stC_app (a b : List (List UInt8)) : stC (a ++ b) = stC a ++ stC b := by simp [stC]
abbrev SR (base : Nat) (w : World) (v : Value) (xs : List (List UInt8)) : Prop := w.ownsRow base 9 1 v xs.length (stC xs)
theorem itoa_s (i : Nat) (hi : i < 100) (d : List UInt8) (hd : Lib.decDigits i = d) (w : World) : Calls Tryz.prog 45 #[.int .i64 (i : Int)] w fun e w' => e = .returned (.string (txt d)) ∧ w' = w := by
  have := Tryz.strconv_Itoa_small i hi w
  rw [hd] at this
  exact this
def aS : z1_S := 1#256 <<< 97
theorem aS_w : z1_wd aS 0 = 0 ∧ z1_wd aS 1 = 8589934592 ∧ z1_wd aS 2 = 0 ∧ z1_wd aS 3 = 0 := by decide +kernel
theorem aS_r : z1_rngs (z1_elems aS) = [(97, 97)] := by decide +kernel
theorem conv2 (W : World) (a b : UInt8) : (convert 62 9 (.slice (some ⟨W.heap.size, 0, none⟩) 2 2)).run Tryz.prog (W.alloc (.cells #[.int .u8 (a.toNat : Int), .int .u8 (b.toNat : Int)] 5)).drew = .ok (.string (txt [a, b])) (W.alloc (.cells #[.int .u8 (a.toNat : Int), .int .u8 (b.toNat : Int)] 5)).drew := by
  refine run_convert_bytes_back (W.alloc (.cells #[.int .u8 (a.toNat : Int), .int .u8 (b.toNat : Int)] 5)).drew _ _ 5 ⟨W.heap.size, 0, none⟩ 2 [a, b] Tryz.underlying62 Tryz.underlying5 Tryz.underlying9 (fun j hj => ?_)
  have hn : (W.alloc (.cells #[.int .u8 (a.toNat : Int), .int .u8 (b.toNat : Int)] 5)).drew.heap[W.heap.size]? = some (.cells #[.int .u8 (a.toNat : Int), .int .u8 (b.toNat : Int)] 5 (0, 0)) := alloc_new W _
  match j, hj with
  | 0, _ => exact cell_row hn (i := 0) rfl
  | 1, _ => exact cell_row hn (i := 1) rfl
set_option maxRecDepth 100000 in
set_option maxHeartbeats 4000000 in
theorem byteWord_a (w : World) : Calls Tryz.prog 77 #[.int .i64 97] w fun e w' => e = .returned (.string (txt [54, 49])) ∧ Below w.heap.size w w' := by
  have hand : bits .and .i64 97 15 = 1 := by decide
  have hcv := conv2 w
  go_enter Tryz.func77, Tryz.ntmps77
  go_wp2
  go_region
  all_goals go_wp2
  all_goals go_ret
  all_goals exact ⟨rfl, ((Below.refl _ _).alloc (Nat.le_refl _) _).drew⟩
set_option maxRecDepth 100000 in
set_option maxHeartbeats 4000000 in
theorem rangeWord_a (w : World) : Calls Tryz.prog 60 #[.agg #[.int .i64 97, .int .i64 97]] w fun e w' => e = .returned (.string (txt [54, 49])) ∧ Below w.heap.size w w' := by
  have B1 : Hid (Below w.heap.size w (w.alloc (.cells #[.int .i64 97, .int .i64 97] 115))) := (Below.refl _ _).alloc (Nat.le_refl _) _
  go_enter Tryz.func60, Tryz.ntmps60
  go_wp2_with (go_at_call 77; (with_reducible refine (byteWord_a _).mono ?_); rintro e w5 ⟨rfl, h5⟩; have B5 := hide (chain B1.out h5 (Nat.le_refl _)); clear h5)
  go_ret
  exact ⟨rfl, B5.out⟩
end Go.Proofs.YtbfhahhcacnckaaGreatDoor
namespace Go.Proofs.YtbfhahhcacnckaaGreatDoor
open Go Go.RowKit
attribute [local go_sem] Oper.semAt_some
def LB (w : World) (b : Nat) (rest : List UInt8) (more : Bool) (at_ : Int) : Prop := w.heap[b]? = some (.cells #[.string (txt rest), .bool more, .int .i64 at_] 110 (0, 0))
abbrev At1 (b : Nat) : Nat → Prop := fun k => k = b
theorem LB.kept {w w' : World} {b : Nat} {r : List UInt8} {m : Bool} {a : Int} (h : LB w b r m a) (hb : Below w.heap.size w w') : LB w' b r m a := (hb.block _ (lt_of_heap h)).trans h
set_option maxRecDepth 100000 in
set_option maxHeartbeats 2000000 in
theorem word_c {w : World} {b : Nat} {s : List UInt8} {a : Int} (h : LB w b s true a) (hl : s.length ≤ 1000000) :
    Calls Tryz.prog 67 #[.pointer (some ⟨b, 0, none⟩)] w fun e w' => e = .returned (.string (txt (cutL 32 s).1)) ∧ LB w' b (cutL 32 s).2.1 (cutL 32 s).2.2 a ∧ Fr (At1 b) w w' := by
  have H := hide h
  have c0 := cell_row h (i := 0) rfl
  have c1 := cell_row h (i := 1) rfl
  have HX := hide (cut_c s 32 (by omega) w)
  obtain ⟨⟨x, y, f⟩, hr⟩ : ∃ r, cutL 32 s = r := ⟨_, rfl⟩
  rw [hr] at HX ⊢
  clear hr h
  go_enter Tryz.func67, Tryz.ntmps67
  go_wp2_with (go_at_call 65; (with_reducible refine (HX.out).mono ?_); rintro e w5 ⟨rfl, h5⟩; have B5 := hide h5; have H5 := hide (H.out.kept h5); have d0 := cell_row H5.out (i := 0) rfl; have d1 := cell_row H5.out (i := 1) rfl; have f0 := frz_row H5.out 0; have f1 := frz_row H5.out 1; clear h5)
  go_ret
  refine ⟨rfl, ?_, Fr.setCell (S := At1 b) (Fr.setCell (S := At1 b) (Fr.of_below B5.out) (p := ⟨b, 0, none⟩) rfl _) (p := ⟨b, 1, none⟩) rfl _⟩
  exact (heap_set_in (heap_set_in H5.out 0 _) 1 _)
set_option maxRecDepth 100000 in
set_option maxHeartbeats 2000000 in
theorem lend_c {w : World} {b : Nat} {s : List UInt8} {a : Int} (h : LB w b s false a) :
    Calls Tryz.prog 69 #[.pointer (some ⟨b, 0, none⟩)] w fun e w' => e = .returned (.tuple #[]) ∧ w' = w := by
  have c1 := cell_row h (i := 1) rfl
  clear h
  go_enter Tryz.func69, Tryz.ntmps69
  go_wp2
  go_end0
  exact ⟨rfl, rfl⟩
set_option maxRecDepth 100000 in
set_option maxHeartbeats 2000000 in
theorem numberOf_c {w : World} (b : Nat) (n : Nat) (hn : n < 100) (d : List UInt8) (hd : Lib.decDigits n = d) (ha : Lib.atoi d = some (n : Int)) (hl : d.length ≤ 6) :
    Calls Tryz.prog 90 #[.pointer (some ⟨b, 0, none⟩), .string (txt d)] w fun e w' => e = .returned (.int .i64 (n : Int)) ∧ Below w.heap.size w w' := by
  have HA := hide (Tryz.strconv_Atoi (txt d) (n : Int) (by rw [txt_size]; omega) ha w)
  have HI := itoa_s n hn d hd
  have hz := txt_size d
  have i1 : ((txt d).size : Int) ≤ 6 := by omega
  have i2 : ¬ ((n : Int) < 0) := by omega
  clear hd ha
  go_enter Tryz.func90, Tryz.ntmps90
  go_wp2_with first
    | (go_at_call 107; (with_reducible refine (HA.out).mono ?_); rintro e w5 ⟨rfl, t5, rfl⟩)
    | (go_at_call 45; (with_reducible refine (HI _).mono ?_); rintro e w6 ⟨rfl, rfl⟩)
  go_ret
  exact ⟨rfl, Lib.below_freeze (((Below.refl _ _).drew).alloc (Nat.le_refl _) _) (p := ⟨w.heap.size, _, none⟩) (Nat.le_refl _) _⟩
set_option maxRecDepth 100000 in
set_option maxHeartbeats 2000000 in
theorem number_c {w : World} {b : Nat} {s d r : List UInt8} {f : Bool} {a : Int} (h : LB w b s true a) (hs : cutL 32 s = (d, r, f)) (hl : s.length ≤ 1000000) (n : Nat) (hn : n < 100) (hd : Lib.decDigits n = d) (ha : Lib.atoi d = some (n : Int)) (hl6 : d.length ≤ 6) :
    Calls Tryz.prog 68 #[.pointer (some ⟨b, 0, none⟩)] w fun e w' => e = .returned (.int .i64 (n : Int)) ∧ LB w' b r f a ∧ Fr (At1 b) w w' := by
  have HW := hide (word_c h hl)
  rw [hs] at HW
  clear h hs
  go_enter Tryz.func68, Tryz.ntmps68
  go_wp2_with first
    | (go_at_call 67; (with_reducible refine (HW.out).mono ?_); rintro e w5 ⟨rfl, h51, h52⟩; have L5 := hide h51; have F5 := hide h52; clear h51 h52)
    | (go_at_call 90; (with_reducible refine (numberOf_c b n hn d hd ha hl6).mono ?_); rintro e w6 ⟨rfl, h6⟩; have L6 := hide (L5.out.kept h6); have F6 := hide (F5.out.then h6); clear h6)
  go_ret
  exact ⟨rfl, L6.out, F6.out⟩
theorem opw_1 : (shW 1, shW 2, shW 3, shW 4) = ([98, 121, 116, 101], [115, 112, 108, 105, 116], [106, 117, 109, 112], [98, 101, 103, 105, 110]) := rfl
end Go.Proofs.YtbfhahhcacnckaaGreatDoor
namespace Go.Proofs.YtbfhahhcacnckaaGreatDoor
open Go Go.RowKit
attribute [local go_sem] Oper.semAt_some
set_option maxRecDepth 100000 in
set_option maxHeartbeats 4000000 in
theorem pui_61 (w : World) : Calls Tryz.prog 133 #[.string ⟨#[54, 49]⟩, .int .i64 16, .int .i64 8] w fun e w' => e = .returned (.tuple #[.int .u64 97, .nilIface]) ∧ Below w.heap.size w w' := by
  have hcv := Lib.run_convert_string_bytes (P := Tryz.prog) w 9 62 5 ⟨#[54, 49]⟩ Tryz.underlying9 Tryz.underlying62 Tryz.underlying5
  go_enter Tryz.func133, Tryz.ntmps133
  go_wp2
  have B1 : Hid (Below w.heap.size w (Lib.bytesWorld w 5 ⟨#[54, 49]⟩)) := Lib.below_freeze (((Below.refl _ _).drew).alloc (Nat.le_refl _) _) (p := ⟨w.heap.size, _, none⟩) (Nat.le_refl _) _
  have e0 : (Lib.bytesWorld w 5 ⟨#[54, 49]⟩).cell? ⟨w.heap.size, 0, none⟩ = some (.int .u8 54) := Lib.bytesWorld_cell w 5 ⟨#[54, 49]⟩ 0 (by decide)
  have e1 : (Lib.bytesWorld w 5 ⟨#[54, 49]⟩).cell? ⟨w.heap.size, 1, none⟩ = some (.int .u8 49) := Lib.bytesWorld_cell w 5 ⟨#[54, 49]⟩ 1 (by decide)
  clear hcv
  generalize (Lib.bytesWorld w 5 ⟨#[54, 49]⟩) = w1 at B1 e0 e1 ⊢
  refine wp_loop_unr 3 (unr_succ ?_)
  go_wp2
  refine unr_succ ?_
  go_wp2
  refine unr_succ ?_
  go_wp2
  go_ret2
  exact ⟨rfl, B1.out⟩
set_option maxRecDepth 100000 in
set_option maxHeartbeats 4000000 in
theorem pu_61 (w : World) : Calls Tryz.prog 124 #[.string ⟨#[54, 49]⟩, .int .i64 16, .int .i64 8] w fun e w' => e = .returned (.tuple #[.int .u64 97, .nilIface]) ∧ Below w.heap.size w w' := by
  have HC := hide (pui_61 w)
  go_enter Tryz.func124, Tryz.ntmps124
  go_wp2_with (go_at_call 133; (with_reducible refine (HC.out).mono ?_); rintro e w5 ⟨rfl, h5⟩; have B5 := hide h5; clear h5)
  go_ret2
  exact ⟨rfl, B5.out⟩
set_option maxRecDepth 100000 in
set_option maxHeartbeats 4000000 in
theorem byteOf_61 (b : Nat) (w : World) : Calls Tryz.prog 109 #[.pointer (some ⟨b, 0, none⟩), .string ⟨#[54, 49]⟩] w fun e w' => e = .returned (.int .i64 97) ∧ Below w.heap.size w w' := by
  have HC := hide (pu_61 w)
  go_enter Tryz.func109, Tryz.ntmps109
  go_wp2_with (go_at_call 124; (with_reducible refine (HC.out).mono ?_); rintro e w5 ⟨rfl, h5⟩; have B5 := hide h5; clear h5)
  go_ret
  exact ⟨rfl, B5.out⟩
end Go.Proofs.YtbfhahhcacnckaaGreatDoor
