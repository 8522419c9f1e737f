/-
  Which digit a character is: strings.IndexRune in the sixteen digits.
-/
import Derived.Test.YtihmnibopeljaaaDoorShown
import Derived.Scope
import Derived.WalkMore
namespace Go.Proofs.YtihmnibopeljaaaDoor
open Go Go.RowKit

/-- The digit that a character is; -1: none. -/
def hexv (r : Int) : Int := if 48 ≤ r ∧ r ≤ 57 then r - 48 else if 97 ≤ r ∧ r ≤ 102 then r - 87 else -1
theorem hexv_byte : ∀ n : Fin 128, Lib.indexByte digs.data.toList (UInt8.ofNat n.val) = hexv (n.val : Int) := by decide +kernel
theorem hexv_high (r : Int) (h : 128 ≤ r) : hexv r = -1 := by unfold hexv; rw [if_neg (by omega), if_neg (by omega)]
theorem hexv_range (r : Int) : -1 ≤ hexv r ∧ hexv r < 16 := by unfold hexv; split; omega; split <;> omega

/-- No digit's byte is 128 or more. -/
theorem idx_high : ∀ (k : Fin 17) (b : Fin 256), 128 ≤ b.val → Lib.indexByte (digs.data.toList.drop k.val) (UInt8.ofNat b.val) = -1 := by decide +kernel
theorem enc_last (r : Int) (h0 : 128 ≤ r) (h1 : Lib.validRune r = true) : ∃ n, (Utf8.encode r).size = n + 1 ∧ 1 ≤ n ∧ n ≤ 3 ∧ 128 ≤ ((Utf8.encode r).get! n).toNat := by
  have hv : Utf8.valid r = true := by
    simp [Lib.validRune, Utf8.valid] at h1 ⊢
    omega
  unfold Utf8.encode
  simp only [hv, if_true]
  have hb : r.toNat ≤ 1114111 := by
    simp [Lib.validRune] at h1; omega
  rw [if_neg (by omega)]
  have key : ∀ m : Nat, m < 64 → 128 ≤ (UInt8.ofNat (128 + m)).toNat := fun m hm => by
    rw [UInt8.toNat_ofNat']
    omega
  split
  · exact ⟨1, rfl, by omega, by omega, key _ (Nat.mod_lt _ (by omega))⟩
  split
  · exact ⟨2, rfl, by omega, by omega, key _ (Nat.mod_lt _ (by omega))⟩
  · exact ⟨3, rfl, by omega, by omega, key _ (Nat.mod_lt _ (by omega))⟩

theorem digs_dec : ∀ k : Fin 16, Utf8.decode digs k.val = ((Utf8.decode digs k.val).1, 1) ∧ (Utf8.decode digs k.val).1 < 128 := by decide +kernel
theorem digs_byte : ∀ k : Fin 16, (digs[k.val]'k.isLt).toNat < 128 := by decide +kernel

set_option maxHeartbeats 4000000 in
set_option maxRecDepth 1000000 in
theorem index_c (r : Int) (w : World) (h0 : 0 ≤ r) (hv : Lib.validRune r = true) :
    Calls Tryd.prog 52 #[.string ⟨#[48, 49, 50, 51, 52, 53, 54, 55, 56, 57, 97, 98, 99, 100, 101, 102]⟩, .int .i32 r] w fun e w' => e = .returned (.int .i64 (hexv r)) ∧ Below w.heap.size w w' := by
  have HV : Hid (Lib.validRune r = true) := hv
  by_cases h1 : r < 128
  · have hx : Hid (Lib.indexByte digs.data.toList r.toNat.toUInt8 = hexv r) := by
      have := hexv_byte ⟨r.toNat, by omega⟩
      have e : ((r.toNat : Nat) : Int) = r := by omega
      simp only [e] at this
      exact this
    have hw8 : IntKind.wrap .u8 r = r := by rw [IntKind.wrap_u8]; omega
    clear hv
    go_enter Tryd.func52, Tryd.ntmps52
    go_wp2_with (go_at_call 54; refine (Tryd.strings_IndexByte _ _ _).mono ?_; rintro e w' ⟨rfl, rfl⟩)
    go_ret
    exact ⟨by rw [← hx.out]; rfl, Below.refl _ _⟩
  have hh : Hid (hexv r = -1) := hexv_high r (by omega)
  by_cases h2 : r = 65533
  · subst h2
    clear hv
    go_enter Tryd.func52, Tryd.ntmps52
    go_wp2
    go_loopw [] (fun wr => ∃ (pos : Nat), wr.heap[w.heap.size]? = some (.stringIter digs pos) ∧ Below w.heap.size w wr ∧ pos ≤ 16) (fun wr => 16 - wr.iterPos w.heap.size)
    case atStart => exact ⟨0, World.iter_heap w digs 0, (Below.refl _ w).alloc (Nat.le_refl _) _, by omega⟩
    case round =>
      obtain ⟨pos, hit, hbw, hpl⟩ := hrel
      have B : Hid (Below w.heap.size w wr) := hbw
      have I : Hid (wr.heap[w.heap.size]? = some (.stringIter digs pos)) := hit
      clear hbw
      by_cases hp : pos < 16
      · have hd := (digs_dec ⟨pos, hp⟩)
        simp only at hd
        obtain ⟨x, hx⟩ : ∃ x, (Utf8.decode digs pos).1 = x := ⟨_, rfl⟩
        rw [hx] at hd
        obtain ⟨W2, hW2⟩ : ∃ W2, wr.iterAt w.heap.size digs (pos + 1) = W2 := ⟨_, rfl⟩
        have hnx : ∀ ty, (Instr.next (.pointer (some ⟨w.heap.size, 0, none⟩)) true ty).run Tryd.prog wr = .ok (.tuple #[.bool true, .int .i64 (pos : Int), .int .i32 (x : Int)]) W2 := fun ty => by
          have := Lib.run_next_any_at (P := Tryd.prog) wr w.heap.size digs pos ty hit hp
          rw [hd.1] at this
          rw [← hW2]; exact this
        have I2 : Hid (W2.heap[w.heap.size]? = some (.stringIter digs (pos + 1))) := by rw [← hW2]; exact Lib.iterAt_heap wr w.heap.size digs pos (pos + 1) hit
        have B2 : Hid (Below w.heap.size w W2) := by rw [← hW2]; exact iter_below B.out (Nat.le_refl _) (pos + 1)
        have hne : ((x : Int) == 65533) = false := by simp; omega
        clear hit hd hx hW2
        go_wp2
        go_roundw
        case rel => exact ⟨pos + 1, I2.out, B2.out, by omega⟩
        case measure =>
          simp only [World.iterPos, I2.out, I.out]
          omega
      · have hnx : ∀ ty, (Instr.next (.pointer (some ⟨w.heap.size, 0, none⟩)) true ty).run Tryd.prog wr = _ := fun ty => Lib.run_next_end_at wr w.heap.size digs pos ty hit (by show ¬ pos < 16; omega)
        clear hit
        go_wp2
        go_ret
        exact ⟨by rw [hh.out]; rfl, B.out⟩
  · have b2 : (r == 65533) = false := by simpa using h2
    obtain ⟨n, hn, hn1, hn3, hlast⟩ := enc_last r (by omega) hv
    obtain ⟨E, hE⟩ : ∃ E, Utf8.encode r = E := ⟨_, rfl⟩
    rw [hE] at hn hlast
    obtain ⟨y, hy⟩ : ∃ y, E.get! n = y := ⟨_, rfl⟩
    rw [hy] at hlast
    have hgE : E[n]'(by omega) = y := by rw [← hy]; exact (Utf8W.get!_of_lt E n (by omega)).symm
    obtain ⟨z, hz⟩ : ∃ z, digs[n]'(show n < 16 by omega) = z := ⟨_, rfl⟩
    have hgd : (⟨#[48, 49, 50, 51, 52, 53, 54, 55, 56, 57, 97, 98, 99, 100, 101, 102]⟩ : ByteArray)[n]'(show n < 16 by omega) = z := hz
    have hz8 : z.toNat < 128 := by rw [← hz]; exact digs_byte ⟨n, by omega⟩
    have hyl := y.toNat_lt
    have b3 : ((z.toNat : Int) != (y.toNat : Int)) = true := by simp; omega
    have hix : Hid (Lib.indexByte (digs.data.toList.drop (n + 1)) y = -1) := by
      have := idx_high ⟨n + 1, by omega⟩ ⟨y.toNat, hyl⟩ hlast
      show Lib.indexByte (digs.data.toList.drop (n + 1)) y = -1
      simpa using this
    clear hv hy hz
    have i0 : (0 : Int) ≤ (n : Int) := by omega
    have i1 : (n : Int) < (E.size : Int) := by omega
    have i2 : (n : Int) < 16 := by omega
    have hw1 : IntKind.wrap .i64 ((E.size : Int) - 1) = (n : Int) := by rw [wrap_small _ (by omega) (by omega)]; omega
    have hw2 : IntKind.wrap .i64 ((n : Int) + 1) = (n : Int) + 1 := wrap_small _ (by omega) (by omega)
    have i3 : (n : Int) + 1 ≤ 16 := by omega
    have i4 : (0 : Int) ≤ (n : Int) + 1 := by omega
    have t1 : ((n : Int) + 1).toNat = n + 1 := by omega
    go_enter Tryd.func52, Tryd.ntmps52
    go_wp2_with (go_at_call 44; refine (Tryd.utf8_ValidRune _ _).mono ?_; rw [HV.out]; rintro e w4 ⟨rfl, h4⟩; subst w4)
    refine wp_scope_straight ?_
    go_wp2
    refine wp_loop_unr 1 ?_
    refine unr_succ ?_
    go_wp2
    refine wp_scope_straight ?_
    go_wp2
    refine wp_region_ext (by kernel_rfl) (by kernel_rfl) ?_
    repeat (go_big_quiet_step (first | exact rfl))
    refine wpQuiet_nil ?_
    intro w5 hw5
    have B5 : Hid (Below w.heap.size w w5) := ext_of hw5
    clear hw5
    go_wp2
    have hcall : Hid (∀ W, Calls Tryd.prog 54 #[.string (ByteArray.extract ⟨#[48, 49, 50, 51, 52, 53, 54, 55, 56, 57, 97, 98, 99, 100, 101, 102]⟩ (n + 1) 16), .int .u8 (y.toNat : Int)] W fun e w' => e = .returned (.int .i64 (-1)) ∧ w' = W) := fun W => by
      have := Tryd.strings_IndexByte (digs.extract (n + 1) digs.size) (y.toNat : Int) W
      rw [ext_list] at this
      have e : ((y.toNat : Int)).toNat.toUInt8 = y := by simp
      rw [e, hix.out] at this
      exact this
    refine wp_region_ext (by kernel_rfl) (by kernel_rfl) ?_
    repeat (go_big_quiet_step (first | exact rfl | (go_at_call 54; exact ext_call_same (hcall.out _))))
    refine wpQuiet_nil ?_
    intro w6 hw6
    have B6 : Hid (Below w.heap.size w w6) := chain B5.out (ext_of hw6) (Nat.le_refl _)
    clear hw6
    go_wp2
    dsimp only [Exit.noGoto, Exit.inBlock, Exit.then]
    go_ret
    exact ⟨by rw [hh.out]; rfl, B6.out⟩
end Go.Proofs.YtihmnibopeljaaaDoor
