/-
  Parts of the proof.
-/
import Derived.Test.YtbfhahhcacnckaaGreatDoorSamesProofB27
import Derived.Test.YtbfhahhcacnckaaGreatDoorSamesProofB30
set_option linter.unusedSimpArgs false
namespace Go.Proofs.YtbfhahhcacnckaaGreatDoor
open Go Go.RowKit
attribute [local go_sem] Oper.semAt_some
theorem BL.keptB {T : TypeId} {base : Nat} {w w' : World} {b : Nat} {l : List UInt8} (h : BL T base w b [] l) (hb : Below w.heap.size w w') : BL T base w' b [] l := by
  obtain ⟨p, v, h1, h2, h3, h4, h5⟩ := h
  exact ⟨p, v, (hb.block _ (lt_of_heap h1)).trans h1, h2, ownsRow_fr h3 (Fr.of_below (S := fun _ => False) hb) (fun _ _ q => q), h4, h5⟩
set_option maxRecDepth 100000 in
set_option maxHeartbeats 2000000 in
theorem head_0 {w : World} (q : Option Addr) (n c : Nat) : Calls Tryz.prog 25 #[.agg #[.slice q n c, .int .i64 0, .int .i64 0, .bool false]] w (SRR w [[112, 114, 111, 103, 114, 97, 109], [48], [48]]) := by
  have B1 : Hid (Below w.heap.size w (w.alloc (.cells #[.slice q n c, .int .i64 0, .int .i64 0, .bool false] 24))) := (Below.refl _ _).alloc (Nat.le_refl _) _
  have IT := fun W => (show Calls Tryz.prog 45 #[.int .i64 0] W fun e w' => e = .returned (.string (txt [48])) ∧ w' = W from itoa_s 0 (by decide) [48] (by decide +kernel) W)
  go_enter Tryz.func25, Tryz.ntmps25
  go_wp2
  go_region_with (go_at_call 45; (with_reducible refine (IT _).mono ?_); rintro e w5 ⟨rfl, rfl⟩)
  all_goals go_wp2
  all_goals go_ret
  all_goals
    refine ⟨_, rfl, ⟨rfl, .inr ⟨w.heap.size + 1, 3, #[.string (txt [112, 114, 111, 103, 114, 97, 109]), .string (txt [48]), .string (txt [48])], rfl, by omega, ?_, Nat.le_refl _, by unfold maxLen; omega, rfl, rfl⟩⟩, ((((Below.refl _ _).alloc (Nat.le_refl _) _).alloc (by simp) _).drew)⟩
    have := alloc_new (w.alloc (.cells #[.slice q n c, .int .i64 0, .int .i64 0, .bool false] 24)) (.cells #[.string (txt [112, 114, 111, 103, 114, 97, 109]), .string (txt [48]), .string (txt [48])] 9)
    rw [World.size_alloc] at this
    exact this
set_option maxRecDepth 100000 in
set_option maxHeartbeats 2000000 in
theorem addLine_c {base base' : Nat} {w : World} {b g c n : Nat} {l r : List UInt8} {xs : List (List UInt8)} (h : BL 64 base w b [] l) (hv : SR base' w (.slice (some ⟨g, 0, none⟩) n c) xs) (hn : xs.length = n) (hx : xs ≠ []) (hr : Lib.join xs [32] = r) (hl : l.length + r.length ≤ 100000) (hn2 : n ≤ 100000) (hb : base ≤ w.heap.size) :
    Calls Tryz.prog 24 #[.pointer (some ⟨b, 0, none⟩), .slice (some ⟨g, 0, none⟩) n c] w fun e w' => e = .returned (.tuple #[]) ∧ BL 64 base w' b [] (l ++ r ++ [10]) ∧ Below base w w' ∧ Oth b w w' := by
  have HJ := hide (join_sr (sb := ⟨#[32]⟩) [32] r hv hn rfl hx hr (by omega) hn2)
  have H := hide h
  clear h hv
  go_enter Tryz.func24, Tryz.ntmps24
  go_wp2_with first
    | (go_at_call 43; (with_reducible refine (HJ.out).mono ?_); rintro e w1 ⟨rfl, h1⟩; have B1 := hide h1; have HS : Hid (Calls Tryz.prog 42 #[.pointer (some ⟨b, 0, none⟩), .string (txt r)] w1 fun e w' => e = .returned (.tuple #[.int .i64 (r.length : Int), .nilIface]) ∧ WPost 64 base w1 b [] (l ++ r) w') := writeString_c bt0 (H.out.keptB h1) r (by omega) (by have := h1.size; omega); clear h1)
    | (go_at_call 42; (with_reducible refine (HS.out).mono ?_); rintro e w2 ⟨rfl, h21, h22, h23⟩; have L2 := hide h21; have B2 := hide h22; have O2 := hide h23; have HB : Hid (Calls Tryz.prog 44 #[.pointer (some ⟨b, 0, none⟩), .int .u8 10] w2 fun e w' => e = .returned .nilIface ∧ WPost 64 base w2 b [] (l ++ r ++ [10]) w') := writeByte_c bt0 h21 10 (by simp; omega) (by have := h22.size; have := B1.out.size; omega); clear h21 h22 h23)
    | (go_at_call 44; (with_reducible refine (HB.out).mono ?_); rintro e w3 ⟨rfl, h21, h22, h23⟩; have L3 := hide h21; have B3 := hide h22; have O3 := hide h23; clear h21 h22 h23)
  go_end0
  refine ⟨rfl, L3.out, ((B1.out.mono hb).trans B2.out).trans B3.out, ?_⟩
  refine Lib.OthersKept.trans (Lib.OthersKept.trans ?_ O2.out) O3.out
  intro k o hk _ _
  exact (B1.out.block _ (lt_of_heap hk)).trans hk
def smL : List Ins := [⟨2, 1, 3, 0, 0, 0, 0#256⟩, ⟨1, 0, 0, 0, 0, 0, aS⟩, ⟨3, 0, 0, 0, 0, 0, 0#256⟩, ⟨11, 0, 0, 0, 0, 0, 0#256⟩]
theorem rt_small (q : Option Addr) (c : Nat) : rtE ⟨q, smL, c, 0, 0, false⟩ = (0, 0) := by kernel_rfl
def wds (i : Ins) : List (List UInt8) := if i.op = 11 then [[109, 97, 116, 99, 104]] else if i.op = 3 then [[106, 117, 109, 112], [48]] else if i.op = 2 then [[115, 112, 108, 105, 116], [49], [51]] else [[98, 121, 116, 101], [54, 49]]
theorem words_c {w : World} (hT : z1_Tab w) {i : Ins} (hi : i ∈ smL) : Calls Tryz.prog 26 #[.agg #[.int .i64 i.op, .int .i64 i.x, .int .i64 i.y, .int .i64 i.n, .int .i64 i.mn, .int .i64 i.mx, .int .u64 (z1_wd i.s 0), .int .u64 (z1_wd i.s 1), .int .u64 (z1_wd i.s 2), .int .u64 (z1_wd i.s 3)]] w (SRR w (wds i)) := by
  simp only [smL, List.mem_cons, List.not_mem_nil, or_false] at hi
  rcases hi with h | h | h | h
  · have e : wds i = [[115, 112, 108, 105, 116], [49], [51]] := by rw [h]; rfl
    rw [e]
    exact words_2 hT i h
  · have e : wds i = [[98, 121, 116, 101], [54, 49]] := by rw [h]; rfl
    rw [e]
    exact words_1 hT i h
  · have e : wds i = [[106, 117, 109, 112], [48]] := by rw [h]; rfl
    rw [e]
    exact words_3 hT i h
  · have e : wds i = [[109, 97, 116, 99, 104]] := by rw [h]; rfl
    rw [e]
    exact words_11 hT i h
def lnI (i : Ins) : List UInt8 := Lib.join (wds i) [32] ++ [10]
def hd0 : List UInt8 := [112, 114, 111, 103, 114, 97, 109, 32, 48, 32, 48, 10]
def tx0 : List UInt8 := [112, 114, 111, 103, 114, 97, 109, 32, 48, 32, 48, 10, 115, 112, 108, 105, 116, 32, 49, 32, 51, 10, 98, 121, 116, 101, 32, 54, 49, 10, 106, 117, 109, 112, 32, 48, 10, 109, 97, 116, 99, 104, 10]
theorem tx0_is : hd0 ++ smL.flatMap lnI = tx0 := by kernel_rfl
end Go.Proofs.YtbfhahhcacnckaaGreatDoor
