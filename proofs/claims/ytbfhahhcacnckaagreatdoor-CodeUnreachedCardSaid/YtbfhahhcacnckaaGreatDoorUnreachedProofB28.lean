/-
  Parts of the proof.
-/
import Derived.Test.YtbfhahhcacnckaaGreatDoorUnreachedProofB9
import Derived.Test.YtbfhahhcacnckaaGreatDoorUnreachedProofB27
import Derived.Test.YtbfhahhcacnckaaGreatDoorUnreachedProofB14
import Derived.Test.YtbfhahhcacnckaaGreatDoorUnreachedProofB0
import Derived.Deep.RegionWith
import Derived.Deep.DeepCutAuto
import Derived.Deep.LoopGhost
import Derived.Deep.CutBlock
import Derived.BigRegion
set_option linter.unusedSimpArgs false
namespace Go.Proofs.YtbfhahhcacnckaaGreatDoor
open Go Go.RowKit
attribute [local go_sem] Oper.semAt_some ext_cell
theorem LR.eight {w : World} {q : Option Addr} {L : List Rw} (h : LR w q L) {j : Nat} {i : Rw} (hi : L[j]? = some i) : ∃ g o, q = some ⟨g, o, none⟩ ∧ g < w.heap.size ∧ w.cell? ⟨g, o + j * 8, none⟩ = some (.int .i64 i.op) ∧ w.cell? ⟨g, o + j * 8 + 1, none⟩ = some (.int .i64 i.x) ∧ w.cell? ⟨g, o + j * 8 + 2, none⟩ = some (.int .i64 i.y) ∧ w.cell? ⟨g, o + j * 8 + 3, none⟩ = some (.int .i64 i.n) ∧ w.cell? ⟨g, o + j * 8 + 4, none⟩ = some (.int .i64 i.mn) ∧ w.cell? ⟨g, o + j * 8 + 5, none⟩ = some (.int .i64 i.mx) ∧ w.cell? ⟨g, o + j * 8 + 6, none⟩ = some (.int .i64 i.lo) ∧ w.cell? ⟨g, o + j * 8 + 7, none⟩ = some (.int .i64 i.hi) := by
  obtain ⟨_, g, o, h1, h2, h3⟩ := h j i hi
  exact ⟨g, o, h1, h2, h3 0 _ rfl, h3 1 _ rfl, h3 2 _ rfl, h3 3 _ rfl, h3 4 _ rfl, h3 5 _ rfl, h3 6 _ rfl, h3 7 _ rfl⟩
structure MI (w wr : World) (L : List Rw) (f : Bool) (j : Nat) (pv : Value) : Prop where
  x0 : wr.heap[w.heap.size]? = some zP
  x1 : wr.heap[w.heap.size + 1]? = some (.cells #[pv, .int .i64 2, .int .i64 2, .bool f] 24 (0, 0))
  hp : wr.ownsRow w.heap.size 35 10 pv j (ceI14 ((L.take j).map (mdI ((min L.length 200 : Nat) + 1 : Int))))
  bl : Below w.heap.size w wr
def MdP (w : World) (L : List Rw) (f : Bool) (e : Ending) (w' : World) : Prop := ∃ g c, e = .returned (.agg #[.slice (some ⟨g, 0, none⟩) (mdL L).length c, .int .i64 2, .int .i64 2, .bool f]) ∧ w'.ownsRow w.heap.size 35 10 (.slice (some ⟨g, 0, none⟩) (mdL L).length c) (mdL L).length (ceI14 (mdL L)) ∧ Below w.heap.size w w'
theorem MI.kept {w wr W : World} {L : List Rw} {f : Bool} {j : Nat} {pv : Value} (h : MI w wr L f j pv) (hb : Below wr.heap.size wr W) : MI w W L f j pv :=
  ⟨(hb.block _ (lt_of_heap h.x0)).trans h.x0, (hb.block _ (lt_of_heap h.x1)).trans h.x1, ownsRow_fr h.hp (Fr.of_below (S := fun _ => False) hb) (fun _ _ e => e), chain h.bl hb (Nat.le_refl _)⟩
theorem MI.fr {w wr W : World} {L : List Rw} {f : Bool} {j b : Nat} {pv : Value} (h : MI w wr L f j pv) (hf : Fr (At1 b) wr W) (hb : w.heap.size + 1 < b) (hn : pv.ownBlock ≠ some b) : MI w W L f j pv :=
  ⟨(hf.block _ (lt_of_heap h.x0) (by show ¬ (_ = b); omega)).trans h.x0, (hf.block _ (lt_of_heap h.x1) (by show ¬ (_ = b); omega)).trans h.x1, ownsRow_fr h.hp hf (fun k hk e => hn (by rw [hk, show k = b from e])), h.bl.trans (hf.below h.bl.size (fun k hk => by have : k = b := hk; omega))⟩
theorem mdI_1 {n : Int} {r : Rw} (h : 1 + pk r.op 11 = 1) : mdI n r = ⟨1, 0, 0, 0, 0, 0, orS 0#256 (pk r.lo 256).toNat (pk r.hi (256 - pk r.lo 256) + 1).toNat⟩ := by
  have h : pk r.op 11 = 0 := by omega
  simp [mdI, h]
theorem mdI_2 {n : Int} {r : Rw} (h : 1 + pk r.op 11 = 2) : mdI n r = ⟨2, pk r.x n, pk r.y n, 0, 0, 0, 0#256⟩ := by
  have h : pk r.op 11 = 1 := by omega
  simp [mdI, h]
theorem mdI_3 {n : Int} {r : Rw} (h : 1 + pk r.op 11 = 3) : mdI n r = ⟨3, pk r.x n, 0, 0, 0, 0, 0#256⟩ := by
  have h : pk r.op 11 = 2 := by omega
  simp [mdI, h]
theorem mdI_4 {n : Int} {r : Rw} (h : 1 + pk r.op 11 = 4) : mdI n r = ⟨4, 0, 0, 0, 0, 0, 0#256⟩ := by
  have h : pk r.op 11 = 3 := by omega
  simp [mdI, h]
theorem mdI_5 {n : Int} {r : Rw} (h : 1 + pk r.op 11 = 5) : mdI n r = ⟨5, 0, 0, 0, 0, 0, 0#256⟩ := by
  have h : pk r.op 11 = 4 := by omega
  simp [mdI, h]
theorem mdI_6 {n : Int} {r : Rw} (h : 1 + pk r.op 11 = 6) : mdI n r = ⟨6, 0, 0, pk r.n 2, 0, 0, 0#256⟩ := by
  have h : pk r.op 11 = 5 := by omega
  simp [mdI, h]
theorem mdI_7 {n : Int} {r : Rw} (h : 1 + pk r.op 11 = 7) : mdI n r = ⟨7, 0, 0, pk r.n 2, 0, 0, 0#256⟩ := by
  have h : pk r.op 11 = 6 := by omega
  simp [mdI, h]
theorem mdI_8 {n : Int} {r : Rw} (h : 1 + pk r.op 11 = 8) : mdI n r = ⟨8, 0, 0, pk r.n 2, 0, 0, 0#256⟩ := by
  have h : pk r.op 11 = 7 := by omega
  simp [mdI, h]
theorem mdI_9 {n : Int} {r : Rw} (h : 1 + pk r.op 11 = 9) : mdI n r = ⟨9, 0, 0, pk r.n 2, 0, 0, 0#256⟩ := by
  have h : pk r.op 11 = 8 := by omega
  simp [mdI, h]
theorem mdI_10 {n : Int} {r : Rw} (h : 1 + pk r.op 11 = 10) : mdI n r = ⟨10, pk r.x n, pk r.y n, pk r.n 2, pk r.mn 256, if r.mx < 0 then -1 else pk r.mn 256 + pk r.mx (256 - pk r.mn 256), 0#256⟩ := by
  have h : pk r.op 11 = 9 := by omega
  simp [mdI, h]
theorem mdI_11 {n : Int} {r : Rw} (h : 1 + pk r.op 11 = 11) : mdI n r = ⟨11, 0, 0, 0, 0, 0, 0#256⟩ := by
  have h : pk r.op 11 = 10 := by omega
  simp [mdI, h]
theorem or_same (s : z1_S) (b i : Nat) (hi : i < 4) (h0 : 64 * i ≤ b) (h1 : b < 64 * i + 64) : bits .or .u64 (z1_wd s i) (IntKind.u64.wrap (2 ^ (b % 64))) = z1_wd (z1_sor s (z1_sonly b)) i := by
  rw [show b % 64 = ((b : Int) % 64).toNat by omega, z1_wrap_only (b : Int) i (by omega) (by omega) hi, z1_bits_or]
theorem or_other (s : z1_S) (b i : Nat) (h : b < 64 * i ∨ 64 * i + 64 ≤ b) : z1_wd (z1_sor s (z1_sonly b)) i = z1_wd s i := by
  rw [← z1_bits_or, ← z1_only_zero (b : Int) i (by omega), ← z1_wd_nil i, z1_bits_or]
  simp [z1_sor]
set_option maxRecDepth 100000 in
set_option maxHeartbeats 8000000 in
theorem made_c {w : World} {q : Option Addr} {L : List Rw} {c : Nat} {f : Bool} (h : LR w q L) (hm : L.length ≤ maxLen) : Calls Tryz.prog 11 #[.slice q L.length c, .bool f] w (MdP w L f) := by
  have H := hide h
  have hm2 : (L.length : Int) ≤ 9223372036854775807 := by unfold maxLen at hm; omega
  have P0 : Hid (MI w ((w.alloc zP).alloc (.cells #[.slice none 0 0, .int .i64 2, .int .i64 2, .bool f] 24)) L f 0 (.slice none 0 0)) := ⟨(Below.heap_alloc _ _ _ (by simp)).trans (alloc_new w _), hide (by have := alloc_new (w.alloc zP) (.cells #[.slice none 0 0, .int .i64 2, .int .i64 2, .bool f] 24); rw [World.size_alloc] at this; exact this), World.ownsRow_nil _ _ _ _, ((Below.refl _ _).alloc (Nat.le_refl _) _).alloc (by simp) _⟩
  unfold zP at P0
  clear h hm
  go_enter Tryz.func11, Tryz.ntmps11
  go_upto_region 2 with fail
  generalize ((w.alloc (.cells #[.slice none 0 0, .int .i64 0, .int .i64 0, .bool false] 24)).alloc (.cells #[.slice none 0 0, .int .i64 2, .int .i64 2, .bool f] 24)) = w1 at P0 ⊢
  go_upto_block 0 with fail
  obtain ⟨N, hN⟩ : ∃ N : Nat, N = min L.length 200 := ⟨_, rfl⟩
  have eN : min (L.length : Int) 200 = (N : Int) := by omega
  have hNL : N ≤ L.length := by omega
  have hN2 : N ≤ 200 := by omega
  rw [eN]
  have HN := hide hN
  clear hN eN
  go_wp2
  go_loopg [7] N (fun k i wr => ∃ (j : Nat) (pv : Value), j + k = N ∧ i = .int .i64 (j : Int) ∧ MI w wr L f j pv)
  case atStart => exact ⟨0, _, by omega, rfl, P0.out⟩
  case round =>
    obtain ⟨j, pv, hjk, rfl, hP⟩ := hrel
    have P := hide hP
    clear hP P0
    by_cases hj : j < N
    · obtain ⟨r, hr⟩ : ∃ r, L[j]? = some r := ⟨_, List.getElem?_eq_getElem (by omega)⟩
      have HR := hide hr
      obtain ⟨g1, o1, hq1, hl1, c0, c1, c2, c3, c4, c5, c6, c7⟩ := (H.out.kept P.out.bl).eight hr
      have OK := ((H.out.kept P.out.bl) j r hr).1
      have j0 : (j : Int) < (N : Int) := by omega
      have jL : (j : Int) < (L.length : Int) := by omega
      have jz : (0 : Int) ≤ (j : Int) := by omega
      have pr := pk_range (c := r.op) (n := 11) (by decide)
      rw [show pk r.op ((11 : Nat) : Int) = pk r.op 11 from rfl] at pr
      obtain ⟨o9, ho9⟩ : ∃ o9, 1 + pk r.op 11 = o9 := ⟨_, rfl⟩
      have e1 : IntKind.i64.wrap (1 + pk r.op 11) = o9 := by rw [ho9, IntKind.wrap_i64]; omega
      have HO := fun V => pick_i r.op 11 (by decide) (by decide) OK.op V
      subst hq1
      clear hr
      go_upto_block 2 with (go_at_call 12; (with_reducible refine (HO _).mono ?_); rintro e w5 ⟨rfl, h5⟩; subst w5)
      have BX : Below wr.heap.size wr ((wr.alloc (.cells #[.int .i64 r.op, .int .i64 r.x, .int .i64 r.y, .int .i64 r.n, .int .i64 r.mn, .int .i64 r.mx, .int .i64 r.lo, .int .i64 r.hi] 58)).alloc (.cells #[.int .i64 o9, .int .i64 0, .int .i64 0, .int .i64 0, .int .i64 0, .int .i64 0, .int .u64 0, .int .u64 0, .int .u64 0, .int .u64 0] 35)) := ((Below.refl _ _).alloc (Nat.le_refl _) _).alloc (by simp) _
      have P2 := hide (P.out.kept BX)
      have R2 : Hid (((wr.alloc (.cells #[.int .i64 r.op, .int .i64 r.x, .int .i64 r.y, .int .i64 r.n, .int .i64 r.mn, .int .i64 r.mx, .int .i64 r.lo, .int .i64 r.hi] 58)).alloc (.cells #[.int .i64 o9, .int .i64 0, .int .i64 0, .int .i64 0, .int .i64 0, .int .i64 0, .int .u64 0, .int .u64 0, .int .u64 0, .int .u64 0] 35)).heap[wr.heap.size]? = some (.cells #[.int .i64 r.op, .int .i64 r.x, .int .i64 r.y, .int .i64 r.n, .int .i64 r.mn, .int .i64 r.mx, .int .i64 r.lo, .int .i64 r.hi] 58 (0, 0))) := hide ((Below.heap_alloc _ _ _ (by simp)).trans (alloc_new wr _))
      have I2 : Hid (((wr.alloc (.cells #[.int .i64 r.op, .int .i64 r.x, .int .i64 r.y, .int .i64 r.n, .int .i64 r.mn, .int .i64 r.mx, .int .i64 r.lo, .int .i64 r.hi] 58)).alloc (.cells #[.int .i64 o9, .int .i64 0, .int .i64 0, .int .i64 0, .int .i64 0, .int .i64 0, .int .u64 0, .int .u64 0, .int .u64 0, .int .u64 0] 35)).heap[wr.heap.size + 1]? = some (.cells #[.int .i64 o9, .int .i64 0, .int .i64 0, .int .i64 0, .int .i64 0, .int .i64 0, .int .u64 0, .int .u64 0, .int .u64 0, .int .u64 0] 35 (0, 0))) := hide (by have := alloc_new (wr.alloc (.cells #[.int .i64 r.op, .int .i64 r.x, .int .i64 r.y, .int .i64 r.n, .int .i64 r.mn, .int .i64 r.mx, .int .i64 r.lo, .int .i64 r.hi] 58)) (.cells #[.int .i64 o9, .int .i64 0, .int .i64 0, .int .i64 0, .int .i64 0, .int .i64 0, .int .u64 0, .int .u64 0, .int .u64 0, .int .u64 0] 35); rw [World.size_alloc] at this; exact this)
      have sz := P.out.bl.size
      have sx := lt_of_heap P.out.x1
      have no : Hid (pv.ownBlock ≠ some (wr.heap.size + 1)) := hide fun e => by have := (ownsRow_at P.out.hp e).2.1; omega
      clear BX c0 c1 c2 c3 c4 c5 c6 c7 e1 HO
      generalize ((wr.alloc (.cells #[.int .i64 r.op, .int .i64 r.x, .int .i64 r.y, .int .i64 r.n, .int .i64 r.mn, .int .i64 r.mx, .int .i64 r.lo, .int .i64 r.hi] 58)).alloc (.cells #[.int .i64 o9, .int .i64 0, .int .i64 0, .int .i64 0, .int .i64 0, .int .i64 0, .int .u64 0, .int .u64 0, .int .u64 0, .int .u64 0] 35)) = W2 at P2 R2 I2 ⊢
      obtain ⟨B, hB⟩ : ∃ B, wr.heap.size = B := ⟨_, rfl⟩
      rw [hB] at R2 I2 sx sz no ⊢
      obtain ⟨mi, hmi⟩ : ∃ mi, mdI ((N : Int) + 1) r = mi := ⟨_, rfl⟩
      have HMI := hide hmi
      clear hmi
      go_cut [10, 11, 12] from 19 to 134 (fun _ _ _ wx => Fr (At1 (B + 1)) W2 wx ∧ wx.heap[B + 1]? = some (.cells #[.int .i64 mi.op, .int .i64 mi.x, .int .i64 mi.y, .int .i64 mi.n, .int .i64 mi.mn, .int .i64 mi.mx, .int .u64 (z1_wd mi.s 0), .int .u64 (z1_wd mi.s 1), .int .u64 (z1_wd mi.s 2), .int .u64 (z1_wd mi.s 3)] 35 (0, 0)))
      case first =>
        have r1 := cell_row R2.out (i := 1) rfl
        have r2 := cell_row R2.out (i := 2) rfl
        have r3 := cell_row R2.out (i := 3) rfl
        have r4 := cell_row R2.out (i := 4) rfl
        have r5 := cell_row R2.out (i := 5) rfl
        have r6 := cell_row R2.out (i := 6) rfl
        have r7 := cell_row R2.out (i := 7) rfl
        have lr := lt_of_heap R2.out
        have li := lt_of_heap I2.out
        have HP := fun (c n : Int) (hn : 0 < n) (hs : n ≤ 1000000) (hc : (Lit.int .i64 c).wf = true) (V : World) => pick_i c n hn hs hc V
        have ho : o9 = 1 ∨ o9 = 2 ∨ o9 = 3 ∨ o9 = 4 ∨ o9 = 5 ∨ o9 = 6 ∨ o9 = 7 ∨ o9 = 8 ∨ o9 = 9 ∨ o9 = 10 ∨ o9 = 11 := by omega
        clear pr hjk H P hl1
        rcases ho with rfl | rfl | rfl | rfl | rfl | rfl | rfl | rfl | rfl | rfl | rfl
        · have MD := hide (HMI.out.symm.trans (mdI_1 (n := (N : Int) + 1) ho9))
          have hb := pk_range (c := r.lo) (n := 256) (by decide)
          rw [show pk r.lo ((256 : Nat) : Int) = pk r.lo 256 from rfl] at hb
          obtain ⟨lo, hlo⟩ : ∃ m : Nat, (m : Int) = pk r.lo 256 := ⟨(pk r.lo 256).toNat, by omega⟩
          rw [← hlo] at hb MD
          obtain ⟨md, hmd⟩ : ∃ m : Nat, (m : Int) = 256 - lo := ⟨(256 - (lo : Int)).toNat, by omega⟩
          have hb2 := pk_range (c := r.hi) (n := md) (by omega)
          rw [hmd] at hb2
          obtain ⟨sp, hsp⟩ : ∃ m : Nat, (m : Int) = pk r.hi (256 - lo) := ⟨(pk r.hi (256 - (lo : Int))).toNat, by omega⟩
          rw [← hsp] at hb2 MD
          have e0 : IntKind.i64.wrap (256 - (lo : Int)) = 256 - lo := by rw [IntKind.wrap_i64]; omega
          have e2 : IntKind.i64.wrap ((lo : Int) + sp) = (lo : Int) + sp := by rw [IntKind.wrap_i64]; omega
          have HP1 := fun (V : World) => pick_i r.lo 256 (by decide) (by decide) OK.lo V
          have HP2 := fun (V : World) => pick_i r.hi (256 - lo) (by omega) (by omega) OK.hi V
          rw [← hlo] at HP1
          rw [← hsp] at HP2
          have MD2 : Hid (mi = ⟨1, 0, 0, 0, 0, 0, orS 0#256 lo (sp + 1)⟩) := hide (by rw [MD.out, Int.toNat_natCast, show ((sp : Int) + 1).toNat = sp + 1 by omega])
          clear ho9 MD hsp hlo hmd
          go_upto_region 13 with first
            | (go_at_call 12; (with_reducible refine (HP1 _).mono ?_); rintro e w5 ⟨rfl, h5⟩; subst w5)
            | (go_at_call 12; (with_reducible refine (HP2 _).mono ?_); rintro e w5 ⟨rfl, h5⟩; subst w5)
          have Q0 : Hid (W2.heap[B + 1]? = some (.cells #[.int .i64 1, .int .i64 0, .int .i64 0, .int .i64 0, .int .i64 0, .int .i64 0, .int .u64 (z1_wd 0#256 0), .int .u64 (z1_wd 0#256 1), .int .u64 (z1_wd 0#256 2), .int .u64 (z1_wd 0#256 3)] 35 (0, 0))) := hide (by simp only [z1_wd_nil]; exact I2.out)
          clear r1 r2 r3 r4 r5 r6 r7
          go_loopg [12] (sp + 1) (fun k i wx => ∃ (b : Nat) (s : z1_S), b + k = lo + sp + 1 ∧ i = .int .i64 (b : Int) ∧ orS s b k = orS 0#256 lo (sp + 1) ∧ Fr (At1 (B + 1)) W2 wx ∧ wx.heap[B + 1]? = some (.cells #[.int .i64 1, .int .i64 0, .int .i64 0, .int .i64 0, .int .i64 0, .int .i64 0, .int .u64 (z1_wd s 0), .int .u64 (z1_wd s 1), .int .u64 (z1_wd s 2), .int .u64 (z1_wd s 3)] 35 (0, 0)))
          case atStart => exact ⟨lo, 0#256, by omega, rfl, rfl, Fr.refl _ _, Q0.out⟩
          case round =>
            obtain ⟨b, s, hbk, rfl, hor, hfr, hbx⟩ := hrel
            have HO := hide hor
            have HF := hide hfr
            have HB := hide hbx
            clear hor hfr hbx
            by_cases hlt : b ≤ lo + sp
            · obtain ⟨k', hk'⟩ : ∃ k', gk = k' + 1 := ⟨gk - 1, by omega⟩
              have i0 : (0 : Int) ≤ (b : Int) := by omega
              have i1 : (b : Int) ≤ (lo : Int) + sp := by omega
              have lb := lt_of_heap HB.out
              have b6 := cell_row HB.out (i := 6) rfl
              have b7 := cell_row HB.out (i := 7) rfl
              have b8 := cell_row HB.out (i := 8) rfl
              have b9 := cell_row HB.out (i := 9) rfl
              have hq : (b : Int) / 64 = 0 ∨ (b : Int) / 64 = 1 ∨ (b : Int) / 64 = 2 ∨ (b : Int) / 64 = 3 := by omega
              rcases hq with hq | hq | hq | hq
              · have fz := frz_row HB.out 6
                go_wp2
                go_region
                go_wp2
                go_roundg k'
                case measure => omega
                case rel =>
                  refine ⟨b + 1, z1_sor s (z1_sonly b), by omega, by go_num, ?_, (Fr.setCell (S := At1 (B + 1)) HF.out (p := ⟨B + 1, 6, none⟩) rfl _).drew, ?_⟩
                  · have := HO.out
                    rw [hk'] at this
                    exact this
                  · rw [or_other s b 1 (by omega), or_other s b 2 (by omega), or_other s b 3 (by omega), ← or_same s b 0 (by decide) (by omega) (by omega)]
                    exact heap_set_in HB.out 6 _
              · have fz := frz_row HB.out 7
                go_wp2
                go_region
                go_wp2
                go_roundg k'
                case measure => omega
                case rel =>
                  refine ⟨b + 1, z1_sor s (z1_sonly b), by omega, by go_num, ?_, (Fr.setCell (S := At1 (B + 1)) HF.out (p := ⟨B + 1, 7, none⟩) rfl _).drew, ?_⟩
                  · have := HO.out
                    rw [hk'] at this
                    exact this
                  · rw [or_other s b 0 (by omega), or_other s b 2 (by omega), or_other s b 3 (by omega), ← or_same s b 1 (by decide) (by omega) (by omega)]
                    exact heap_set_in HB.out 7 _
              · have fz := frz_row HB.out 8
                go_wp2
                go_region
                go_wp2
                go_roundg k'
                case measure => omega
                case rel =>
                  refine ⟨b + 1, z1_sor s (z1_sonly b), by omega, by go_num, ?_, (Fr.setCell (S := At1 (B + 1)) HF.out (p := ⟨B + 1, 8, none⟩) rfl _).drew, ?_⟩
                  · have := HO.out
                    rw [hk'] at this
                    exact this
                  · rw [or_other s b 0 (by omega), or_other s b 1 (by omega), or_other s b 3 (by omega), ← or_same s b 2 (by decide) (by omega) (by omega)]
                    exact heap_set_in HB.out 8 _
              · have fz := frz_row HB.out 9
                go_wp2
                go_region
                go_wp2
                go_roundg k'
                case measure => omega
                case rel =>
                  refine ⟨b + 1, z1_sor s (z1_sonly b), by omega, by go_num, ?_, (Fr.setCell (S := At1 (B + 1)) HF.out (p := ⟨B + 1, 9, none⟩) rfl _).drew, ?_⟩
                  · have := HO.out
                    rw [hk'] at this
                    exact this
                  · rw [or_other s b 0 (by omega), or_other s b 1 (by omega), or_other s b 2 (by omega), ← or_same s b 3 (by decide) (by omega) (by omega)]
                    exact heap_set_in HB.out 9 _
            · have i1 : ¬ (b : Int) ≤ (lo : Int) + sp := by omega
              obtain rfl : gk = 0 := by omega
              go_wp2
              go_meet
              rw [MD2.out, ← HO.out]
              exact ⟨HF.out, HB.out⟩
        · have MD := hide (HMI.out.symm.trans (mdI_2 (n := (N : Int) + 1) ho9))
          have i0 := cell_row I2.out (i := 0) rfl
          have i1 := cell_row I2.out (i := 1) rfl
          have i2 := cell_row I2.out (i := 2) rfl
          have i3 := cell_row I2.out (i := 3) rfl
          have i4 := cell_row I2.out (i := 4) rfl
          have i5 := cell_row I2.out (i := 5) rfl
          have i6 := cell_row I2.out (i := 6) rfl
          have i7 := cell_row I2.out (i := 7) rfl
          have i8 := cell_row I2.out (i := 8) rfl
          have i9 := cell_row I2.out (i := 9) rfl
          have f1 := frz_row I2.out 1
          have f2 := frz_row I2.out 2
          clear ho9
          go_wp2_with (go_at_call 12; (with_reducible refine (HP _ _ ?_ ?_ ?_ _).mono ?_); (first | decide | omega); (first | decide | omega); (first | exact OK.x | exact OK.y | exact OK.n | exact OK.mn | exact OK.mx | exact OK.lo | exact OK.hi); rintro e w5 ⟨rfl, h5⟩; subst w5)
          go_meet
          rw [MD.out]
          refine ⟨Fr.setCell (S := At1 (B + 1)) (Fr.setCell (S := At1 (B + 1)) (Fr.refl _ _) (p := ⟨B + 1, 1, none⟩) rfl _) (p := ⟨B + 1, 2, none⟩) rfl _, ?_⟩
          simp only [z1_wd_nil]
          exact heap_set_in (heap_set_in (I2.out) 1 _) 2 _
        · have MD := hide (HMI.out.symm.trans (mdI_3 (n := (N : Int) + 1) ho9))
          have i0 := cell_row I2.out (i := 0) rfl
          have i1 := cell_row I2.out (i := 1) rfl
          have i2 := cell_row I2.out (i := 2) rfl
          have i3 := cell_row I2.out (i := 3) rfl
          have i4 := cell_row I2.out (i := 4) rfl
          have i5 := cell_row I2.out (i := 5) rfl
          have i6 := cell_row I2.out (i := 6) rfl
          have i7 := cell_row I2.out (i := 7) rfl
          have i8 := cell_row I2.out (i := 8) rfl
          have i9 := cell_row I2.out (i := 9) rfl
          have f1 := frz_row I2.out 1
          clear ho9
          go_wp2_with (go_at_call 12; (with_reducible refine (HP _ _ ?_ ?_ ?_ _).mono ?_); (first | decide | omega); (first | decide | omega); (first | exact OK.x | exact OK.y | exact OK.n | exact OK.mn | exact OK.mx | exact OK.lo | exact OK.hi); rintro e w5 ⟨rfl, h5⟩; subst w5)
          go_meet
          rw [MD.out]
          refine ⟨Fr.setCell (S := At1 (B + 1)) (Fr.refl _ _) (p := ⟨B + 1, 1, none⟩) rfl _, ?_⟩
          simp only [z1_wd_nil]
          exact heap_set_in (I2.out) 1 _
        · have MD := hide (HMI.out.symm.trans (mdI_4 (n := (N : Int) + 1) ho9))
          have i0 := cell_row I2.out (i := 0) rfl
          have i1 := cell_row I2.out (i := 1) rfl
          have i2 := cell_row I2.out (i := 2) rfl
          have i3 := cell_row I2.out (i := 3) rfl
          have i4 := cell_row I2.out (i := 4) rfl
          have i5 := cell_row I2.out (i := 5) rfl
          have i6 := cell_row I2.out (i := 6) rfl
          have i7 := cell_row I2.out (i := 7) rfl
          have i8 := cell_row I2.out (i := 8) rfl
          have i9 := cell_row I2.out (i := 9) rfl
          clear ho9
          go_wp2_with (go_at_call 12; (with_reducible refine (HP _ _ ?_ ?_ ?_ _).mono ?_); (first | decide | omega); (first | decide | omega); (first | exact OK.x | exact OK.y | exact OK.n | exact OK.mn | exact OK.mx | exact OK.lo | exact OK.hi); rintro e w5 ⟨rfl, h5⟩; subst w5)
          go_meet
          rw [MD.out]
          refine ⟨Fr.refl _ _, ?_⟩
          simp only [z1_wd_nil]
          exact I2.out
        · have MD := hide (HMI.out.symm.trans (mdI_5 (n := (N : Int) + 1) ho9))
          have i0 := cell_row I2.out (i := 0) rfl
          have i1 := cell_row I2.out (i := 1) rfl
          have i2 := cell_row I2.out (i := 2) rfl
          have i3 := cell_row I2.out (i := 3) rfl
          have i4 := cell_row I2.out (i := 4) rfl
          have i5 := cell_row I2.out (i := 5) rfl
          have i6 := cell_row I2.out (i := 6) rfl
          have i7 := cell_row I2.out (i := 7) rfl
          have i8 := cell_row I2.out (i := 8) rfl
          have i9 := cell_row I2.out (i := 9) rfl
          clear ho9
          go_wp2_with (go_at_call 12; (with_reducible refine (HP _ _ ?_ ?_ ?_ _).mono ?_); (first | decide | omega); (first | decide | omega); (first | exact OK.x | exact OK.y | exact OK.n | exact OK.mn | exact OK.mx | exact OK.lo | exact OK.hi); rintro e w5 ⟨rfl, h5⟩; subst w5)
          go_meet
          rw [MD.out]
          refine ⟨Fr.refl _ _, ?_⟩
          simp only [z1_wd_nil]
          exact I2.out
        · have MD := hide (HMI.out.symm.trans (mdI_6 (n := (N : Int) + 1) ho9))
          have i0 := cell_row I2.out (i := 0) rfl
          have i1 := cell_row I2.out (i := 1) rfl
          have i2 := cell_row I2.out (i := 2) rfl
          have i3 := cell_row I2.out (i := 3) rfl
          have i4 := cell_row I2.out (i := 4) rfl
          have i5 := cell_row I2.out (i := 5) rfl
          have i6 := cell_row I2.out (i := 6) rfl
          have i7 := cell_row I2.out (i := 7) rfl
          have i8 := cell_row I2.out (i := 8) rfl
          have i9 := cell_row I2.out (i := 9) rfl
          have f3 := frz_row I2.out 3
          clear ho9
          go_wp2_with (go_at_call 12; (with_reducible refine (HP _ _ ?_ ?_ ?_ _).mono ?_); (first | decide | omega); (first | decide | omega); (first | exact OK.x | exact OK.y | exact OK.n | exact OK.mn | exact OK.mx | exact OK.lo | exact OK.hi); rintro e w5 ⟨rfl, h5⟩; subst w5)
          go_meet
          rw [MD.out]
          refine ⟨Fr.setCell (S := At1 (B + 1)) (Fr.refl _ _) (p := ⟨B + 1, 3, none⟩) rfl _, ?_⟩
          simp only [z1_wd_nil]
          exact heap_set_in (I2.out) 3 _
        · have MD := hide (HMI.out.symm.trans (mdI_7 (n := (N : Int) + 1) ho9))
          have i0 := cell_row I2.out (i := 0) rfl
          have i1 := cell_row I2.out (i := 1) rfl
          have i2 := cell_row I2.out (i := 2) rfl
          have i3 := cell_row I2.out (i := 3) rfl
          have i4 := cell_row I2.out (i := 4) rfl
          have i5 := cell_row I2.out (i := 5) rfl
          have i6 := cell_row I2.out (i := 6) rfl
          have i7 := cell_row I2.out (i := 7) rfl
          have i8 := cell_row I2.out (i := 8) rfl
          have i9 := cell_row I2.out (i := 9) rfl
          have f3 := frz_row I2.out 3
          clear ho9
          go_wp2_with (go_at_call 12; (with_reducible refine (HP _ _ ?_ ?_ ?_ _).mono ?_); (first | decide | omega); (first | decide | omega); (first | exact OK.x | exact OK.y | exact OK.n | exact OK.mn | exact OK.mx | exact OK.lo | exact OK.hi); rintro e w5 ⟨rfl, h5⟩; subst w5)
          go_meet
          rw [MD.out]
          refine ⟨Fr.setCell (S := At1 (B + 1)) (Fr.refl _ _) (p := ⟨B + 1, 3, none⟩) rfl _, ?_⟩
          simp only [z1_wd_nil]
          exact heap_set_in (I2.out) 3 _
        · have MD := hide (HMI.out.symm.trans (mdI_8 (n := (N : Int) + 1) ho9))
          have i0 := cell_row I2.out (i := 0) rfl
          have i1 := cell_row I2.out (i := 1) rfl
          have i2 := cell_row I2.out (i := 2) rfl
          have i3 := cell_row I2.out (i := 3) rfl
          have i4 := cell_row I2.out (i := 4) rfl
          have i5 := cell_row I2.out (i := 5) rfl
          have i6 := cell_row I2.out (i := 6) rfl
          have i7 := cell_row I2.out (i := 7) rfl
          have i8 := cell_row I2.out (i := 8) rfl
          have i9 := cell_row I2.out (i := 9) rfl
          have f3 := frz_row I2.out 3
          clear ho9
          go_wp2_with (go_at_call 12; (with_reducible refine (HP _ _ ?_ ?_ ?_ _).mono ?_); (first | decide | omega); (first | decide | omega); (first | exact OK.x | exact OK.y | exact OK.n | exact OK.mn | exact OK.mx | exact OK.lo | exact OK.hi); rintro e w5 ⟨rfl, h5⟩; subst w5)
          go_meet
          rw [MD.out]
          refine ⟨Fr.setCell (S := At1 (B + 1)) (Fr.refl _ _) (p := ⟨B + 1, 3, none⟩) rfl _, ?_⟩
          simp only [z1_wd_nil]
          exact heap_set_in (I2.out) 3 _
        · have MD := hide (HMI.out.symm.trans (mdI_9 (n := (N : Int) + 1) ho9))
          have i0 := cell_row I2.out (i := 0) rfl
          have i1 := cell_row I2.out (i := 1) rfl
          have i2 := cell_row I2.out (i := 2) rfl
          have i3 := cell_row I2.out (i := 3) rfl
          have i4 := cell_row I2.out (i := 4) rfl
          have i5 := cell_row I2.out (i := 5) rfl
          have i6 := cell_row I2.out (i := 6) rfl
          have i7 := cell_row I2.out (i := 7) rfl
          have i8 := cell_row I2.out (i := 8) rfl
          have i9 := cell_row I2.out (i := 9) rfl
          have f3 := frz_row I2.out 3
          clear ho9
          go_wp2_with (go_at_call 12; (with_reducible refine (HP _ _ ?_ ?_ ?_ _).mono ?_); (first | decide | omega); (first | decide | omega); (first | exact OK.x | exact OK.y | exact OK.n | exact OK.mn | exact OK.mx | exact OK.lo | exact OK.hi); rintro e w5 ⟨rfl, h5⟩; subst w5)
          go_meet
          rw [MD.out]
          refine ⟨Fr.setCell (S := At1 (B + 1)) (Fr.refl _ _) (p := ⟨B + 1, 3, none⟩) rfl _, ?_⟩
          simp only [z1_wd_nil]
          exact heap_set_in (I2.out) 3 _
        · have MD := hide (HMI.out.symm.trans (mdI_10 (n := (N : Int) + 1) ho9))
          have f0 := frz_row I2.out 3
          have i3 := cell_row I2.out (i := 3) rfl
          have i4 := cell_row I2.out (i := 4) rfl
          have f4 := frz_row I2.out 4
          have hb := pk_range (c := r.mn) (n := 256) (by decide)
          rw [show pk r.mn ((256 : Nat) : Int) = pk r.mn 256 from rfl] at hb
          obtain ⟨md, hmd⟩ : ∃ m : Nat, (m : Int) = 256 - pk r.mn 256 := ⟨(256 - pk r.mn 256).toNat, by omega⟩
          have hb2 := pk_range (c := r.mx) (n := md) (by omega)
          rw [hmd] at hb2
          have e1 : IntKind.i64.wrap (256 - pk r.mn 256) = 256 - pk r.mn 256 := by rw [IntKind.wrap_i64]; omega
          have e2 : IntKind.i64.wrap (pk r.mn 256 + pk r.mx (256 - pk r.mn 256)) = pk r.mn 256 + pk r.mx (256 - pk r.mn 256) := by rw [IntKind.wrap_i64]; omega
          clear ho9
          go_upto_region 29 with (go_at_call 12; (with_reducible refine (HP _ _ ?_ ?_ ?_ _).mono ?_); (first | decide | omega); (first | decide | omega); (first | exact OK.x | exact OK.y | exact OK.n | exact OK.mn | exact OK.mx | exact OK.lo | exact OK.hi); rintro e w5 ⟨rfl, h5⟩; subst w5)
          have I4 := hide (heap_set_in (heap_set_in I2.out 3 (.int .i64 (pk r.n 2))) 4 (.int .i64 (pk r.mn 256)))
          have F4 : Hid (Fr (At1 (B + 1)) W2 _) := hide (Fr.setCell (S := At1 (B + 1)) (Fr.setCell (S := At1 (B + 1)) (Fr.refl _ _) (p := ⟨B + 1, 3, none⟩) rfl (.int .i64 (pk r.n 2))) (p := ⟨B + 1, 4, none⟩) rfl (.int .i64 (pk r.mn 256)))
          have R4 := hide ((F4.out.block _ lr (by show ¬ (B = B + 1); omega)).trans R2.out)
          clear i3 i4 f0 f4 r1 r2 r3 r4 r5 r6 r7
          generalize ((W2.setCell ⟨B + 1, 3, none⟩ (.int .i64 (pk r.n 2))).setCell ⟨B + 1, 4, none⟩ (.int .i64 (pk r.mn 256))) = W4 at I4 F4 R4 ⊢
          have r1 := cell_row R4.out (i := 1) rfl
          have r2 := cell_row R4.out (i := 2) rfl
          have r5 := cell_row R4.out (i := 5) rfl
          have i1 := cell_row I4.out (i := 1) rfl
          have i2 := cell_row I4.out (i := 2) rfl
          have i4 := cell_row I4.out (i := 4) rfl
          have i5 := cell_row I4.out (i := 5) rfl
          have f1 := frz_row I4.out 1
          have f2 := frz_row I4.out 2
          have f5 := frz_row I4.out 5
          simp at i1 i2 i4 i5
          go_cut [10, 11, 12] from 19 to 134 (fun a0 a1 a2 wx => a0 = u10 ∧ a1 = u11 ∧ a2 = u12 ∧ wx.heap = (W4.setCell ⟨B + 1, 5, none⟩ (.int .i64 (pk r.mn 256 + pk r.mx (256 - pk r.mn 256)))).heap ∧ Fr (At1 (B + 1)) W4 wx)
          case first =>
            go_region_with (go_at_call 12; (with_reducible refine (HP _ _ ?_ ?_ ?_ _).mono ?_); (first | decide | omega); (first | decide | omega); (first | exact OK.x | exact OK.y | exact OK.n | exact OK.mn | exact OK.mx | exact OK.lo | exact OK.hi); rintro e w5 ⟨rfl, h5⟩; subst w5)
            all_goals (try dsimp only [Act.put])
            all_goals go_wp2
            all_goals go_meet
            all_goals exact ⟨rfl, rfl, rfl, rfl, by repeat' (first | exact Fr.refl _ _ | refine Fr.drew ?_ | refine Fr.setCell (S := At1 (B + 1)) ?_ (p := ⟨B + 1, 5, none⟩) rfl _)⟩
          case rest =>
          obtain ⟨rfl, rfl, rfl, hhp, hfr⟩ := hcut
          have I5 : Hid (wc.heap[B + 1]? = _) := hide ((congrArg (fun h => h[B + 1]?) hhp).trans (heap_set_in I4.out 5 _))
          have R5 := hide ((hfr.block _ (lt_of_heap R4.out) (by show ¬ (B = B + 1); omega)).trans R4.out)
          have F5 := hide (F4.out.trans hfr)
          clear hhp hfr
          clear i1 i2 i4 i5 f1 f2 f5 r1 r2 r5
          have r1 := cell_row R5.out (i := 1) rfl
          have r2 := cell_row R5.out (i := 2) rfl
          have r5 := cell_row R5.out (i := 5) rfl
          have i1 := cell_row I5.out (i := 1) rfl
          have i2 := cell_row I5.out (i := 2) rfl
          have i5 := cell_row I5.out (i := 5) rfl
          have f1 := frz_row I5.out 1
          have f2 := frz_row I5.out 2
          have f5 := frz_row I5.out 5
          simp at i1 i2 i5
          have lr5 := lt_of_heap R5.out
          have li5 := lt_of_heap I5.out
          by_cases hx : r.mx < 0
          · rw [if_pos hx] at MD
            go_wp2_with (go_at_call 12; (with_reducible refine (HP _ _ ?_ ?_ ?_ _).mono ?_); (first | decide | omega); (first | decide | omega); (first | exact OK.x | exact OK.y | exact OK.n | exact OK.mn | exact OK.mx | exact OK.lo | exact OK.hi); rintro e w5 ⟨rfl, h5⟩; subst w5)
            go_meet
            rw [MD.out]
            refine ⟨Fr.setCell (S := At1 (B + 1)) (Fr.setCell (S := At1 (B + 1)) (Fr.setCell (S := At1 (B + 1)) (F5.out) (p := ⟨B + 1, 5, none⟩) rfl _) (p := ⟨B + 1, 1, none⟩) rfl _) (p := ⟨B + 1, 2, none⟩) rfl _, ?_⟩
            simp only [z1_wd_nil]
            exact heap_set_in (heap_set_in (heap_set_in (I5.out) 5 _) 1 _) 2 _
          · rw [if_neg hx] at MD
            go_wp2_with (go_at_call 12; (with_reducible refine (HP _ _ ?_ ?_ ?_ _).mono ?_); (first | decide | omega); (first | decide | omega); (first | exact OK.x | exact OK.y | exact OK.n | exact OK.mn | exact OK.mx | exact OK.lo | exact OK.hi); rintro e w5 ⟨rfl, h5⟩; subst w5)
            go_meet
            rw [MD.out]
            refine ⟨Fr.setCell (S := At1 (B + 1)) (Fr.setCell (S := At1 (B + 1)) (F5.out) (p := ⟨B + 1, 1, none⟩) rfl _) (p := ⟨B + 1, 2, none⟩) rfl _, ?_⟩
            simp only [z1_wd_nil]
            exact heap_set_in (heap_set_in (I5.out) 1 _) 2 _
        · have MD := hide (HMI.out.symm.trans (mdI_11 (n := (N : Int) + 1) ho9))
          have i0 := cell_row I2.out (i := 0) rfl
          have i1 := cell_row I2.out (i := 1) rfl
          have i2 := cell_row I2.out (i := 2) rfl
          have i3 := cell_row I2.out (i := 3) rfl
          have i4 := cell_row I2.out (i := 4) rfl
          have i5 := cell_row I2.out (i := 5) rfl
          have i6 := cell_row I2.out (i := 6) rfl
          have i7 := cell_row I2.out (i := 7) rfl
          have i8 := cell_row I2.out (i := 8) rfl
          have i9 := cell_row I2.out (i := 9) rfl
          clear ho9
          go_wp2_with (go_at_call 12; (with_reducible refine (HP _ _ ?_ ?_ ?_ _).mono ?_); (first | decide | omega); (first | decide | omega); (first | exact OK.x | exact OK.y | exact OK.n | exact OK.mn | exact OK.mx | exact OK.lo | exact OK.hi); rintro e w5 ⟨rfl, h5⟩; subst w5)
          go_meet
          rw [MD.out]
          refine ⟨Fr.refl _ _, ?_⟩
          simp only [z1_wd_nil]
          exact I2.out
      case rest =>
        obtain ⟨hf, hi⟩ := hcut
        have P3 := hide (P2.out.fr hf (by omega) no.out)
        have I3 := hide hi
        have TK : Hid (ceI14 ((L.take (j + 1)).map (mdI ((min L.length 200 : Nat) + 1 : Int))) = ceI14 ((L.take j).map (mdI ((min L.length 200 : Nat) + 1 : Int))) ++ inC mi) := hide (by rw [List.take_add_one, HR.out, Option.toList_some, List.map_append, ceI14_app, ← HN.out, ← HMI.out]; simp [ceI14])
        clear hf hi P P2 R2 I2 no H
        obtain ⟨qv, cv, rfl⟩ := ownsRow_shape P3.out.hp
        have y0 := cell_row P3.out.x1 (i := 0) rfl
        have ly := lt_of_heap P3.out.x1
        have lI := lt_of_heap I3.out
        have s3 := P3.out.bl.size
        have e0 := cell_row I3.out (i := 0) rfl
        have e1 := cell_row I3.out (i := 1) rfl
        have e2 := cell_row I3.out (i := 2) rfl
        have e3 := cell_row I3.out (i := 3) rfl
        have e4 := cell_row I3.out (i := 4) rfl
        have e5 := cell_row I3.out (i := 5) rfl
        have e6 := cell_row I3.out (i := 6) rfl
        have e7 := cell_row I3.out (i := 7) rfl
        have e8 := cell_row I3.out (i := 8) rfl
        have e9 := cell_row I3.out (i := 9) rfl
        obtain ⟨t0, ti, tz0, tz1, tz2⟩ := info_parts size_inst
        go_upto_region 5 with (at_builtin; refine wpList_append_own_at _ rfl _ _ 22 rfl w.heap.size 35 t0 (.agg #[.int .i64 0, .int .i64 0, .int .i64 0, .int .i64 0, .int .i64 0, .int .i64 0, .int .u64 0, .int .u64 0, .int .u64 0, .int .u64 0]) 10 80 und_insts ti tz0 tz1 tz2 rfl (by decide) (.slice qv j cv) j (ceI14 ((L.take j).map (mdI ((min L.length 200 : Nat) + 1 : Int)))) rfl (World.ownsRow.alloc P3.out.hp _) ⟨wc.heap.size, 0, none⟩ 1 1 (inC mi) rfl rfl (newsI wc (inC mi) _) (inC_one mi) (by unfold maxLen; omega) (by omega) (by simp; omega) ?_; intro v6 W6 hown hgrow _ hblk; have G6 := hide hgrow; have O6 := hide hown; have Y6 := hide ((hgrow.block _ (by simp; omega) (fun e => ownsRow_not P3.out.hp P3.out.x1 (by decide) e.symm)).trans ((Below.heap_alloc _ _ _ ly).trans P3.out.x1)); have X6 := hide ((hgrow.block _ (by simp; omega) (fun e => ownsRow_not P3.out.hp P3.out.x0 (by decide) e.symm)).trans ((Below.heap_alloc _ _ _ (by omega)).trans P3.out.x0)); have z0 := cell_row Y6.out (i := 0) rfl; have zf := frz_row Y6.out 0; obtain ⟨q6, c6, rfl⟩ := ownsRow_shape hown; clear hown hgrow hblk)
        have FS : Hid (Fr (fun z => (Value.slice qv j cv).ownBlock = some z ∨ z = w.heap.size + 1) wc (W6.setCell ⟨w.heap.size + 1, 0, none⟩ (.slice q6 (j + 1) c6))) := hide (Fr.setCell (S := fun z => (Value.slice qv j cv).ownBlock = some z ∨ z = w.heap.size + 1) (((Fr.refl _ wc).alloc _).grown G6.out (fun z hz => .inl hz)) (p := ⟨w.heap.size + 1, 0, none⟩) (.inr rfl) _)
        have P7 : Hid (MI w (W6.setCell ⟨w.heap.size + 1, 0, none⟩ (.slice q6 (j + 1) c6)) L f (j + 1) (.slice q6 (j + 1) c6)) := hide ⟨keep_setD X6.out (by omega) 0 _, heap_set_in Y6.out 0 _, by
            rw [TK.out]
            exact ownsRow_fr O6.out ((Fr.refl (At1 (w.heap.size + 1)) W6).setCell (p := ⟨w.heap.size + 1, 0, none⟩) rfl (.slice q6 (j + 1) c6)) (fun z hz e => ownsRow_not O6.out Y6.out (by decide) (by rw [hz, show z = _ from e])), P3.out.bl.trans (FS.out.below s3 (fun k hk => hk.elim (fun e => (ownsRow_at P3.out.hp e).1) (fun e => by omega)))⟩
        clear y0 e0 e1 e2 e3 e4 e5 e6 e7 e8 e9 z0 zf
        go_wp2
        go_roundg (N - (j + 1))
        case measure => omega
        case rel => exact ⟨j + 1, _, by omega, by go_num, P7.out⟩
    · have j0 : ¬ (j : Int) < (N : Int) := by omega
      obtain rfl : j = N := by omega
      have LN : Hid ((mdL L).length = j + 1) := hide (by rw [mdL_len, HN.out])
      have TK : Hid (ceI14 (mdL L) = ceI14 ((L.take j).map (mdI ((min L.length 200 : Nat) + 1 : Int))) ++ [.int .i64 11, .int .i64 0, .int .i64 0, .int .i64 0, .int .i64 0, .int .i64 0, .int .u64 0, .int .u64 0, .int .u64 0, .int .u64 0]) := hide (by
        have e : L.take 200 = L.take j := by
          rw [HN.out]
          by_cases h : 200 ≤ L.length
          · rw [show min L.length 200 = 200 by omega]
          · rw [show min L.length 200 = L.length by omega, List.take_of_length_le (by omega), List.take_length]
        unfold mdL
        rw [ceI14_app, e]
        simp [ceI14, inC, z1_wd_nil])
      clear H
      obtain ⟨qv, cv, rfl⟩ := ownsRow_shape P.out.hp
      have y0 := cell_row P.out.x1 (i := 0) rfl
      have ly := lt_of_heap P.out.x1
      have s3 := P.out.bl.size
      obtain ⟨t0, ti, tz0, tz1, tz2⟩ := info_parts size_inst
      go_upto_region 36 with (at_builtin; refine wpList_append_own_at _ rfl _ _ 22 rfl w.heap.size 35 t0 (.agg #[.int .i64 0, .int .i64 0, .int .i64 0, .int .i64 0, .int .i64 0, .int .i64 0, .int .u64 0, .int .u64 0, .int .u64 0, .int .u64 0]) 10 80 und_insts ti tz0 tz1 tz2 rfl (by decide) (.slice qv j cv) j (ceI14 ((L.take j).map (mdI ((min L.length 200 : Nat) + 1 : Int)))) rfl (World.ownsRow.alloc P.out.hp _) ⟨wr.heap.size, 0, none⟩ 1 1 [.int .i64 11, .int .i64 0, .int .i64 0, .int .i64 0, .int .i64 0, .int .i64 0, .int .u64 0, .int .u64 0, .int .u64 0, .int .u64 0] rfl rfl (newsI wr [.int .i64 11, .int .i64 0, .int .i64 0, .int .i64 0, .int .i64 0, .int .i64 0, .int .u64 0, .int .u64 0, .int .u64 0, .int .u64 0] _) (by simp [Value.oneCell']) (by unfold maxLen; omega) (by omega) (by simp; omega) ?_; intro v6 W6 hown hgrow _ hblk; have G6 := hide hgrow; have O6 := hide hown; have Y6 := hide ((hgrow.block _ (by simp; omega) (fun e => ownsRow_not P.out.hp P.out.x1 (by decide) e.symm)).trans ((Below.heap_alloc _ _ _ ly).trans P.out.x1)); have X6 := hide ((hgrow.block _ (by simp; omega) (fun e => ownsRow_not P.out.hp P.out.x0 (by decide) e.symm)).trans ((Below.heap_alloc _ _ _ (by omega)).trans P.out.x0)); have z0 := cell_row Y6.out (i := 0) rfl; have zf := frz_row Y6.out 0; obtain ⟨g6, c6, rfl, hc6⟩ := ownsRow_some14 hown (by omega); clear hown hgrow hblk)
      have FS : Hid (Fr (fun z => (Value.slice qv j cv).ownBlock = some z ∨ z = w.heap.size + 1) wr (W6.setCell ⟨w.heap.size + 1, 0, none⟩ (.slice (some ⟨g6, 0, none⟩) (j + 1) c6))) := hide (Fr.setCell (S := fun z => (Value.slice qv j cv).ownBlock = some z ∨ z = w.heap.size + 1) (((Fr.refl _ wr).alloc _).grown G6.out (fun z hz => .inl hz)) (p := ⟨w.heap.size + 1, 0, none⟩) (.inr rfl) _)
      have X7 := hide (keep_setD X6.out (show w.heap.size ≠ w.heap.size + 1 by omega) 0 (.slice (some ⟨g6, 0, none⟩) (j + 1) c6))
      have Y7 : Hid ((W6.setCell ⟨w.heap.size + 1, 0, none⟩ (.slice (some ⟨g6, 0, none⟩) (j + 1) c6)).heap[w.heap.size + 1]? = some (.cells #[.slice (some ⟨g6, 0, none⟩) (j + 1) c6, .int .i64 2, .int .i64 2, .bool f] 24 (0, 0))) := hide (heap_set_in Y6.out 0 _)
      have O7 := hide (ownsRow_fr O6.out ((Fr.refl (At1 (w.heap.size + 1)) W6).setCell (p := ⟨w.heap.size + 1, 0, none⟩) rfl (.slice (some ⟨g6, 0, none⟩) (j + 1) c6)) (fun z hz e => ownsRow_not O6.out Y6.out (by decide) (by rw [hz, show z = _ from e])))
      have B7 := hide (P.out.bl.trans (FS.out.below s3 (fun k hk => hk.elim (fun e => (ownsRow_at P.out.hp e).1) (fun e => by omega))))
      clear y0 z0 zf P FS
      generalize (W6.setCell ⟨w.heap.size + 1, 0, none⟩ (.slice (some ⟨g6, 0, none⟩) (j + 1) c6)) = W7 at X7 Y7 O7 B7 ⊢
      have x0 := cell_row X7.out (i := 0) rfl
      have x1 := cell_row X7.out (i := 1) rfl
      have x2 := cell_row X7.out (i := 2) rfl
      have x3 := cell_row X7.out (i := 3) rfl
      have y0 := cell_row Y7.out (i := 0) rfl
      have y1 := cell_row Y7.out (i := 1) rfl
      have y2 := cell_row Y7.out (i := 2) rfl
      have y3 := cell_row Y7.out (i := 3) rfl
      have f0 := frz_row X7.out 0
      have f1 := frz_row X7.out 1
      have f2 := frz_row X7.out 2
      have f3 := frz_row X7.out 3
      go_wp2
      refine bodyPost_ret (v := .agg #[.slice (some ⟨g6, 0, none⟩) (j + 1) c6, .int .i64 2, .int .i64 2, .bool f]) (by simp [results, Tryz.results11, go_sem, x0, x1, x2, x3]) rfl ?_
      refine ⟨g6, c6, by rw [LN.out], ?_, B7.out.trans ((set4_fr _ _ _ _ _ _).below B7.out.size (fun k hk => by have : k = w.heap.size := hk; omega))⟩
      rw [LN.out, TK.out]
      exact ownsRow_fr O7.out (set4_fr _ _ _ _ _ _) (fun z hz e => ownsRow_not O7.out X7.out (by decide) (by rw [hz, show z = _ from e]))
end Go.Proofs.YtbfhahhcacnckaaGreatDoor
