/-
  The law MarksCopies, walked: what is done to a copy does not show in the set, nor the other way round.
-/
import Derived.Test.YtbpphdjienpiaaaSameM
import Derived.Deep.RegionWith
import Derived.Deep.DeepCutAuto
namespace Go.Proofs.Ytbpphdjienpiaaa
open Go Go.RowKit

set_option maxRecDepth 100000 in
set_option maxHeartbeats 1600000 in
theorem law_copies (room : Int) (wf : (Lit.int .i64 room).wf = true) (zs : List Int) (v : Value) (zs' : List Int) (v' : Value) (w : World) (hz : ArgI w v zs) (hz' : ArgI w v' zs') :
    Calls Try.prog 6 #[.int .i64 room, v, v'] w fun e W' => e = .returned (.bool true) ∧ Below w.heap.size w W' := by
  have HZ : Hid (ArgI w v zs) := hz
  obtain ⟨q, cap, rfl, hlen, _⟩ := hz.slice
  obtain ⟨q', cap', rfl, hlen', hcell⟩ := hz'.slice
  have HC : Hid (∀ (i : Nat) (x : Int), zs'[i]? = some x → ∃ g off, q' = some ⟨g, off, none⟩ ∧ g < w.heap.size ∧ w.cell? ⟨g, off + i, none⟩ = some (.int .i64 x)) := hcell
  clear hz hz' hcell
  unfold maxLen at hlen hlen'
  obtain ⟨r, hr, hr0⟩ := pick_room room
  have HR : Hid (pk room 100001 = r) := hr0
  clear hr0
  go_enter Try.func6, Try.ntmps6
  go_wp2_with first | (go_at_call 9; (with_reducible refine (known_c _).mono ?_); rintro e w0 ⟨rfl, hb⟩; have B0 : Hid (Below w.heap.size w w0) := hb; clear hb) | (go_at_call 14; (with_reducible refine (pick_i room 100001 (by decide) (by decide) wf w0).mono ?_); rw [HR.out]; rintro e w5 ⟨rfl, h5⟩; subst w5) | (go_at_call 22; have AZ := HZ.out.below B0.out rfl; (with_reducible refine (filled_c r hr zs _ w0 AZ).mono ?_); clear AZ; rintro e w1 ⟨b, o, p, rfl, hm, hnw, hb⟩; have M1 : Hid (MAt w1 b o p r (fillL r (zs.take 300))) := hm; have N1 : Hid (New3 w0.heap.size b o p) := hnw; have B1 : Hid (Below w.heap.size w w1) := chain B0.out hb (Nat.le_refl _); clear hm hnw hb) | (go_at_call 20; (with_reducible refine (rising_c M1.out).mono ?_); rintro e w2 ⟨rfl, hrow, hb⟩; have R2 : Hid (RowG w2 w1.heap.size (fillL r (zs.take 300)).length (sortI (fillL r (zs.take 300)))) := hrow; have M2 : Hid (MAt w2 b o p r (fillL r (zs.take 300))) := M1.out.kept hb; have B2 : Hid (Below w.heap.size w w2) := chain B1.out hb (Nat.le_refl _); have S2 : Hid (w1.heap.size < w2.heap.size) := hrow.lt; clear hrow hb) | (go_at_call 23; (with_reducible refine (copy_c M2.out).mono ?_); rintro e w3 ⟨bc, oc, pc, rfl, hm, hnw, hb⟩; have C3 : Hid (MAt w3 bc oc pc r (fillL r (zs.take 300))) := hm; have N3 : Hid (New3 w2.heap.size bc oc pc) := hnw; have M3 : Hid (MAt w3 b o p r (fillL r (zs.take 300))) := M2.out.kept hb; have R3 : Hid (RowG w3 w1.heap.size (fillL r (zs.take 300)).length (sortI (fillL r (zs.take 300)))) := R2.out.kept hb; have B3 : Hid (Below w.heap.size w w3) := chain B2.out hb (Nat.le_refl _); clear hm hnw hb) | (go_at_call 11; (with_reducible refine (room_c C3.out).mono ?_); rintro e w5 ⟨rfl, h5⟩; subst w5)
  obtain ⟨A, hA⟩ : ∃ A, fillL r (zs.take 300) = A := ⟨_, rfl⟩
  rw [hA] at M1 M2 M3 C3 R2 R3 ⊢
  have xb := M1.out.ltb
  have xo := M1.out.lto
  have xp := M1.out.ltp
  have yb := N3.out.b
  have yo := N3.out.o
  have yp := N3.out.p
  have xs := S2.out
  have ws := B1.out.size
  have w0s := B0.out.size
  have nb := N1.out.b
  have no := N1.out.o
  have np := N1.out.p
  have hal := M1.out.len
  have zb := C3.out.ltb
  have zo := C3.out.lto
  have zp := C3.out.ltp
  clear hA R2 M2 B2 M1
  go_loopw [11] (fun i wr => ∃ (k : Nat) (C : List Int), k ≤ zs'.length ∧ k ≤ 300 ∧ i = .int .i64 k ∧ MAt wr bc oc pc r C ∧ (MAt wr b o p r A ∧ RowG wr w1.heap.size A.length (sortI A)) ∧ w3.heap.size ≤ wr.heap.size ∧ Below w.heap.size w wr) (fun i _ => zs'.length - (intOf i).toNat)
  case atStart => exact ⟨0, A, Nat.zero_le _, Nat.zero_le _, rfl, C3.out, ⟨M3.out, R3.out⟩, Nat.le_refl _, B3.out⟩
  case round =>
    obtain ⟨k, C, hk, hk3, rfl, hm, ⟨hma, hra⟩, hsz, hb⟩ := hrel
    have MC : Hid (MAt wr bc oc pc r C) := hm
    have MA : Hid (MAt wr b o p r A) := hma
    have RA : Hid (RowG wr w1.heap.size A.length (sortI A)) := hra
    have B : Hid (Below w.heap.size w wr) := hb
    clear hm hma hra hb C3 M3 R3 B3
    go_upto_region 11 with fail
    go_cut [47] (fun c wx => c = .bool (decide (k < zs'.length ∧ k < 300)) ∧ wx = wr)
    case first =>
      go_wp2_with fail
      all_goals go_meet
      all_goals first | exact ⟨by rw [decide_eq_false (by omega)], rfl⟩ | exact ⟨by congr 1; exact decide_eq_decide.2 (by omega), rfl⟩
    case rest =>
      obtain ⟨rfl, rfl⟩ := hcut
      by_cases hgo : k < zs'.length ∧ k < 300
      · have hd : decide (k < zs'.length ∧ k < 300) = true := decide_eq_true hgo
        obtain ⟨hlt, h3⟩ := hgo
        obtain ⟨g, off, rfl, hg, hc⟩ := HC.out k _ (List.getElem?_eq_getElem hlt)
        have hc' := (B.out.cell (p := ⟨g, off + k, none⟩) hg).trans hc
        generalize zs'[k] = x at hc'
        clear hc
        have i0 : (0 : Int) ≤ (k : Int) := by omega
        have i1 : (k : Int) < (zs'.length : Int) := by omega
        rw [hd]
        go_wp2_with (go_at_call 13; (with_reducible refine (put_c MC.out _).mono ?_); rintro e w2' ⟨rfl, hm, hf⟩; have MC2 : Hid (MAt w2' bc oc pc r _) := hm; have MA2 : Hid (MAt w2' b o p r A) := MAt.fr (S := own3 bc oc pc) MA.out hf (by unfold own3; omega) (by unfold own3; omega) (by unfold own3; omega); have RA2 : Hid (RowG w2' w1.heap.size A.length (sortI A)) := RowG.fr (S := own3 bc oc pc) RA.out hf (by unfold own3; omega); have B2' : Hid (Below w.heap.size w w2') := chainF B.out hf (Nat.le_refl _) (fun j hj => by unfold own3 at hj; omega); have hs2 := hf.size; clear hm hf)
        go_roundw
        case rel => exact ⟨k + 1, _, by omega, by omega, by go_num, MC2.out, ⟨MA2.out, RA2.out⟩, by omega, B2'.out⟩
        case measure => simp [intOf]; omega
      · have hd : decide (k < zs'.length ∧ k < 300) = false := decide_eq_false hgo
        rw [hd]
        clear hgo hd hk hk3 N1 N3
        have hcl := MC.out.len
        go_wp2_with first | (go_at_call 20; (with_reducible refine (rising_c MA5.out).mono ?_); rintro e w6 ⟨rfl, hrow, hb⟩; have X6 : Hid (SeesI w6 (.slice (some ⟨w5.heap.size, 0, none⟩) A.length A.length) (sortI A)) := hrow.sees (by rw [sortI_length]; unfold maxLen; omega) (sortI_length A).symm _; have Y6 : Hid (SeesI w6 (.slice (some ⟨w1.heap.size, 0, none⟩) A.length A.length) (sortI A)) := (RA5.out.kept hb).sees (by rw [sortI_length]; unfold maxLen; omega) (sortI_length A).symm _; have MA6 : Hid (MAt w6 b o p r A) := MA5.out.kept hb; have MC6 : Hid (MAt w6 bc oc pc r C) := MC5.out.kept hb; have RC6 : Hid (RowG w6 wc.heap.size C.length (sortI C)) := RC5.out.kept hb; have B6 : Hid (Below w.heap.size w w6) := chain B5.out hb (Nat.le_refl _); clear hrow hb MA5 MC5 RC5 B5 RA5) | (go_at_call 20; (with_reducible refine (rising_c MC.out).mono ?_); rintro e w5 ⟨rfl, hrow, hb⟩; have RC5 : Hid (RowG w5 wc.heap.size C.length (sortI C)) := hrow; have MC5 : Hid (MAt w5 bc oc pc r C) := MC.out.kept hb; have MA5 : Hid (MAt w5 b o p r A) := MA.out.kept hb; have RA5 : Hid (RowG w5 w1.heap.size A.length (sortI A)) := RA.out.kept hb; have B5 : Hid (Below w.heap.size w w5) := chain B.out hb (Nat.le_refl _); clear hrow hb) | (go_at_call 24; (with_reducible refine (sameL_c X6.out Y6.out).mono ?_); rw [show decide (sortI A = sortI A) = true from decide_eq_true rfl]; rintro e w7 ⟨rfl, hb⟩; have MA7 : Hid (MAt w7 b o p r A) := MA6.out.kept hb; have MC7 : Hid (MAt w7 bc oc pc r C) := MC6.out.kept hb; have RC7 : Hid (RowG w7 wc.heap.size C.length (sortI C)) := RC6.out.kept hb; have B7 : Hid (Below w.heap.size w w7) := chain B6.out hb (Nat.le_refl _); clear hb) | (go_at_call 21; (with_reducible refine (clear_c MA7.out).mono ?_); rintro e w8 ⟨rfl, hm, hf⟩; have MA8 : Hid (MAt w8 b o p r []) := hm; have MC8 : Hid (MAt w8 bc oc pc r C) := MAt.fr (S := own3 b o p) MC7.out hf (by unfold own3; omega) (by unfold own3; omega) (by unfold own3; omega); have RC8 : Hid (RowG w8 wc.heap.size C.length (sortI C)) := RowG.fr (S := own3 b o p) RC7.out hf (by unfold own3; omega); have B8 : Hid (Below w.heap.size w w8) := chainF B7.out hf (Nat.le_refl _) (fun j hj => by unfold own3 at hj; omega); clear hm hf)
        clear MA7 MC7 RC7 B7 MA6 MC6 RC6 B6 X6 Y6
        obtain ⟨G, hG⟩ : ∃ G, wc.heap.size = G := ⟨_, rfl⟩
        rw [hG] at RC8 hsz ⊢
        go_loopw [14] (fun i wr => ∃ (k : Nat) (L : List Int), k ≤ zs'.length ∧ k ≤ 300 ∧ i = .int .i64 k ∧ MAt wr b o p r L ∧ (MAt wr bc oc pc r C ∧ RowG wr G C.length (sortI C)) ∧ Below w.heap.size w wr) (fun i _ => zs'.length - (intOf i).toNat)
        case atStart => exact ⟨0, [], Nat.zero_le _, Nat.zero_le _, rfl, MA8.out, ⟨MC8.out, RC8.out⟩, B8.out⟩
        case round =>
          obtain ⟨k, L, hk, hk3, rfl, hm, ⟨hma, hra⟩, hb⟩ := hrel
          have NA : Hid (MAt wr b o p r L) := hm
          have NC : Hid (MAt wr bc oc pc r C) := hma
          have NR : Hid (RowG wr G C.length (sortI C)) := hra
          have BB : Hid (Below w.heap.size w wr) := hb
          clear hm hma hra hb
          go_upto_region 18 with fail
          go_cut [71] (fun c wx => c = .bool (decide (k < zs'.length ∧ k < 300)) ∧ wx = wr)
          case first =>
            go_wp2_with fail
            all_goals go_meet
            all_goals first | exact ⟨by rw [decide_eq_false (by omega)], rfl⟩ | exact ⟨by congr 1; exact decide_eq_decide.2 (by omega), rfl⟩
          case rest =>
            obtain ⟨rfl, rfl⟩ := hcut
            by_cases hgo : k < zs'.length ∧ k < 300
            · have hd : decide (k < zs'.length ∧ k < 300) = true := decide_eq_true hgo
              obtain ⟨hlt, h3⟩ := hgo
              obtain ⟨g, off, rfl, hg, hc⟩ := HC.out k _ (List.getElem?_eq_getElem hlt)
              have hc' := (BB.out.cell (p := ⟨g, off + k, none⟩) hg).trans hc
              generalize zs'[k] = x at hc'
              clear hc
              have i0 : (0 : Int) ≤ (k : Int) := by omega
              have i1 : (k : Int) < (zs'.length : Int) := by omega
              rw [hd]
              go_wp2_with (go_at_call 13; (with_reducible refine (put_c NA.out _).mono ?_); rintro e w9 ⟨rfl, hm, hf⟩; have NA2 : Hid (MAt w9 b o p r _) := hm; have NC2 : Hid (MAt w9 bc oc pc r C) := MAt.fr (S := own3 b o p) NC.out hf (by unfold own3; omega) (by unfold own3; omega) (by unfold own3; omega); have NR2 : Hid (RowG w9 G C.length (sortI C)) := RowG.fr (S := own3 b o p) NR.out hf (by unfold own3; omega); have BB2 : Hid (Below w.heap.size w w9) := chainF BB.out hf (Nat.le_refl _) (fun j hj => by unfold own3 at hj; omega); clear hm hf)
              go_roundw
              case rel => exact ⟨k + 1, _, by omega, by omega, by go_num, NA2.out, ⟨NC2.out, NR2.out⟩, BB2.out⟩
              case measure => simp [intOf]; omega
            · have hd : decide (k < zs'.length ∧ k < 300) = false := decide_eq_false hgo
              rw [hd]
              clear hgo hd hk hk3
              go_wp2_with first | (go_at_call 20; (with_reducible refine (rising_c NC.out).mono ?_); rintro e w9 ⟨rfl, hrow, hb⟩; have X9 : Hid (SeesI w9 (.slice (some ⟨wc.heap.size, 0, none⟩) C.length C.length) (sortI C)) := hrow.sees (by rw [sortI_length]; unfold maxLen; omega) (sortI_length C).symm _; have Y9 : Hid (SeesI w9 (.slice (some ⟨G, 0, none⟩) C.length C.length) (sortI C)) := (NR.out.kept hb).sees (by rw [sortI_length]; unfold maxLen; omega) (sortI_length C).symm _; have NC9 : Hid (MAt w9 bc oc pc r C) := NC.out.kept hb; have BB9 : Hid (Below w.heap.size w w9) := chain BB.out hb (Nat.le_refl _); clear hrow hb) | (go_at_call 24; (with_reducible refine (sameL_c X9.out Y9.out).mono ?_); rw [show decide (sortI C = sortI C) = true from decide_eq_true rfl]; rintro e w10 ⟨rfl, hb⟩; have NC10 : Hid (MAt w10 bc oc pc r C) := NC9.out.kept hb; have BB10 : Hid (Below w.heap.size w w10) := chain BB9.out hb (Nat.le_refl _); clear hb) | (go_at_call 12; (with_reducible refine (len_c NC10.out).mono ?_); rintro e w11 ⟨rfl, h11⟩; subst w11)
              go_ret
              exact ⟨rfl, BB10.out⟩
end Go.Proofs.Ytbpphdjienpiaaa
