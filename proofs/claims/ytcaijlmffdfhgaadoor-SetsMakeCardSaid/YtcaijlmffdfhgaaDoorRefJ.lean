/-
  The document's own From.
-/
import Derived.Test.YtcaijlmffdfhgaaDoorFromAny
import Derived.Deep.RegionWith
import Derived.Deep.DeepCutAuto
namespace Go.Proofs.YtcaijlmffdfhgaaDoor
open Go Go.RowKit
attribute [local go_sem] idx0 idx1 idx2 idx3 u64_signed

set_option maxRecDepth 100000 in
set_option maxHeartbeats 4000000 in
theorem rFrom_any (rs : List (Int × Int)) (v : Value) (w : World) (h : RowAt w v rs) :
    Calls Tryd.prog 25 #[v] w fun e w' => e = .returned (.tuple #[.agg #[.int .u64 (wd (fromS rs) 0), .int .u64 (wd (fromS rs) 1), .int .u64 (wd (fromS rs) 2), .int .u64 (wd (fromS rs) 3)], .bool (fromB rs)]) ∧ Below w.heap.size w w' := by
  have HR : Hid (RowAt w v rs) := h
  clear h
  obtain ⟨p, cap, hv, hlen⟩ : ∃ p cap, v = .slice p rs.length cap ∧ rs.length ≤ maxLen := by
    rcases HR.out with ⟨p0, cap, rfl, rfl⟩ | ⟨g, off, cap, rfl, _, h1, h2, _⟩
    · exact ⟨p0, cap, rfl, by decide⟩
    · exact ⟨_, cap, rfl, Nat.le_trans h1 h2⟩
  subst hv
  unfold maxLen at hlen
  go_enter Tryd.func25, Tryd.ntmps25
  go_wp2
  go_loopw [5] (fun i wr => ∃ k : Nat, k ≤ rs.length ∧ i = .int .i64 k ∧ fromOk (rs.take k) ∧ SetAt wr (w.heap.size + 1) (fromF (rs.take k)) ∧ Below (w.heap.size + 1) (w.alloc (.cells #[.int .u64 0, .int .u64 0, .int .u64 0, .int .u64 0] 24)) wr) (fun i _ => rs.length - (intOf i).toNat)
  case atStart =>
    refine ⟨0, Nat.zero_le _, rfl, fun r hr => by simp at hr, ?_, (Below.refl _ _).alloc (by simp) _⟩
    have := SetAt.new (w.alloc (.cells #[.int .u64 0, .int .u64 0, .int .u64 0, .int .u64 0] 24)) (0#256)
    simpa [wd_nil0, fromF] using this
  case round =>
    obtain ⟨k, hk, rfl, hok, hset, hb⟩ := hrel
    have HO : Hid (fromOk (rs.take k)) := hok
    have HS : Hid (SetAt wr (w.heap.size + 1) (fromF (rs.take k))) := hset
    have HB : Hid (Below (w.heap.size + 1) (w.alloc (.cells #[.int .u64 0, .int .u64 0, .int .u64 0, .int .u64 0] 24)) wr) := hb
    have HW : Hid (Below w.heap.size w wr) := ((Below.refl _ _).alloc (Nat.le_refl _) _).trans (hb.mono (by simp))
    have XR : Hid (SetAt wr w.heap.size (0#256)) := (SetAt.new0 w).below hb (by omega)
    clear hset hb hok
    by_cases hlt : k < rs.length
    · have HK : Hid (rs[k]? = some rs[k]) := List.getElem?_eq_getElem hlt
      have HT : Hid (rs.take (k + 1) = rs.take k ++ [rs[k]]) := take_succ_get rs k _ HK.out
      generalize hlh : rs[k] = lh at HK HT
      obtain ⟨lo, hi⟩ := lh
      clear hlh
      rcases HR.out.below HW.out with ⟨_, _, h1, h2⟩ | ⟨g, off, cap', h1, hg, hc1, hc2, hcl⟩
      · rw [h2] at hlt; simp at hlt
      · cases h1
        obtain ⟨q1, q2⟩ := hcl k lo hi HK.out
        unfold maxLen at hc2
        clear hcl
        obtain ⟨S0, hS0⟩ : ∃ S0, fromF (rs.take k) = S0 := ⟨_, rfl⟩
        rw [hS0] at HS
        have HE : Hid (fromF (rs.take k) = S0) := hS0
        clear hS0
        have i0 : (0 : Int) ≤ (k : Int) := by omega
        have i1 : (k : Int) < (rs.length : Int) := by omega
        go_upto_region 5 with fail
        go_cut [6, 7] (fun b ok wx => ∃ B, b = .pointer (some ⟨B, 0, none⟩) ∧ ok = .bool (rangeB lo hi) ∧ SetAt wx B (rangeS lo hi) ∧ wr.heap.size ≤ B ∧ Below wr.heap.size wr wx)
        case first =>
          go_region_with first | (go_at_call 24; refine (rRange_any lo hi (wr.alloc (.cells #[.int .u64 0, .int .u64 0, .int .u64 0, .int .u64 0] 24)).drew).mono ?_; rintro e w2 ⟨rfl, hb2⟩; have H2 : Hid (Below wr.heap.size wr w2) := chain ((Below.refl _ _).alloc (Nat.le_refl _) _).drew hb2; have X2 : Hid (SetAt w2 wr.heap.size (0#256)) := (SetAt.new0 wr).below ((Below.refl _ _).drew.trans hb2) (by simp); clear hb2; obtain ⟨x0, x1, x2, x3⟩ := X2.out.cells; have xf := X2.out.frozen) | (go_at_call 24; refine (rRange_any lo hi wr.drew).mono ?_; rintro e w2 ⟨rfl, hb2⟩; have H2 : Hid (Below wr.heap.size wr w2) := chain (Below.refl _ _).drew hb2; clear hb2)
          all_goals go_wp2_with fail
          all_goals go_meet
          all_goals first | exact ⟨wr.heap.size, rfl, rfl, X2.out.store _, Nat.le_refl _, (((H2.out.setCell (by simp) _).setCell (by simp) _).setCell (by simp) _).setCell (by simp) _⟩ | exact ⟨w2.heap.size, rfl, rfl, SetAt.new w2 _, H2.out.size, H2.out.alloc H2.out.size _⟩
        case rest =>
          obtain ⟨B, rfl, rfl, hset, hB, hbl⟩ := hcut
          have XB : Hid (SetAt wc B (rangeS lo hi)) := hset
          have H2 : Hid (Below wr.heap.size wr wc) := hbl
          have S2 : Hid (SetAt wc (w.heap.size + 1) S0) := HS.out.below hbl HS.out.lt
          have R2 : Hid (SetAt wc w.heap.size (0#256)) := XR.out.below hbl XR.out.lt
          have W2 : Hid (Below w.heap.size w wc) := chain HW.out hbl
          clear hset hbl
          by_cases hx : rangeOk lo hi
          · have HX : Hid (rangeOk lo hi) := hx
            have R0 := rangeB_ok HX.out
            have R1 := rangeS_ok HX.out
            rw [R1] at XB
            obtain ⟨a0, a1, a2, a3⟩ := S2.out.cells
            obtain ⟨b0, b1, b2, b3⟩ := XB.out.cells
            clear hx
            go_wp2_with (go_at_call 34; refine (rOr _ _ _).mono ?_; rintro e w3 ⟨rfl, hb3⟩; have H3 : Hid (Below wr.heap.size wr w3) := chain H2.out hb3; have S3 : Hid (SetAt w3 (w.heap.size + 1) S0) := S2.out.below hb3 S2.out.lt; clear hb3 a0 a1 a2 a3; obtain ⟨a0, a1, a2, a3⟩ := S3.out.cells; have f3 := S3.out.frozen)
            go_roundw
            case rel =>
              refine ⟨k + 1, by omega, by go_num, by rw [HT.out]; exact fromOk_snoc HO.out HX.out, ?_, ((((HB.out.trans (H3.out.mono (Nat.le_of_lt HS.out.lt))).setCell (by simp) _).setCell (by simp) _).setCell (by simp) _).setCell (by simp) _⟩
              rw [HT.out, fromF_snoc, HE.out]
              exact S3.out.store _
            case measure => simp [intOf]; omega
          · have HX : Hid (¬ fromOk rs) := fromOk_not HK.out hx
            have R0 := rangeB_bad hx
            have HG : Hid (fromS rs = 0#256 ∧ fromB rs = false) := ⟨if_neg HX.out, if_neg HX.out⟩
            clear hx
            obtain ⟨a0, a1, a2, a3⟩ := R2.out.cells
            have f2 := R2.out.frozen
            go_wp2
            rw [HG.out.1, HG.out.2]
            simp only [wd_nil0]
            obtain ⟨c0, c1, c2, c3⟩ := (R2.out.store (0#256)).cells
            simp only [wd_nil0] at c0 c1 c2 c3
            exact bodyPost_ret (v := .tuple #[.agg #[.int .u64 0, .int .u64 0, .int .u64 0, .int .u64 0], .bool false]) (by simp [results, Tryd.results25, go_sem, c0, c1, c2, c3]) rfl ⟨rfl, (((W2.out.setCell (by simp) _).setCell (by simp) _).setCell (by simp) _).setCell (by simp) _⟩
    · have hke : rs.take k = rs := List.take_of_length_le (by omega)
      rw [hke] at HS HO
      have HG : Hid (fromS rs = fromF rs ∧ fromB rs = true) := ⟨if_pos HO.out, if_pos HO.out⟩
      obtain ⟨a0, a1, a2, a3⟩ := HS.out.cells
      obtain ⟨e0, e1, e2, e3, fz⟩ := set_cells (w := w) (W := wr) (by simpa using HB.out)
      clear hke
      go_wp2
      rw [HG.out.1, HG.out.2]
      exact bodyPost_ret (v := .tuple #[.agg #[.int .u64 (wd (fromF rs) 0), .int .u64 (wd (fromF rs) 1), .int .u64 (wd (fromF rs) 2), .int .u64 (wd (fromF rs) 3)], .bool true]) (by simp [results, Tryd.results25, go_sem, e0, e1, e2, e3]) rfl ⟨rfl, ((((((Below.refl _ _).alloc (Nat.le_refl _) _).trans (HB.out.mono (by simp))).setCell (by simp) _).setCell (by simp) _).setCell (by simp) _).setCell (by simp) _⟩
end Go.Proofs.YtcaijlmffdfhgaaDoor
