/-
  What sets.From answers, of any ranges: the world behind has new blocks alone.
-/
import Derived.Test.YtcaijlmffdfhgaaDoorOf
import Derived.Test.YtcaijlmffdfhgaaDoorRanges
namespace Go.Proofs.YtcaijlmffdfhgaaDoor
open Go Go.RowKit
attribute [local go_sem] idx0 idx1 idx2 idx3 u64_signed

/-- Some ranges lie in memory. -/
def RowAt (w : World) (v : Value) (rs : List (Int × Int)) : Prop :=
  (∃ p cap, v = .slice p 0 cap ∧ rs = []) ∨
  ∃ (g off cap : Nat), v = .slice (some ⟨g, off, none⟩) rs.length cap ∧ g < w.heap.size ∧ rs.length ≤ cap ∧ cap ≤ maxLen ∧
    ∀ i lo hi, rs[i]? = some (lo, hi) → w.cell? ⟨g, off + i * 2, none⟩ = some (.int .i64 lo) ∧ w.cell? ⟨g, off + i * 2 + 1, none⟩ = some (.int .i64 hi)

theorem RowAt.below {w w' : World} {v : Value} {rs : List (Int × Int)} (h : RowAt w v rs) (hb : Below w.heap.size w w') : RowAt w' v rs := by
  rcases h with h | ⟨g, off, cap, rfl, hg, h1, h2, hc⟩
  · exact .inl h
  · exact .inr ⟨g, off, cap, rfl, Nat.lt_of_lt_of_le hg hb.size, h1, h2, fun i lo hi he => ⟨(hb.cell (p := ⟨g, off + i * 2, none⟩) hg).trans (hc i lo hi he).1, (hb.cell (p := ⟨g, off + i * 2 + 1, none⟩) hg).trans (hc i lo hi he).2⟩⟩

theorem flat_get : ∀ (rs : List (Int × Int)) (i : Nat) (lo hi : Int), rs[i]? = some (lo, hi) → (flat rs)[i * 2]? = some (.int .i64 lo) ∧ (flat rs)[i * 2 + 1]? = some (.int .i64 hi)
  | [], i, lo, hi, h => by simp at h
  | r :: rs, 0, lo, hi, h => by
    simp at h; subst h
    exact ⟨rfl, rfl⟩
  | r :: rs, i + 1, lo, hi, h => by
    have := flat_get rs i lo hi (by simpa using h)
    rw [show r :: rs = [r] ++ rs from rfl, flat_append, show flat [r] = [.int .i64 r.1, .int .i64 r.2] from rfl]
    rw [show (i + 1) * 2 = i * 2 + 2 by omega, show i * 2 + 2 + 1 = i * 2 + 1 + 2 by omega]
    exact this

theorem RowAt.of_own {W : World} {base : Nat} {v : Value} {rs : List (Int × Int)} (h : W.ownsRow base 48 2 v rs.length (flat rs)) : RowAt W v rs := by
  obtain ⟨hl, h2⟩ := h
  rcases h2 with ⟨rfl, h0⟩ | ⟨g, cap, cur, rfl, hb, hg, hc1, hc2, hsz, ht⟩
  · exact .inl ⟨none, 0, rfl, List.eq_nil_of_length_eq_zero h0⟩
  · refine .inr ⟨g, 0, cap, rfl, (Array.getElem?_eq_some_iff.1 hg).1, hc1, hc2, fun i lo hi he => ?_⟩
    have hi' : i < rs.length := (List.getElem?_eq_some_iff.1 he).1
    obtain ⟨f1, f2⟩ := flat_get rs i lo hi he
    rw [← ht, List.getElem?_take_of_lt (by omega)] at f1 f2
    have g1 : cur[i * 2]? = some (.int .i64 lo) := by simpa using f1
    have g2 : cur[i * 2 + 1]? = some (.int .i64 hi) := by simpa using f2
    exact ⟨by simp [World.cell?, hg, g1], by simp [World.cell?, hg, g2]⟩

def fromF (rs : List (Int × Int)) : S := rs.foldl (fun s r => sor s (srange r.1 r.2)) 0#256
def fromOk (rs : List (Int × Int)) : Prop := ∀ r ∈ rs, rangeOk r.1 r.2
theorem fromF_snoc (rs : List (Int × Int)) (r : Int × Int) : fromF (rs ++ [r]) = sor (fromF rs) (srange r.1 r.2) := by simp [fromF]

theorem take_succ_get {α : Type} (l : List α) (k : Nat) (x : α) (h : l[k]? = some x) : l.take (k + 1) = l.take k ++ [x] := by
  obtain ⟨hk, rfl⟩ := List.getElem?_eq_some_iff.1 h
  rw [List.take_succ_eq_append_getElem hk]

set_option maxRecDepth 100000 in
set_option maxHeartbeats 1000000 in
theorem from_ok (rs : List (Int × Int)) (v : Value) (w : World) (h : RowAt w v rs) (hok : fromOk rs) :
    Calls Tryd.prog 10 #[v] w fun e w' => e = .returned (.tuple #[.agg #[.int .u64 (wd (fromF rs) 0), .int .u64 (wd (fromF rs) 1), .int .u64 (wd (fromF rs) 2), .int .u64 (wd (fromF rs) 3)], .int .i64 0]) ∧ Below w.heap.size w w' := by
  have HR : Hid (RowAt w v rs) := h
  have HO : Hid (fromOk rs) := hok
  clear h hok
  obtain ⟨p, cap, hv, hlen⟩ : ∃ p cap, v = .slice p rs.length cap ∧ rs.length ≤ maxLen := by
    rcases HR.out with ⟨p0, cap, rfl, rfl⟩ | ⟨g, off, cap, rfl, _, h1, h2, _⟩
    · exact ⟨p0, cap, rfl, by decide⟩
    · exact ⟨_, cap, rfl, Nat.le_trans h1 h2⟩
  subst hv
  unfold maxLen at hlen
  go_enter Tryd.func10, Tryd.ntmps10
  go_wp2
  go_loopw [11] (fun i wr => ∃ k : Nat, k ≤ rs.length ∧ i = .int .i64 k ∧ SetAt wr (w.heap.size + 1) (fromF (rs.take k)) ∧ Below (w.heap.size + 1) (w.alloc (.cells #[.int .u64 0, .int .u64 0, .int .u64 0, .int .u64 0] 24)) wr) (fun i _ => rs.length - (intOf i).toNat)
  case atStart =>
    refine ⟨0, Nat.zero_le _, rfl, ?_, (Below.refl _ _).alloc (by simp) _⟩
    have := SetAt.new (w.alloc (.cells #[.int .u64 0, .int .u64 0, .int .u64 0, .int .u64 0] 24)) (0#256)
    simpa [wd_nil0, fromF] using this
  case round =>
    obtain ⟨k, hk, rfl, hset, hb⟩ := hrel
    have HS : Hid (SetAt wr (w.heap.size + 1) (fromF (rs.take k))) := hset
    have HB : Hid (Below (w.heap.size + 1) (w.alloc (.cells #[.int .u64 0, .int .u64 0, .int .u64 0, .int .u64 0] 24)) wr) := hb
    have HW : Hid (Below w.heap.size w wr) := ((Below.refl _ _).alloc (Nat.le_refl _) _).trans (hb.mono (by simp))
    clear hset hb
    by_cases hlt : k < rs.length
    · have HK : Hid (rs[k]? = some rs[k]) := List.getElem?_eq_getElem hlt
      have HT : Hid (rs.take (k + 1) = rs.take k ++ [rs[k]]) := take_succ_get rs k _ HK.out
      have HX : Hid (rangeOk rs[k].1 rs[k].2) := HO.out _ (List.getElem_mem hlt)
      generalize hlh : rs[k] = lh at HK HT HX
      obtain ⟨lo, hi⟩ := lh
      clear hlh
      dsimp only at HX
      rcases HR.out.below HW.out with ⟨_, _, h1, h2⟩ | ⟨g, off, cap', h1, hg, hc1, hc2, hcl⟩
      · rw [h2] at hlt; simp at hlt
      · cases h1
        obtain ⟨q1, q2⟩ := hcl k lo hi HK.out
        unfold maxLen at hc2
        clear hcl
        obtain ⟨S0, hS0⟩ : ∃ S0, fromF (rs.take k) = S0 := ⟨_, rfl⟩
        rw [hS0] at HS
        have HE : Hid (fromF (rs.take k) = S0) := hS0
        clear hS0
        have R0 := rangeE_ok HX.out
        have R1 := rangeS_ok HX.out
        go_wp2_with (first
          | (go_at_call 23; refine (range_any _ _ _).mono ?_; rw [R0, R1]; rintro e w2 ⟨rfl, hb2⟩; have H2 : Hid (Below wr.heap.size wr w2) := chain ((Below.refl _ _).alloc (Nat.le_refl _) _) hb2; have S2 : Hid (SetAt w2 (w.heap.size + 1) S0) := (HS.out.alloc _).below hb2 (HS.out.alloc _).lt; clear hb2; obtain ⟨a0, a1, a2, a3⟩ := S2.out.cells; have z2 := S2.out.lt)
          | (go_at_call 14; refine (or_any _ _ _).mono ?_; rintro e w3 ⟨rfl, hb3⟩; have H3 : Hid (Below wr.heap.size wr w3) := chain (H2.out.alloc H2.out.size _) hb3; have S3 : Hid (SetAt w3 (w.heap.size + 1) S0) := (S2.out.alloc _).below hb3 (S2.out.alloc _).lt; clear hb3 a0 a1 a2 a3; obtain ⟨a0, a1, a2, a3⟩ := S3.out.cells; have f3 := S3.out.frozen))
        go_roundw
        case rel =>
          refine ⟨k + 1, by omega, by go_num, ?_, ((((HB.out.trans (H3.out.mono (Nat.le_of_lt HS.out.lt))).setCell (by simp) _).setCell (by simp) _).setCell (by simp) _).setCell (by simp) _⟩
          rw [HT.out, fromF_snoc, HE.out]
          exact S3.out.store _
        case measure => simp [intOf]; omega
    · have hke : rs.take k = rs := List.take_of_length_le (by omega)
      rw [hke] at HS
      obtain ⟨a0, a1, a2, a3⟩ := HS.out.cells
      obtain ⟨e0, e1, e2, e3, fz⟩ := set_cells (w := w) (W := wr) (by simpa using HB.out)
      clear hke
      go_wp2
      exact bodyPost_ret (v := .tuple #[.agg #[.int .u64 (wd (fromF rs) 0), .int .u64 (wd (fromF rs) 1), .int .u64 (wd (fromF rs) 2), .int .u64 (wd (fromF rs) 3)], .int .i64 0]) (by simp [results, Tryd.results10, go_sem, e0, e1, e2, e3]) rfl ⟨rfl, ((((((Below.refl _ _).alloc (Nat.le_refl _) _).trans (HB.out.mono (by simp))).setCell (by simp) _).setCell (by simp) _).setCell (by simp) _).setCell (by simp) _⟩
end Go.Proofs.YtcaijlmffdfhgaaDoor
