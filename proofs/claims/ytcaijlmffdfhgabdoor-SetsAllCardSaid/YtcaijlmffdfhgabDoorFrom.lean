/-
  What sets.From answers, of any ranges: the world behind has new blocks alone.
-/
import Derived.Test.YtcaijlmffdfhgabDoorOf
import Derived.Test.YtcaijlmffdfhgabDoorRanges
namespace Go.Proofs.YtcaijlmffdfhgabDoor
open Go Go.RowKit
attribute [local go_sem] idx0 idx1 idx2 idx3 u64_signed

/-- Some ranges lie in memory. -/
def RowAt (w : World) (v : Value) (rs : List (Int × Int)) : Prop :=
  (∃ p cap, v = .slice p 0 cap ∧ rs = []) ∨
  ∃ (g off cap : Nat), v = .slice (some ⟨g, off, none⟩) rs.length cap ∧ g < w.heap.size ∧ rs.length ≤ cap ∧ cap ≤ maxLen ∧
    ∀ i lo hi, rs[i]? = some (lo, hi) → w.cell? ⟨g, off + i * 2, none⟩ = some (.int .i64 lo) ∧ w.cell? ⟨g, off + i * 2 + 1, none⟩ = some (.int .i64 hi)

theorem RowAt.below {w w' : World} {v : Value} {rs : List (Int × Int)} (h : RowAt w v rs) (hb : Below w.heap.size w w') : RowAt w' v rs := by
  rcases h with h | ⟨g, off, cap, rfl, hg, h1, h2, hc⟩
  · exact .inl h
  · exact .inr ⟨g, off, cap, rfl, Nat.lt_of_lt_of_le hg hb.size, h1, h2, fun i lo hi he => ⟨(hb.cell (p := ⟨g, off + i * 2, none⟩) hg).trans (hc i lo hi he).1, (hb.cell (p := ⟨g, off + i * 2 + 1, none⟩) hg).trans (hc i lo hi he).2⟩⟩

theorem flat_get : ∀ (rs : List (Int × Int)) (i : Nat) (lo hi : Int), rs[i]? = some (lo, hi) → (flat rs)[i * 2]? = some (.int .i64 lo) ∧ (flat rs)[i * 2 + 1]? = some (.int .i64 hi)
  | [], i, lo, hi, h => by simp at h
  | r :: rs, 0, lo, hi, h => by
    simp at h; subst h
    exact ⟨rfl, rfl⟩
  | r :: rs, i + 1, lo, hi, h => by
    have := flat_get rs i lo hi (by simpa using h)
    rw [show r :: rs = [r] ++ rs from rfl, flat_append, show flat [r] = [.int .i64 r.1, .int .i64 r.2] from rfl]
    rw [show (i + 1) * 2 = i * 2 + 2 by omega, show i * 2 + 2 + 1 = i * 2 + 1 + 2 by omega]
    exact this

theorem RowAt.of_own {W : World} {base : Nat} {v : Value} {rs : List (Int × Int)} (h : W.ownsRow base 35 2 v rs.length (flat rs)) : RowAt W v rs := by
  obtain ⟨hl, h2⟩ := h
  rcases h2 with ⟨rfl, h0⟩ | ⟨g, cap, cur, rfl, hb, hg, hc1, hc2, hsz, ht⟩
  · exact .inl ⟨none, 0, rfl, List.eq_nil_of_length_eq_zero h0⟩
  · refine .inr ⟨g, 0, cap, rfl, (Array.getElem?_eq_some_iff.1 hg).1, hc1, hc2, fun i lo hi he => ?_⟩
    have hi' : i < rs.length := (List.getElem?_eq_some_iff.1 he).1
    obtain ⟨f1, f2⟩ := flat_get rs i lo hi he
    rw [← ht, List.getElem?_take_of_lt (by omega)] at f1 f2
    have g1 : cur[i * 2]? = some (.int .i64 lo) := by simpa using f1
    have g2 : cur[i * 2 + 1]? = some (.int .i64 hi) := by simpa using f2
    exact ⟨by simp [World.cell?, hg, g1], by simp [World.cell?, hg, g2]⟩

def fromF (rs : List (Int × Int)) : S := rs.foldl (fun s r => sor s (srange r.1 r.2)) 0#256
def fromOk (rs : List (Int × Int)) : Prop := ∀ r ∈ rs, rangeOk r.1 r.2
theorem fromF_snoc (rs : List (Int × Int)) (r : Int × Int) : fromF (rs ++ [r]) = sor (fromF rs) (srange r.1 r.2) := by simp [fromF]

theorem take_succ_get {α : Type} (l : List α) (k : Nat) (x : α) (h : l[k]? = some x) : l.take (k + 1) = l.take k ++ [x] := by
  obtain ⟨hk, rfl⟩ := List.getElem?_eq_some_iff.1 h
  rw [List.take_succ_eq_append_getElem hk]

end Go.Proofs.YtcaijlmffdfhgabDoor
