/-
  The document's own answer: Read.
-/
import Derived.Test.YtihmnibopeljaabDoorRefT
namespace Go.Proofs.YtihmnibopeljaabDoor
open Go Go.RowKit
attribute [local go_sem] ext_cell

/-- Outside of escapes, at a place: what is read so far. -/
def At (s : ByteArray) (p : Nat) (L : List UInt8) : Prop := ∃ f bg hi, s.size ≤ p + f ∧ foldS s (uFrom s f p) ⟨L, 0, bg, hi⟩ = readO s
theorem at_start (s : ByteArray) : At s 0 [] := ⟨s.size, 0, 0, by omega, rfl⟩
theorem at_end {s : ByteArray} {p : Nat} {L : List UInt8} (h : At s p L) (hp : ¬ p < s.size) : ∃ bg hi, readO s = .inl ⟨L, 0, bg, hi⟩ := by
  obtain ⟨f, bg, hi, _, e⟩ := h
  rw [uFrom_end s f p hp, foldS] at e
  exact ⟨bg, hi, e.symm⟩
theorem plain_ch {s : ByteArray} {p : Nat} : plainI (ch s p) = true ↔ ¬ (plainI ((Utf8.decode s p).1 : Int) = false ∨ bad s p = true) := by
  rcases hb : bad s p with _ | _
  · rw [ch_good hb]; simp
  · rw [(ch_bad hb).1]; simp [plainI]
/-- No character that may stand there. -/
theorem at_char {s : ByteArray} {p : Nat} {L : List UInt8} (h : At s p L) (hp : p < s.size) (hn : plainI (ch s p) = false) : readO s = .inr (20, (p : Int)) := by
  obtain ⟨f, bg, hi, hf, e⟩ := h
  obtain ⟨g, _, e2⟩ := fold_step s p f ⟨L, 0, bg, hi⟩ hp hf
  have hq : plainI ((Utf8.decode s p).1 : Int) = false ∨ bad s p = true := by
    by_cases q : plainI ((Utf8.decode s p).1 : Int) = false ∨ bad s p = true
    · exact q
    · rw [plain_ch.2 q] at hn; cases hn
  have t : takeS (bad s p) p ((Utf8.decode s p).1 : Int) ⟨L, 0, bg, hi⟩ = .inr (20, (p : Int)) := by rw [takeS, if_neg (by simp), if_pos hq]
  rw [← e, e2, t]
/-- A character as it is. -/
theorem at_next {s : ByteArray} {p : Nat} {L : List UInt8} (h : At s p L) (hp : p < s.size) (hn : plainI (ch s p) = true) (h92 : ch s p ≠ 92) : At s (p + wd s p) (L ++ sl s p (wd s p)) := by
  obtain ⟨f, bg, hi, hf, e⟩ := h
  obtain ⟨g, hg, e2⟩ := fold_step s p f ⟨L, 0, bg, hi⟩ hp hf
  have hq := plain_ch.1 hn
  have hb : bad s p = false := by
    rcases hb : bad s p with _ | _
    · rfl
    · exact absurd (.inr hb) hq
  have t : takeS (bad s p) p ((Utf8.decode s p).1 : Int) ⟨L, 0, bg, hi⟩ = .inl ⟨L ++ sl s p (wd s p), 0, bg, hi⟩ := by
    rw [takeS, if_neg (by simp), if_neg hq, if_neg (by rw [← ch_good hb]; exact h92), enc_sl s p hp hb]
  rw [t] at e2
  exact ⟨g, bg, hi, hg, by rw [← e, e2]⟩
/-- Within an escape. -/
def In (s : ByteArray) (p : Nat) (L : List UInt8) (st bg hi : Int) : Prop := ∃ f, s.size ≤ p + f ∧ foldS s (uFrom s f p) ⟨L, st, bg, hi⟩ = readO s
theorem at_slash {s : ByteArray} {p : Nat} {L : List UInt8} (h : At s p L) (hp : p < s.size) (h92 : ch s p = 92) : wd s p = 1 ∧ ∃ hi, In s (p + 1) L 1 p hi := by
  obtain ⟨f, bg, hi, hf, e⟩ := h
  obtain ⟨g, hg, e2⟩ := fold_step s p f ⟨L, 0, bg, hi⟩ hp hf
  have hb : bad s p = false := by
    rcases hb : bad s p with _ | _
    · rfl
    · rw [(ch_bad hb).1] at h92; cases h92
  have hr : ((Utf8.decode s p).1 : Int) = 92 := by rw [← ch_good hb]; exact h92
  have hw : wd s p = 1 := by
    rcases byte_unit s p hp with ⟨_, e, _⟩ | ⟨_, h⟩
    · unfold wd; rw [e]
    · omega
  have t : takeS (bad s p) p ((Utf8.decode s p).1 : Int) ⟨L, 0, bg, hi⟩ = .inl ⟨L, 1, p, hi⟩ := by
    rw [hr, hb, takeS, if_neg (by simp), if_neg (by simp [plainI]), if_pos rfl]
  rw [t, hw] at e2
  rw [hw] at hg
  exact ⟨hw, hi, g, hg, by rw [← e, e2]⟩
theorem in_end {s : ByteArray} {p : Nat} {L : List UInt8} {st bg hi : Int} (h : In s p L st bg hi) (hp : ¬ p < s.size) : readO s = .inl ⟨L, st, bg, hi⟩ := by
  obtain ⟨f, _, e⟩ := h
  rw [uFrom_end s f p hp, foldS] at e
  exact e.symm
/-- The next byte of an escape. -/
theorem in_next {s : ByteArray} {p : Nat} {L : List UInt8} {st bg hi : Int} (h : In s p L st bg hi) (hp : p < s.size) (hst : st ≠ 0) :
    (∀ y, escS ⟨L, st, bg, hi⟩ (bt s p : Int) = some y → In s (p + 1) y.L y.st y.bg y.hi) ∧ (escS ⟨L, st, bg, hi⟩ (bt s p : Int) = none → readO s = .inr (32, bg)) := by
  obtain ⟨f, hf, e⟩ := h
  obtain ⟨g, hg, e2⟩ := fold_step s p f ⟨L, st, bg, hi⟩ hp hf
  rcases byte_unit s p hp with ⟨h1, d, hb⟩ | ⟨h1, h2⟩
  · have hw : wd s p = 1 := by unfold wd; rw [d]
    rw [hw] at hg e2
    rw [d] at e2
    refine ⟨fun y hy => ⟨g, hg, ?_⟩, fun hn => ?_⟩
    · have t : takeS (bad s p) p (bt s p : Int) ⟨L, st, bg, hi⟩ = .inl y := by rw [takeS, if_pos hst, hy]
      simp only at e2
      rw [t] at e2
      rw [← e, e2]
    · have t : takeS (bad s p) p (bt s p : Int) ⟨L, st, bg, hi⟩ = .inr (32, bg) := by rw [takeS, if_pos hst, hn]
      simp only at e2
      rw [t] at e2
      rw [← e, e2]
  · have none1 : ∀ r : Int, 128 ≤ r → escS ⟨L, st, bg, hi⟩ r = none := fun r hr => by
      unfold escS kindS
      split
      · rw [if_neg (by omega), if_neg (by omega), if_neg (by omega)]
      · rw [if_pos (by rw [hexv_high r hr]; decide)]
    refine ⟨fun y hy => ?_, fun _ => ?_⟩
    · rw [none1 _ (by omega)] at hy; cases hy
    · have t : takeS (bad s p) p ((Utf8.decode s p).1 : Int) ⟨L, st, bg, hi⟩ = .inr (32, bg) := by rw [takeS, if_pos hst, none1 _ (by omega)]
      rw [t] at e2
      rw [← e, e2]
/-- What stands behind the backslash. -/
theorem after_slash {s : ByteArray} {p : Nat} {L : List UInt8} {hi : Int} (h : In s (p + 1) L 1 p hi) (hp : p + 1 < s.size) :
    (bt s (p + 1) = 92 → At s (p + 2) (L ++ [92])) ∧ (bt s (p + 1) = 110 → At s (p + 2) (L ++ [10])) ∧ (bt s (p + 1) = 120 → In s (p + 2) L 2 p hi) ∧
    (bt s (p + 1) ≠ 92 → bt s (p + 1) ≠ 110 → bt s (p + 1) ≠ 120 → readO s = .inr (32, (p : Int))) := by
  have n := in_next h hp (by decide)
  refine ⟨fun e => ?_, fun e => ?_, fun e => ?_, fun e1 e2 e3 => ?_⟩
  · obtain ⟨f, h1, h2⟩ := n.1 ⟨L ++ [92], 0, p, hi⟩ (by rw [e]; simp [escS, kindS])
    exact ⟨f, p, hi, h1, h2⟩
  · obtain ⟨f, h1, h2⟩ := n.1 ⟨L ++ [10], 0, p, hi⟩ (by rw [e]; simp [escS, kindS])
    exact ⟨f, p, hi, h1, h2⟩
  · exact n.1 ⟨L, 2, p, hi⟩ (by rw [e]; simp [escS, kindS])
  · refine n.2 ?_
    unfold escS kindS
    rw [if_pos rfl, if_neg (by omega), if_neg (by omega), if_neg (by omega)]
/-- Two digits. -/
theorem after_x {s : ByteArray} {p : Nat} {L : List UInt8} {hi : Int} (h : In s (p + 2) L 2 p hi) :
    (hxErr s p = 0 → At s (p + 4) (L ++ [hxB s p]) ∧ p + 3 < s.size) ∧ (hxErr s p ≠ 0 → rdErr s (readO s) = hxErr s p ∧ rdPl s (readO s) = hxPl s p ∧ rdTxt s (readO s) = []) := by
  by_cases s2 : s.size ≤ p + 2
  · have e := in_end h (by omega)
    have x1 : hxErr s p = 31 := by unfold hxErr; rw [if_pos s2]
    have x2 : hxPl s p = (s.size : Int) := by unfold hxPl; rw [if_pos s2]
    rw [x1, x2]
    refine ⟨(fun q => by cases q), fun _ => ?_⟩
    rw [e]
    exact ⟨by rw [rdErr, if_pos (by simp)], by rw [rdPl, if_pos (by simp)], by rw [rdTxt, if_neg (by simp)]⟩
  have n := in_next h (by omega) (by decide)
  by_cases n2 : hexv (bt s (p + 2) : Int) < 0
  · have e := n.2 (by unfold escS; rw [if_neg (by simp), if_pos n2])
    have x1 : hxErr s p = 32 := by unfold hxErr; rw [if_neg s2, if_pos n2]
    have x2 : hxPl s p = (p : Int) := by unfold hxPl; rw [if_neg s2, if_pos n2]
    rw [x1, x2, e]
    exact ⟨(fun q => by cases q), fun _ => ⟨rfl, rfl, rfl⟩⟩
  have h3 := n.1 ⟨L, 3, p, hexv (bt s (p + 2) : Int)⟩ (by unfold escS; rw [if_neg (by simp), if_neg n2, if_pos rfl])
  simp only [Nat.add_assoc] at h3
  by_cases s3 : s.size ≤ p + 3
  · have e := in_end h3 (by omega)
    have x1 : hxErr s p = 31 := by unfold hxErr; rw [if_neg s2, if_neg n2, if_pos s3]
    have x2 : hxPl s p = (s.size : Int) := by unfold hxPl; rw [if_neg s2, if_neg n2, if_pos s3]
    rw [x1, x2]
    refine ⟨(fun q => by cases q), fun _ => ?_⟩
    rw [e]
    exact ⟨by rw [rdErr, if_pos (by simp)], by rw [rdPl, if_pos (by simp)], by rw [rdTxt, if_neg (by simp)]⟩
  have m := in_next h3 (by omega) (by decide)
  by_cases n3 : hexv (bt s (p + 3) : Int) < 0
  · have e := m.2 (by unfold escS; rw [if_neg (by simp)]; exact if_pos n3)
    have x1 : hxErr s p = 32 := by unfold hxErr; rw [if_neg s2, if_neg n2, if_neg s3, if_pos n3]
    have x2 : hxPl s p = (p : Int) := by unfold hxPl; rw [if_neg s2, if_neg n2, if_neg s3, if_pos n3]
    rw [x1, x2, e]
    exact ⟨(fun q => by cases q), fun _ => ⟨rfl, rfl, rfl⟩⟩
  · have x1 : hxErr s p = 0 := by unfold hxErr; rw [if_neg s2, if_neg n2, if_neg s3, if_neg n3]
    have x3 : hxB s p = byteS (hexv (bt s (p + 2) : Int)) (hexv (bt s (p + 3) : Int)) := by unfold hxB; rw [if_pos x1]
    rw [x1]
    refine ⟨fun _ => ⟨?_, by omega⟩, fun q => absurd rfl q⟩
    obtain ⟨f, h5, h6⟩ := m.1 ⟨L ++ [hxB s p], 0, p, hexv (bt s (p + 2) : Int)⟩ (by
      unfold escS
      rw [if_neg (by simp), if_neg n3, if_neg (by simp), x3])
    exact ⟨f, p, _, by simpa [Nat.add_assoc] using h5, h6⟩
end Go.Proofs.YtihmnibopeljaabDoor
