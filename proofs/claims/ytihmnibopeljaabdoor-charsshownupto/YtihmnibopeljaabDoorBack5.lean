/-
  There and back: texts and their characters. Mathematics alone.
-/
import Derived.Test.YtihmnibopeljaabDoorDec2
import Derived.Test.YtihmnibopeljaabDoorRead
namespace Go.Proofs.YtihmnibopeljaabDoor
open Go

/-- The units' bytes, one behind the other, are the text. -/
theorem units_text (s : ByteArray) : ∀ f p, s.size ≤ p + f → (uFrom s f p).flatMap (fun u => sl s u.1 (wd s u.1)) = s.data.toList.drop p
  | 0, p, h => by
    rw [uFrom, List.drop_eq_nil_of_le (by rw [size_list]; omega)]; rfl
  | f + 1, p, h => by
    by_cases hp : p < s.size
    · have hw := wd_pos s p
      rw [uFrom_more s f p hp, List.flatMap_cons, units_text s f (p + wd s p) (by omega)]
      unfold sl
      simp only
      rw [← List.drop_drop, List.take_append_drop]
    · rw [uFrom_end s _ _ hp, List.drop_eq_nil_of_le (by rw [size_list]; omega)]; rfl
theorem uFrom_mem (s : ByteArray) : ∀ f p u, u ∈ uFrom s f p → u.1 < s.size ∧ u.2 = ch s u.1
  | 0, p, u, h => by simp [uFrom] at h
  | f + 1, p, u, h => by
    unfold uFrom at h
    split at h
    · rename_i hp
      rcases List.mem_cons.1 h with e | e
      · subst e; exact ⟨hp, rfl⟩
      · exact uFrom_mem s f _ u e
    · simp at h
/-- Encode of Decode. -/
theorem enc_dec (s : ByteArray) (hg : good (us s) = true) : encB (chs (us s)) = s.data.toList ∧ allC (chs (us s)) = true := by
  have hm : ∀ u ∈ us s, u.1 < s.size ∧ u.2 = ch s u.1 := fun u hu => uFrom_mem s _ _ u hu
  have hgd : ∀ u ∈ us s, bad s u.1 = false := fun u hu => by
    have h := List.all_eq_true.1 hg u hu
    rw [(hm u hu).2] at h
    rcases hb : bad s u.1 with _ | _
    · rfl
    · have := (ch_bad hb).1
      rw [this] at h; simp at h
  constructor
  · have e := units_text s s.size 0 (by omega)
    rw [List.drop_zero] at e
    rw [← e]
    unfold encB chs
    rw [List.flatMap_map]
    show List.flatMap _ (us s) = List.flatMap _ (us s)
    have : ∀ l : List (Nat × Int), (∀ u ∈ l, u ∈ us s) → l.flatMap (fun a => Lib.encodeRune a.2) = l.flatMap (fun u => sl s u.1 (wd s u.1)) := fun l => by
      induction l with
      | nil => intro _; rfl
      | cons u t ih =>
        intro hl
        have hu := hl u (List.mem_cons_self ..)
        rw [List.flatMap_cons, List.flatMap_cons, ih (fun x hx => hl x (List.mem_cons_of_mem _ hx)), (hm u hu).2, ch_good (hgd u hu), enc_sl s u.1 (hm u hu).1 (hgd u hu)]
    exact this (us s) (fun _ h => h)
  · unfold allC chs
    rw [List.all_map, List.all_eq_true]
    intro u hu
    simp only [Function.comp]
    rw [(hm u hu).2, ch_good (hgd u hu)]
    have := dec_valid s u.1
    have h2 := dec_le s u.1
    simp [Lib.validRune] at this
    simp [isC]
    omega

/-- A part of a text that is made of parts. -/
theorem sl_mid (a b c : List UInt8) : sl (txt (a ++ b ++ c)) a.length b.length = b := by
  unfold sl
  show ((a ++ b ++ c).drop a.length).take b.length = b
  rw [List.append_assoc, List.drop_left, List.take_left]
theorem enc_pos (c : Int) : 1 ≤ (Lib.encodeRune c).length ∧ (Lib.encodeRune c).length ≤ 4 := by
  have := Lib.runeCells_le c
  rw [Lib.runeCells_length] at this
  exact this
/-- A character within a text is read as it. -/
theorem unit_mid (a : List UInt8) (c : Int) (b : List UInt8) (hc : isC c = true) : ch (txt (a ++ Lib.encodeRune c ++ b)) a.length = c ∧ wd (txt (a ++ Lib.encodeRune c ++ b)) a.length = (Lib.encodeRune c).length ∧ bad (txt (a ++ Lib.encodeRune c ++ b)) a.length = false ∧ ((Utf8.decode (txt (a ++ Lib.encodeRune c ++ b)) a.length).1 : Int) = c := by
  have hr : 0 ≤ c ∧ c ≤ 1114111 ∧ (c < 55296 ∨ 57343 < c) := by simpa [isC] using hc
  have d := dec_of_enc (s := txt (a ++ Lib.encodeRune c ++ b)) (p := a.length) hr (sl_mid _ _ _)
  exact ⟨by rw [ch_good d.2.2, d.1], d.2.1, d.2.2, d.1⟩
/-- Decode of Encode. -/
theorem dec_enc (l : List Int) (hl : allC l = true) : chs (us (txt (encB l))) = l ∧ good (us (txt (encB l))) = true := by
  have key : ∀ (r a : List Int) (f : Nat), allC r = true → (encB r).length ≤ f → (uFrom (txt (encB a ++ encB r)) f (encB a).length).map (·.2) = r := fun r => by
    induction r with
    | nil =>
      intro a f _ _
      rw [uFrom_end _ _ _ (by rw [txt_size]; simp [encB])]; rfl
    | cons c t ih =>
      intro a f hr hf
      have hc : isC c = true := by simp [allC] at hr; exact hr.1
      have ht : allC t = true := by simp [allC] at hr ⊢; exact hr.2
      have ep := enc_pos c
      have e1 : encB a ++ encB (c :: t) = encB a ++ Lib.encodeRune c ++ encB t := by simp [encB]
      have e2 : (encB (c :: t)).length = (Lib.encodeRune c).length + (encB t).length := by simp [encB]
      rw [e2] at hf
      obtain ⟨g, rfl⟩ : ∃ g, f = g + 1 := ⟨f - 1, by omega⟩
      have u := unit_mid (encB a) c (encB t) hc
      rw [e1, uFrom_more _ g _ (by rw [txt_size]; simp; omega), u.1, u.2.1, List.map_cons]
      have e3 : encB a ++ Lib.encodeRune c = encB (a ++ [c]) := (encB_app a c).symm
      have e4 : (encB a).length + (Lib.encodeRune c).length = (encB (a ++ [c])).length := by rw [encB_app, List.length_append]
      rw [e3, e4, ih (a ++ [c]) g ht (by omega)]
  have k := key l [] (txt (encB l)).size hl (by rw [txt_size]; exact Nat.le_refl _)
  have k' : chs (us (txt (encB l))) = l := k
  refine ⟨k', ?_⟩
  unfold good
  have : (us (txt (encB l))).all (fun u => decide (0 ≤ u.2)) = (chs (us (txt (encB l)))).all (fun c => decide (0 ≤ c)) := by
    unfold chs; rw [List.all_map]; rfl
  rw [this, k', List.all_eq_true]
  intro c hc
  have := List.all_eq_true.1 hl c hc
  simp [isC] at this
  simp; omega
end Go.Proofs.YtihmnibopeljaabDoor
