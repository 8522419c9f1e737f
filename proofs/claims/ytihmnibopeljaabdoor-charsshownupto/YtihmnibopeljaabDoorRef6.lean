/-
  Reading, unit by unit and byte by byte: mathematics alone.
-/
import Derived.Test.YtihmnibopeljaabDoorBack6
namespace Go.Proofs.YtihmnibopeljaabDoor
open Go

/-- Each unit that is taken brings the reader on. -/
def mu (x : Rs) : Int := 4 * (x.L.length : Int) + x.st
theorem take_grows {bd : Bool} {p : Nat} {r : Int} {x y : Rs} (hok : x.ok) (h : takeS bd p r x = .inl y) : mu x < mu y ∧ y.ok := by
  have hst : 0 ≤ x.st ∧ x.st ≤ 3 := by rcases hok.1 with e | e | e | e <;> omega
  unfold takeS at h
  split at h
  · rename_i hne
    split at h
    · rename_i z hz
      cases h
      refine ⟨?_, (escS_ok hz).1⟩
      unfold escS at hz
      split at hz
      · rename_i h1
        unfold kindS at hz
        split at hz
        · cases hz; simp [mu]; omega
        split at hz
        · cases hz; simp [mu]; omega
        split at hz
        · cases hz; simp [mu]; omega
        · cases hz
      split at hz
      · cases hz
      split at hz
      · cases hz; simp [mu]; omega
      · cases hz; simp [mu]; omega
    · cases h
  rename_i h0
  have h0' : x.st = 0 := by simpa using h0
  split at h
  · cases h
  split at h
  · cases h; exact ⟨by simp [mu]; omega, ⟨.inr (.inl rfl), fun q => by cases q⟩⟩
  · cases h
    have := enc_pos r
    exact ⟨by simp [mu]; omega, ⟨.inl rfl, fun q => by cases q⟩⟩
theorem fold_grows (s : ByteArray) : ∀ (l : List (Nat × Int)) (x y : Rs), x.ok → foldS s l x = .inl y → mu x ≤ mu y ∧ (l ≠ [] → mu x < mu y) := fun l => by
  induction l with
  | nil => intro x y _ h; simp only [foldS, Sum.inl.injEq] at h; subst h; exact ⟨Int.le_refl _, fun q => absurd rfl q⟩
  | cons u t ih =>
    intro x y hx h
    obtain ⟨p, c⟩ := u
    rw [foldS] at h
    split at h
    · rename_i z hz
      have g := take_grows hx hz
      have := (ih z y g.2 h).1
      exact ⟨by omega, fun _ => by omega⟩
    · cases h
theorem take_good {s : ByteArray} {p : Nat} {x y : Rs} (h : takeS (bad s p) p ((Utf8.decode s p).1 : Int) x = .inl y) : bad s p = false := by
  rcases hb : bad s p with _ | _
  · rfl
  · exfalso
    rw [hb, (ch_bad hb).2.2] at h
    unfold takeS at h
    split at h
    · have : escS x ((65533 : Nat) : Int) = none := by
        unfold escS kindS
        split
        · simp
        · rw [if_pos (by decide +kernel)]
      rw [this] at h
      cases h
    · rw [if_pos (.inr rfl)] at h
      cases h
/-- A text that can be read is read so, whatever stands behind it. -/
theorem fold_ahead (s : ByteArray) (r : List UInt8) : ∀ f p x y g, s.size ≤ p + f → p ≤ s.size → foldS s (uFrom s f p) x = .inl y → (txt (s.data.toList ++ r)).size ≤ p + g →
    ∃ g', (txt (s.data.toList ++ r)).size ≤ s.size + g' ∧ foldS (txt (s.data.toList ++ r)) (uFrom (txt (s.data.toList ++ r)) g p) x = foldS (txt (s.data.toList ++ r)) (uFrom (txt (s.data.toList ++ r)) g' s.size) y := fun f => by
  have hS : (txt (s.data.toList ++ r)).size = s.size + r.length := by rw [txt_size, List.length_append, size_list]
  induction f with
  | zero =>
    intro p x y g h1 h2 h hg
    obtain rfl : p = s.size := by omega
    simp only [uFrom, foldS, Sum.inl.injEq] at h
    subst h
    exact ⟨g, hg, rfl⟩
  | succ f ih =>
    intro p x y g h1 h2 h hg
    by_cases hp : p < s.size
    · rw [uFrom_more s f p hp, foldS] at h
      split at h
      · rename_i z hz
        have hb := take_good hz
        have hw := wd_pos s p
        have hwl := (wd_le s p hp).2
        have es := enc_sl s p hp hb
        have hl : (Lib.encodeRune ((Utf8.decode s p).1 : Int)).length = wd s p := by
          rw [es]; unfold sl; rw [List.length_take, List.length_drop, size_list]; omega
        have hv := dec_valid s p
        have hle := dec_le s p
        have e2 : sl (txt (s.data.toList ++ r)) p (Lib.encodeRune ((Utf8.decode s p).1 : Int)).length = Lib.encodeRune ((Utf8.decode s p).1 : Int) := by
          rw [hl, es]
          unfold sl
          show ((s.data.toList ++ r).drop p).take (wd s p) = _
          rw [List.drop_append_of_le_length (by rw [size_list]; omega), List.take_append_of_le_length (by rw [List.length_drop, size_list]; omega)]
        have d := dec_of_enc (s := txt (s.data.toList ++ r)) (p := p) (by simp [Lib.validRune] at hv; omega) e2
        rw [hl] at d
        obtain ⟨g2, rfl⟩ : ∃ g2, g = g2 + 1 := ⟨g - 1, by omega⟩
        obtain ⟨g', q1, q2⟩ := ih (p + wd s p) z y g2 (by omega) hwl h (by omega)
        refine ⟨g', q1, ?_⟩
        rw [uFrom_more _ g2 p (by omega), foldS, d.1, d.2.1, d.2.2]
        rw [hb] at hz
        rw [hz]
        exact q2
      · cases h
    · obtain rfl : p = s.size := by omega
      rw [uFrom_end s _ _ hp] at h
      simp only [foldS, Sum.inl.injEq] at h
      subst h
      exact ⟨g, hg, rfl⟩

theorem rest_nil {s : ByteArray} {g q : Nat} {L : List UInt8} {b h b' h' : Int} (hg : s.size ≤ q + g) (e : foldS s (uFrom s g q) ⟨L, 0, b, h⟩ = .inl ⟨L, 0, b', h'⟩) : s.size ≤ q := by
  have := (fold_grows s (uFrom s g q) _ _ ⟨.inl rfl, fun q => by cases q⟩ e).2
  by_cases hq : q < s.size
  · exfalso
    obtain ⟨k, rfl⟩ : ∃ k, g = k + 1 := ⟨g - 1, by omega⟩
    rw [uFrom_more s k q hq] at this
    have := this (by simp)
    simp [mu] at this
  · omega
theorem no_prefix1 {s : ByteArray} {r out : List UInt8} {b h : Int} (hr : readO s = .inl ⟨out, 0, b, h⟩) (e : shown (txt out) = s.data.toList ++ r) : r = [] := by
  obtain ⟨b2, h2, e2⟩ := read_shown (txt out)
  rw [e] at e2
  have e3 : readO (txt (s.data.toList ++ r)) = foldS (txt (s.data.toList ++ r)) (uFrom (txt (s.data.toList ++ r)) (txt (s.data.toList ++ r)).size 0) ⟨[], 0, 0, 0⟩ := rfl
  obtain ⟨g', q1, q2⟩ := fold_ahead s r s.size 0 ⟨[], 0, 0, 0⟩ ⟨out, 0, b, h⟩ (txt (s.data.toList ++ r)).size (by omega) (Nat.zero_le _) hr (by omega)
  rw [e3, q2] at e2
  have := rest_nil q1 e2
  rw [txt_size, List.length_append, size_list] at this
  exact List.eq_nil_of_length_eq_zero (by omega)
theorem no_prefix2 {s : ByteArray} {r out : List UInt8} {b h : Int} (hr : readO s = .inl ⟨out, 0, b, h⟩) (e : s.data.toList = shown (txt out) ++ r) : r = [] := by
  have k := rd_units (txt out) (us (txt out)) (fun u hu => (uFrom_mem (txt out) _ _ u hu).1) [] r []
  have ut := units_text (txt out) (txt out).size 0 (by omega)
  rw [List.drop_zero] at ut
  have ut' : (us (txt out)).flatMap (fun u => sl (txt out) u.1 (wd (txt out) u.1)) = out := ut
  have es : [] ++ shUs (txt out) (us (txt out)) ++ r = s.data.toList := by rw [e]; rfl
  rw [es, txt_list, ut'] at k
  simp only [List.nil_append, List.length_nil, Nat.zero_add] at k
  obtain ⟨f', b', h', q1, q2⟩ := k s.size 0 0 (by omega)
  have e3 : readO s = foldS s (uFrom s s.size 0) ⟨[], 0, 0, 0⟩ := rfl
  rw [e3, q2] at hr
  have := rest_nil q1 hr
  have hl := congrArg List.length e
  rw [size_list, List.length_append] at hl
  have hz : (shown (txt out)).length = (shUs (txt out) (us (txt out))).length := rfl
  exact List.eq_nil_of_length_eq_zero (by omega)

theorem cpl_pre : ∀ (a b : List UInt8), (cpl a b = a.length ∧ ∃ r, b = a ++ r) ∨ (cpl a b = b.length ∧ ∃ r, a = b ++ r) ∨ (cpl a b < a.length ∧ cpl a b < b.length)
  | [], b => .inl ⟨by simp [cpl], b, by simp⟩
  | x :: a, [] => .inr (.inl ⟨by simp [cpl], x :: a, by simp⟩)
  | x :: a, y :: b => by
    rw [cpl]
    by_cases hxy : x = y
    · rw [if_pos hxy]
      subst hxy
      rcases cpl_pre a b with ⟨h1, r, h2⟩ | ⟨h1, r, h2⟩ | ⟨h1, h2⟩
      · exact .inl ⟨by simp [h1], r, by simp [h2]⟩
      · exact .inr (.inl ⟨by simp [h1], r, by simp [h2]⟩)
      · exact .inr (.inr ⟨by simp; omega, by simp; omega⟩)
    · rw [if_neg hxy]
      exact .inr (.inr ⟨by simp, by simp⟩)
/-- If what was read is shown otherwise, the two differ somewhere. -/
theorem differ {s : ByteArray} {out : List UInt8} {b h : Int} (hr : readO s = .inl ⟨out, 0, b, h⟩) (hne : shown (txt out) ≠ s.data.toList) : cpl (shown (txt out)) s.data.toList < (shown (txt out)).length ∧ cpl (shown (txt out)) s.data.toList < s.size := by
  rcases cpl_pre (shown (txt out)) s.data.toList with ⟨_, r, e⟩ | ⟨_, r, e⟩ | ⟨h1, h2⟩
  · have := no_prefix2 hr e
    subst this
    rw [List.append_nil] at e
    exact absurd e.symm hne
  · have := no_prefix1 hr e
    subst this
    rw [List.append_nil] at e
    exact absurd e hne
  · exact ⟨h1, by rw [← size_list]; exact h2⟩

/-- One unit more. -/
theorem fold_step (s : ByteArray) (p f : Nat) (x : Rs) (hp : p < s.size) (hf : s.size ≤ p + f) : ∃ g, s.size ≤ p + wd s p + g ∧ foldS s (uFrom s f p) x = (match takeS (bad s p) p ((Utf8.decode s p).1 : Int) x with | .inl y => foldS s (uFrom s g (p + wd s p)) y | .inr e => .inr e) := by
  have := wd_pos s p
  obtain ⟨g, rfl⟩ : ∃ g, f = g + 1 := ⟨f - 1, by omega⟩
  refine ⟨g, by omega, ?_⟩
  rw [uFrom_more s g p hp, foldS]
  cases takeS (bad s p) p ((Utf8.decode s p).1 : Int) x <;> rfl
theorem byte_unit (s : ByteArray) (p : Nat) (hp : p < s.size) : (bt s p < 128 ∧ Utf8.decode s p = (bt s p, 1) ∧ bad s p = false) ∨ (128 ≤ bt s p ∧ 128 ≤ (Utf8.decode s p).1) := by
  by_cases h : bt s p < 128
  · have e : Utf8.decode s p = (bt s p, 1) := by rw [dec_eq]; unfold Lib.decodeN; rw [if_pos h]
    exact .inl ⟨h, e, by unfold bad; rw [e]; simp; omega⟩
  · refine .inr ⟨by omega, ?_⟩
    have := (decode_high s p hp (by rw [bt_get]; omega)).1
    exact this
end Go.Proofs.YtihmnibopeljaabDoor
