/-
  What is shown is read as what it was. Mathematics alone.
-/
import Derived.Test.YtihmnibopeljaabDoorBack5
namespace Go.Proofs.YtihmnibopeljaabDoor
open Go

/-- From a place to another one, outside of escapes: what is read so far. -/
def Rd (t : ByteArray) (q : Nat) (L : List UInt8) (q' : Nat) (L' : List UInt8) : Prop :=
  ∀ f bg hi, t.size ≤ q + f → ∃ f' bg' hi', t.size ≤ q' + f' ∧ foldS t (uFrom t f q) ⟨L, 0, bg, hi⟩ = foldS t (uFrom t f' q') ⟨L', 0, bg', hi'⟩
theorem Rd.refl (t : ByteArray) (q : Nat) (L : List UInt8) : Rd t q L q L := fun f bg hi h => ⟨f, bg, hi, h, rfl⟩
theorem Rd.trans {t : ByteArray} {a b c : Nat} {L M N : List UInt8} (h : Rd t a L b M) (k : Rd t b M c N) : Rd t a L c N := fun f bg hi hf => by
  obtain ⟨f1, b1, h1, e1, e2⟩ := h f bg hi hf
  obtain ⟨f2, b2, h2, e3, e4⟩ := k f1 b1 h1 e1
  exact ⟨f2, b2, h2, e3, e2.trans e4⟩

/-- One character more. -/
theorem fold_one (A : List UInt8) (c : Int) (B : List UInt8) (hc : isC c = true) (f : Nat) (x : Rs) (hf : (txt (A ++ Lib.encodeRune c ++ B)).size ≤ A.length + f) :
    ∃ g, (txt (A ++ Lib.encodeRune c ++ B)).size ≤ A.length + (Lib.encodeRune c).length + g ∧ foldS (txt (A ++ Lib.encodeRune c ++ B)) (uFrom (txt (A ++ Lib.encodeRune c ++ B)) f A.length) x =
      match takeS false A.length c x with
      | .inl y => foldS (txt (A ++ Lib.encodeRune c ++ B)) (uFrom (txt (A ++ Lib.encodeRune c ++ B)) g (A.length + (Lib.encodeRune c).length)) y
      | .inr e => .inr e := by
  have u := unit_mid A c B hc
  have ep := enc_pos c
  have hs : (txt (A ++ Lib.encodeRune c ++ B)).size = A.length + (Lib.encodeRune c).length + B.length := by rw [txt_size]; simp; omega
  obtain ⟨g, rfl⟩ : ∃ g, f = g + 1 := ⟨f - 1, by omega⟩
  refine ⟨g, by omega, ?_⟩
  rw [uFrom_more _ g _ (by omega), foldS, u.2.1, u.2.2.1, u.2.2.2]
  cases takeS false A.length c x <;> rfl
theorem enc_ascii (b : UInt8) (h : b.toNat < 128) : Lib.encodeRune (b.toNat : Int) = [b] ∧ isC (b.toNat : Int) = true := by
  refine ⟨?_, by simp [isC]; omega⟩
  rw [Lib.encodeRune, Lib.encodeRuneZ_one (by omega) (by omega)]
  simp
theorem fold_byte (A : List UInt8) (b : UInt8) (B : List UInt8) (hb : b.toNat < 128) (f : Nat) (x : Rs) (hf : (txt (A ++ [b] ++ B)).size ≤ A.length + f) :
    ∃ g, (txt (A ++ [b] ++ B)).size ≤ A.length + 1 + g ∧ foldS (txt (A ++ [b] ++ B)) (uFrom (txt (A ++ [b] ++ B)) f A.length) x =
      match takeS false A.length (b.toNat : Int) x with
      | .inl y => foldS (txt (A ++ [b] ++ B)) (uFrom (txt (A ++ [b] ++ B)) g (A.length + 1)) y
      | .inr e => .inr e := by
  have e := enc_ascii b hb
  have := fold_one A (b.toNat : Int) B e.2 f x (by rw [e.1]; exact hf)
  rw [e.1] at this
  exact this

theorem rd_plain (A : List UInt8) (c : Int) (B L : List UInt8) (hc : isC c = true) (hp : plainI c = true) (h92 : c ≠ 92) : Rd (txt (A ++ Lib.encodeRune c ++ B)) A.length L (A.length + (Lib.encodeRune c).length) (L ++ Lib.encodeRune c) := fun f bg hi hf => by
  obtain ⟨g, hg, e⟩ := fold_one A c B hc f ⟨L, 0, bg, hi⟩ hf
  refine ⟨g, bg, hi, hg, ?_⟩
  rw [e]
  have : takeS false A.length c ⟨L, 0, bg, hi⟩ = .inl ⟨L ++ Lib.encodeRune c, 0, bg, hi⟩ := by
    rw [takeS, if_neg (by simp), if_neg (by simp [hp]), if_neg h92]
  rw [this]
/-- An escape begins. -/
theorem fold_slash (A B L : List UInt8) (bg hi : Int) (f : Nat) (hf : (txt (A ++ [92] ++ B)).size ≤ A.length + f) : ∃ g, (txt (A ++ [92] ++ B)).size ≤ A.length + 1 + g ∧ foldS (txt (A ++ [92] ++ B)) (uFrom (txt (A ++ [92] ++ B)) f A.length) ⟨L, 0, bg, hi⟩ = foldS (txt (A ++ [92] ++ B)) (uFrom (txt (A ++ [92] ++ B)) g (A.length + 1)) ⟨L, 1, A.length, hi⟩ := by
  obtain ⟨g, hg, e⟩ := fold_byte A 92 B (by decide) f ⟨L, 0, bg, hi⟩ hf
  refine ⟨g, hg, ?_⟩
  rw [e]
  have : takeS false A.length ((92 : UInt8).toNat : Int) ⟨L, 0, bg, hi⟩ = .inl ⟨L, 1, A.length, hi⟩ := by
    show takeS false A.length 92 ⟨L, 0, bg, hi⟩ = _
    rw [takeS, if_neg (by simp), if_neg (by simp [plainI]), if_pos rfl]
  rw [this]
theorem rd_two (A B L : List UInt8) (k v : UInt8) (hk : k = 92 ∧ v = 92 ∨ k = 110 ∧ v = 10) : Rd (txt (A ++ [92, k] ++ B)) A.length L (A.length + 2) (L ++ [v]) := fun f bg hi hf => by
  have e0 : A ++ [92, k] ++ B = A ++ [92] ++ (k :: B) := by simp
  have e1 : A ++ [92, k] ++ B = (A ++ [92]) ++ [k] ++ B := by simp
  rw [e0] at hf
  obtain ⟨g, hg, s1⟩ := fold_slash A (k :: B) L bg hi f hf
  rw [← e0, e1] at hg s1
  obtain ⟨g2, hg2, s2⟩ := fold_byte (A ++ [92]) k B (by rcases hk with h | h <;> (rw [h.1]; decide)) g ⟨L, 1, A.length, hi⟩ (by rw [List.length_append]; exact hg)
  have hl : (A ++ [92]).length = A.length + 1 := by simp
  rw [hl] at hg2 s2
  refine ⟨g2, A.length, hi, by rw [e1]; exact hg2, ?_⟩
  rw [e1, s1, s2]
  have : takeS false (A.length + 1) (k.toNat : Int) ⟨L, 1, A.length, hi⟩ = .inl ⟨L ++ [v], 0, A.length, hi⟩ := by
    rcases hk with ⟨rfl, rfl⟩ | ⟨rfl, rfl⟩
    · show takeS false (A.length + 1) 92 ⟨L, 1, A.length, hi⟩ = _
      simp [takeS, escS, kindS]
    · show takeS false (A.length + 1) 110 ⟨L, 1, A.length, hi⟩ = _
      simp [takeS, escS, kindS]
  rw [this]
theorem hexd_small : ∀ n : Fin 16, (hexd n.val).toNat < 128 ∧ hexv ((hexd n.val).toNat : Int) = (n.val : Int) := by decide +kernel
theorem byteS_of (b : UInt8) : byteS ((b.toNat / 16 : Nat) : Int) ((b.toNat % 16 : Nat) : Int) = b := by
  unfold byteS
  have h := b.toNat_lt
  have : (((b.toNat / 16 : Nat) : Int) * 16 + ((b.toNat % 16 : Nat) : Int)).toNat = b.toNat := by omega
  rw [this]
  exact UInt8.ofNat_toNat
theorem rd_hex (A B L : List UInt8) (b : UInt8) : Rd (txt (A ++ escB b ++ B)) A.length L (A.length + 4) (L ++ [b]) := fun f bg hi hf => by
  have hb := b.toNat_lt
  have h1 := hexd_small ⟨b.toNat / 16, by omega⟩
  have h2 := hexd_small ⟨b.toNat % 16, by omega⟩
  simp only at h1 h2
  have hbs := byteS_of b
  unfold escB at hf ⊢
  obtain ⟨x, hx⟩ : ∃ x, hexd (b.toNat / 16) = x := ⟨_, rfl⟩
  obtain ⟨y, hy⟩ : ∃ y, hexd (b.toNat % 16) = y := ⟨_, rfl⟩
  rw [hx] at h1 hf ⊢
  rw [hy] at h2 hf ⊢
  have e0 : A ++ [92, 120, x, y] ++ B = A ++ [92] ++ (120 :: x :: y :: B) := by simp
  have e1 : A ++ [92, 120, x, y] ++ B = (A ++ [92]) ++ [120] ++ (x :: y :: B) := by simp
  have e2 : A ++ [92, 120, x, y] ++ B = (A ++ [92, 120]) ++ [x] ++ (y :: B) := by simp
  have e3 : A ++ [92, 120, x, y] ++ B = (A ++ [92, 120, x]) ++ [y] ++ B := by simp
  have l1 : (A ++ [92]).length = A.length + 1 := by simp
  have l2 : (A ++ [92, 120]).length = A.length + 2 := by simp
  have l3 : (A ++ [92, 120, x]).length = A.length + 3 := by simp
  rw [e0] at hf
  obtain ⟨g, hg, s1⟩ := fold_slash A (120 :: x :: y :: B) L bg hi f hf
  rw [← e0] at hg s1
  obtain ⟨g2, hg2, s2⟩ := fold_byte (A ++ [92]) 120 (x :: y :: B) (by decide) g ⟨L, 1, A.length, hi⟩ (by rw [l1, ← e1]; exact hg)
  rw [l1, ← e1] at hg2 s2
  have t2 : takeS false (A.length + 1) ((120 : UInt8).toNat : Int) ⟨L, 1, A.length, hi⟩ = .inl ⟨L, 2, A.length, hi⟩ := by
    show takeS false (A.length + 1) 120 ⟨L, 1, A.length, hi⟩ = _
    simp [takeS, escS, kindS]
  rw [t2] at s2
  obtain ⟨g3, hg3, s3⟩ := fold_byte (A ++ [92, 120]) x (y :: B) h1.1 g2 ⟨L, 2, A.length, hi⟩ (by rw [l2, ← e2]; exact hg2)
  rw [l2, ← e2] at hg3 s3
  have t3 : takeS false (A.length + 2) (x.toNat : Int) ⟨L, 2, A.length, hi⟩ = .inl ⟨L, 3, A.length, ((b.toNat / 16 : Nat) : Int)⟩ := by
    unfold takeS escS
    rw [if_pos (by simp), h1.2]
    simp only
    rw [if_neg (by decide), if_neg (by omega)]
    rfl
  rw [t3] at s3
  obtain ⟨g4, hg4, s4⟩ := fold_byte (A ++ [92, 120, x]) y B h2.1 g3 ⟨L, 3, A.length, ((b.toNat / 16 : Nat) : Int)⟩ (by rw [l3, ← e3]; exact hg3)
  rw [l3, ← e3] at hg4 s4
  have t4 : takeS false (A.length + 3) (y.toNat : Int) ⟨L, 3, A.length, ((b.toNat / 16 : Nat) : Int)⟩ = .inl ⟨L ++ [b], 0, A.length, ((b.toNat / 16 : Nat) : Int)⟩ := by
    unfold takeS escS
    rw [if_pos (by simp), h2.2]
    simp only
    rw [if_neg (by decide), if_neg (by omega), if_neg (by decide), hbs]
  rw [t4] at s4
  exact ⟨g4, A.length, ((b.toNat / 16 : Nat) : Int), hg4, s1.trans (s2.trans (s3.trans s4))⟩

theorem Rd.at {t : ByteArray} {q a b : Nat} {L M : List UInt8} (h : Rd t q L a M) (e : a = b) : Rd t q L b M := e ▸ h
theorem rd_hexes (l : List UInt8) : ∀ (A B L : List UInt8), Rd (txt (A ++ escs l ++ B)) A.length L (A.length + (escs l).length) (L ++ l) := by
  induction l with
  | nil => intro A B L; simpa [escs] using Rd.refl (txt (A ++ B)) A.length L
  | cons b t ih =>
    intro A B L
    have e1 : A ++ escs (b :: t) ++ B = A ++ escB b ++ (escs t ++ B) := by simp [escs]
    have e2 : A ++ escs (b :: t) ++ B = (A ++ escB b) ++ escs t ++ B := by simp [escs]
    have h1 := rd_hex A (escs t ++ B) L b
    have h2 := ih (A ++ escB b) B (L ++ [b])
    rw [← e1] at h1
    rw [← e2] at h2
    have l1 : (A ++ escB b).length = A.length + 4 := by simp [escB]
    rw [l1] at h2
    have l2 : (escs (b :: t)).length = 4 + (escs t).length := by simp [escs, escB]; omega
    have := h1.trans h2
    rw [l2]
    simpa [Nat.add_assoc] using this
/-- One unit, shown. -/
theorem rd_unit (s : ByteArray) (p : Nat) (hp : p < s.size) (A B L : List UInt8) : Rd (txt (A ++ shU s p ++ B)) A.length L (A.length + (shU s p).length) (L ++ sl s p (wd s p)) := by
  have hgc : bad s p = false → isC (ch s p) = true ∧ sl s p (wd s p) = Lib.encodeRune (ch s p) := fun hb => by
    rw [ch_good hb]
    have h1 := dec_valid s p
    have h2 := dec_le s p
    refine ⟨?_, (enc_sl s p hp hb).symm⟩
    simp [Lib.validRune] at h1
    simp [isC]; omega
  by_cases h92 : ch s p = 92
  · have hb : bad s p = false := by
      rcases hb : bad s p with _ | _
      · rfl
      · rw [(ch_bad hb).1] at h92; cases h92
    have e : shU s p = [92, 92] := by unfold shU; rw [if_pos h92]
    have e2 : sl s p (wd s p) = [92] := by rw [(hgc hb).2, h92]; decide +kernel
    rw [e, e2]
    exact rd_two A B L 92 92 (.inl ⟨rfl, rfl⟩)
  by_cases h10 : ch s p = 10
  · have hb : bad s p = false := by
      rcases hb : bad s p with _ | _
      · rfl
      · rw [(ch_bad hb).1] at h10; cases h10
    have e : shU s p = [92, 110] := by unfold shU; rw [if_neg h92, if_pos h10]
    have e2 : sl s p (wd s p) = [10] := by rw [(hgc hb).2, h10]; decide +kernel
    rw [e, e2]
    exact rd_two A B L 110 10 (.inr ⟨rfl, rfl⟩)
  rcases hpl : plainI (ch s p) with _ | _
  · have e : shU s p = escs (sl s p (wd s p)) := by unfold shU; rw [if_neg h92, if_neg h10, hpl]; rfl
    rw [e]
    exact rd_hexes _ A B L
  · have hb : bad s p = false := by
      rcases hb : bad s p with _ | _
      · rfl
      · rw [(ch_bad hb).1] at hpl; simp [plainI] at hpl
    have e : shU s p = Lib.encodeRune (ch s p) := by unfold shU; rw [if_neg h92, if_neg h10, hpl]; exact (hgc hb).2
    rw [e, (hgc hb).2]
    exact rd_plain A (ch s p) B L (hgc hb).1 hpl h92
theorem rd_units (s : ByteArray) : ∀ (l : List (Nat × Int)), (∀ u ∈ l, u.1 < s.size) → ∀ (A B L : List UInt8), Rd (txt (A ++ shUs s l ++ B)) A.length L (A.length + (shUs s l).length) (L ++ l.flatMap fun u => sl s u.1 (wd s u.1))
  | [], _, A, B, L => by simpa [shUs] using Rd.refl (txt (A ++ B)) A.length L
  | u :: t, h, A, B, L => by
    have e1 : A ++ shUs s (u :: t) ++ B = A ++ shU s u.1 ++ (shUs s t ++ B) := by simp [shUs]
    have e2 : A ++ shUs s (u :: t) ++ B = (A ++ shU s u.1) ++ shUs s t ++ B := by simp [shUs]
    have h1 := rd_unit s u.1 (h u (List.mem_cons_self ..)) A (shUs s t ++ B) L
    have h2 := rd_units s t (fun x hx => h x (List.mem_cons_of_mem _ hx)) (A ++ shU s u.1) B (L ++ sl s u.1 (wd s u.1))
    rw [← e1] at h1
    rw [← e2, List.length_append] at h2
    have := h1.trans h2
    have l2 : (shUs s (u :: t)).length = (shU s u.1).length + (shUs s t).length := by simp [shUs]
    rw [l2]
    simpa [Nat.add_assoc, List.flatMap_cons] using this
/-- Read of Shown. -/
theorem read_shown (s : ByteArray) : ∃ bg hi, readO (txt (shown s)) = .inl ⟨s.data.toList, 0, bg, hi⟩ := by
  have h := rd_units s (us s) (fun u hu => (uFrom_mem s _ _ u hu).1) [] [] []
  have e := units_text s s.size 0 (by omega)
  rw [List.drop_zero] at e
  have e' : (us s).flatMap (fun u => sl s u.1 (wd s u.1)) = s.data.toList := e
  simp only [List.nil_append, List.append_nil, List.length_nil, Nat.zero_add, e'] at h
  obtain ⟨f, bg, hi, h1, h2⟩ := h (txt (shown s)).size 0 0 (by show (txt (shown s)).size ≤ 0 + (txt (shown s)).size; omega)
  refine ⟨bg, hi, ?_⟩
  show foldS (txt (shUs s (us s))) (uFrom (txt (shUs s (us s))) (txt (shown s)).size 0) _ = _
  rw [h2, uFrom_end _ _ _ (by rw [txt_size]; omega), foldS]
theorem read_back (s : ByteArray) : rdTxt (txt (shown s)) (readO (txt (shown s))) = s.data.toList ∧ rdErr (txt (shown s)) (readO (txt (shown s))) = 0 ∧ rdPl (txt (shown s)) (readO (txt (shown s))) = 0 := by
  obtain ⟨bg, hi, e⟩ := read_shown s
  have hs : shown (txt s.data.toList) = (txt (shown s)).data.toList := by rw [txt_list]; rfl
  rw [e]
  refine ⟨?_, ?_, ?_⟩
  · rw [rdTxt, if_pos ⟨rfl, hs⟩]
  · rw [rdErr, if_neg (by simp), if_pos hs]
  · rw [rdPl, if_neg (by simp), if_pos hs]
/-- What Read tells is shown as it was. -/
theorem shown_read (s : ByteArray) (h : rdErr s (readO s) = 0) : txt (shown (txt (rdTxt s (readO s)))) = s := by
  rcases ho : readO s with x | e
  · rw [ho] at h
    rw [rdErr] at h
    split at h
    · cases h
    · rename_i hst
      have hst' : x.st = 0 := by simpa using hst
      split at h
      · rename_i hs
        rw [rdTxt, if_pos ⟨hst', hs⟩, hs, txt_list]
      · cases h
  · rw [ho] at h
    exfalso
    have key : ∀ (l : List (Nat × Int)) (x : Rs), foldS s l x = .inr e → e.1 ≠ 0 := fun l => by
      induction l with
      | nil => intro x hx; simp [foldS] at hx
      | cons u t ih =>
        intro x hx
        rw [foldS] at hx
        split at hx
        · exact ih _ hx
        · rename_i hte
          cases hx
          exact takeS_err hte
    exact key _ _ ho h
end Go.Proofs.YtihmnibopeljaabDoor
