/-
  A token that is a character; a token. (mk12.py writes it.) What is caught at the face. Tokens stand one behind the other: mathematics. Lists of tokens in memory.
-/
import Derived.Test.YtloeajhmmjdlgaaGreatDoorC17
import Derived.Recover
import Derived.Test.YtloeajhmmjdlgaaGreatDoorC1
namespace Go.Proofs.YtloeajhmmjdlgaaGreatDoor
open Go Go.RowKit
attribute [local go_sem] ext_cell

def chrT (m : Md) (r : Rs (Int × Nat)) : Rs (Tk × Nat) := match r with
  | .error e => .error e
  | .ok (c, q) => .ok (setT m [(c, c)] false, q)

set_option maxRecDepth 100000 in
set_option maxHeartbeats 4000000 in
theorem token_chr42 {w : World} {b : Nat} {s : ByteArray} {m : Md} {p last : Nat} {tv : Value} (hG : Glb w) (h : RD w b s m p tv) (hk : LK w b tv last) (hb : 2 < b) (hp : p < s.size) (hs : s.size ≤ 2000) (hx : bt s p = 42) (hbeg : atBeg last = true) :
    Calls Tryz.prog 13 #[.pointer (some ⟨b, 0, none⟩)] w (Outs w b s m tv (TkAt w.heap.size) (chrT m (chr m s p))) := by
  have lb := h.lt
  have HX := And.intro hb hs
  clear HX
  have hbz : ¬ b = w.heap.size := by omega
  have hzb : ¬ w.heap.size = b := by omega
  have w1 : IntKind.wrap .i64 ((p : Int) + 1) = (p : Int) + 1 := wrap_small _ (by omega) (by omega)
  have W1 : Hid (Below w.heap.size w (w.alloc tokZ)) := (Below.refl _ _).alloc (Nat.le_refl _) _
  have H : Hid (RD w b s m p tv) := h
  have K : Hid (LK w b tv last) := hk
  have GL : Hid (Glb w) := hG
  clear h hk hG
  have e92 : sees s p [92] = false := by rw [sees_dec hp]; simp [hx]
  have S92 : Hid (∀ W, Below w.heap.size w W → Calls Tryz.prog 25 #[.pointer (some ⟨b, 0, none⟩), .string ⟨#[92]⟩] W fun e w' => e = .returned (.bool false) ∧ Below W.heap.size W w') := fun W hW => by have := sees_c (H.out.kept hW) (Nat.le_of_lt hp) ⟨#[92]⟩; rw [show sees s p (ByteArray.data ⟨#[92]⟩).toList = false from e92] at this; exact this
  have e42 : sees s p [42] = true := by rw [sees_dec hp]; simp [hx]
  have S42 : Hid (∀ W, Below w.heap.size w W → Calls Tryz.prog 25 #[.pointer (some ⟨b, 0, none⟩), .string ⟨#[42]⟩] W fun e w' => e = .returned (.bool true) ∧ Below W.heap.size W w') := fun W hW => by have := sees_c (H.out.kept hW) (Nat.le_of_lt hp) ⟨#[42]⟩; rw [show sees s p (ByteArray.data ⟨#[42]⟩).toList = true from e42] at this; exact this
  have HB : Hid (∀ W, Below w.heap.size w W → Calls Tryz.prog 27 #[.pointer (some ⟨b, 0, none⟩)] W fun e w' => e = .returned (.bool true) ∧ Below W.heap.size W w') := fun W hW => by have := atBeg_c (H.out.kept hW) (K.out.kept hW); rw [hbeg] at this; exact this
  have e94 : sees s p [94] = false := by rw [sees_dec hp]; simp [hx]
  have S94 : Hid (∀ W, Below w.heap.size w W → Calls Tryz.prog 25 #[.pointer (some ⟨b, 0, none⟩), .string ⟨#[94]⟩] W fun e w' => e = .returned (.bool false) ∧ Below W.heap.size W w') := fun W hW => by have := sees_c (H.out.kept hW) (Nat.le_of_lt hp) ⟨#[94]⟩; rw [show sees s p (ByteArray.data ⟨#[94]⟩).toList = false from e94] at this; exact this
  have e36 : sees s p [36] = false := by rw [sees_dec hp]; simp [hx]
  have S36 : Hid (∀ W, Below w.heap.size w W → Calls Tryz.prog 25 #[.pointer (some ⟨b, 0, none⟩), .string ⟨#[36]⟩] W fun e w' => e = .returned (.bool false) ∧ Below W.heap.size W w') := fun W hW => by have := sees_c (H.out.kept hW) (Nat.le_of_lt hp) ⟨#[36]⟩; rw [show sees s p (ByteArray.data ⟨#[36]⟩).toList = false from e36] at this; exact this
  have e46 : sees s p [46] = false := by rw [sees_dec hp]; simp [hx]
  have S46 : Hid (∀ W, Below w.heap.size w W → Calls Tryz.prog 25 #[.pointer (some ⟨b, 0, none⟩), .string ⟨#[46]⟩] W fun e w' => e = .returned (.bool false) ∧ Below W.heap.size W w') := fun W hW => by have := sees_c (H.out.kept hW) (Nat.le_of_lt hp) ⟨#[46]⟩; rw [show sees s p (ByteArray.data ⟨#[46]⟩).toList = false from e46] at this; exact this
  have e91 : sees s p [91] = false := by rw [sees_dec hp]; simp [hx]
  have S91 : Hid (∀ W, Below w.heap.size w W → Calls Tryz.prog 25 #[.pointer (some ⟨b, 0, none⟩), .string ⟨#[91]⟩] W fun e w' => e = .returned (.bool false) ∧ Below W.heap.size W w') := fun W hW => by have := sees_c (H.out.kept hW) (Nat.le_of_lt hp) ⟨#[91]⟩; rw [show sees s p (ByteArray.data ⟨#[91]⟩).toList = false from e91] at this; exact this
  cases hr : chr m s p with
  | error x =>
    rw [chr_ascii m (by omega)] at hr; cases hr
  | ok x =>
    obtain ⟨c, qq⟩ := x
    have hfit := chr_le hr
    change Calls Tryz.prog 13 #[.pointer (some ⟨b, 0, none⟩)] w (Outs w b s m tv (TkAt w.heap.size) (.ok (setT m [(c, c)] false, qq)))
    go_enter Tryz.func13, Tryz.ntmps13
    go_wp2_with first
      | (go_at_call 25; (with_reducible refine (S92.out _ W1.out).mono ?_); rintro e w20 ⟨rfl, h1⟩; have X20 : Hid (Below w.heap.size w w20 ∧ TZ w20 w.heap.size) := ⟨chain W1.out h1 (Nat.le_refl _), (TZ.new w).kept h1 (lt_of_heap (TZ.new w))⟩; clear h1; have c3_20 := (H.out.kept X20.out.1).c3)
      | (go_at_call 25; (with_reducible refine (S42.out _ X20.out.1).mono ?_); rintro e w21 ⟨rfl, h1⟩; have X21 : Hid (Below w.heap.size w w21 ∧ TZ w21 w.heap.size) := ⟨chain X20.out.1 h1 (Nat.le_refl _), X20.out.2.kept h1 (lt_of_heap X20.out.2)⟩; clear h1; have c3_21 := (H.out.kept X21.out.1).c3)
      | (go_at_call 27; (with_reducible refine (HB.out _ X21.out.1).mono ?_); rintro e w22 ⟨rfl, h1⟩; have X22 : Hid (Below w.heap.size w w22 ∧ TZ w22 w.heap.size) := ⟨chain X21.out.1 h1 (Nat.le_refl _), X21.out.2.kept h1 (lt_of_heap X21.out.2)⟩; clear h1; have c3_22 := (H.out.kept X22.out.1).c3)
      | (go_at_call 25; (with_reducible refine (S94.out _ X22.out.1).mono ?_); rintro e w23 ⟨rfl, h1⟩; have X23 : Hid (Below w.heap.size w w23 ∧ TZ w23 w.heap.size) := ⟨chain X22.out.1 h1 (Nat.le_refl _), X22.out.2.kept h1 (lt_of_heap X22.out.2)⟩; clear h1; have c3_23 := (H.out.kept X23.out.1).c3)
      | (go_at_call 25; (with_reducible refine (S36.out _ X23.out.1).mono ?_); rintro e w24 ⟨rfl, h1⟩; have X24 : Hid (Below w.heap.size w w24 ∧ TZ w24 w.heap.size) := ⟨chain X23.out.1 h1 (Nat.le_refl _), X23.out.2.kept h1 (lt_of_heap X23.out.2)⟩; clear h1; have c3_24 := (H.out.kept X24.out.1).c3)
      | (go_at_call 25; (with_reducible refine (S46.out _ X24.out.1).mono ?_); rintro e w25 ⟨rfl, h1⟩; have X25 : Hid (Below w.heap.size w w25 ∧ TZ w25 w.heap.size) := ⟨chain X24.out.1 h1 (Nat.le_refl _), X24.out.2.kept h1 (lt_of_heap X24.out.2)⟩; clear h1; have c3_25 := (H.out.kept X25.out.1).c3)
      | (go_at_call 25; (with_reducible refine (S91.out _ X25.out.1).mono ?_); rintro e w26 ⟨rfl, h1⟩; have X26 : Hid (Below w.heap.size w w26 ∧ TZ w26 w.heap.size) := ⟨chain X25.out.1 h1 (Nat.le_refl _), X25.out.2.kept h1 (lt_of_heap X25.out.2)⟩; clear h1; have c3_26 := (H.out.kept X26.out.1).c3)
      | (go_at_call 34; have hih := character_c (GL.out.kept X26.out.1) (H.out.kept X26.out.1) hp hs; rw [hr] at hih; (with_reducible refine hih.mono ?_); clear hih; rintro e w9 ⟨h1, v9, rfl, h2, rfl⟩; have X9 : Hid (RD w9 b s m qq tv ∧ Fr (At b) w w9 ∧ TZ w9 w.heap.size) := ⟨h2, (Fr.of_below X26.out.1).trans h1, X26.out.2.fr h1 (by intro q; have : w.heap.size = b := q; omega)⟩; clear h1 h2)
      | (go_at_call 33; refine (lone_c c _).mono ?_; rintro e w6 ⟨v6, rfl, h6, h7⟩; obtain ⟨q6, k6, rfl⟩ := h6.shape; have X6 : Hid (RD w6 b s m qq tv ∧ Fr (At b) w w6 ∧ TZ w6 w.heap.size ∧ ArgR w6 (.slice q6 1 k6) [(c, c)] ∧ w.heap.size < w6.heap.size) := ⟨X9.out.1.kept h7, X9.out.2.1.then h7, X9.out.2.2.kept h7 (lt_of_heap X9.out.2.2), h6.arg, lt_of_heap (X9.out.2.2.kept h7 (lt_of_heap X9.out.2.2))⟩; clear h6 h7)
      | (go_at_call 31; refine (set_c X6.out.1 X6.out.2.2.2.1 (fit_two hfit hfit) (by simp) false).mono ?_; rintro e w8 ⟨v8, he, ⟨rv, C, hv, h5, h6⟩, h4⟩; obtain ⟨q8, k8, hsh⟩ := h5.shape; rw [tkV_set] at hv; subst hsh; subst hv; subst he; have X8 : Hid (RD w8 b s m qq tv ∧ Fr (At b) w w8 ∧ TZ w8 w.heap.size ∧ (∃ base, w.heap.size < base ∧ RR base w8 (.slice q8 C.length k8) C) ∧ IsC C (setQ m [(c, c)] false)) := ⟨X6.out.1.kept h4, X6.out.2.1.then h4, X6.out.2.2.1.kept h4 (lt_of_heap X6.out.2.2.1), ⟨_, X6.out.2.2.2.2, h5⟩, h6⟩; obtain ⟨z0, z1, z2, z3, z4, z5, z6, y0, y1, y2, y3, y4, y5, y6⟩ := X8.out.2.2.1.all; clear h4 h5 h6)
    obtain ⟨bs, hbs, hrr⟩ := X8.out.2.2.2.1
    refine bodyPost_ret (v := tkV (setT m [(c, c)] false) 0 0 (.slice q8 C.length k8)) (by obtain ⟨e0, e1, e2, e3, e4, e5, e6⟩ := put7_cells X8.out.2.2.1 (.int .i64 1) (.int .i64 0) (.int .i64 0) (.int .i64 0) (.int .i64 0) (.int .i64 0) (.slice q8 C.length k8); simp [results, Tryz.results13, go_sem, tkV, setT, e0, e1, e2, e3, e4, e5, e6]) rfl ?_
    exact .is (fr7 X8.out.2.1 (.inr (Nat.le_refl _)) _ _ _ _ _ _ _) (RD.fr (S := fun k => k = w.heap.size) X8.out.1 (fr7 (S := fun k => k = w.heap.size) (Fr.refl _ _) (.inl rfl) _ _ _ _ _ _ _) (by omega)) ⟨_, C, rfl, RR.mono (rr7 hrr hbs _ _ _ _ _ _ _) (Nat.le_of_lt hbs), X8.out.2.2.2.2⟩

set_option maxRecDepth 100000 in
set_option maxHeartbeats 4000000 in
theorem token_chr94 {w : World} {b : Nat} {s : ByteArray} {m : Md} {p last : Nat} {tv : Value} (hG : Glb w) (h : RD w b s m p tv) (hk : LK w b tv last) (hb : 2 < b) (hp : p < s.size) (hs : s.size ≤ 2000) (hx : bt s p = 94) (hp0 : ¬ p = 0) (hl3 : ¬ last = 3) (hl5 : ¬ last = 5) :
    Calls Tryz.prog 13 #[.pointer (some ⟨b, 0, none⟩)] w (Outs w b s m tv (TkAt w.heap.size) (chrT m (chr m s p))) := by
  have lb := h.lt
  have HX := And.intro hb hs
  clear HX
  have hbz : ¬ b = w.heap.size := by omega
  have hzb : ¬ w.heap.size = b := by omega
  have w1 : IntKind.wrap .i64 ((p : Int) + 1) = (p : Int) + 1 := wrap_small _ (by omega) (by omega)
  have W1 : Hid (Below w.heap.size w (w.alloc tokZ)) := (Below.refl _ _).alloc (Nat.le_refl _) _
  have H : Hid (RD w b s m p tv) := h
  have K : Hid (LK w b tv last) := hk
  have GL : Hid (Glb w) := hG
  clear h hk hG
  have e92 : sees s p [92] = false := by rw [sees_dec hp]; simp [hx]
  have S92 : Hid (∀ W, Below w.heap.size w W → Calls Tryz.prog 25 #[.pointer (some ⟨b, 0, none⟩), .string ⟨#[92]⟩] W fun e w' => e = .returned (.bool false) ∧ Below W.heap.size W w') := fun W hW => by have := sees_c (H.out.kept hW) (Nat.le_of_lt hp) ⟨#[92]⟩; rw [show sees s p (ByteArray.data ⟨#[92]⟩).toList = false from e92] at this; exact this
  have e42 : sees s p [42] = false := by rw [sees_dec hp]; simp [hx]
  have S42 : Hid (∀ W, Below w.heap.size w W → Calls Tryz.prog 25 #[.pointer (some ⟨b, 0, none⟩), .string ⟨#[42]⟩] W fun e w' => e = .returned (.bool false) ∧ Below W.heap.size W w') := fun W hW => by have := sees_c (H.out.kept hW) (Nat.le_of_lt hp) ⟨#[42]⟩; rw [show sees s p (ByteArray.data ⟨#[42]⟩).toList = false from e42] at this; exact this
  have e94 : sees s p [94] = true := by rw [sees_dec hp]; simp [hx]
  have S94 : Hid (∀ W, Below w.heap.size w W → Calls Tryz.prog 25 #[.pointer (some ⟨b, 0, none⟩), .string ⟨#[94]⟩] W fun e w' => e = .returned (.bool true) ∧ Below W.heap.size W w') := fun W hW => by have := sees_c (H.out.kept hW) (Nat.le_of_lt hp) ⟨#[94]⟩; rw [show sees s p (ByteArray.data ⟨#[94]⟩).toList = true from e94] at this; exact this
  have d0 : ((p : Int) == 0) = false := by simp; omega
  have B3 : Hid (∀ W, Below w.heap.size w W → Calls Tryz.prog 29 #[.pointer (some ⟨b, 0, none⟩), .int .i64 3] W fun e w' => e = .returned (.bool false) ∧ Below W.heap.size W w') := fun W hW => by have := behind_c (H.out.kept hW) (K.out.kept hW) 3 (by omega); rw [show decide ((last : Int) = 3) = false from decide_eq_false (by omega)] at this; exact this
  have B5 : Hid (∀ W, Below w.heap.size w W → Calls Tryz.prog 29 #[.pointer (some ⟨b, 0, none⟩), .int .i64 5] W fun e w' => e = .returned (.bool false) ∧ Below W.heap.size W w') := fun W hW => by have := behind_c (H.out.kept hW) (K.out.kept hW) 5 (by omega); rw [show decide ((last : Int) = 5) = false from decide_eq_false (by omega)] at this; exact this
  have e36 : sees s p [36] = false := by rw [sees_dec hp]; simp [hx]
  have S36 : Hid (∀ W, Below w.heap.size w W → Calls Tryz.prog 25 #[.pointer (some ⟨b, 0, none⟩), .string ⟨#[36]⟩] W fun e w' => e = .returned (.bool false) ∧ Below W.heap.size W w') := fun W hW => by have := sees_c (H.out.kept hW) (Nat.le_of_lt hp) ⟨#[36]⟩; rw [show sees s p (ByteArray.data ⟨#[36]⟩).toList = false from e36] at this; exact this
  have e46 : sees s p [46] = false := by rw [sees_dec hp]; simp [hx]
  have S46 : Hid (∀ W, Below w.heap.size w W → Calls Tryz.prog 25 #[.pointer (some ⟨b, 0, none⟩), .string ⟨#[46]⟩] W fun e w' => e = .returned (.bool false) ∧ Below W.heap.size W w') := fun W hW => by have := sees_c (H.out.kept hW) (Nat.le_of_lt hp) ⟨#[46]⟩; rw [show sees s p (ByteArray.data ⟨#[46]⟩).toList = false from e46] at this; exact this
  have e91 : sees s p [91] = false := by rw [sees_dec hp]; simp [hx]
  have S91 : Hid (∀ W, Below w.heap.size w W → Calls Tryz.prog 25 #[.pointer (some ⟨b, 0, none⟩), .string ⟨#[91]⟩] W fun e w' => e = .returned (.bool false) ∧ Below W.heap.size W w') := fun W hW => by have := sees_c (H.out.kept hW) (Nat.le_of_lt hp) ⟨#[91]⟩; rw [show sees s p (ByteArray.data ⟨#[91]⟩).toList = false from e91] at this; exact this
  cases hr : chr m s p with
  | error x =>
    rw [chr_ascii m (by omega)] at hr; cases hr
  | ok x =>
    obtain ⟨c, qq⟩ := x
    have hfit := chr_le hr
    change Calls Tryz.prog 13 #[.pointer (some ⟨b, 0, none⟩)] w (Outs w b s m tv (TkAt w.heap.size) (.ok (setT m [(c, c)] false, qq)))
    go_enter Tryz.func13, Tryz.ntmps13
    go_wp2_with first
      | (go_at_call 25; (with_reducible refine (S92.out _ W1.out).mono ?_); rintro e w20 ⟨rfl, h1⟩; have X20 : Hid (Below w.heap.size w w20 ∧ TZ w20 w.heap.size) := ⟨chain W1.out h1 (Nat.le_refl _), (TZ.new w).kept h1 (lt_of_heap (TZ.new w))⟩; clear h1; have c3_20 := (H.out.kept X20.out.1).c3)
      | (go_at_call 25; (with_reducible refine (S42.out _ X20.out.1).mono ?_); rintro e w21 ⟨rfl, h1⟩; have X21 : Hid (Below w.heap.size w w21 ∧ TZ w21 w.heap.size) := ⟨chain X20.out.1 h1 (Nat.le_refl _), X20.out.2.kept h1 (lt_of_heap X20.out.2)⟩; clear h1; have c3_21 := (H.out.kept X21.out.1).c3)
      | (go_at_call 25; (with_reducible refine (S94.out _ X21.out.1).mono ?_); rintro e w22 ⟨rfl, h1⟩; have X22 : Hid (Below w.heap.size w w22 ∧ TZ w22 w.heap.size) := ⟨chain X21.out.1 h1 (Nat.le_refl _), X21.out.2.kept h1 (lt_of_heap X21.out.2)⟩; clear h1; have c3_22 := (H.out.kept X22.out.1).c3)
      | (go_at_call 29; (with_reducible refine (B3.out _ X22.out.1).mono ?_); rintro e w23 ⟨rfl, h1⟩; have X23 : Hid (Below w.heap.size w w23 ∧ TZ w23 w.heap.size) := ⟨chain X22.out.1 h1 (Nat.le_refl _), X22.out.2.kept h1 (lt_of_heap X22.out.2)⟩; clear h1; have c3_23 := (H.out.kept X23.out.1).c3)
      | (go_at_call 29; (with_reducible refine (B5.out _ X23.out.1).mono ?_); rintro e w24 ⟨rfl, h1⟩; have X24 : Hid (Below w.heap.size w w24 ∧ TZ w24 w.heap.size) := ⟨chain X23.out.1 h1 (Nat.le_refl _), X23.out.2.kept h1 (lt_of_heap X23.out.2)⟩; clear h1; have c3_24 := (H.out.kept X24.out.1).c3)
      | (go_at_call 25; (with_reducible refine (S36.out _ X24.out.1).mono ?_); rintro e w25 ⟨rfl, h1⟩; have X25 : Hid (Below w.heap.size w w25 ∧ TZ w25 w.heap.size) := ⟨chain X24.out.1 h1 (Nat.le_refl _), X24.out.2.kept h1 (lt_of_heap X24.out.2)⟩; clear h1; have c3_25 := (H.out.kept X25.out.1).c3)
      | (go_at_call 25; (with_reducible refine (S46.out _ X25.out.1).mono ?_); rintro e w26 ⟨rfl, h1⟩; have X26 : Hid (Below w.heap.size w w26 ∧ TZ w26 w.heap.size) := ⟨chain X25.out.1 h1 (Nat.le_refl _), X25.out.2.kept h1 (lt_of_heap X25.out.2)⟩; clear h1; have c3_26 := (H.out.kept X26.out.1).c3)
      | (go_at_call 25; (with_reducible refine (S91.out _ X26.out.1).mono ?_); rintro e w27 ⟨rfl, h1⟩; have X27 : Hid (Below w.heap.size w w27 ∧ TZ w27 w.heap.size) := ⟨chain X26.out.1 h1 (Nat.le_refl _), X26.out.2.kept h1 (lt_of_heap X26.out.2)⟩; clear h1; have c3_27 := (H.out.kept X27.out.1).c3)
      | (go_at_call 34; have hih := character_c (GL.out.kept X27.out.1) (H.out.kept X27.out.1) hp hs; rw [hr] at hih; (with_reducible refine hih.mono ?_); clear hih; rintro e w9 ⟨h1, v9, rfl, h2, rfl⟩; have X9 : Hid (RD w9 b s m qq tv ∧ Fr (At b) w w9 ∧ TZ w9 w.heap.size) := ⟨h2, (Fr.of_below X27.out.1).trans h1, X27.out.2.fr h1 (by intro q; have : w.heap.size = b := q; omega)⟩; clear h1 h2)
      | (go_at_call 33; refine (lone_c c _).mono ?_; rintro e w6 ⟨v6, rfl, h6, h7⟩; obtain ⟨q6, k6, rfl⟩ := h6.shape; have X6 : Hid (RD w6 b s m qq tv ∧ Fr (At b) w w6 ∧ TZ w6 w.heap.size ∧ ArgR w6 (.slice q6 1 k6) [(c, c)] ∧ w.heap.size < w6.heap.size) := ⟨X9.out.1.kept h7, X9.out.2.1.then h7, X9.out.2.2.kept h7 (lt_of_heap X9.out.2.2), h6.arg, lt_of_heap (X9.out.2.2.kept h7 (lt_of_heap X9.out.2.2))⟩; clear h6 h7)
      | (go_at_call 31; refine (set_c X6.out.1 X6.out.2.2.2.1 (fit_two hfit hfit) (by simp) false).mono ?_; rintro e w8 ⟨v8, he, ⟨rv, C, hv, h5, h6⟩, h4⟩; obtain ⟨q8, k8, hsh⟩ := h5.shape; rw [tkV_set] at hv; subst hsh; subst hv; subst he; have X8 : Hid (RD w8 b s m qq tv ∧ Fr (At b) w w8 ∧ TZ w8 w.heap.size ∧ (∃ base, w.heap.size < base ∧ RR base w8 (.slice q8 C.length k8) C) ∧ IsC C (setQ m [(c, c)] false)) := ⟨X6.out.1.kept h4, X6.out.2.1.then h4, X6.out.2.2.1.kept h4 (lt_of_heap X6.out.2.2.1), ⟨_, X6.out.2.2.2.2, h5⟩, h6⟩; obtain ⟨z0, z1, z2, z3, z4, z5, z6, y0, y1, y2, y3, y4, y5, y6⟩ := X8.out.2.2.1.all; clear h4 h5 h6)
    obtain ⟨bs, hbs, hrr⟩ := X8.out.2.2.2.1
    refine bodyPost_ret (v := tkV (setT m [(c, c)] false) 0 0 (.slice q8 C.length k8)) (by obtain ⟨e0, e1, e2, e3, e4, e5, e6⟩ := put7_cells X8.out.2.2.1 (.int .i64 1) (.int .i64 0) (.int .i64 0) (.int .i64 0) (.int .i64 0) (.int .i64 0) (.slice q8 C.length k8); simp [results, Tryz.results13, go_sem, tkV, setT, e0, e1, e2, e3, e4, e5, e6]) rfl ?_
    exact .is (fr7 X8.out.2.1 (.inr (Nat.le_refl _)) _ _ _ _ _ _ _) (RD.fr (S := fun k => k = w.heap.size) X8.out.1 (fr7 (S := fun k => k = w.heap.size) (Fr.refl _ _) (.inl rfl) _ _ _ _ _ _ _) (by omega)) ⟨_, C, rfl, RR.mono (rr7 hrr hbs _ _ _ _ _ _ _) (Nat.le_of_lt hbs), X8.out.2.2.2.2⟩

set_option maxRecDepth 100000 in
set_option maxHeartbeats 4000000 in
theorem token_chr36 {w : World} {b : Nat} {s : ByteArray} {m : Md} {p last : Nat} {tv : Value} (hG : Glb w) (h : RD w b s m p tv) (hk : LK w b tv last) (hb : 2 < b) (hp : p < s.size) (hs : s.size ≤ 2000) (hx : bt s p = 36) (hend : endsB s p = false) :
    Calls Tryz.prog 13 #[.pointer (some ⟨b, 0, none⟩)] w (Outs w b s m tv (TkAt w.heap.size) (chrT m (chr m s p))) := by
  have lb := h.lt
  have HX := And.intro hb hs
  clear HX
  have hbz : ¬ b = w.heap.size := by omega
  have hzb : ¬ w.heap.size = b := by omega
  have w1 : IntKind.wrap .i64 ((p : Int) + 1) = (p : Int) + 1 := wrap_small _ (by omega) (by omega)
  have W1 : Hid (Below w.heap.size w (w.alloc tokZ)) := (Below.refl _ _).alloc (Nat.le_refl _) _
  have H : Hid (RD w b s m p tv) := h
  have K : Hid (LK w b tv last) := hk
  have GL : Hid (Glb w) := hG
  clear h hk hG
  have e92 : sees s p [92] = false := by rw [sees_dec hp]; simp [hx]
  have S92 : Hid (∀ W, Below w.heap.size w W → Calls Tryz.prog 25 #[.pointer (some ⟨b, 0, none⟩), .string ⟨#[92]⟩] W fun e w' => e = .returned (.bool false) ∧ Below W.heap.size W w') := fun W hW => by have := sees_c (H.out.kept hW) (Nat.le_of_lt hp) ⟨#[92]⟩; rw [show sees s p (ByteArray.data ⟨#[92]⟩).toList = false from e92] at this; exact this
  have e42 : sees s p [42] = false := by rw [sees_dec hp]; simp [hx]
  have S42 : Hid (∀ W, Below w.heap.size w W → Calls Tryz.prog 25 #[.pointer (some ⟨b, 0, none⟩), .string ⟨#[42]⟩] W fun e w' => e = .returned (.bool false) ∧ Below W.heap.size W w') := fun W hW => by have := sees_c (H.out.kept hW) (Nat.le_of_lt hp) ⟨#[42]⟩; rw [show sees s p (ByteArray.data ⟨#[42]⟩).toList = false from e42] at this; exact this
  have e94 : sees s p [94] = false := by rw [sees_dec hp]; simp [hx]
  have S94 : Hid (∀ W, Below w.heap.size w W → Calls Tryz.prog 25 #[.pointer (some ⟨b, 0, none⟩), .string ⟨#[94]⟩] W fun e w' => e = .returned (.bool false) ∧ Below W.heap.size W w') := fun W hW => by have := sees_c (H.out.kept hW) (Nat.le_of_lt hp) ⟨#[94]⟩; rw [show sees s p (ByteArray.data ⟨#[94]⟩).toList = false from e94] at this; exact this
  have e36 : sees s p [36] = true := by rw [sees_dec hp]; simp [hx]
  have S36 : Hid (∀ W, Below w.heap.size w W → Calls Tryz.prog 25 #[.pointer (some ⟨b, 0, none⟩), .string ⟨#[36]⟩] W fun e w' => e = .returned (.bool true) ∧ Below W.heap.size W w') := fun W hW => by have := sees_c (H.out.kept hW) (Nat.le_of_lt hp) ⟨#[36]⟩; rw [show sees s p (ByteArray.data ⟨#[36]⟩).toList = true from e36] at this; exact this
  have HE : Hid (∀ W, Below w.heap.size w W → Calls Tryz.prog 30 #[.pointer (some ⟨b, 0, none⟩)] W fun e w' => e = .returned (.bool false) ∧ Below W.heap.size W w') := fun W hW => by have := ends_c (H.out.kept hW) hp hs; rw [hend] at this; exact this
  have e46 : sees s p [46] = false := by rw [sees_dec hp]; simp [hx]
  have S46 : Hid (∀ W, Below w.heap.size w W → Calls Tryz.prog 25 #[.pointer (some ⟨b, 0, none⟩), .string ⟨#[46]⟩] W fun e w' => e = .returned (.bool false) ∧ Below W.heap.size W w') := fun W hW => by have := sees_c (H.out.kept hW) (Nat.le_of_lt hp) ⟨#[46]⟩; rw [show sees s p (ByteArray.data ⟨#[46]⟩).toList = false from e46] at this; exact this
  have e91 : sees s p [91] = false := by rw [sees_dec hp]; simp [hx]
  have S91 : Hid (∀ W, Below w.heap.size w W → Calls Tryz.prog 25 #[.pointer (some ⟨b, 0, none⟩), .string ⟨#[91]⟩] W fun e w' => e = .returned (.bool false) ∧ Below W.heap.size W w') := fun W hW => by have := sees_c (H.out.kept hW) (Nat.le_of_lt hp) ⟨#[91]⟩; rw [show sees s p (ByteArray.data ⟨#[91]⟩).toList = false from e91] at this; exact this
  cases hr : chr m s p with
  | error x =>
    rw [chr_ascii m (by omega)] at hr; cases hr
  | ok x =>
    obtain ⟨c, qq⟩ := x
    have hfit := chr_le hr
    change Calls Tryz.prog 13 #[.pointer (some ⟨b, 0, none⟩)] w (Outs w b s m tv (TkAt w.heap.size) (.ok (setT m [(c, c)] false, qq)))
    go_enter Tryz.func13, Tryz.ntmps13
    go_wp2_with first
      | (go_at_call 25; (with_reducible refine (S92.out _ W1.out).mono ?_); rintro e w20 ⟨rfl, h1⟩; have X20 : Hid (Below w.heap.size w w20 ∧ TZ w20 w.heap.size) := ⟨chain W1.out h1 (Nat.le_refl _), (TZ.new w).kept h1 (lt_of_heap (TZ.new w))⟩; clear h1; have c3_20 := (H.out.kept X20.out.1).c3)
      | (go_at_call 25; (with_reducible refine (S42.out _ X20.out.1).mono ?_); rintro e w21 ⟨rfl, h1⟩; have X21 : Hid (Below w.heap.size w w21 ∧ TZ w21 w.heap.size) := ⟨chain X20.out.1 h1 (Nat.le_refl _), X20.out.2.kept h1 (lt_of_heap X20.out.2)⟩; clear h1; have c3_21 := (H.out.kept X21.out.1).c3)
      | (go_at_call 25; (with_reducible refine (S94.out _ X21.out.1).mono ?_); rintro e w22 ⟨rfl, h1⟩; have X22 : Hid (Below w.heap.size w w22 ∧ TZ w22 w.heap.size) := ⟨chain X21.out.1 h1 (Nat.le_refl _), X21.out.2.kept h1 (lt_of_heap X21.out.2)⟩; clear h1; have c3_22 := (H.out.kept X22.out.1).c3)
      | (go_at_call 25; (with_reducible refine (S36.out _ X22.out.1).mono ?_); rintro e w23 ⟨rfl, h1⟩; have X23 : Hid (Below w.heap.size w w23 ∧ TZ w23 w.heap.size) := ⟨chain X22.out.1 h1 (Nat.le_refl _), X22.out.2.kept h1 (lt_of_heap X22.out.2)⟩; clear h1; have c3_23 := (H.out.kept X23.out.1).c3)
      | (go_at_call 30; (with_reducible refine (HE.out _ X23.out.1).mono ?_); rintro e w24 ⟨rfl, h1⟩; have X24 : Hid (Below w.heap.size w w24 ∧ TZ w24 w.heap.size) := ⟨chain X23.out.1 h1 (Nat.le_refl _), X23.out.2.kept h1 (lt_of_heap X23.out.2)⟩; clear h1; have c3_24 := (H.out.kept X24.out.1).c3)
      | (go_at_call 25; (with_reducible refine (S46.out _ X24.out.1).mono ?_); rintro e w25 ⟨rfl, h1⟩; have X25 : Hid (Below w.heap.size w w25 ∧ TZ w25 w.heap.size) := ⟨chain X24.out.1 h1 (Nat.le_refl _), X24.out.2.kept h1 (lt_of_heap X24.out.2)⟩; clear h1; have c3_25 := (H.out.kept X25.out.1).c3)
      | (go_at_call 25; (with_reducible refine (S91.out _ X25.out.1).mono ?_); rintro e w26 ⟨rfl, h1⟩; have X26 : Hid (Below w.heap.size w w26 ∧ TZ w26 w.heap.size) := ⟨chain X25.out.1 h1 (Nat.le_refl _), X25.out.2.kept h1 (lt_of_heap X25.out.2)⟩; clear h1; have c3_26 := (H.out.kept X26.out.1).c3)
      | (go_at_call 34; have hih := character_c (GL.out.kept X26.out.1) (H.out.kept X26.out.1) hp hs; rw [hr] at hih; (with_reducible refine hih.mono ?_); clear hih; rintro e w9 ⟨h1, v9, rfl, h2, rfl⟩; have X9 : Hid (RD w9 b s m qq tv ∧ Fr (At b) w w9 ∧ TZ w9 w.heap.size) := ⟨h2, (Fr.of_below X26.out.1).trans h1, X26.out.2.fr h1 (by intro q; have : w.heap.size = b := q; omega)⟩; clear h1 h2)
      | (go_at_call 33; refine (lone_c c _).mono ?_; rintro e w6 ⟨v6, rfl, h6, h7⟩; obtain ⟨q6, k6, rfl⟩ := h6.shape; have X6 : Hid (RD w6 b s m qq tv ∧ Fr (At b) w w6 ∧ TZ w6 w.heap.size ∧ ArgR w6 (.slice q6 1 k6) [(c, c)] ∧ w.heap.size < w6.heap.size) := ⟨X9.out.1.kept h7, X9.out.2.1.then h7, X9.out.2.2.kept h7 (lt_of_heap X9.out.2.2), h6.arg, lt_of_heap (X9.out.2.2.kept h7 (lt_of_heap X9.out.2.2))⟩; clear h6 h7)
      | (go_at_call 31; refine (set_c X6.out.1 X6.out.2.2.2.1 (fit_two hfit hfit) (by simp) false).mono ?_; rintro e w8 ⟨v8, he, ⟨rv, C, hv, h5, h6⟩, h4⟩; obtain ⟨q8, k8, hsh⟩ := h5.shape; rw [tkV_set] at hv; subst hsh; subst hv; subst he; have X8 : Hid (RD w8 b s m qq tv ∧ Fr (At b) w w8 ∧ TZ w8 w.heap.size ∧ (∃ base, w.heap.size < base ∧ RR base w8 (.slice q8 C.length k8) C) ∧ IsC C (setQ m [(c, c)] false)) := ⟨X6.out.1.kept h4, X6.out.2.1.then h4, X6.out.2.2.1.kept h4 (lt_of_heap X6.out.2.2.1), ⟨_, X6.out.2.2.2.2, h5⟩, h6⟩; obtain ⟨z0, z1, z2, z3, z4, z5, z6, y0, y1, y2, y3, y4, y5, y6⟩ := X8.out.2.2.1.all; clear h4 h5 h6)
    obtain ⟨bs, hbs, hrr⟩ := X8.out.2.2.2.1
    refine bodyPost_ret (v := tkV (setT m [(c, c)] false) 0 0 (.slice q8 C.length k8)) (by obtain ⟨e0, e1, e2, e3, e4, e5, e6⟩ := put7_cells X8.out.2.2.1 (.int .i64 1) (.int .i64 0) (.int .i64 0) (.int .i64 0) (.int .i64 0) (.int .i64 0) (.slice q8 C.length k8); simp [results, Tryz.results13, go_sem, tkV, setT, e0, e1, e2, e3, e4, e5, e6]) rfl ?_
    exact .is (fr7 X8.out.2.1 (.inr (Nat.le_refl _)) _ _ _ _ _ _ _) (RD.fr (S := fun k => k = w.heap.size) X8.out.1 (fr7 (S := fun k => k = w.heap.size) (Fr.refl _ _) (.inl rfl) _ _ _ _ _ _ _) (by omega)) ⟨_, C, rfl, RR.mono (rr7 hrr hbs _ _ _ _ _ _ _) (Nat.le_of_lt hbs), X8.out.2.2.2.2⟩
structure Plain (x : Nat) : Prop where
  h92 : ¬ x = 92
  h42 : ¬ x = 42
  h94 : ¬ x = 94
  h36 : ¬ x = 36
  h46 : ¬ x = 46
  h91 : ¬ x = 91

set_option maxRecDepth 100000 in
set_option maxHeartbeats 4000000 in
theorem token_chr {w : World} {b : Nat} {s : ByteArray} {m : Md} {p last : Nat} {tv : Value} (hG : Glb w) (h : RD w b s m p tv) (hk : LK w b tv last) (hb : 2 < b) (hp : p < s.size) (hs : s.size ≤ 2000) (hx : Plain (bt s p)) :
    Calls Tryz.prog 13 #[.pointer (some ⟨b, 0, none⟩)] w (Outs w b s m tv (TkAt w.heap.size) (chrT m (chr m s p))) := by
  have lb := h.lt
  have HX := And.intro hb hs
  clear HX
  have hbz : ¬ b = w.heap.size := by omega
  have hzb : ¬ w.heap.size = b := by omega
  have w1 : IntKind.wrap .i64 ((p : Int) + 1) = (p : Int) + 1 := wrap_small _ (by omega) (by omega)
  have W1 : Hid (Below w.heap.size w (w.alloc tokZ)) := (Below.refl _ _).alloc (Nat.le_refl _) _
  have H : Hid (RD w b s m p tv) := h
  have K : Hid (LK w b tv last) := hk
  have GL : Hid (Glb w) := hG
  clear h hk hG
  have e92 : sees s p [92] = false := by rw [sees_dec hp]; simp [hx.h92]
  have S92 : Hid (∀ W, Below w.heap.size w W → Calls Tryz.prog 25 #[.pointer (some ⟨b, 0, none⟩), .string ⟨#[92]⟩] W fun e w' => e = .returned (.bool false) ∧ Below W.heap.size W w') := fun W hW => by have := sees_c (H.out.kept hW) (Nat.le_of_lt hp) ⟨#[92]⟩; rw [show sees s p (ByteArray.data ⟨#[92]⟩).toList = false from e92] at this; exact this
  have e42 : sees s p [42] = false := by rw [sees_dec hp]; simp [hx.h42]
  have S42 : Hid (∀ W, Below w.heap.size w W → Calls Tryz.prog 25 #[.pointer (some ⟨b, 0, none⟩), .string ⟨#[42]⟩] W fun e w' => e = .returned (.bool false) ∧ Below W.heap.size W w') := fun W hW => by have := sees_c (H.out.kept hW) (Nat.le_of_lt hp) ⟨#[42]⟩; rw [show sees s p (ByteArray.data ⟨#[42]⟩).toList = false from e42] at this; exact this
  have e94 : sees s p [94] = false := by rw [sees_dec hp]; simp [hx.h94]
  have S94 : Hid (∀ W, Below w.heap.size w W → Calls Tryz.prog 25 #[.pointer (some ⟨b, 0, none⟩), .string ⟨#[94]⟩] W fun e w' => e = .returned (.bool false) ∧ Below W.heap.size W w') := fun W hW => by have := sees_c (H.out.kept hW) (Nat.le_of_lt hp) ⟨#[94]⟩; rw [show sees s p (ByteArray.data ⟨#[94]⟩).toList = false from e94] at this; exact this
  have e36 : sees s p [36] = false := by rw [sees_dec hp]; simp [hx.h36]
  have S36 : Hid (∀ W, Below w.heap.size w W → Calls Tryz.prog 25 #[.pointer (some ⟨b, 0, none⟩), .string ⟨#[36]⟩] W fun e w' => e = .returned (.bool false) ∧ Below W.heap.size W w') := fun W hW => by have := sees_c (H.out.kept hW) (Nat.le_of_lt hp) ⟨#[36]⟩; rw [show sees s p (ByteArray.data ⟨#[36]⟩).toList = false from e36] at this; exact this
  have e46 : sees s p [46] = false := by rw [sees_dec hp]; simp [hx.h46]
  have S46 : Hid (∀ W, Below w.heap.size w W → Calls Tryz.prog 25 #[.pointer (some ⟨b, 0, none⟩), .string ⟨#[46]⟩] W fun e w' => e = .returned (.bool false) ∧ Below W.heap.size W w') := fun W hW => by have := sees_c (H.out.kept hW) (Nat.le_of_lt hp) ⟨#[46]⟩; rw [show sees s p (ByteArray.data ⟨#[46]⟩).toList = false from e46] at this; exact this
  have e91 : sees s p [91] = false := by rw [sees_dec hp]; simp [hx.h91]
  have S91 : Hid (∀ W, Below w.heap.size w W → Calls Tryz.prog 25 #[.pointer (some ⟨b, 0, none⟩), .string ⟨#[91]⟩] W fun e w' => e = .returned (.bool false) ∧ Below W.heap.size W w') := fun W hW => by have := sees_c (H.out.kept hW) (Nat.le_of_lt hp) ⟨#[91]⟩; rw [show sees s p (ByteArray.data ⟨#[91]⟩).toList = false from e91] at this; exact this
  cases hr : chr m s p with
  | error x =>
    change Calls Tryz.prog 13 #[.pointer (some ⟨b, 0, none⟩)] w (Outs w b s m tv (TkAt w.heap.size) (.error x))
    go_enter Tryz.func13, Tryz.ntmps13
    go_wp2_with first
      | (go_at_call 25; (with_reducible refine (S92.out _ W1.out).mono ?_); rintro e w20 ⟨rfl, h1⟩; have X20 : Hid (Below w.heap.size w w20 ∧ TZ w20 w.heap.size) := ⟨chain W1.out h1 (Nat.le_refl _), (TZ.new w).kept h1 (lt_of_heap (TZ.new w))⟩; clear h1; have c3_20 := (H.out.kept X20.out.1).c3)
      | (go_at_call 25; (with_reducible refine (S42.out _ X20.out.1).mono ?_); rintro e w21 ⟨rfl, h1⟩; have X21 : Hid (Below w.heap.size w w21 ∧ TZ w21 w.heap.size) := ⟨chain X20.out.1 h1 (Nat.le_refl _), X20.out.2.kept h1 (lt_of_heap X20.out.2)⟩; clear h1; have c3_21 := (H.out.kept X21.out.1).c3)
      | (go_at_call 25; (with_reducible refine (S94.out _ X21.out.1).mono ?_); rintro e w22 ⟨rfl, h1⟩; have X22 : Hid (Below w.heap.size w w22 ∧ TZ w22 w.heap.size) := ⟨chain X21.out.1 h1 (Nat.le_refl _), X21.out.2.kept h1 (lt_of_heap X21.out.2)⟩; clear h1; have c3_22 := (H.out.kept X22.out.1).c3)
      | (go_at_call 25; (with_reducible refine (S36.out _ X22.out.1).mono ?_); rintro e w23 ⟨rfl, h1⟩; have X23 : Hid (Below w.heap.size w w23 ∧ TZ w23 w.heap.size) := ⟨chain X22.out.1 h1 (Nat.le_refl _), X22.out.2.kept h1 (lt_of_heap X22.out.2)⟩; clear h1; have c3_23 := (H.out.kept X23.out.1).c3)
      | (go_at_call 25; (with_reducible refine (S46.out _ X23.out.1).mono ?_); rintro e w24 ⟨rfl, h1⟩; have X24 : Hid (Below w.heap.size w w24 ∧ TZ w24 w.heap.size) := ⟨chain X23.out.1 h1 (Nat.le_refl _), X23.out.2.kept h1 (lt_of_heap X23.out.2)⟩; clear h1; have c3_24 := (H.out.kept X24.out.1).c3)
      | (go_at_call 25; (with_reducible refine (S91.out _ X24.out.1).mono ?_); rintro e w25 ⟨rfl, h1⟩; have X25 : Hid (Below w.heap.size w w25 ∧ TZ w25 w.heap.size) := ⟨chain X24.out.1 h1 (Nat.le_refl _), X24.out.2.kept h1 (lt_of_heap X24.out.2)⟩; clear h1; have c3_25 := (H.out.kept X25.out.1).c3)
      | (go_at_call 34; have hih := character_c (GL.out.kept X25.out.1) (H.out.kept X25.out.1) hp hs; rw [hr] at hih; (with_reducible refine hih.mono ?_); rintro e w8 ⟨h1, g, h2, rfl, h4⟩)
    exact ⟨rfl, .err ((Fr.of_below X25.out.1).trans h1) (Nat.le_trans X25.out.1.size h2) h4⟩
  | ok x =>
    obtain ⟨c, qq⟩ := x
    have hfit := chr_le hr
    change Calls Tryz.prog 13 #[.pointer (some ⟨b, 0, none⟩)] w (Outs w b s m tv (TkAt w.heap.size) (.ok (setT m [(c, c)] false, qq)))
    go_enter Tryz.func13, Tryz.ntmps13
    go_wp2_with first
      | (go_at_call 25; (with_reducible refine (S92.out _ W1.out).mono ?_); rintro e w20 ⟨rfl, h1⟩; have X20 : Hid (Below w.heap.size w w20 ∧ TZ w20 w.heap.size) := ⟨chain W1.out h1 (Nat.le_refl _), (TZ.new w).kept h1 (lt_of_heap (TZ.new w))⟩; clear h1; have c3_20 := (H.out.kept X20.out.1).c3)
      | (go_at_call 25; (with_reducible refine (S42.out _ X20.out.1).mono ?_); rintro e w21 ⟨rfl, h1⟩; have X21 : Hid (Below w.heap.size w w21 ∧ TZ w21 w.heap.size) := ⟨chain X20.out.1 h1 (Nat.le_refl _), X20.out.2.kept h1 (lt_of_heap X20.out.2)⟩; clear h1; have c3_21 := (H.out.kept X21.out.1).c3)
      | (go_at_call 25; (with_reducible refine (S94.out _ X21.out.1).mono ?_); rintro e w22 ⟨rfl, h1⟩; have X22 : Hid (Below w.heap.size w w22 ∧ TZ w22 w.heap.size) := ⟨chain X21.out.1 h1 (Nat.le_refl _), X21.out.2.kept h1 (lt_of_heap X21.out.2)⟩; clear h1; have c3_22 := (H.out.kept X22.out.1).c3)
      | (go_at_call 25; (with_reducible refine (S36.out _ X22.out.1).mono ?_); rintro e w23 ⟨rfl, h1⟩; have X23 : Hid (Below w.heap.size w w23 ∧ TZ w23 w.heap.size) := ⟨chain X22.out.1 h1 (Nat.le_refl _), X22.out.2.kept h1 (lt_of_heap X22.out.2)⟩; clear h1; have c3_23 := (H.out.kept X23.out.1).c3)
      | (go_at_call 25; (with_reducible refine (S46.out _ X23.out.1).mono ?_); rintro e w24 ⟨rfl, h1⟩; have X24 : Hid (Below w.heap.size w w24 ∧ TZ w24 w.heap.size) := ⟨chain X23.out.1 h1 (Nat.le_refl _), X23.out.2.kept h1 (lt_of_heap X23.out.2)⟩; clear h1; have c3_24 := (H.out.kept X24.out.1).c3)
      | (go_at_call 25; (with_reducible refine (S91.out _ X24.out.1).mono ?_); rintro e w25 ⟨rfl, h1⟩; have X25 : Hid (Below w.heap.size w w25 ∧ TZ w25 w.heap.size) := ⟨chain X24.out.1 h1 (Nat.le_refl _), X24.out.2.kept h1 (lt_of_heap X24.out.2)⟩; clear h1; have c3_25 := (H.out.kept X25.out.1).c3)
      | (go_at_call 34; have hih := character_c (GL.out.kept X25.out.1) (H.out.kept X25.out.1) hp hs; rw [hr] at hih; (with_reducible refine hih.mono ?_); clear hih; rintro e w9 ⟨h1, v9, rfl, h2, rfl⟩; have X9 : Hid (RD w9 b s m qq tv ∧ Fr (At b) w w9 ∧ TZ w9 w.heap.size) := ⟨h2, (Fr.of_below X25.out.1).trans h1, X25.out.2.fr h1 (by intro q; have : w.heap.size = b := q; omega)⟩; clear h1 h2)
      | (go_at_call 33; refine (lone_c c _).mono ?_; rintro e w6 ⟨v6, rfl, h6, h7⟩; obtain ⟨q6, k6, rfl⟩ := h6.shape; have X6 : Hid (RD w6 b s m qq tv ∧ Fr (At b) w w6 ∧ TZ w6 w.heap.size ∧ ArgR w6 (.slice q6 1 k6) [(c, c)] ∧ w.heap.size < w6.heap.size) := ⟨X9.out.1.kept h7, X9.out.2.1.then h7, X9.out.2.2.kept h7 (lt_of_heap X9.out.2.2), h6.arg, lt_of_heap (X9.out.2.2.kept h7 (lt_of_heap X9.out.2.2))⟩; clear h6 h7)
      | (go_at_call 31; refine (set_c X6.out.1 X6.out.2.2.2.1 (fit_two hfit hfit) (by simp) false).mono ?_; rintro e w8 ⟨v8, he, ⟨rv, C, hv, h5, h6⟩, h4⟩; obtain ⟨q8, k8, hsh⟩ := h5.shape; rw [tkV_set] at hv; subst hsh; subst hv; subst he; have X8 : Hid (RD w8 b s m qq tv ∧ Fr (At b) w w8 ∧ TZ w8 w.heap.size ∧ (∃ base, w.heap.size < base ∧ RR base w8 (.slice q8 C.length k8) C) ∧ IsC C (setQ m [(c, c)] false)) := ⟨X6.out.1.kept h4, X6.out.2.1.then h4, X6.out.2.2.1.kept h4 (lt_of_heap X6.out.2.2.1), ⟨_, X6.out.2.2.2.2, h5⟩, h6⟩; obtain ⟨z0, z1, z2, z3, z4, z5, z6, y0, y1, y2, y3, y4, y5, y6⟩ := X8.out.2.2.1.all; clear h4 h5 h6)
    obtain ⟨bs, hbs, hrr⟩ := X8.out.2.2.2.1
    refine bodyPost_ret (v := tkV (setT m [(c, c)] false) 0 0 (.slice q8 C.length k8)) (by obtain ⟨e0, e1, e2, e3, e4, e5, e6⟩ := put7_cells X8.out.2.2.1 (.int .i64 1) (.int .i64 0) (.int .i64 0) (.int .i64 0) (.int .i64 0) (.int .i64 0) (.slice q8 C.length k8); simp [results, Tryz.results13, go_sem, tkV, setT, e0, e1, e2, e3, e4, e5, e6]) rfl ?_
    exact .is (fr7 X8.out.2.1 (.inr (Nat.le_refl _)) _ _ _ _ _ _ _) (RD.fr (S := fun k => k = w.heap.size) X8.out.1 (fr7 (S := fun k => k = w.heap.size) (Fr.refl _ _) (.inl rfl) _ _ _ _ _ _ _) (by omega)) ⟨_, C, rfl, RR.mono (rr7 hrr hbs _ _ _ _ _ _ _) (Nat.le_of_lt hbs), X8.out.2.2.2.2⟩

theorem token_c {w : World} {b : Nat} {s : ByteArray} {m : Md} {p last : Nat} {tv : Value} (hG : Glb w) (h : RD w b s m p tv) (hk : LK w b tv last) (hb : 2 < b) (hp : p < s.size) (hs : s.size ≤ 2000) :
    Calls Tryz.prog 13 #[.pointer (some ⟨b, 0, none⟩)] w (Outs w b s m tv (TkAt w.heap.size) (tok m s p last)) := by
  have sd : ∀ c : UInt8, sees s p [c] = decide (bt s p = c.toNat) := sees_dec hp
  have t92 := sd 92
  have t42 := sd 42
  have t94 := sd 94
  have t36 := sd 36
  have t46 := sd 46
  have t91 := sd 91
  simp only [show (92 : UInt8).toNat = 92 from rfl, show (42 : UInt8).toNat = 42 from rfl, show (94 : UInt8).toNat = 94 from rfl, show (36 : UInt8).toNat = 36 from rfl, show (46 : UInt8).toNat = 46 from rfl, show (91 : UInt8).toNat = 91 from rfl] at t92 t42 t94 t36 t46 t91
  by_cases x92 : bt s p = 92
  · have e : tok m s p last = esc m s p last := by unfold tok; simp [t92, x92]
    rw [e]; exact token_esc hG h hk hb hp hs x92
  by_cases x42 : bt s p = 42
  · cases hbeg : atBeg last with
    | false =>
      have e : tok m s p last = .ok (repT 0 (-1), p + 1) := by unfold tok; simp [t92, t42, x42, hbeg]
      rw [e]; exact token_star hG h hk hb hp hs x42 hbeg
    | true =>
      have e : tok m s p last = chrT m (chr m s p) := by unfold tok; simp [t92, t42, t94, t36, t46, t91, x42, hbeg]; rfl
      rw [e]; exact token_chr42 hG h hk hb hp hs x42 hbeg
  by_cases x94 : bt s p = 94
  · by_cases hp0 : p = 0
    · have hpb : (p == 0) = true := by simp [hp0]
      have e : tok m s p last = .ok (kT 7, p + 1) := by unfold tok; rw [hpb]; simp [t92, t42, t94, x94]
      rw [e]; exact token_beg0 hG h hk hb hp hs x94 hp0
    by_cases h3 : last = 3
    · have e : tok m s p last = .ok (kT 7, p + 1) := by unfold tok; simp [t92, t42, t94, x94, h3]
      rw [e]; exact token_beg3 hG h hk hb hp hs x94 hp0 h3
    by_cases h5 : last = 5
    · have e : tok m s p last = .ok (kT 7, p + 1) := by unfold tok; simp [t92, t42, t94, x94, h5]
      rw [e]; exact token_beg5 hG h hk hb hp hs x94 hp0 h5
    have e : tok m s p last = chrT m (chr m s p) := by unfold tok; simp [t92, t42, t94, t36, t46, t91, x94, hp0, h3, h5]; rfl
    rw [e]; exact token_chr94 hG h hk hb hp hs x94 hp0 h3 h5
  by_cases x36 : bt s p = 36
  · cases hend : endsB s p with
    | true =>
      have e : tok m s p last = .ok (kT 8, p + 1) := by unfold tok; simp [t92, t42, t94, t36, x36, hend]
      rw [e]; exact token_end hG h hk hb hp hs x36 hend
    | false =>
      have e : tok m s p last = chrT m (chr m s p) := by unfold tok; simp [t92, t42, t94, t36, t46, t91, x36, hend]; rfl
      rw [e]; exact token_chr36 hG h hk hb hp hs x36 hend
  by_cases x46 : bt s p = 46
  · have e : tok m s p last = .ok (setT m [] true, p + 1) := by unfold tok; simp [t92, t42, t94, t36, t46, x46]
    rw [e]; exact token_dot hG h hk hb hp hs x46
  by_cases x91 : bt s p = 91
  · have e : tok m s p last = brk m s p := by unfold tok; simp [t92, t42, t94, t36, t46, t91, x91]
    rw [e]; exact token_brk hG h hk hb hp hs x91
  have e : tok m s p last = chrT m (chr m s p) := by unfold tok; simp [t92, t42, t94, t36, t46, t91, x92, x42, x94, x36, x46, x91]; rfl
  rw [e]; exact token_chr hG h hk hb hp hs ⟨x92, x42, x94, x36, x46, x91⟩
end Go.Proofs.YtloeajhmmjdlgaaGreatDoor
namespace Go.Proofs.YtloeajhmmjdlgaaGreatDoor
open Go Go.RowKit
attribute [local go_sem] ext_cell

theorem run_bad_assert {P : Program} (w : World) (t xT e : TypeId) (v : Value) (h : P.underlying t = some (.pointer e)) : (Instr.typeAssert (.iface t v) xT t false).run P w = .ok v w := by
  simp [Instr.typeAssert, run_underlying h, go_sem, Result.andThen]
theorem run_bad_assert2 {P : Program} (w : World) (t xT e : TypeId) (v : Value) (h : P.underlying t = some (.pointer e)) : (Instr.typeAssert (.iface t v) xT t true).run P w = .ok (.tuple #[v, .bool true]) w := by
  simp [Instr.typeAssert, run_underlying h, go_sem, Result.andThen]
theorem und_bad : Tryz.prog.underlying 45 = some (.pointer 53) := by kernel_rfl
set_option maxRecDepth 100000 in
set_option maxHeartbeats 1000000 in
theorem catch_idle (p q : Addr) (w : World) :
    CallsD Tryz.prog 11 #[.pointer (some p), .pointer (some q)] .returning w fun e u' w' => e = .returned (.tuple #[]) ∧ u' = .returning ∧ w' = w := by
  refine callsD_of_wpS Tryz.func11 rfl fun c₀ cs hu => ?_
  apply wpS_seq
  apply wpS_region
  simp [wpOpsS, go_sem, recoverD, hu, Tryz.ntmps11, Exit.thenS]
  refine wpS_of_wp ?_
  rw [show (#[Value.pointer (some p), Value.pointer (some q)] ++ ((Array.replicate 7 undef).setIfInBounds 1 Value.nilIface).setIfInBounds 0 Value.nilIface) = #[Value.pointer (some p), Value.pointer (some q), .nilIface, .nilIface, undef, undef, undef, undef, undef] from rfl]
  go_wp2
  cases c₀
  simp_all [bodyPostS, results, Tryz.results11]

set_option maxRecDepth 100000 in
set_option maxHeartbeats 1000000 in
theorem catch_panicking (p q g : Nat) (older : List PanicEntry) (w : World) (hp : w.heap[p]? = some (.cells #[.slice none 0 0] 25 (0, 0))) (hq : w.heap[q]? = some (.cells #[.nilIface] 29 (0, 0))) (hpq : p ≠ q) :
    CallsD Tryz.prog 11 #[.pointer (some ⟨p, 0, none⟩), .pointer (some ⟨q, 0, none⟩)] (.panicking ({ v := .iface 45 (.pointer (some ⟨g, 0, none⟩)), recovered := false } :: older)) w fun e u' w' =>
      e = .returned (.tuple #[]) ∧ u' = .panicking ({ v := .iface 45 (.pointer (some ⟨g, 0, none⟩)), recovered := true } :: older) ∧ w'.cell? ⟨p, 0, none⟩ = some (.slice none 0 0) ∧ w'.cell? ⟨q, 0, none⟩ = some (.iface 45 (.pointer (some ⟨g, 0, none⟩))) ∧ Fr (fun k => k = p ∨ k = q) w w' := by
  refine callsD_of_wpS Tryz.func11 rfl fun c₀ cs hu => ?_
  apply wpS_seq
  apply wpS_region
  simp [wpOpsS, go_sem, recoverD, hu, Tryz.ntmps11, Exit.thenS]
  refine wpS_of_wp ?_
  rw [show (#[Value.pointer (some ⟨p, 0, none⟩), Value.pointer (some ⟨q, 0, none⟩)] ++ ((Array.replicate 7 undef).setIfInBounds 1 (.iface 45 (.pointer (some ⟨g, 0, none⟩)))).setIfInBounds 0 (.iface 45 (.pointer (some ⟨g, 0, none⟩)))) = #[Value.pointer (some ⟨p, 0, none⟩), Value.pointer (some ⟨q, 0, none⟩), .iface 45 (.pointer (some ⟨g, 0, none⟩)), .iface 45 (.pointer (some ⟨g, 0, none⟩)), undef, undef, undef, undef, undef] from rfl]
  have p0 : w.cell? ⟨p, 0, none⟩ = some (.slice none 0 0) := cell_row hp (i := 0) rfl
  have q0 : w.cell? ⟨q, 0, none⟩ = some .nilIface := cell_row hq (i := 0) rfl
  have pf := frz_row hp 0
  have qf := frz_row hq 0
  have hta : ∀ W, (Instr.typeAssert (.iface 45 (.pointer (some ⟨g, 0, none⟩))) 20 45 false).run Tryz.prog W = .ok (.pointer (some ⟨g, 0, none⟩)) W := fun W => run_bad_assert W _ _ _ _ und_bad
  go_wp2
  go_region
  refine ⟨rfl, _, rfl, .tuple #[], by simp [results, Tryz.results11], rfl, rfl, ?_, ?_, ?_⟩
  · have h1 := heap_set_in hp 0 (.slice none 0 0)
    have h2 : ((w.setCell ⟨p, 0, none⟩ (.slice none 0 0)).setCell ⟨q, 0, none⟩ (.iface 45 (.pointer (some ⟨g, 0, none⟩)))).heap[p]? = _ := ((Fr.setCell (S := At q) (Fr.refl _ _) (p := ⟨q, 0, none⟩) rfl _).block p (lt_of_heap h1) hpq).trans h1
    exact cell_row h2 (i := 0) rfl
  · have h1 : (w.setCell ⟨p, 0, none⟩ (.slice none 0 0)).heap[q]? = _ := ((Fr.setCell (S := At p) (Fr.refl _ _) (p := ⟨p, 0, none⟩) rfl _).block q (lt_of_heap hq) (Ne.symm hpq)).trans hq
    exact cell_row (heap_set_in h1 0 (.iface 45 (.pointer (some ⟨g, 0, none⟩)))) (i := 0) rfl
  · exact Fr.drew ((Fr.setCell (S := fun k => k = p ∨ k = q) (Fr.refl _ _) (p := ⟨p, 0, none⟩) (.inl rfl) _).setCell (p := ⟨q, 0, none⟩) (.inr rfl) _)
end Go.Proofs.YtloeajhmmjdlgaaGreatDoor
namespace Go.Proofs.YtloeajhmmjdlgaaGreatDoor
open Go

def TokOK (t : Tk) : Prop := 1 ≤ t.kind ∧ t.kind ≤ 8 ∧ t.n ≤ 9 ∧ (-1 ≤ t.mn ∧ t.mn ≤ 255) ∧ (-1 ≤ t.mx ∧ t.mx ≤ 255)
def OKr (r : Rs (Tk × Nat)) : Prop := match r with
  | .error _ => True
  | .ok x => TokOK x.1
theorem setT_ok (m : Md) (L : List (Int × Int)) (t : Bool) : TokOK (setT m L t) := by simp [TokOK, setT]
theorem brk_ok (m : Md) (s : ByteArray) (p : Nat) : OKr (brk m s p) := by
  unfold brk
  split
  · trivial
  · split
    · trivial
    · exact setT_ok ..
theorem intv_ok (s : ByteArray) (p : Nat) : OKr (intv s p) := by
  unfold intv
  split
  · trivial
  split
  · trivial
  · rename_i h
    refine ⟨by simp [repT], by simp [repT], by simp [repT], ?_, ?_⟩
    · simp only [repT]; omega
    · have : -1 ≤ ivB s p := by unfold ivB; split <;> (try split) <;> omega
      simp only [repT]; omega
theorem esc_ok (m : Md) (s : ByteArray) (p last : Nat) : OKr (esc m s p last) := by
  unfold esc
  have h4 := intv_ok s p
  repeat' split
  all_goals first | trivial | exact h4 | exact setT_ok .. | (refine ⟨?_, ?_, ?_, ?_, ?_⟩ <;> simp [kT, repT, backT] <;> omega) | (simp [OKr, TokOK, kT, repT, backT])
theorem tok_ok (m : Md) (s : ByteArray) (p last : Nat) : OKr (tok m s p last) := by
  unfold tok
  split
  · exact esc_ok ..
  split
  · simp [OKr, TokOK, repT]
  split
  · simp [OKr, TokOK, kT]
  split
  · simp [OKr, TokOK, kT]
  split
  · exact setT_ok ..
  split
  · exact brk_ok ..
  · split
    · trivial
    · exact setT_ok ..
/-- The place behind the first i tokens. -/
def plc (T : List Tp) : Nat → Nat
  | 0 => 0
  | i + 1 => match T[i]? with
    | some t => t.2.2
    | none => 0
structure Stands (s : ByteArray) (T : List Tp) (p : Nat) : Prop where
  each : ∀ i t, T[i]? = some t → t.2.1 = plc T i ∧ t.2.1 < t.2.2 ∧ t.2.2 ≤ s.size ∧ TokOK t.1
  last : plc T T.length = p
  few : T.length ≤ p
theorem plc_app (T : List Tp) (x : Tp) (i : Nat) (h : i ≤ T.length) : plc (T ++ [x]) i = plc T i := by
  cases i with
  | zero => rfl
  | succ i =>
    simp only [plc]
    rw [List.getElem?_append_left (by omega)]
theorem plc_end (T : List Tp) (x : Tp) : plc (T ++ [x]) (T.length + 1) = x.2.2 := by
  simp only [plc]
  rw [List.getElem?_append_right (Nat.le_refl _), Nat.sub_self]
  rfl
theorem Stands.nil (s : ByteArray) : Stands s [] 0 := ⟨fun i t h => by simp at h, rfl, Nat.le_refl _⟩
theorem Stands.add {s : ByteArray} {T : List Tp} {p : Nat} (h : Stands s T p) {t : Tk} {q : Nat} (h1 : p < q) (h2 : q ≤ s.size) (h3 : TokOK t) : Stands s (T ++ [(t, p, q)]) q := by
  refine ⟨fun i x hx => ?_, ?_, ?_⟩
  · rcases Nat.lt_trichotomy i T.length with g | g | g
    · rw [List.getElem?_append_left g] at hx
      rw [plc_app _ _ _ (by omega)]
      exact h.each i x hx
    · subst g
      rw [List.getElem?_append_right (Nat.le_refl _), Nat.sub_self] at hx
      simp at hx
      subst hx
      rw [plc_app _ _ _ (Nat.le_refl _), h.last]
      exact ⟨rfl, h1, h2, h3⟩
    · rw [List.getElem?_append_right (by omega), List.getElem?_eq_none (by simp; omega)] at hx
      cases hx
  · rw [List.length_append]; exact plc_end T _
  · rw [List.length_append]
    have := h.few
    simp; omega
/-- What comes of going on: tokens that stand, or an error of the chapter's. -/
def Ends (s : ByteArray) (r : Rs (List Tp)) : Prop := match r with
  | .error (c, a) => (c = 20 ∨ 30 ≤ c ∧ c ≤ 38) ∧ a ≤ s.size
  | .ok T => Stands s T s.size
theorem lx_ends (m : Md) (s : ByteArray) : ∀ (f p : Nat) (T : List Tp), Stands s T p → p ≤ s.size → s.size < f + p → Ends s (lx m s f p T)
  | 0, p, T, _, h1, h2 => by omega
  | f + 1, p, T, h, h1, h2 => by
    unfold lx
    split
    · rename_i hp
      have q1 := tok_rng m s p (lastK T) hp
      have q2 := tok_ok m s p (lastK T)
      split
      · rename_i e he
        rw [he] at q1
        exact q1
      · rename_i t q he
        rw [he] at q1 q2
        have q3 := q1.1
        have q4 := q1.2
        simp only at q3 q4
        exact lx_ends m s f q _ (h.add q3 q4 q2) q4 (by omega)
    · rename_i hp
      have : p = s.size := by omega
      simp only [Ends]
      rw [← this]; exact h
theorem lexM_ends (m : Md) (s : ByteArray) : Ends s (lexM m s) := by
  unfold lexM
  split
  · exact ⟨.inr (by omega), by omega⟩
  · exact lx_ends m s _ 0 [] (Stands.nil s) (by omega) (by omega)
end Go.Proofs.YtloeajhmmjdlgaaGreatDoor
namespace Go.Proofs.YtloeajhmmjdlgaaGreatDoor
open Go Go.RowKit

/-- A token with its places, the value of its list, its class. -/
abbrev Dt := Tp × Value × List (Int × Int)
def tc (d : Dt) : List Value := [.int .i64 (d.1.1.kind : Int), .int .i64 (d.1.2.1 : Int), .int .i64 (d.1.2.2 : Int), .int .i64 (d.1.1.n : Int), .int .i64 d.1.1.mn, .int .i64 d.1.1.mx, d.2.1]
def tcs (D : List Dt) : List Value := D.flatMap tc
theorem tc_length (d : Dt) : (tc d).length = 7 := rfl
theorem tcs_length (D : List Dt) : (tcs D).length = D.length * 7 := by
  induction D with
  | nil => rfl
  | cons d D ih =>
    have : tcs (d :: D) = tc d ++ tcs D := rfl
    rw [this, List.length_append, ih, tc_length, List.length_cons]; omega
theorem tcs_append (D E : List Dt) : tcs (D ++ E) = tcs D ++ tcs E := by simp [tcs]
theorem tcs_get : ∀ (D : List Dt) (i : Nat) (d : Dt) (j : Nat), D[i]? = some d → j < 7 → (tcs D)[i * 7 + j]? = (tc d)[j]?
  | [], i, d, j, h, _ => by simp at h
  | x :: D, 0, d, j, h, hj => by
    simp at h; subst h
    have : tcs (x :: D) = tc x ++ tcs D := rfl
    rw [this, List.getElem?_append_left (by rw [tc_length]; omega)]
    simp
  | x :: D, i + 1, d, j, h, hj => by
    have : tcs (x :: D) = tc x ++ tcs D := rfl
    rw [this, List.getElem?_append_right (by rw [tc_length]; omega), tc_length, show (i + 1) * 7 + j - 7 = i * 7 + j by omega]
    exact tcs_get D i d j (by simpa using h) hj
structure TL (base : Nat) (w : World) (v : Value) (D : List Dt) : Prop where
  own : w.ownsRow base 37 7 v D.length (tcs D)
  each : ∀ d ∈ D, RR base w d.2.1 d.2.2 ∧ IsC d.2.2 d.1.1.q
  apart : D.Pairwise (fun a b => ∀ k, a.2.1.ownBlock = some k → b.2.1.ownBlock ≠ some k)
theorem TL.fr {base : Nat} {w w' : World} {v : Value} {D : List Dt} {S : Nat → Prop} (h : TL base w v D) (hf : Fr S w w') (h1 : ∀ k, v.ownBlock = some k → ¬ S k) (h2 : ∀ d ∈ D, ∀ k, d.2.1.ownBlock = some k → ¬ S k) : TL base w' v D :=
  ⟨ownsRow_fr h.own hf h1, fun d hd => ⟨(h.each d hd).1.fr hf (h2 d hd), (h.each d hd).2⟩, h.apart⟩
theorem TL.kept {base : Nat} {w w' : World} {v : Value} {D : List Dt} (h : TL base w v D) (hb : Below w.heap.size w w') : TL base w' v D := h.fr (S := fun _ => False) (Fr.of_below hb) (fun _ _ q => q) (fun _ _ _ _ q => q)
theorem TL.nil (base : Nat) (w : World) : TL base w (.slice none 0 0) [] := ⟨World.ownsRow_nil _ _ _ _, fun _ h => (by cases h), List.Pairwise.nil⟩
theorem TL.lt {base : Nat} {w : World} {v : Value} {D : List Dt} (h : TL base w v D) {d : Dt} (hd : d ∈ D) {k : Nat} (hk : d.2.1.ownBlock = some k) : base ≤ k ∧ k < w.heap.size := ⟨(ownsRow_at (h.each d hd).1 hk).1, (ownsRow_at (h.each d hd).1 hk).2.1⟩
/-- By blocks of another type. -/
theorem TL.at {base : Nat} {w w' : World} {v : Value} {D : List Dt} {b : Nat} {s : ByteArray} {m : Md} {p : Nat} {tv : Value} (h : TL base w v D) (hr : RD w b s m p tv) (hf : Fr (At b) w w') : TL base w' v D :=
  h.fr hf (fun k hk e => ownsRow_not h.own hr (by decide) (by rw [hk, show k = b from e])) (fun d hd k hk e => ownsRow_not (h.each d hd).1 hr (by decide) (by rw [hk, show k = b from e]))
theorem lastK_get (T : List Tp) (n : Nat) (t : Tp) (hl : T.length = n + 1) (h : T[n]? = some t) : lastK T = t.1.kind := by
  unfold lastK
  rw [List.getLast?_eq_getElem?, hl, Nat.add_sub_cancel, h]
theorem TL.last {base : Nat} {w : World} {v : Value} {D : List Dt} {b : Nat} {s : ByteArray} {m : Md} {p : Nat} {tv : Value} {T : List Tp} (h : TL base w v D) (hr : RD w b s m p tv) (hT : D.map Prod.fst = T) (hs : Stands s T p) (hp : p ≤ 2000) (hn : D = [] → v = .slice none 0 0) : LK w b v (lastK T) := by
  cases hD : D.length with
  | zero =>
    have e := List.eq_nil_of_length_eq_zero hD
    subst e
    subst hT
    exact .inl ⟨hn rfl, rfl⟩
  | succ n =>
    obtain ⟨g, c, rfl⟩ := ownsRow_some h.own (by omega)
    have hl : T.length = n + 1 := by rw [← hT, List.length_map, hD]
    obtain ⟨d, hd⟩ : ∃ d, D[n]? = some d := ⟨_, List.getElem?_eq_getElem (by omega)⟩
    have ht : T[n]? = some d.1 := by rw [← hT, List.getElem?_map, hd]; rfl
    have hk := lastK_get T n d.1 hl ht
    have hok := (hs.each n d.1 ht).2.2.2
    have hf := hs.few
    refine .inr ⟨g, n, c, by rw [hD], fun e => ownsRow_not h.own hr (by decide) (by simp [Value.ownBlock, e]), (ownsRow_at h.own rfl).2.1, by omega, by rw [hk]; exact hok.1, ?_⟩
    rw [hk]
    exact ownsRow_cell h.own ((tcs_get D n d 0 hd (by omega)).trans rfl)
theorem app_tok {base b : Nat} {V V1 w10 : World} {s : ByteArray} {m : Md} {p : Nat} {v : Value} {D : List Dt} {d : Dt} {g c : Nat} (hr : RD V b s m p v) (hT : TL base V v D) (hB : Below V.heap.size V V1) (hRR : RR base V d.2.1 d.2.2) (hI : IsC d.2.2 d.1.1.q)
    (hap : ∀ a ∈ D, ∀ k, a.2.1.ownBlock = some k → d.2.1.ownBlock ≠ some k) (hown : w10.ownsRow base 37 7 (.slice (some ⟨g, 0, none⟩) (D.length + 1) c) (D.length + 1) (tcs D ++ tc d)) (hg : V1.grownBy w10 v.ownBlock) :
    RD w10 b s m p v ∧ TL base w10 (.slice (some ⟨g, 0, none⟩) (D.length + 1) c) (D ++ [d]) ∧ Fr (fun k => v.ownBlock = some k) V1 w10 := by
  have hf : Fr (fun k => v.ownBlock = some k) V1 w10 := Fr.grown (Fr.refl _ _) hg (fun k hk => hk)
  have hr1 := hr.kept hB
  have hT1 := hT.kept hB
  have nb : v.ownBlock ≠ some b := ownsRow_not hT1.own hr1 (by decide)
  have hne : ∀ (x : Value) (X : List (Int × Int)), RR base V1 x X → ∀ k, x.ownBlock = some k → ¬ v.ownBlock = some k := fun x X hx k hk hv => by
    obtain ⟨-, -, cur, hc⟩ := ownsRow_at hT1.own hv
    exact ownsRow_not hx hc (by decide) hk
  refine ⟨(hf.block b hr1.lt nb).trans hr1, ⟨?_, ?_, ?_⟩, hf⟩
  · rw [List.length_append, List.length_singleton, tcs_append]
    simpa [tcs] using hown
  · intro a ha
    rcases List.mem_append.1 ha with ha | ha
    · exact ⟨(hT1.each a ha).1.fr hf (hne _ _ (hT1.each a ha).1), (hT1.each a ha).2⟩
    · simp at ha
      subst ha
      exact ⟨(hRR.kept hB).fr hf (hne _ _ (hRR.kept hB)), hI⟩
  · refine List.pairwise_append.2 ⟨hT.apart, List.pairwise_singleton _ _, fun a ha x hx => ?_⟩
    simp at hx
    subst hx
    exact hap a ha
/-- What Lex answers. -/
def LexIs (w : World) (r : Rs (List Tp)) (e : Ending) (w' : World) : Prop := Below w.heap.size w w' ∧ match r with
  | .error (c, a) => ∃ g, w.heap.size ≤ g ∧ e = .returned (.tuple #[.slice none 0 0, .iface 45 (.pointer (some ⟨g, 0, none⟩))]) ∧ BadAt w' g c a
  | .ok T => ∃ v D, e = .returned (.tuple #[v, .nilIface]) ∧ TL w.heap.size w' v D ∧ D.map Prod.fst = T
theorem size_tok : (Tryz.prog.info? 37).map (fun i => (i.zero, i.size, i.bytes)) = some (some (.agg #[.int .i64 0, .int .i64 0, .int .i64 0, .int .i64 0, .int .i64 0, .int .i64 0, .slice none 0 0]), 7, 72) := by kernel_rfl
theorem und_toks : Tryz.prog.underlying 25 = some (.slice 37) := by kernel_rfl
end Go.Proofs.YtloeajhmmjdlgaaGreatDoor
