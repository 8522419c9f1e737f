/-
  A token that is a character; a token. (mk12.py writes it.) What is caught at the face. Lex. Parse. The chapter's examples.
-/
import Derived.Test.YtpfdapnfkghgkaaGreatDoorC30
import Derived.Recover
import Derived.Test.YtpfdapnfkghgkaaGreatDoorC2
import Derived.Test.YtpfdapnfkghgkaaGreatDoorC5
import Derived.Test.YtpfdapnfkghgkaaGreatDoorC18
import Derived.Test.YtpfdapnfkghgkaaGreatDoorC20
import Derived.Test.YtpfdapnfkghgkaaGreatDoorC21
namespace Go.Proofs.YtpfdapnfkghgkaaGreatDoor
open Go Go.RowKit
attribute [local go_sem] ext_cell

def chrT (m : Md) (r : Rs (Int × Nat)) : Rs (Tk × Nat) := match r with
  | .error e => .error e
  | .ok (c, q) => .ok (setT m [(c, c)] false, q)

set_option maxRecDepth 100000 in
set_option maxHeartbeats 4000000 in
theorem token_chr42 {w : World} {b : Nat} {s : ByteArray} {m : Md} {p last : Nat} {tv : Value} (hG : Glb w) (h : RD w b s m p tv) (hk : LK w b tv last) (hb : 2 < b) (hp : p < s.size) (hs : s.size ≤ 2000) (hx : bt s p = 42) (hbeg : atBeg last = true) :
    Calls Tryz.prog 49 #[.pointer (some ⟨b, 0, none⟩)] w (Outs w b s m tv (TkAt w.heap.size) (chrT m (chr m s p))) := by
  have lb := h.lt
  have HX := And.intro hb hs
  clear HX
  have hbz : ¬ b = w.heap.size := by omega
  have hzb : ¬ w.heap.size = b := by omega
  have w1 : IntKind.wrap .i64 ((p : Int) + 1) = (p : Int) + 1 := wrap_small _ (by omega) (by omega)
  have W1 : Hid (Below w.heap.size w (w.alloc tokZ)) := (Below.refl _ _).alloc (Nat.le_refl _) _
  have H : Hid (RD w b s m p tv) := h
  have K : Hid (LK w b tv last) := hk
  have GL : Hid (Glb w) := hG
  clear h hk hG
  have e92 : sees s p [92] = false := by rw [sees_dec hp]; simp [hx]
  have S92 : Hid (∀ W, Below w.heap.size w W → Calls Tryz.prog 76 #[.pointer (some ⟨b, 0, none⟩), .string ⟨#[92]⟩] W fun e w' => e = .returned (.bool false) ∧ Below W.heap.size W w') := fun W hW => by have := sees_c (H.out.kept hW) (Nat.le_of_lt hp) ⟨#[92]⟩; rw [show sees s p (ByteArray.data ⟨#[92]⟩).toList = false from e92] at this; exact this
  have e42 : sees s p [42] = true := by rw [sees_dec hp]; simp [hx]
  have S42 : Hid (∀ W, Below w.heap.size w W → Calls Tryz.prog 76 #[.pointer (some ⟨b, 0, none⟩), .string ⟨#[42]⟩] W fun e w' => e = .returned (.bool true) ∧ Below W.heap.size W w') := fun W hW => by have := sees_c (H.out.kept hW) (Nat.le_of_lt hp) ⟨#[42]⟩; rw [show sees s p (ByteArray.data ⟨#[42]⟩).toList = true from e42] at this; exact this
  have HB : Hid (∀ W, Below w.heap.size w W → Calls Tryz.prog 78 #[.pointer (some ⟨b, 0, none⟩)] W fun e w' => e = .returned (.bool true) ∧ Below W.heap.size W w') := fun W hW => by have := atBeg_c (H.out.kept hW) (K.out.kept hW); rw [hbeg] at this; exact this
  have e94 : sees s p [94] = false := by rw [sees_dec hp]; simp [hx]
  have S94 : Hid (∀ W, Below w.heap.size w W → Calls Tryz.prog 76 #[.pointer (some ⟨b, 0, none⟩), .string ⟨#[94]⟩] W fun e w' => e = .returned (.bool false) ∧ Below W.heap.size W w') := fun W hW => by have := sees_c (H.out.kept hW) (Nat.le_of_lt hp) ⟨#[94]⟩; rw [show sees s p (ByteArray.data ⟨#[94]⟩).toList = false from e94] at this; exact this
  have e36 : sees s p [36] = false := by rw [sees_dec hp]; simp [hx]
  have S36 : Hid (∀ W, Below w.heap.size w W → Calls Tryz.prog 76 #[.pointer (some ⟨b, 0, none⟩), .string ⟨#[36]⟩] W fun e w' => e = .returned (.bool false) ∧ Below W.heap.size W w') := fun W hW => by have := sees_c (H.out.kept hW) (Nat.le_of_lt hp) ⟨#[36]⟩; rw [show sees s p (ByteArray.data ⟨#[36]⟩).toList = false from e36] at this; exact this
  have e46 : sees s p [46] = false := by rw [sees_dec hp]; simp [hx]
  have S46 : Hid (∀ W, Below w.heap.size w W → Calls Tryz.prog 76 #[.pointer (some ⟨b, 0, none⟩), .string ⟨#[46]⟩] W fun e w' => e = .returned (.bool false) ∧ Below W.heap.size W w') := fun W hW => by have := sees_c (H.out.kept hW) (Nat.le_of_lt hp) ⟨#[46]⟩; rw [show sees s p (ByteArray.data ⟨#[46]⟩).toList = false from e46] at this; exact this
  have e91 : sees s p [91] = false := by rw [sees_dec hp]; simp [hx]
  have S91 : Hid (∀ W, Below w.heap.size w W → Calls Tryz.prog 76 #[.pointer (some ⟨b, 0, none⟩), .string ⟨#[91]⟩] W fun e w' => e = .returned (.bool false) ∧ Below W.heap.size W w') := fun W hW => by have := sees_c (H.out.kept hW) (Nat.le_of_lt hp) ⟨#[91]⟩; rw [show sees s p (ByteArray.data ⟨#[91]⟩).toList = false from e91] at this; exact this
  cases hr : chr m s p with
  | error x =>
    rw [chr_ascii m (by omega)] at hr; cases hr
  | ok x =>
    obtain ⟨c, qq⟩ := x
    have hfit := chr_le hr
    change Calls Tryz.prog 49 #[.pointer (some ⟨b, 0, none⟩)] w (Outs w b s m tv (TkAt w.heap.size) (.ok (setT m [(c, c)] false, qq)))
    go_enter Tryz.func49, Tryz.ntmps49
    go_wp2_with first
      | (go_at_call 76; (with_reducible refine (S92.out _ W1.out).mono ?_); rintro e w20 ⟨rfl, h1⟩; have X20 : Hid (Below w.heap.size w w20 ∧ TZ w20 w.heap.size) := ⟨chain W1.out h1 (Nat.le_refl _), (TZ.new w).kept h1 (lt_of_heap (TZ.new w))⟩; clear h1; have c3_20 := (H.out.kept X20.out.1).c3)
      | (go_at_call 76; (with_reducible refine (S42.out _ X20.out.1).mono ?_); rintro e w21 ⟨rfl, h1⟩; have X21 : Hid (Below w.heap.size w w21 ∧ TZ w21 w.heap.size) := ⟨chain X20.out.1 h1 (Nat.le_refl _), X20.out.2.kept h1 (lt_of_heap X20.out.2)⟩; clear h1; have c3_21 := (H.out.kept X21.out.1).c3)
      | (go_at_call 78; (with_reducible refine (HB.out _ X21.out.1).mono ?_); rintro e w22 ⟨rfl, h1⟩; have X22 : Hid (Below w.heap.size w w22 ∧ TZ w22 w.heap.size) := ⟨chain X21.out.1 h1 (Nat.le_refl _), X21.out.2.kept h1 (lt_of_heap X21.out.2)⟩; clear h1; have c3_22 := (H.out.kept X22.out.1).c3)
      | (go_at_call 76; (with_reducible refine (S94.out _ X22.out.1).mono ?_); rintro e w23 ⟨rfl, h1⟩; have X23 : Hid (Below w.heap.size w w23 ∧ TZ w23 w.heap.size) := ⟨chain X22.out.1 h1 (Nat.le_refl _), X22.out.2.kept h1 (lt_of_heap X22.out.2)⟩; clear h1; have c3_23 := (H.out.kept X23.out.1).c3)
      | (go_at_call 76; (with_reducible refine (S36.out _ X23.out.1).mono ?_); rintro e w24 ⟨rfl, h1⟩; have X24 : Hid (Below w.heap.size w w24 ∧ TZ w24 w.heap.size) := ⟨chain X23.out.1 h1 (Nat.le_refl _), X23.out.2.kept h1 (lt_of_heap X23.out.2)⟩; clear h1; have c3_24 := (H.out.kept X24.out.1).c3)
      | (go_at_call 76; (with_reducible refine (S46.out _ X24.out.1).mono ?_); rintro e w25 ⟨rfl, h1⟩; have X25 : Hid (Below w.heap.size w w25 ∧ TZ w25 w.heap.size) := ⟨chain X24.out.1 h1 (Nat.le_refl _), X24.out.2.kept h1 (lt_of_heap X24.out.2)⟩; clear h1; have c3_25 := (H.out.kept X25.out.1).c3)
      | (go_at_call 76; (with_reducible refine (S91.out _ X25.out.1).mono ?_); rintro e w26 ⟨rfl, h1⟩; have X26 : Hid (Below w.heap.size w w26 ∧ TZ w26 w.heap.size) := ⟨chain X25.out.1 h1 (Nat.le_refl _), X25.out.2.kept h1 (lt_of_heap X25.out.2)⟩; clear h1; have c3_26 := (H.out.kept X26.out.1).c3)
      | (go_at_call 85; have hih := character_c (GL.out.kept X26.out.1) (H.out.kept X26.out.1) hp hs; rw [hr] at hih; (with_reducible refine hih.mono ?_); clear hih; rintro e w9 ⟨h1, v9, rfl, h2, rfl⟩; have X9 : Hid (RD w9 b s m qq tv ∧ Fr (At b) w w9 ∧ TZ w9 w.heap.size) := ⟨h2, (Fr.of_below X26.out.1).trans h1, X26.out.2.fr h1 (by intro q; have : w.heap.size = b := q; omega)⟩; clear h1 h2)
      | (go_at_call 84; refine (lone_c c _).mono ?_; rintro e w6 ⟨v6, rfl, h6, h7⟩; obtain ⟨q6, k6, rfl⟩ := h6.shape; have X6 : Hid (RD w6 b s m qq tv ∧ Fr (At b) w w6 ∧ TZ w6 w.heap.size ∧ ArgR w6 (.slice q6 1 k6) [(c, c)] ∧ w.heap.size < w6.heap.size) := ⟨X9.out.1.kept h7, X9.out.2.1.then h7, X9.out.2.2.kept h7 (lt_of_heap X9.out.2.2), h6.arg, lt_of_heap (X9.out.2.2.kept h7 (lt_of_heap X9.out.2.2))⟩; clear h6 h7)
      | (go_at_call 82; refine (set_c X6.out.1 X6.out.2.2.2.1 (fit_two hfit hfit) (by simp) false).mono ?_; rintro e w8 ⟨v8, he, ⟨rv, C, hv, h5, h6⟩, h4⟩; obtain ⟨q8, k8, hsh⟩ := h5.shape; rw [tkV_set] at hv; subst hsh; subst hv; subst he; have X8 : Hid (RD w8 b s m qq tv ∧ Fr (At b) w w8 ∧ TZ w8 w.heap.size ∧ (∃ base, w.heap.size < base ∧ RR base w8 (.slice q8 C.length k8) C) ∧ IsC C (setQ m [(c, c)] false)) := ⟨X6.out.1.kept h4, X6.out.2.1.then h4, X6.out.2.2.1.kept h4 (lt_of_heap X6.out.2.2.1), ⟨_, X6.out.2.2.2.2, h5⟩, h6⟩; obtain ⟨z0, z1, z2, z3, z4, z5, z6, y0, y1, y2, y3, y4, y5, y6⟩ := X8.out.2.2.1.all; clear h4 h5 h6)
    obtain ⟨bs, hbs, hrr⟩ := X8.out.2.2.2.1
    refine bodyPost_ret (v := tkV (setT m [(c, c)] false) 0 0 (.slice q8 C.length k8)) (by obtain ⟨e0, e1, e2, e3, e4, e5, e6⟩ := put7_cells X8.out.2.2.1 (.int .i64 1) (.int .i64 0) (.int .i64 0) (.int .i64 0) (.int .i64 0) (.int .i64 0) (.slice q8 C.length k8); simp [results, Tryz.results49, go_sem, tkV, setT, e0, e1, e2, e3, e4, e5, e6]) rfl ?_
    exact .is (fr7 X8.out.2.1 (.inr (Nat.le_refl _)) _ _ _ _ _ _ _) (RD.fr (S := fun k => k = w.heap.size) X8.out.1 (fr7 (S := fun k => k = w.heap.size) (Fr.refl _ _) (.inl rfl) _ _ _ _ _ _ _) (by omega)) ⟨_, C, rfl, RR.mono (rr7 hrr hbs _ _ _ _ _ _ _) (Nat.le_of_lt hbs), X8.out.2.2.2.2⟩

set_option maxRecDepth 100000 in
set_option maxHeartbeats 4000000 in
theorem token_chr94 {w : World} {b : Nat} {s : ByteArray} {m : Md} {p last : Nat} {tv : Value} (hG : Glb w) (h : RD w b s m p tv) (hk : LK w b tv last) (hb : 2 < b) (hp : p < s.size) (hs : s.size ≤ 2000) (hx : bt s p = 94) (hp0 : ¬ p = 0) (hl3 : ¬ last = 3) (hl5 : ¬ last = 5) :
    Calls Tryz.prog 49 #[.pointer (some ⟨b, 0, none⟩)] w (Outs w b s m tv (TkAt w.heap.size) (chrT m (chr m s p))) := by
  have lb := h.lt
  have HX := And.intro hb hs
  clear HX
  have hbz : ¬ b = w.heap.size := by omega
  have hzb : ¬ w.heap.size = b := by omega
  have w1 : IntKind.wrap .i64 ((p : Int) + 1) = (p : Int) + 1 := wrap_small _ (by omega) (by omega)
  have W1 : Hid (Below w.heap.size w (w.alloc tokZ)) := (Below.refl _ _).alloc (Nat.le_refl _) _
  have H : Hid (RD w b s m p tv) := h
  have K : Hid (LK w b tv last) := hk
  have GL : Hid (Glb w) := hG
  clear h hk hG
  have e92 : sees s p [92] = false := by rw [sees_dec hp]; simp [hx]
  have S92 : Hid (∀ W, Below w.heap.size w W → Calls Tryz.prog 76 #[.pointer (some ⟨b, 0, none⟩), .string ⟨#[92]⟩] W fun e w' => e = .returned (.bool false) ∧ Below W.heap.size W w') := fun W hW => by have := sees_c (H.out.kept hW) (Nat.le_of_lt hp) ⟨#[92]⟩; rw [show sees s p (ByteArray.data ⟨#[92]⟩).toList = false from e92] at this; exact this
  have e42 : sees s p [42] = false := by rw [sees_dec hp]; simp [hx]
  have S42 : Hid (∀ W, Below w.heap.size w W → Calls Tryz.prog 76 #[.pointer (some ⟨b, 0, none⟩), .string ⟨#[42]⟩] W fun e w' => e = .returned (.bool false) ∧ Below W.heap.size W w') := fun W hW => by have := sees_c (H.out.kept hW) (Nat.le_of_lt hp) ⟨#[42]⟩; rw [show sees s p (ByteArray.data ⟨#[42]⟩).toList = false from e42] at this; exact this
  have e94 : sees s p [94] = true := by rw [sees_dec hp]; simp [hx]
  have S94 : Hid (∀ W, Below w.heap.size w W → Calls Tryz.prog 76 #[.pointer (some ⟨b, 0, none⟩), .string ⟨#[94]⟩] W fun e w' => e = .returned (.bool true) ∧ Below W.heap.size W w') := fun W hW => by have := sees_c (H.out.kept hW) (Nat.le_of_lt hp) ⟨#[94]⟩; rw [show sees s p (ByteArray.data ⟨#[94]⟩).toList = true from e94] at this; exact this
  have d0 : ((p : Int) == 0) = false := by simp; omega
  have B3 : Hid (∀ W, Below w.heap.size w W → Calls Tryz.prog 80 #[.pointer (some ⟨b, 0, none⟩), .int .i64 3] W fun e w' => e = .returned (.bool false) ∧ Below W.heap.size W w') := fun W hW => by have := behind_c (H.out.kept hW) (K.out.kept hW) 3 (by omega); rw [show decide ((last : Int) = 3) = false from decide_eq_false (by omega)] at this; exact this
  have B5 : Hid (∀ W, Below w.heap.size w W → Calls Tryz.prog 80 #[.pointer (some ⟨b, 0, none⟩), .int .i64 5] W fun e w' => e = .returned (.bool false) ∧ Below W.heap.size W w') := fun W hW => by have := behind_c (H.out.kept hW) (K.out.kept hW) 5 (by omega); rw [show decide ((last : Int) = 5) = false from decide_eq_false (by omega)] at this; exact this
  have e36 : sees s p [36] = false := by rw [sees_dec hp]; simp [hx]
  have S36 : Hid (∀ W, Below w.heap.size w W → Calls Tryz.prog 76 #[.pointer (some ⟨b, 0, none⟩), .string ⟨#[36]⟩] W fun e w' => e = .returned (.bool false) ∧ Below W.heap.size W w') := fun W hW => by have := sees_c (H.out.kept hW) (Nat.le_of_lt hp) ⟨#[36]⟩; rw [show sees s p (ByteArray.data ⟨#[36]⟩).toList = false from e36] at this; exact this
  have e46 : sees s p [46] = false := by rw [sees_dec hp]; simp [hx]
  have S46 : Hid (∀ W, Below w.heap.size w W → Calls Tryz.prog 76 #[.pointer (some ⟨b, 0, none⟩), .string ⟨#[46]⟩] W fun e w' => e = .returned (.bool false) ∧ Below W.heap.size W w') := fun W hW => by have := sees_c (H.out.kept hW) (Nat.le_of_lt hp) ⟨#[46]⟩; rw [show sees s p (ByteArray.data ⟨#[46]⟩).toList = false from e46] at this; exact this
  have e91 : sees s p [91] = false := by rw [sees_dec hp]; simp [hx]
  have S91 : Hid (∀ W, Below w.heap.size w W → Calls Tryz.prog 76 #[.pointer (some ⟨b, 0, none⟩), .string ⟨#[91]⟩] W fun e w' => e = .returned (.bool false) ∧ Below W.heap.size W w') := fun W hW => by have := sees_c (H.out.kept hW) (Nat.le_of_lt hp) ⟨#[91]⟩; rw [show sees s p (ByteArray.data ⟨#[91]⟩).toList = false from e91] at this; exact this
  cases hr : chr m s p with
  | error x =>
    rw [chr_ascii m (by omega)] at hr; cases hr
  | ok x =>
    obtain ⟨c, qq⟩ := x
    have hfit := chr_le hr
    change Calls Tryz.prog 49 #[.pointer (some ⟨b, 0, none⟩)] w (Outs w b s m tv (TkAt w.heap.size) (.ok (setT m [(c, c)] false, qq)))
    go_enter Tryz.func49, Tryz.ntmps49
    go_wp2_with first
      | (go_at_call 76; (with_reducible refine (S92.out _ W1.out).mono ?_); rintro e w20 ⟨rfl, h1⟩; have X20 : Hid (Below w.heap.size w w20 ∧ TZ w20 w.heap.size) := ⟨chain W1.out h1 (Nat.le_refl _), (TZ.new w).kept h1 (lt_of_heap (TZ.new w))⟩; clear h1; have c3_20 := (H.out.kept X20.out.1).c3)
      | (go_at_call 76; (with_reducible refine (S42.out _ X20.out.1).mono ?_); rintro e w21 ⟨rfl, h1⟩; have X21 : Hid (Below w.heap.size w w21 ∧ TZ w21 w.heap.size) := ⟨chain X20.out.1 h1 (Nat.le_refl _), X20.out.2.kept h1 (lt_of_heap X20.out.2)⟩; clear h1; have c3_21 := (H.out.kept X21.out.1).c3)
      | (go_at_call 76; (with_reducible refine (S94.out _ X21.out.1).mono ?_); rintro e w22 ⟨rfl, h1⟩; have X22 : Hid (Below w.heap.size w w22 ∧ TZ w22 w.heap.size) := ⟨chain X21.out.1 h1 (Nat.le_refl _), X21.out.2.kept h1 (lt_of_heap X21.out.2)⟩; clear h1; have c3_22 := (H.out.kept X22.out.1).c3)
      | (go_at_call 80; (with_reducible refine (B3.out _ X22.out.1).mono ?_); rintro e w23 ⟨rfl, h1⟩; have X23 : Hid (Below w.heap.size w w23 ∧ TZ w23 w.heap.size) := ⟨chain X22.out.1 h1 (Nat.le_refl _), X22.out.2.kept h1 (lt_of_heap X22.out.2)⟩; clear h1; have c3_23 := (H.out.kept X23.out.1).c3)
      | (go_at_call 80; (with_reducible refine (B5.out _ X23.out.1).mono ?_); rintro e w24 ⟨rfl, h1⟩; have X24 : Hid (Below w.heap.size w w24 ∧ TZ w24 w.heap.size) := ⟨chain X23.out.1 h1 (Nat.le_refl _), X23.out.2.kept h1 (lt_of_heap X23.out.2)⟩; clear h1; have c3_24 := (H.out.kept X24.out.1).c3)
      | (go_at_call 76; (with_reducible refine (S36.out _ X24.out.1).mono ?_); rintro e w25 ⟨rfl, h1⟩; have X25 : Hid (Below w.heap.size w w25 ∧ TZ w25 w.heap.size) := ⟨chain X24.out.1 h1 (Nat.le_refl _), X24.out.2.kept h1 (lt_of_heap X24.out.2)⟩; clear h1; have c3_25 := (H.out.kept X25.out.1).c3)
      | (go_at_call 76; (with_reducible refine (S46.out _ X25.out.1).mono ?_); rintro e w26 ⟨rfl, h1⟩; have X26 : Hid (Below w.heap.size w w26 ∧ TZ w26 w.heap.size) := ⟨chain X25.out.1 h1 (Nat.le_refl _), X25.out.2.kept h1 (lt_of_heap X25.out.2)⟩; clear h1; have c3_26 := (H.out.kept X26.out.1).c3)
      | (go_at_call 76; (with_reducible refine (S91.out _ X26.out.1).mono ?_); rintro e w27 ⟨rfl, h1⟩; have X27 : Hid (Below w.heap.size w w27 ∧ TZ w27 w.heap.size) := ⟨chain X26.out.1 h1 (Nat.le_refl _), X26.out.2.kept h1 (lt_of_heap X26.out.2)⟩; clear h1; have c3_27 := (H.out.kept X27.out.1).c3)
      | (go_at_call 85; have hih := character_c (GL.out.kept X27.out.1) (H.out.kept X27.out.1) hp hs; rw [hr] at hih; (with_reducible refine hih.mono ?_); clear hih; rintro e w9 ⟨h1, v9, rfl, h2, rfl⟩; have X9 : Hid (RD w9 b s m qq tv ∧ Fr (At b) w w9 ∧ TZ w9 w.heap.size) := ⟨h2, (Fr.of_below X27.out.1).trans h1, X27.out.2.fr h1 (by intro q; have : w.heap.size = b := q; omega)⟩; clear h1 h2)
      | (go_at_call 84; refine (lone_c c _).mono ?_; rintro e w6 ⟨v6, rfl, h6, h7⟩; obtain ⟨q6, k6, rfl⟩ := h6.shape; have X6 : Hid (RD w6 b s m qq tv ∧ Fr (At b) w w6 ∧ TZ w6 w.heap.size ∧ ArgR w6 (.slice q6 1 k6) [(c, c)] ∧ w.heap.size < w6.heap.size) := ⟨X9.out.1.kept h7, X9.out.2.1.then h7, X9.out.2.2.kept h7 (lt_of_heap X9.out.2.2), h6.arg, lt_of_heap (X9.out.2.2.kept h7 (lt_of_heap X9.out.2.2))⟩; clear h6 h7)
      | (go_at_call 82; refine (set_c X6.out.1 X6.out.2.2.2.1 (fit_two hfit hfit) (by simp) false).mono ?_; rintro e w8 ⟨v8, he, ⟨rv, C, hv, h5, h6⟩, h4⟩; obtain ⟨q8, k8, hsh⟩ := h5.shape; rw [tkV_set] at hv; subst hsh; subst hv; subst he; have X8 : Hid (RD w8 b s m qq tv ∧ Fr (At b) w w8 ∧ TZ w8 w.heap.size ∧ (∃ base, w.heap.size < base ∧ RR base w8 (.slice q8 C.length k8) C) ∧ IsC C (setQ m [(c, c)] false)) := ⟨X6.out.1.kept h4, X6.out.2.1.then h4, X6.out.2.2.1.kept h4 (lt_of_heap X6.out.2.2.1), ⟨_, X6.out.2.2.2.2, h5⟩, h6⟩; obtain ⟨z0, z1, z2, z3, z4, z5, z6, y0, y1, y2, y3, y4, y5, y6⟩ := X8.out.2.2.1.all; clear h4 h5 h6)
    obtain ⟨bs, hbs, hrr⟩ := X8.out.2.2.2.1
    refine bodyPost_ret (v := tkV (setT m [(c, c)] false) 0 0 (.slice q8 C.length k8)) (by obtain ⟨e0, e1, e2, e3, e4, e5, e6⟩ := put7_cells X8.out.2.2.1 (.int .i64 1) (.int .i64 0) (.int .i64 0) (.int .i64 0) (.int .i64 0) (.int .i64 0) (.slice q8 C.length k8); simp [results, Tryz.results49, go_sem, tkV, setT, e0, e1, e2, e3, e4, e5, e6]) rfl ?_
    exact .is (fr7 X8.out.2.1 (.inr (Nat.le_refl _)) _ _ _ _ _ _ _) (RD.fr (S := fun k => k = w.heap.size) X8.out.1 (fr7 (S := fun k => k = w.heap.size) (Fr.refl _ _) (.inl rfl) _ _ _ _ _ _ _) (by omega)) ⟨_, C, rfl, RR.mono (rr7 hrr hbs _ _ _ _ _ _ _) (Nat.le_of_lt hbs), X8.out.2.2.2.2⟩

set_option maxRecDepth 100000 in
set_option maxHeartbeats 4000000 in
theorem token_chr36 {w : World} {b : Nat} {s : ByteArray} {m : Md} {p last : Nat} {tv : Value} (hG : Glb w) (h : RD w b s m p tv) (hk : LK w b tv last) (hb : 2 < b) (hp : p < s.size) (hs : s.size ≤ 2000) (hx : bt s p = 36) (hend : endsB s p = false) :
    Calls Tryz.prog 49 #[.pointer (some ⟨b, 0, none⟩)] w (Outs w b s m tv (TkAt w.heap.size) (chrT m (chr m s p))) := by
  have lb := h.lt
  have HX := And.intro hb hs
  clear HX
  have hbz : ¬ b = w.heap.size := by omega
  have hzb : ¬ w.heap.size = b := by omega
  have w1 : IntKind.wrap .i64 ((p : Int) + 1) = (p : Int) + 1 := wrap_small _ (by omega) (by omega)
  have W1 : Hid (Below w.heap.size w (w.alloc tokZ)) := (Below.refl _ _).alloc (Nat.le_refl _) _
  have H : Hid (RD w b s m p tv) := h
  have K : Hid (LK w b tv last) := hk
  have GL : Hid (Glb w) := hG
  clear h hk hG
  have e92 : sees s p [92] = false := by rw [sees_dec hp]; simp [hx]
  have S92 : Hid (∀ W, Below w.heap.size w W → Calls Tryz.prog 76 #[.pointer (some ⟨b, 0, none⟩), .string ⟨#[92]⟩] W fun e w' => e = .returned (.bool false) ∧ Below W.heap.size W w') := fun W hW => by have := sees_c (H.out.kept hW) (Nat.le_of_lt hp) ⟨#[92]⟩; rw [show sees s p (ByteArray.data ⟨#[92]⟩).toList = false from e92] at this; exact this
  have e42 : sees s p [42] = false := by rw [sees_dec hp]; simp [hx]
  have S42 : Hid (∀ W, Below w.heap.size w W → Calls Tryz.prog 76 #[.pointer (some ⟨b, 0, none⟩), .string ⟨#[42]⟩] W fun e w' => e = .returned (.bool false) ∧ Below W.heap.size W w') := fun W hW => by have := sees_c (H.out.kept hW) (Nat.le_of_lt hp) ⟨#[42]⟩; rw [show sees s p (ByteArray.data ⟨#[42]⟩).toList = false from e42] at this; exact this
  have e94 : sees s p [94] = false := by rw [sees_dec hp]; simp [hx]
  have S94 : Hid (∀ W, Below w.heap.size w W → Calls Tryz.prog 76 #[.pointer (some ⟨b, 0, none⟩), .string ⟨#[94]⟩] W fun e w' => e = .returned (.bool false) ∧ Below W.heap.size W w') := fun W hW => by have := sees_c (H.out.kept hW) (Nat.le_of_lt hp) ⟨#[94]⟩; rw [show sees s p (ByteArray.data ⟨#[94]⟩).toList = false from e94] at this; exact this
  have e36 : sees s p [36] = true := by rw [sees_dec hp]; simp [hx]
  have S36 : Hid (∀ W, Below w.heap.size w W → Calls Tryz.prog 76 #[.pointer (some ⟨b, 0, none⟩), .string ⟨#[36]⟩] W fun e w' => e = .returned (.bool true) ∧ Below W.heap.size W w') := fun W hW => by have := sees_c (H.out.kept hW) (Nat.le_of_lt hp) ⟨#[36]⟩; rw [show sees s p (ByteArray.data ⟨#[36]⟩).toList = true from e36] at this; exact this
  have HE : Hid (∀ W, Below w.heap.size w W → Calls Tryz.prog 81 #[.pointer (some ⟨b, 0, none⟩)] W fun e w' => e = .returned (.bool false) ∧ Below W.heap.size W w') := fun W hW => by have := ends_c (H.out.kept hW) hp hs; rw [hend] at this; exact this
  have e46 : sees s p [46] = false := by rw [sees_dec hp]; simp [hx]
  have S46 : Hid (∀ W, Below w.heap.size w W → Calls Tryz.prog 76 #[.pointer (some ⟨b, 0, none⟩), .string ⟨#[46]⟩] W fun e w' => e = .returned (.bool false) ∧ Below W.heap.size W w') := fun W hW => by have := sees_c (H.out.kept hW) (Nat.le_of_lt hp) ⟨#[46]⟩; rw [show sees s p (ByteArray.data ⟨#[46]⟩).toList = false from e46] at this; exact this
  have e91 : sees s p [91] = false := by rw [sees_dec hp]; simp [hx]
  have S91 : Hid (∀ W, Below w.heap.size w W → Calls Tryz.prog 76 #[.pointer (some ⟨b, 0, none⟩), .string ⟨#[91]⟩] W fun e w' => e = .returned (.bool false) ∧ Below W.heap.size W w') := fun W hW => by have := sees_c (H.out.kept hW) (Nat.le_of_lt hp) ⟨#[91]⟩; rw [show sees s p (ByteArray.data ⟨#[91]⟩).toList = false from e91] at this; exact this
  cases hr : chr m s p with
  | error x =>
    rw [chr_ascii m (by omega)] at hr; cases hr
  | ok x =>
    obtain ⟨c, qq⟩ := x
    have hfit := chr_le hr
    change Calls Tryz.prog 49 #[.pointer (some ⟨b, 0, none⟩)] w (Outs w b s m tv (TkAt w.heap.size) (.ok (setT m [(c, c)] false, qq)))
    go_enter Tryz.func49, Tryz.ntmps49
    go_wp2_with first
      | (go_at_call 76; (with_reducible refine (S92.out _ W1.out).mono ?_); rintro e w20 ⟨rfl, h1⟩; have X20 : Hid (Below w.heap.size w w20 ∧ TZ w20 w.heap.size) := ⟨chain W1.out h1 (Nat.le_refl _), (TZ.new w).kept h1 (lt_of_heap (TZ.new w))⟩; clear h1; have c3_20 := (H.out.kept X20.out.1).c3)
      | (go_at_call 76; (with_reducible refine (S42.out _ X20.out.1).mono ?_); rintro e w21 ⟨rfl, h1⟩; have X21 : Hid (Below w.heap.size w w21 ∧ TZ w21 w.heap.size) := ⟨chain X20.out.1 h1 (Nat.le_refl _), X20.out.2.kept h1 (lt_of_heap X20.out.2)⟩; clear h1; have c3_21 := (H.out.kept X21.out.1).c3)
      | (go_at_call 76; (with_reducible refine (S94.out _ X21.out.1).mono ?_); rintro e w22 ⟨rfl, h1⟩; have X22 : Hid (Below w.heap.size w w22 ∧ TZ w22 w.heap.size) := ⟨chain X21.out.1 h1 (Nat.le_refl _), X21.out.2.kept h1 (lt_of_heap X21.out.2)⟩; clear h1; have c3_22 := (H.out.kept X22.out.1).c3)
      | (go_at_call 76; (with_reducible refine (S36.out _ X22.out.1).mono ?_); rintro e w23 ⟨rfl, h1⟩; have X23 : Hid (Below w.heap.size w w23 ∧ TZ w23 w.heap.size) := ⟨chain X22.out.1 h1 (Nat.le_refl _), X22.out.2.kept h1 (lt_of_heap X22.out.2)⟩; clear h1; have c3_23 := (H.out.kept X23.out.1).c3)
      | (go_at_call 81; (with_reducible refine (HE.out _ X23.out.1).mono ?_); rintro e w24 ⟨rfl, h1⟩; have X24 : Hid (Below w.heap.size w w24 ∧ TZ w24 w.heap.size) := ⟨chain X23.out.1 h1 (Nat.le_refl _), X23.out.2.kept h1 (lt_of_heap X23.out.2)⟩; clear h1; have c3_24 := (H.out.kept X24.out.1).c3)
      | (go_at_call 76; (with_reducible refine (S46.out _ X24.out.1).mono ?_); rintro e w25 ⟨rfl, h1⟩; have X25 : Hid (Below w.heap.size w w25 ∧ TZ w25 w.heap.size) := ⟨chain X24.out.1 h1 (Nat.le_refl _), X24.out.2.kept h1 (lt_of_heap X24.out.2)⟩; clear h1; have c3_25 := (H.out.kept X25.out.1).c3)
      | (go_at_call 76; (with_reducible refine (S91.out _ X25.out.1).mono ?_); rintro e w26 ⟨rfl, h1⟩; have X26 : Hid (Below w.heap.size w w26 ∧ TZ w26 w.heap.size) := ⟨chain X25.out.1 h1 (Nat.le_refl _), X25.out.2.kept h1 (lt_of_heap X25.out.2)⟩; clear h1; have c3_26 := (H.out.kept X26.out.1).c3)
      | (go_at_call 85; have hih := character_c (GL.out.kept X26.out.1) (H.out.kept X26.out.1) hp hs; rw [hr] at hih; (with_reducible refine hih.mono ?_); clear hih; rintro e w9 ⟨h1, v9, rfl, h2, rfl⟩; have X9 : Hid (RD w9 b s m qq tv ∧ Fr (At b) w w9 ∧ TZ w9 w.heap.size) := ⟨h2, (Fr.of_below X26.out.1).trans h1, X26.out.2.fr h1 (by intro q; have : w.heap.size = b := q; omega)⟩; clear h1 h2)
      | (go_at_call 84; refine (lone_c c _).mono ?_; rintro e w6 ⟨v6, rfl, h6, h7⟩; obtain ⟨q6, k6, rfl⟩ := h6.shape; have X6 : Hid (RD w6 b s m qq tv ∧ Fr (At b) w w6 ∧ TZ w6 w.heap.size ∧ ArgR w6 (.slice q6 1 k6) [(c, c)] ∧ w.heap.size < w6.heap.size) := ⟨X9.out.1.kept h7, X9.out.2.1.then h7, X9.out.2.2.kept h7 (lt_of_heap X9.out.2.2), h6.arg, lt_of_heap (X9.out.2.2.kept h7 (lt_of_heap X9.out.2.2))⟩; clear h6 h7)
      | (go_at_call 82; refine (set_c X6.out.1 X6.out.2.2.2.1 (fit_two hfit hfit) (by simp) false).mono ?_; rintro e w8 ⟨v8, he, ⟨rv, C, hv, h5, h6⟩, h4⟩; obtain ⟨q8, k8, hsh⟩ := h5.shape; rw [tkV_set] at hv; subst hsh; subst hv; subst he; have X8 : Hid (RD w8 b s m qq tv ∧ Fr (At b) w w8 ∧ TZ w8 w.heap.size ∧ (∃ base, w.heap.size < base ∧ RR base w8 (.slice q8 C.length k8) C) ∧ IsC C (setQ m [(c, c)] false)) := ⟨X6.out.1.kept h4, X6.out.2.1.then h4, X6.out.2.2.1.kept h4 (lt_of_heap X6.out.2.2.1), ⟨_, X6.out.2.2.2.2, h5⟩, h6⟩; obtain ⟨z0, z1, z2, z3, z4, z5, z6, y0, y1, y2, y3, y4, y5, y6⟩ := X8.out.2.2.1.all; clear h4 h5 h6)
    obtain ⟨bs, hbs, hrr⟩ := X8.out.2.2.2.1
    refine bodyPost_ret (v := tkV (setT m [(c, c)] false) 0 0 (.slice q8 C.length k8)) (by obtain ⟨e0, e1, e2, e3, e4, e5, e6⟩ := put7_cells X8.out.2.2.1 (.int .i64 1) (.int .i64 0) (.int .i64 0) (.int .i64 0) (.int .i64 0) (.int .i64 0) (.slice q8 C.length k8); simp [results, Tryz.results49, go_sem, tkV, setT, e0, e1, e2, e3, e4, e5, e6]) rfl ?_
    exact .is (fr7 X8.out.2.1 (.inr (Nat.le_refl _)) _ _ _ _ _ _ _) (RD.fr (S := fun k => k = w.heap.size) X8.out.1 (fr7 (S := fun k => k = w.heap.size) (Fr.refl _ _) (.inl rfl) _ _ _ _ _ _ _) (by omega)) ⟨_, C, rfl, RR.mono (rr7 hrr hbs _ _ _ _ _ _ _) (Nat.le_of_lt hbs), X8.out.2.2.2.2⟩
structure Plain (x : Nat) : Prop where
  h92 : ¬ x = 92
  h42 : ¬ x = 42
  h94 : ¬ x = 94
  h36 : ¬ x = 36
  h46 : ¬ x = 46
  h91 : ¬ x = 91

set_option maxRecDepth 100000 in
set_option maxHeartbeats 4000000 in
theorem token_chr {w : World} {b : Nat} {s : ByteArray} {m : Md} {p last : Nat} {tv : Value} (hG : Glb w) (h : RD w b s m p tv) (hk : LK w b tv last) (hb : 2 < b) (hp : p < s.size) (hs : s.size ≤ 2000) (hx : Plain (bt s p)) :
    Calls Tryz.prog 49 #[.pointer (some ⟨b, 0, none⟩)] w (Outs w b s m tv (TkAt w.heap.size) (chrT m (chr m s p))) := by
  have lb := h.lt
  have HX := And.intro hb hs
  clear HX
  have hbz : ¬ b = w.heap.size := by omega
  have hzb : ¬ w.heap.size = b := by omega
  have w1 : IntKind.wrap .i64 ((p : Int) + 1) = (p : Int) + 1 := wrap_small _ (by omega) (by omega)
  have W1 : Hid (Below w.heap.size w (w.alloc tokZ)) := (Below.refl _ _).alloc (Nat.le_refl _) _
  have H : Hid (RD w b s m p tv) := h
  have K : Hid (LK w b tv last) := hk
  have GL : Hid (Glb w) := hG
  clear h hk hG
  have e92 : sees s p [92] = false := by rw [sees_dec hp]; simp [hx.h92]
  have S92 : Hid (∀ W, Below w.heap.size w W → Calls Tryz.prog 76 #[.pointer (some ⟨b, 0, none⟩), .string ⟨#[92]⟩] W fun e w' => e = .returned (.bool false) ∧ Below W.heap.size W w') := fun W hW => by have := sees_c (H.out.kept hW) (Nat.le_of_lt hp) ⟨#[92]⟩; rw [show sees s p (ByteArray.data ⟨#[92]⟩).toList = false from e92] at this; exact this
  have e42 : sees s p [42] = false := by rw [sees_dec hp]; simp [hx.h42]
  have S42 : Hid (∀ W, Below w.heap.size w W → Calls Tryz.prog 76 #[.pointer (some ⟨b, 0, none⟩), .string ⟨#[42]⟩] W fun e w' => e = .returned (.bool false) ∧ Below W.heap.size W w') := fun W hW => by have := sees_c (H.out.kept hW) (Nat.le_of_lt hp) ⟨#[42]⟩; rw [show sees s p (ByteArray.data ⟨#[42]⟩).toList = false from e42] at this; exact this
  have e94 : sees s p [94] = false := by rw [sees_dec hp]; simp [hx.h94]
  have S94 : Hid (∀ W, Below w.heap.size w W → Calls Tryz.prog 76 #[.pointer (some ⟨b, 0, none⟩), .string ⟨#[94]⟩] W fun e w' => e = .returned (.bool false) ∧ Below W.heap.size W w') := fun W hW => by have := sees_c (H.out.kept hW) (Nat.le_of_lt hp) ⟨#[94]⟩; rw [show sees s p (ByteArray.data ⟨#[94]⟩).toList = false from e94] at this; exact this
  have e36 : sees s p [36] = false := by rw [sees_dec hp]; simp [hx.h36]
  have S36 : Hid (∀ W, Below w.heap.size w W → Calls Tryz.prog 76 #[.pointer (some ⟨b, 0, none⟩), .string ⟨#[36]⟩] W fun e w' => e = .returned (.bool false) ∧ Below W.heap.size W w') := fun W hW => by have := sees_c (H.out.kept hW) (Nat.le_of_lt hp) ⟨#[36]⟩; rw [show sees s p (ByteArray.data ⟨#[36]⟩).toList = false from e36] at this; exact this
  have e46 : sees s p [46] = false := by rw [sees_dec hp]; simp [hx.h46]
  have S46 : Hid (∀ W, Below w.heap.size w W → Calls Tryz.prog 76 #[.pointer (some ⟨b, 0, none⟩), .string ⟨#[46]⟩] W fun e w' => e = .returned (.bool false) ∧ Below W.heap.size W w') := fun W hW => by have := sees_c (H.out.kept hW) (Nat.le_of_lt hp) ⟨#[46]⟩; rw [show sees s p (ByteArray.data ⟨#[46]⟩).toList = false from e46] at this; exact this
  have e91 : sees s p [91] = false := by rw [sees_dec hp]; simp [hx.h91]
  have S91 : Hid (∀ W, Below w.heap.size w W → Calls Tryz.prog 76 #[.pointer (some ⟨b, 0, none⟩), .string ⟨#[91]⟩] W fun e w' => e = .returned (.bool false) ∧ Below W.heap.size W w') := fun W hW => by have := sees_c (H.out.kept hW) (Nat.le_of_lt hp) ⟨#[91]⟩; rw [show sees s p (ByteArray.data ⟨#[91]⟩).toList = false from e91] at this; exact this
  cases hr : chr m s p with
  | error x =>
    change Calls Tryz.prog 49 #[.pointer (some ⟨b, 0, none⟩)] w (Outs w b s m tv (TkAt w.heap.size) (.error x))
    go_enter Tryz.func49, Tryz.ntmps49
    go_wp2_with first
      | (go_at_call 76; (with_reducible refine (S92.out _ W1.out).mono ?_); rintro e w20 ⟨rfl, h1⟩; have X20 : Hid (Below w.heap.size w w20 ∧ TZ w20 w.heap.size) := ⟨chain W1.out h1 (Nat.le_refl _), (TZ.new w).kept h1 (lt_of_heap (TZ.new w))⟩; clear h1; have c3_20 := (H.out.kept X20.out.1).c3)
      | (go_at_call 76; (with_reducible refine (S42.out _ X20.out.1).mono ?_); rintro e w21 ⟨rfl, h1⟩; have X21 : Hid (Below w.heap.size w w21 ∧ TZ w21 w.heap.size) := ⟨chain X20.out.1 h1 (Nat.le_refl _), X20.out.2.kept h1 (lt_of_heap X20.out.2)⟩; clear h1; have c3_21 := (H.out.kept X21.out.1).c3)
      | (go_at_call 76; (with_reducible refine (S94.out _ X21.out.1).mono ?_); rintro e w22 ⟨rfl, h1⟩; have X22 : Hid (Below w.heap.size w w22 ∧ TZ w22 w.heap.size) := ⟨chain X21.out.1 h1 (Nat.le_refl _), X21.out.2.kept h1 (lt_of_heap X21.out.2)⟩; clear h1; have c3_22 := (H.out.kept X22.out.1).c3)
      | (go_at_call 76; (with_reducible refine (S36.out _ X22.out.1).mono ?_); rintro e w23 ⟨rfl, h1⟩; have X23 : Hid (Below w.heap.size w w23 ∧ TZ w23 w.heap.size) := ⟨chain X22.out.1 h1 (Nat.le_refl _), X22.out.2.kept h1 (lt_of_heap X22.out.2)⟩; clear h1; have c3_23 := (H.out.kept X23.out.1).c3)
      | (go_at_call 76; (with_reducible refine (S46.out _ X23.out.1).mono ?_); rintro e w24 ⟨rfl, h1⟩; have X24 : Hid (Below w.heap.size w w24 ∧ TZ w24 w.heap.size) := ⟨chain X23.out.1 h1 (Nat.le_refl _), X23.out.2.kept h1 (lt_of_heap X23.out.2)⟩; clear h1; have c3_24 := (H.out.kept X24.out.1).c3)
      | (go_at_call 76; (with_reducible refine (S91.out _ X24.out.1).mono ?_); rintro e w25 ⟨rfl, h1⟩; have X25 : Hid (Below w.heap.size w w25 ∧ TZ w25 w.heap.size) := ⟨chain X24.out.1 h1 (Nat.le_refl _), X24.out.2.kept h1 (lt_of_heap X24.out.2)⟩; clear h1; have c3_25 := (H.out.kept X25.out.1).c3)
      | (go_at_call 85; have hih := character_c (GL.out.kept X25.out.1) (H.out.kept X25.out.1) hp hs; rw [hr] at hih; (with_reducible refine hih.mono ?_); rintro e w8 ⟨h1, g, h2, rfl, h4⟩)
    exact ⟨rfl, .err ((Fr.of_below X25.out.1).trans h1) (Nat.le_trans X25.out.1.size h2) h4⟩
  | ok x =>
    obtain ⟨c, qq⟩ := x
    have hfit := chr_le hr
    change Calls Tryz.prog 49 #[.pointer (some ⟨b, 0, none⟩)] w (Outs w b s m tv (TkAt w.heap.size) (.ok (setT m [(c, c)] false, qq)))
    go_enter Tryz.func49, Tryz.ntmps49
    go_wp2_with first
      | (go_at_call 76; (with_reducible refine (S92.out _ W1.out).mono ?_); rintro e w20 ⟨rfl, h1⟩; have X20 : Hid (Below w.heap.size w w20 ∧ TZ w20 w.heap.size) := ⟨chain W1.out h1 (Nat.le_refl _), (TZ.new w).kept h1 (lt_of_heap (TZ.new w))⟩; clear h1; have c3_20 := (H.out.kept X20.out.1).c3)
      | (go_at_call 76; (with_reducible refine (S42.out _ X20.out.1).mono ?_); rintro e w21 ⟨rfl, h1⟩; have X21 : Hid (Below w.heap.size w w21 ∧ TZ w21 w.heap.size) := ⟨chain X20.out.1 h1 (Nat.le_refl _), X20.out.2.kept h1 (lt_of_heap X20.out.2)⟩; clear h1; have c3_21 := (H.out.kept X21.out.1).c3)
      | (go_at_call 76; (with_reducible refine (S94.out _ X21.out.1).mono ?_); rintro e w22 ⟨rfl, h1⟩; have X22 : Hid (Below w.heap.size w w22 ∧ TZ w22 w.heap.size) := ⟨chain X21.out.1 h1 (Nat.le_refl _), X21.out.2.kept h1 (lt_of_heap X21.out.2)⟩; clear h1; have c3_22 := (H.out.kept X22.out.1).c3)
      | (go_at_call 76; (with_reducible refine (S36.out _ X22.out.1).mono ?_); rintro e w23 ⟨rfl, h1⟩; have X23 : Hid (Below w.heap.size w w23 ∧ TZ w23 w.heap.size) := ⟨chain X22.out.1 h1 (Nat.le_refl _), X22.out.2.kept h1 (lt_of_heap X22.out.2)⟩; clear h1; have c3_23 := (H.out.kept X23.out.1).c3)
      | (go_at_call 76; (with_reducible refine (S46.out _ X23.out.1).mono ?_); rintro e w24 ⟨rfl, h1⟩; have X24 : Hid (Below w.heap.size w w24 ∧ TZ w24 w.heap.size) := ⟨chain X23.out.1 h1 (Nat.le_refl _), X23.out.2.kept h1 (lt_of_heap X23.out.2)⟩; clear h1; have c3_24 := (H.out.kept X24.out.1).c3)
      | (go_at_call 76; (with_reducible refine (S91.out _ X24.out.1).mono ?_); rintro e w25 ⟨rfl, h1⟩; have X25 : Hid (Below w.heap.size w w25 ∧ TZ w25 w.heap.size) := ⟨chain X24.out.1 h1 (Nat.le_refl _), X24.out.2.kept h1 (lt_of_heap X24.out.2)⟩; clear h1; have c3_25 := (H.out.kept X25.out.1).c3)
      | (go_at_call 85; have hih := character_c (GL.out.kept X25.out.1) (H.out.kept X25.out.1) hp hs; rw [hr] at hih; (with_reducible refine hih.mono ?_); clear hih; rintro e w9 ⟨h1, v9, rfl, h2, rfl⟩; have X9 : Hid (RD w9 b s m qq tv ∧ Fr (At b) w w9 ∧ TZ w9 w.heap.size) := ⟨h2, (Fr.of_below X25.out.1).trans h1, X25.out.2.fr h1 (by intro q; have : w.heap.size = b := q; omega)⟩; clear h1 h2)
      | (go_at_call 84; refine (lone_c c _).mono ?_; rintro e w6 ⟨v6, rfl, h6, h7⟩; obtain ⟨q6, k6, rfl⟩ := h6.shape; have X6 : Hid (RD w6 b s m qq tv ∧ Fr (At b) w w6 ∧ TZ w6 w.heap.size ∧ ArgR w6 (.slice q6 1 k6) [(c, c)] ∧ w.heap.size < w6.heap.size) := ⟨X9.out.1.kept h7, X9.out.2.1.then h7, X9.out.2.2.kept h7 (lt_of_heap X9.out.2.2), h6.arg, lt_of_heap (X9.out.2.2.kept h7 (lt_of_heap X9.out.2.2))⟩; clear h6 h7)
      | (go_at_call 82; refine (set_c X6.out.1 X6.out.2.2.2.1 (fit_two hfit hfit) (by simp) false).mono ?_; rintro e w8 ⟨v8, he, ⟨rv, C, hv, h5, h6⟩, h4⟩; obtain ⟨q8, k8, hsh⟩ := h5.shape; rw [tkV_set] at hv; subst hsh; subst hv; subst he; have X8 : Hid (RD w8 b s m qq tv ∧ Fr (At b) w w8 ∧ TZ w8 w.heap.size ∧ (∃ base, w.heap.size < base ∧ RR base w8 (.slice q8 C.length k8) C) ∧ IsC C (setQ m [(c, c)] false)) := ⟨X6.out.1.kept h4, X6.out.2.1.then h4, X6.out.2.2.1.kept h4 (lt_of_heap X6.out.2.2.1), ⟨_, X6.out.2.2.2.2, h5⟩, h6⟩; obtain ⟨z0, z1, z2, z3, z4, z5, z6, y0, y1, y2, y3, y4, y5, y6⟩ := X8.out.2.2.1.all; clear h4 h5 h6)
    obtain ⟨bs, hbs, hrr⟩ := X8.out.2.2.2.1
    refine bodyPost_ret (v := tkV (setT m [(c, c)] false) 0 0 (.slice q8 C.length k8)) (by obtain ⟨e0, e1, e2, e3, e4, e5, e6⟩ := put7_cells X8.out.2.2.1 (.int .i64 1) (.int .i64 0) (.int .i64 0) (.int .i64 0) (.int .i64 0) (.int .i64 0) (.slice q8 C.length k8); simp [results, Tryz.results49, go_sem, tkV, setT, e0, e1, e2, e3, e4, e5, e6]) rfl ?_
    exact .is (fr7 X8.out.2.1 (.inr (Nat.le_refl _)) _ _ _ _ _ _ _) (RD.fr (S := fun k => k = w.heap.size) X8.out.1 (fr7 (S := fun k => k = w.heap.size) (Fr.refl _ _) (.inl rfl) _ _ _ _ _ _ _) (by omega)) ⟨_, C, rfl, RR.mono (rr7 hrr hbs _ _ _ _ _ _ _) (Nat.le_of_lt hbs), X8.out.2.2.2.2⟩

theorem token_c {w : World} {b : Nat} {s : ByteArray} {m : Md} {p last : Nat} {tv : Value} (hG : Glb w) (h : RD w b s m p tv) (hk : LK w b tv last) (hb : 2 < b) (hp : p < s.size) (hs : s.size ≤ 2000) :
    Calls Tryz.prog 49 #[.pointer (some ⟨b, 0, none⟩)] w (Outs w b s m tv (TkAt w.heap.size) (tok m s p last)) := by
  have sd : ∀ c : UInt8, sees s p [c] = decide (bt s p = c.toNat) := sees_dec hp
  have t92 := sd 92
  have t42 := sd 42
  have t94 := sd 94
  have t36 := sd 36
  have t46 := sd 46
  have t91 := sd 91
  simp only [show (92 : UInt8).toNat = 92 from rfl, show (42 : UInt8).toNat = 42 from rfl, show (94 : UInt8).toNat = 94 from rfl, show (36 : UInt8).toNat = 36 from rfl, show (46 : UInt8).toNat = 46 from rfl, show (91 : UInt8).toNat = 91 from rfl] at t92 t42 t94 t36 t46 t91
  by_cases x92 : bt s p = 92
  · have e : tok m s p last = esc m s p last := by unfold tok; simp [t92, x92]
    rw [e]; exact token_esc hG h hk hb hp hs x92
  by_cases x42 : bt s p = 42
  · cases hbeg : atBeg last with
    | false =>
      have e : tok m s p last = .ok (repT 0 (-1), p + 1) := by unfold tok; simp [t92, t42, x42, hbeg]
      rw [e]; exact token_star hG h hk hb hp hs x42 hbeg
    | true =>
      have e : tok m s p last = chrT m (chr m s p) := by unfold tok; simp [t92, t42, t94, t36, t46, t91, x42, hbeg]; rfl
      rw [e]; exact token_chr42 hG h hk hb hp hs x42 hbeg
  by_cases x94 : bt s p = 94
  · by_cases hp0 : p = 0
    · have hpb : (p == 0) = true := by simp [hp0]
      have e : tok m s p last = .ok (kT 7, p + 1) := by unfold tok; rw [hpb]; simp [t92, t42, t94, x94]
      rw [e]; exact token_beg0 hG h hk hb hp hs x94 hp0
    by_cases h3 : last = 3
    · have e : tok m s p last = .ok (kT 7, p + 1) := by unfold tok; simp [t92, t42, t94, x94, h3]
      rw [e]; exact token_beg3 hG h hk hb hp hs x94 hp0 h3
    by_cases h5 : last = 5
    · have e : tok m s p last = .ok (kT 7, p + 1) := by unfold tok; simp [t92, t42, t94, x94, h5]
      rw [e]; exact token_beg5 hG h hk hb hp hs x94 hp0 h5
    have e : tok m s p last = chrT m (chr m s p) := by unfold tok; simp [t92, t42, t94, t36, t46, t91, x94, hp0, h3, h5]; rfl
    rw [e]; exact token_chr94 hG h hk hb hp hs x94 hp0 h3 h5
  by_cases x36 : bt s p = 36
  · cases hend : endsB s p with
    | true =>
      have e : tok m s p last = .ok (kT 8, p + 1) := by unfold tok; simp [t92, t42, t94, t36, x36, hend]
      rw [e]; exact token_end hG h hk hb hp hs x36 hend
    | false =>
      have e : tok m s p last = chrT m (chr m s p) := by unfold tok; simp [t92, t42, t94, t36, t46, t91, x36, hend]; rfl
      rw [e]; exact token_chr36 hG h hk hb hp hs x36 hend
  by_cases x46 : bt s p = 46
  · have e : tok m s p last = .ok (setT m [] true, p + 1) := by unfold tok; simp [t92, t42, t94, t36, t46, x46]
    rw [e]; exact token_dot hG h hk hb hp hs x46
  by_cases x91 : bt s p = 91
  · have e : tok m s p last = brk m s p := by unfold tok; simp [t92, t42, t94, t36, t46, t91, x91]
    rw [e]; exact token_brk hG h hk hb hp hs x91
  have e : tok m s p last = chrT m (chr m s p) := by unfold tok; simp [t92, t42, t94, t36, t46, t91, x92, x42, x94, x36, x46, x91]; rfl
  rw [e]; exact token_chr hG h hk hb hp hs ⟨x92, x42, x94, x36, x46, x91⟩
end Go.Proofs.YtpfdapnfkghgkaaGreatDoor
namespace Go.Proofs.YtpfdapnfkghgkaaGreatDoor
open Go Go.RowKit
attribute [local go_sem] ext_cell

theorem run_bad_assert {P : Program} (w : World) (t xT e : TypeId) (v : Value) (h : P.underlying t = some (.pointer e)) : (Instr.typeAssert (.iface t v) xT t false).run P w = .ok v w := by
  simp [Instr.typeAssert, run_underlying h, go_sem, Result.andThen]
theorem run_bad_assert2 {P : Program} (w : World) (t xT e : TypeId) (v : Value) (h : P.underlying t = some (.pointer e)) : (Instr.typeAssert (.iface t v) xT t true).run P w = .ok (.tuple #[v, .bool true]) w := by
  simp [Instr.typeAssert, run_underlying h, go_sem, Result.andThen]
theorem und_bad : Tryz.prog.underlying 62 = some (.pointer 65) := by kernel_rfl
set_option maxRecDepth 100000 in
set_option maxHeartbeats 1000000 in
theorem catch_idle (p q : Addr) (w : World) :
    CallsD Tryz.prog 47 #[.pointer (some p), .pointer (some q)] .returning w fun e u' w' => e = .returned (.tuple #[]) ∧ u' = .returning ∧ w' = w := by
  refine callsD_of_wpS Tryz.func47 rfl fun c₀ cs hu => ?_
  apply wpS_seq
  apply wpS_region
  simp [wpOpsS, go_sem, recoverD, hu, Tryz.ntmps47, Exit.thenS]
  refine wpS_of_wp ?_
  rw [show (#[Value.pointer (some p), Value.pointer (some q)] ++ ((Array.replicate 7 undef).setIfInBounds 1 Value.nilIface).setIfInBounds 0 Value.nilIface) = #[Value.pointer (some p), Value.pointer (some q), .nilIface, .nilIface, undef, undef, undef, undef, undef] from rfl]
  go_wp2
  cases c₀
  simp_all [bodyPostS, results, Tryz.results47]

set_option maxRecDepth 100000 in
set_option maxHeartbeats 1000000 in
theorem catch_panicking (p q g : Nat) (older : List PanicEntry) (w : World) (hp : w.heap[p]? = some (.cells #[.slice none 0 0] 51 (0, 0))) (hq : w.heap[q]? = some (.cells #[.nilIface] 30 (0, 0))) (hpq : p ≠ q) :
    CallsD Tryz.prog 47 #[.pointer (some ⟨p, 0, none⟩), .pointer (some ⟨q, 0, none⟩)] (.panicking ({ v := .iface 62 (.pointer (some ⟨g, 0, none⟩)), recovered := false } :: older)) w fun e u' w' =>
      e = .returned (.tuple #[]) ∧ u' = .panicking ({ v := .iface 62 (.pointer (some ⟨g, 0, none⟩)), recovered := true } :: older) ∧ w'.cell? ⟨p, 0, none⟩ = some (.slice none 0 0) ∧ w'.cell? ⟨q, 0, none⟩ = some (.iface 62 (.pointer (some ⟨g, 0, none⟩))) ∧ Fr (fun k => k = p ∨ k = q) w w' := by
  refine callsD_of_wpS Tryz.func47 rfl fun c₀ cs hu => ?_
  apply wpS_seq
  apply wpS_region
  simp [wpOpsS, go_sem, recoverD, hu, Tryz.ntmps47, Exit.thenS]
  refine wpS_of_wp ?_
  rw [show (#[Value.pointer (some ⟨p, 0, none⟩), Value.pointer (some ⟨q, 0, none⟩)] ++ ((Array.replicate 7 undef).setIfInBounds 1 (.iface 62 (.pointer (some ⟨g, 0, none⟩)))).setIfInBounds 0 (.iface 62 (.pointer (some ⟨g, 0, none⟩)))) = #[Value.pointer (some ⟨p, 0, none⟩), Value.pointer (some ⟨q, 0, none⟩), .iface 62 (.pointer (some ⟨g, 0, none⟩)), .iface 62 (.pointer (some ⟨g, 0, none⟩)), undef, undef, undef, undef, undef] from rfl]
  have p0 : w.cell? ⟨p, 0, none⟩ = some (.slice none 0 0) := cell_row hp (i := 0) rfl
  have q0 : w.cell? ⟨q, 0, none⟩ = some .nilIface := cell_row hq (i := 0) rfl
  have pf := frz_row hp 0
  have qf := frz_row hq 0
  have hta : ∀ W, (Instr.typeAssert (.iface 62 (.pointer (some ⟨g, 0, none⟩))) 20 62 false).run Tryz.prog W = .ok (.pointer (some ⟨g, 0, none⟩)) W := fun W => run_bad_assert W _ _ _ _ und_bad
  go_wp2
  go_region
  refine ⟨rfl, _, rfl, .tuple #[], by simp [results, Tryz.results47], rfl, rfl, ?_, ?_, ?_⟩
  · have h1 := heap_set_in hp 0 (.slice none 0 0)
    have h2 : ((w.setCell ⟨p, 0, none⟩ (.slice none 0 0)).setCell ⟨q, 0, none⟩ (.iface 62 (.pointer (some ⟨g, 0, none⟩)))).heap[p]? = _ := ((Fr.setCell (S := At q) (Fr.refl _ _) (p := ⟨q, 0, none⟩) rfl _).block p (lt_of_heap h1) hpq).trans h1
    exact cell_row h2 (i := 0) rfl
  · have h1 : (w.setCell ⟨p, 0, none⟩ (.slice none 0 0)).heap[q]? = _ := ((Fr.setCell (S := At p) (Fr.refl _ _) (p := ⟨p, 0, none⟩) rfl _).block q (lt_of_heap hq) (Ne.symm hpq)).trans hq
    exact cell_row (heap_set_in h1 0 (.iface 62 (.pointer (some ⟨g, 0, none⟩)))) (i := 0) rfl
  · exact Fr.drew ((Fr.setCell (S := fun k => k = p ∨ k = q) (Fr.refl _ _) (p := ⟨p, 0, none⟩) (.inl rfl) _).setCell (p := ⟨q, 0, none⟩) (.inr rfl) _)
end Go.Proofs.YtpfdapnfkghgkaaGreatDoor
namespace Go.Proofs.YtpfdapnfkghgkaaGreatDoor
open Go Go.RowKit
attribute [local go_sem] ext_cell

/-- What the two results' variables hold while Lex runs. -/
structure Face (w wr : World) : Prop where
  toks : wr.heap[w.heap.size + 1]? = some (.cells #[.slice none 0 0] 51 (0, 0))
  err : wr.heap[w.heap.size + 1 + 1]? = some (.cells #[.nilIface] 30 (0, 0))
  low : Below w.heap.size w wr
set_option maxRecDepth 100000 in
set_option maxHeartbeats 2000000 in
theorem caught {w wr : World} {tmps : Array Value} {g c a : Nat} (hF : Face w wr) (h4 : tmps[4]? = some (.pointer (some ⟨w.heap.size + 1, 0, none⟩))) (h5 : tmps[5]? = some (.pointer (some ⟨w.heap.size + 1 + 1, 0, none⟩))) (hg : w.heap.size + 1 + 1 < g) (hb : BadAt wr g c a) :
    bodyPostD Tryz.prog Tryz.f23 (LexIs w (.error (c, a))) (Exit.panic [{ v := .iface 62 (.pointer (some ⟨g, 0, none⟩)), recovered := false }])
      { tmps := tmps, defers := [{ target := Target.fn (Fn.func 47) #[.pointer (some ⟨w.heap.size + 1, 0, none⟩), .pointer (some ⟨w.heap.size + 1 + 1, 0, none⟩)], args := #[] }] } wr := by
  refine leaves_cons (f := 47) (args := #[.pointer (some ⟨w.heap.size + 1, 0, none⟩), .pointer (some ⟨w.heap.size + 1 + 1, 0, none⟩)]) (by simp) (by simp [go_sem]) ?_
  refine (catch_panicking (w.heap.size + 1) (w.heap.size + 1 + 1) g [] wr hF.toks hF.err (by omega)).mono ?_
  rintro e u' w'' ⟨rfl, rfl, h1, h2, h3⟩
  have hB : Below w.heap.size w w'' := hF.low.trans (h3.below hF.low.size (fun k hk => by omega))
  have hbad : BadAt w'' g c a := (h3.block g (lt_of_heap hb) (by omega)).trans hb
  have hL : LexIs w (.error (c, a)) (.returned (.tuple #[.slice none 0 0, .iface 62 (.pointer (some ⟨g, 0, none⟩))])) w'' := ⟨hB, g, by omega, rfl, hbad⟩
  generalize LexIs w (.error (c, a)) = R at *
  simp [Leaves, settle, results, Tryz.results23, go_sem, h4, h5, h1, h2]
  exact hL
abbrev face0 (w : World) (m : Md) : World := ((w.alloc (.cells #[.bool m.c, .bool m.f] 23)).alloc (.cells #[.slice none 0 0] 51)).alloc (.cells #[.nilIface] 30)
theorem face_new (w : World) (m : Md) : Face w (face0 w m) := by
  have e1 : (w.alloc (.cells #[.bool m.c, .bool m.f] 23)).heap.size = w.heap.size + 1 := by simp
  have e2 : ((w.alloc (.cells #[.bool m.c, .bool m.f] 23)).alloc (.cells #[.slice none 0 0] 51)).heap.size = w.heap.size + 1 + 1 := by simp
  refine ⟨?_, ?_, ?_⟩
  · have h1 := alloc_new (w.alloc (.cells #[.bool m.c, .bool m.f] 23)) (.cells #[.slice none 0 0] 51)
    rw [e1] at h1
    exact (((Below.refl _ _).alloc (Nat.le_refl _) _).block _ (lt_of_heap h1)).trans h1
  · have h1 := alloc_new ((w.alloc (.cells #[.bool m.c, .bool m.f] 23)).alloc (.cells #[.slice none 0 0] 51)) (.cells #[.nilIface] 30)
    rw [e2] at h1
    exact h1
  · exact (((Below.refl _ _).alloc (Nat.le_refl _) _).alloc (by omega) _).alloc (by omega) _
theorem Face.fr {w wr wr' : World} {S : Nat → Prop} (h : Face w wr) (hf : Fr S wr wr') (h1 : ¬ S (w.heap.size + 1)) (h2 : ¬ S (w.heap.size + 1 + 1)) (h3 : ∀ k, S k → w.heap.size ≤ k) : Face w wr' :=
  ⟨(hf.block _ (lt_of_heap h.toks) h1).trans h.toks, (hf.block _ (lt_of_heap h.err) h2).trans h.err, h.low.trans (hf.below h.low.size h3)⟩
theorem Face.kept {w wr wr' : World} (h : Face w wr) (hb : Below wr.heap.size wr wr') : Face w wr' := h.fr (S := fun _ => False) (Fr.of_below hb) (fun q => q) (fun q => q) (fun _ q => q.elim)
set_option maxRecDepth 100000 in
set_option maxHeartbeats 4000000 in
theorem lex_long {w : World} (s : ByteArray) (m : Md) (hs : 2000 < s.size) :
    Calls Tryz.prog 23 #[.string s, .agg #[.bool m.c, .bool m.f]] w (LexIs w (.error (30, 0))) := by
  have hmf : ∀ (fn : Fn) (first cap : Array Value) (w : World), (Instr.makeFunc fn first cap).run Tryz.prog w = .ok (.func fn first cap) w := fun _ _ _ _ => rfl
  have d0 : (2000 : Int) < (s.size : Int) := by omega
  go_enter_defers Tryz.func23, Tryz.ntmps23
  go_wp2_with (go_at_call 48; refine (wrong_c 30 0 _).mono ?_; rintro e w11 ⟨rfl, h6, h7⟩)
  exact caught ((face_new w m).kept h7) rfl rfl (by omega) (by simpa using h6)

set_option maxRecDepth 100000 in
set_option maxHeartbeats 4000000 in
theorem lex_short {w : World} (hG : Glb w) (s : ByteArray) (m : Md) (hs : s.size ≤ 2000) :
    Calls Tryz.prog 23 #[.string s, .agg #[.bool m.c, .bool m.f]] w (LexIs w (lx m s (s.size + 1) 0 [])) := by
  have hmf : ∀ (fn : Fn) (first cap : Array Value) (w : World), (Instr.makeFunc fn first cap).run Tryz.prog w = .ok (.func fn first cap) w := fun _ _ _ _ => rfl
  have d0 : ¬ (2000 : Int) < (s.size : Int) := by omega
  obtain ⟨RES, hRES⟩ : ∃ RES, lx m s (s.size + 1) 0 [] = RES := ⟨_, rfl⟩
  rw [hRES]
  have GL : Hid (Glb w) := hG
  have FN : Hid (Face w (face0 w m)) := face_new w m
  clear hG
  go_enter_defers Tryz.func23, Tryz.ntmps23
  go_wp2
  go_loopw [7] (fun _ wr => ∃ (T : List Tp) (D : List Dt) (v : Value) (pos f : Nat), RD wr (w.heap.size + 1 + 1 + 1) s m pos v ∧ TL w.heap.size wr v D ∧ D.map Prod.fst = T ∧ (D = [] → v = .slice none 0 0) ∧ Stands s T pos ∧ Face w wr ∧ pos ≤ s.size ∧ s.size < f + pos ∧ lx m s f pos T = RES) (fun _ wr => s.size + 1 - posAt wr (w.heap.size + 1 + 1 + 1))
  case atStart =>
    have hz : (face0 w m).heap.size = w.heap.size + 1 + 1 + 1 := by simp
    have h1 := alloc_new (face0 w m) (.cells #[.string s, .bool m.c, .bool m.f, .int .i64 0, .slice none 0 0] 102)
    rw [hz] at h1
    exact ⟨[], [], .slice none 0 0, 0, s.size + 1, h1, TL.nil _ _, rfl, fun _ => rfl, Stands.nil s, FN.out.kept ((Below.refl _ _).alloc (Nat.le_refl _) _), by omega, by omega, hRES⟩
  case round =>
    obtain ⟨T, D, v, pos, f, g1, g2, g3, g4, g5, g6, g7, g8, g9⟩ := hrel
    obtain ⟨f, rfl⟩ : ∃ f', f = f' + 1 := ⟨f - 1, by omega⟩
    rw [lx] at g9
    have PO : Hid (posAt wr (w.heap.size + 1 + 1 + 1) = pos) := g1.pos
    have LK0 : Hid (LK wr (w.heap.size + 1 + 1 + 1) v (lastK T)) := g2.last g1 g3 g5 (by omega) g4
    have GW : Hid (Glb wr) := GL.out.kept g6.low
    have g2' : 2 < w.heap.size := GL.out.size
    have c3 := g1.c3
    have c4 := g1.c4
    have lbw := lt_of_heap g6.err
    have G : Hid (RD wr (w.heap.size + 1 + 1 + 1) s m pos v ∧ TL w.heap.size wr v D ∧ D.map Prod.fst = T ∧ Stands s T pos ∧ Face w wr ∧ (D = [] → v = .slice none 0 0)) := ⟨g1, g2, g3, g5, g6, g4⟩
    clear g1 g2 g3 g4 g5 g6
    by_cases hlt : pos < s.size
    · rw [if_pos hlt] at g9
      have hrng := tok_rng m s pos (lastK T) hlt
      have hok := tok_ok m s pos (lastK T)
      have j1 : (pos : Int) < (s.size : Int) := by omega
      cases ht : tok m s pos (lastK T) with
      | error x =>
        rw [ht] at g9
        simp only at g9
        subst g9
        obtain ⟨xc, xa⟩ := x
        go_wp2_with (go_at_call 49; have hih := token_c GW.out G.out.1 LK0.out (by omega) hlt hs; rw [ht] at hih; (refine hih.mono ?_); clear hih; rintro e w8 ⟨h1, g, h2, rfl, h4⟩)
        exact caught (G.out.2.2.2.2.1.fr h1 (by intro q; have : w.heap.size + 1 = w.heap.size + 1 + 1 + 1 := q; omega) (by intro q; have : w.heap.size + 1 + 1 = w.heap.size + 1 + 1 + 1 := q; omega) (fun k hk => by have : k = w.heap.size + 1 + 1 + 1 := hk; omega)) rfl rfl (by omega) h4
      | ok x =>
        obtain ⟨t, q⟩ := x
        rw [ht] at g9 hrng hok
        simp only at g9
        have hq1 : q ≤ s.size := hrng.2
        have hq2 : pos < q := hrng.1
        clear hrng
        go_wp2_with (go_at_call 49; have hih := token_c GW.out G.out.1 LK0.out (by omega) hlt hs; rw [ht] at hih; (refine hih.mono ?_); clear hih; rintro e w8 ⟨h1, v8, rfl, h2, rv, C, hv, h5, h6⟩; obtain ⟨q8, k8, hsh⟩ := h5.shape; subst hsh; unfold tkV at hv; subst hv; have X8 : Hid (RD w8 (w.heap.size + 1 + 1 + 1) s m q v ∧ Fr (At (w.heap.size + 1 + 1 + 1)) wr w8 ∧ RR wr.heap.size w8 (.slice q8 C.length k8) C ∧ IsC C t.q) := ⟨h2, h1, h5, h6⟩; have k3 := h2.c3; have k4 := h2.c4; have kf := h2.frz 4; have lb8 := h2.lt; clear h1 h2 h5 h6)
        go_region
        have hB9 : Below w8.heap.size w8 (w8.alloc (.cells #[.int .i64 (t.kind : Int), .int .i64 (pos : Int), .int .i64 (q : Int), .int .i64 (t.n : Int), .int .i64 t.mn, .int .i64 t.mx, .slice q8 C.length k8] 104)).drew := ((Below.refl _ _).alloc (Nat.le_refl _) _).drew
        have TK : (w8.alloc (.cells #[.int .i64 (t.kind : Int), .int .i64 (pos : Int), .int .i64 (q : Int), .int .i64 (t.n : Int), .int .i64 t.mn, .int .i64 t.mx, .slice q8 C.length k8] 104)).drew.heap[w8.heap.size]? = some (.cells #[.int .i64 (t.kind : Int), .int .i64 (pos : Int), .int .i64 (q : Int), .int .i64 (t.n : Int), .int .i64 t.mn, .int .i64 t.mx, .slice q8 C.length k8] 104) := alloc_new _ _
        generalize (w8.alloc (.cells #[.int .i64 (t.kind : Int), .int .i64 (pos : Int), .int .i64 (q : Int), .int .i64 (t.n : Int), .int .i64 t.mn, .int .i64 t.mx, .slice q8 C.length k8] 104)).drew = V9 at *
        have t0 := cell_row TK (i := 0) rfl
        have t1 := cell_row TK (i := 1) rfl
        have t2 := cell_row TK (i := 2) rfl
        have t3 := cell_row TK (i := 3) rfl
        have t4 := cell_row TK (i := 4) rfl
        have t5 := cell_row TK (i := 5) rfl
        have t6 := cell_row TK (i := 6) rfl
        obtain ⟨d, hd⟩ : ∃ d : Dt, d = ((t, pos, q), .slice q8 C.length k8, C) := ⟨_, rfl⟩
        have htc : tc d = [.int .i64 (t.kind : Int), .int .i64 (pos : Int), .int .i64 (q : Int), .int .i64 (t.n : Int), .int .i64 t.mn, .int .i64 t.mx, .slice q8 C.length k8] := by rw [hd]; rfl
        have X9 : Hid (RD V9 (w.heap.size + 1 + 1 + 1) s m q v ∧ TL w.heap.size V9 v D ∧ RR wr.heap.size V9 (.slice q8 C.length k8) C ∧ Face w V9 ∧ d = ((t, pos, q), .slice q8 C.length k8, C) ∧ tc d = [.int .i64 (t.kind : Int), .int .i64 (pos : Int), .int .i64 (q : Int), .int .i64 (t.n : Int), .int .i64 t.mn, .int .i64 t.mx, .slice q8 C.length k8]) := ⟨X8.out.1.kept hB9, (G.out.2.1.at G.out.1 X8.out.2.1).kept hB9, X8.out.2.2.1.kept hB9, (G.out.2.2.2.2.1.fr X8.out.2.1 (by intro q; have : w.heap.size + 1 = w.heap.size + 1 + 1 + 1 := q; omega) (by intro q; have : w.heap.size + 1 + 1 = w.heap.size + 1 + 1 + 1 := q; omega) (fun k hk => by have : k = w.heap.size + 1 + 1 + 1 := hk; omega)).kept hB9, hd, htc⟩
        have hDl : D.length ≤ 2000 := by
          have h1 := G.out.2.2.2.1.few
          have h2 := G.out.2.2.1
          rw [← h2, List.length_map] at h1
          omega
        obtain ⟨qv, kv, rfl⟩ := ownsRow_shape X9.out.2.1.own
        have l4 := X9.out.1.c4
        have lf := X9.out.1.frz 4
        have ll := X9.out.1.lt
        have hbase : w.heap.size ≤ V9.heap.size := by omega
        have E9 : Hid (lx m s f q (T ++ [(t, pos, q)]) = RES) := g9
        clear k3 k4 kf lb8 TK hd htc g9 c4 hB9
        obtain ⟨i0, ti, hz0, hz1, hz2⟩ := info_parts size_tok
        have OW : Hid ((V9.alloc (.cells #[.int .i64 (t.kind : Int), .int .i64 (pos : Int), .int .i64 (q : Int), .int .i64 (t.n : Int), .int .i64 t.mn, .int .i64 t.mx, .slice q8 C.length k8] 104)).ownsRow w.heap.size 104 7 (.slice qv D.length kv) D.length (tcs D)) := World.ownsRow.alloc X9.out.2.1.own (.cells #[.int .i64 (t.kind : Int), .int .i64 (pos : Int), .int .i64 (q : Int), .int .i64 (t.n : Int), .int .i64 t.mn, .int .i64 t.mx, .slice q8 C.length k8] 104)
        have NW : Hid (∀ j u, [.int .i64 (t.kind : Int), .int .i64 (pos : Int), .int .i64 (q : Int), .int .i64 (t.n : Int), .int .i64 t.mn, .int .i64 t.mx, .slice q8 C.length k8][j]? = some u → (V9.alloc (.cells #[.int .i64 (t.kind : Int), .int .i64 (pos : Int), .int .i64 (q : Int), .int .i64 (t.n : Int), .int .i64 t.mn, .int .i64 t.mx, .slice q8 C.length k8] 104)).cell? ((⟨V9.heap.size, 0, none⟩ : Addr).add j) = some u) := news_lit V9 #[.int .i64 (t.kind : Int), .int .i64 (pos : Int), .int .i64 (q : Int), .int .i64 (t.n : Int), .int .i64 t.mn, .int .i64 t.mx, .slice q8 C.length k8] 104
        have O1 : ∀ u ∈ ([.int .i64 (t.kind : Int), .int .i64 (pos : Int), .int .i64 (q : Int), .int .i64 (t.n : Int), .int .i64 t.mn, .int .i64 t.mx, .slice q8 C.length k8] : List Value), u.oneCell' = true := by simp [Value.oneCell']
        have hz9 : w.heap.size ≤ (V9.alloc (.cells #[.int .i64 (t.kind : Int), .int .i64 (pos : Int), .int .i64 (q : Int), .int .i64 (t.n : Int), .int .i64 t.mn, .int .i64 t.mx, .slice q8 C.length k8] 104)).heap.size := by simp; omega
        have AP : Hid (∀ (g c : Nat) (w10 : World), w10.ownsRow w.heap.size 104 7 (.slice (some ⟨g, 0, none⟩) (D.length + 1) c) (D.length + 1) (tcs D ++ [.int .i64 (t.kind : Int), .int .i64 (pos : Int), .int .i64 (q : Int), .int .i64 (t.n : Int), .int .i64 t.mn, .int .i64 t.mx, .slice q8 C.length k8]) → (V9.alloc (.cells #[.int .i64 (t.kind : Int), .int .i64 (pos : Int), .int .i64 (q : Int), .int .i64 (t.n : Int), .int .i64 t.mn, .int .i64 t.mx, .slice q8 C.length k8] 104)).grownBy w10 (Value.slice qv D.length kv).ownBlock →
            RD w10 (w.heap.size + 1 + 1 + 1) s m q (.slice qv D.length kv) ∧ TL w.heap.size w10 (.slice (some ⟨g, 0, none⟩) (D.length + 1) c) (D ++ [d]) ∧ Fr (fun k => (Value.slice qv D.length kv).ownBlock = some k) (V9.alloc (.cells #[.int .i64 (t.kind : Int), .int .i64 (pos : Int), .int .i64 (q : Int), .int .i64 (t.n : Int), .int .i64 t.mn, .int .i64 t.mx, .slice q8 C.length k8] 104)) w10) := fun g c w10 h1 h2 => by
          have e5 := X9.out.2.2.2.2.1
          have e6 := X9.out.2.2.2.2.2
          refine app_tok (d := d) X9.out.1 X9.out.2.1 ((Below.refl _ _).alloc (Nat.le_refl _) _) (by rw [e5]; exact X9.out.2.2.1.mono (by omega)) (by rw [e5]; exact X8.out.2.2.2) (fun a ha k hk hk2 => ?_) (by rw [e6]; exact h1) h2
          rw [e5] at hk2
          have h3 := (ownsRow_at X9.out.2.2.1 hk2).1
          have h4 := (G.out.2.1.lt ha hk).2
          omega
        go_wp2_with (at_builtin; refine wpList_append_own_at _ rfl _ _ 51 rfl w.heap.size 104 i0 (.agg #[.int .i64 0, .int .i64 0, .int .i64 0, .int .i64 0, .int .i64 0, .int .i64 0, .slice none 0 0]) 7 72 und_toks ti hz0 hz1 hz2 rfl (by decide) (.slice qv D.length kv) D.length (tcs D) rfl OW.out ⟨V9.heap.size, 0, none⟩ 1 1 [.int .i64 (t.kind : Int), .int .i64 (pos : Int), .int .i64 (q : Int), .int .i64 (t.n : Int), .int .i64 t.mn, .int .i64 t.mx, .slice q8 C.length k8] rfl rfl NW.out O1 (by unfold maxLen; omega) (by omega) hz9 ?_; intro v' w10 hown' hgrow _ hblk; obtain ⟨g10, c10, rfl⟩ := ownsRow_some hown' (Nat.succ_pos _); have X10 : Hid (RD w10 (w.heap.size + 1 + 1 + 1) s m q (.slice qv D.length kv) ∧ TL w.heap.size w10 (.slice (some ⟨g10, 0, none⟩) (D.length + 1) c10) (D ++ [d]) ∧ Fr (fun k => (Value.slice qv D.length kv).ownBlock = some k) (V9.alloc (.cells #[.int .i64 (t.kind : Int), .int .i64 (pos : Int), .int .i64 (q : Int), .int .i64 (t.n : Int), .int .i64 t.mn, .int .i64 t.mx, .slice q8 C.length k8] 104)) w10) := AP.out g10 c10 w10 hown' hgrow; have m4 := X10.out.1.c4; have mf := X10.out.1.frz 4; clear hown' hgrow hblk)
        have R11 : RD (w10.setCell ⟨w.heap.size + 1 + 1 + 1, 4, none⟩ (.slice (some ⟨g10, 0, none⟩) (D.length + 1) c10)) (w.heap.size + 1 + 1 + 1) s m q (.slice (some ⟨g10, 0, none⟩) (D.length + 1) c10) := heap_set_in X10.out.1 4 _
        have F11 : Fr (At (w.heap.size + 1 + 1 + 1)) w10 (w10.setCell ⟨w.heap.size + 1 + 1 + 1, 4, none⟩ (.slice (some ⟨g10, 0, none⟩) (D.length + 1) c10)) := Fr.setCell (S := At (w.heap.size + 1 + 1 + 1)) (Fr.refl _ _) (p := ⟨w.heap.size + 1 + 1 + 1, 4, none⟩) rfl _
        have FA := X9.out.2.2.2.1.kept ((Below.refl _ _).alloc (Nat.le_refl _) (.cells #[.int .i64 (t.kind : Int), .int .i64 (pos : Int), .int .i64 (q : Int), .int .i64 (t.n : Int), .int .i64 t.mn, .int .i64 t.mx, .slice q8 C.length k8] 104))
        have FB := FA.fr X10.out.2.2 (ownsRow_not OW.out FA.toks (by decide)) (ownsRow_not OW.out FA.err (by decide)) (fun k hk => (ownsRow_at OW.out hk).1)
        have FC := FB.fr F11 (by intro q; have : w.heap.size + 1 = w.heap.size + 1 + 1 + 1 := q; omega) (by intro q; have : w.heap.size + 1 + 1 = w.heap.size + 1 + 1 + 1 := q; omega) (fun k hk => by have : k = w.heap.size + 1 + 1 + 1 := hk; omega)
        have TC := X10.out.2.1.at X10.out.1 F11
        go_roundw
        case rel => exact ⟨T ++ [(t, pos, q)], D ++ [d], _, q, f, R11, TC, by rw [List.map_append, G.out.2.2.1, List.map_singleton, X9.out.2.2.2.2.1], fun h => by simp at h, G.out.2.2.2.1.add hq2 hq1 hok, FC, hq1, by omega, E9.out⟩
        case measure => rw [R11.pos, PO.out]; omega
    · rw [if_neg hlt] at g9
      subst g9
      have j1 : ¬ (pos : Int) < (s.size : Int) := by omega
      have x1 := cell_row G.out.2.2.2.2.1.toks (i := 0) rfl
      have x2 := cell_row G.out.2.2.2.2.1.err (i := 0) rfl
      have x3 := frz_row G.out.2.2.2.2.1.toks 0
      have x4 := frz_row G.out.2.2.2.2.1.err 0
      obtain ⟨qv, kv, rfl⟩ := ownsRow_shape G.out.2.1.own
      go_wp2
      have F1 : Fr (At (w.heap.size + 1)) wr (wr.setCell ⟨w.heap.size + 1, 0, none⟩ (.slice qv D.length kv)) := Fr.setCell (S := At (w.heap.size + 1)) (Fr.refl _ _) (p := ⟨w.heap.size + 1, 0, none⟩) rfl _
      have F2 : Fr (At (w.heap.size + 1 + 1)) (wr.setCell ⟨w.heap.size + 1, 0, none⟩ (.slice qv D.length kv)) ((wr.setCell ⟨w.heap.size + 1, 0, none⟩ (.slice qv D.length kv)).setCell ⟨w.heap.size + 1 + 1, 0, none⟩ .nilIface) := Fr.setCell (S := At (w.heap.size + 1 + 1)) (Fr.refl _ _) (p := ⟨w.heap.size + 1 + 1, 0, none⟩) rfl _
      have y1 := heap_set_in G.out.2.2.2.2.1.toks 0 (.slice qv D.length kv)
      have y2 := (F2.block _ (lt_of_heap y1) (by intro q; have : w.heap.size + 1 = w.heap.size + 1 + 1 := q; omega)).trans y1
      have y3 := (F1.block _ (lt_of_heap G.out.2.2.2.2.1.err) (by intro q; have : w.heap.size + 1 + 1 = w.heap.size + 1 := q; omega)).trans G.out.2.2.2.2.1.err
      have y4 := heap_set_in y3 0 .nilIface
      have z1 := cell_row y2 (i := 0) rfl
      have z2 := cell_row y4 (i := 0) rfl
      have T1 := G.out.2.1.fr F1 (fun k hk e => ownsRow_not G.out.2.1.own G.out.2.2.2.2.1.toks (by decide) (by rw [hk, show k = _ from e])) (fun d hd k hk e => ownsRow_not (G.out.2.1.each d hd).1 G.out.2.2.2.2.1.toks (by decide) (by rw [hk, show k = _ from e]))
      have T2 := T1.fr F2 (fun k hk e => ownsRow_not T1.own y3 (by decide) (by rw [hk, show k = _ from e])) (fun d hd k hk e => ownsRow_not (T1.each d hd).1 y3 (by decide) (by rw [hk, show k = _ from e]))
      have B2 : Below w.heap.size w ((wr.setCell ⟨w.heap.size + 1, 0, none⟩ (.slice qv D.length kv)).setCell ⟨w.heap.size + 1 + 1, 0, none⟩ .nilIface) := (G.out.2.2.2.2.1.low.trans (F1.below G.out.2.2.2.2.1.low.size (fun k hk => by have : k = w.heap.size + 1 := hk; omega))).trans (F2.below (Nat.le_trans G.out.2.2.2.2.1.low.size F1.size) (fun k hk => by have : k = w.heap.size + 1 + 1 := hk; omega))
      have hL : LexIs w (.ok T) (.returned (.tuple #[.slice qv D.length kv, .nilIface])) ((wr.setCell ⟨w.heap.size + 1, 0, none⟩ (.slice qv D.length kv)).setCell ⟨w.heap.size + 1 + 1, 0, none⟩ .nilIface) := ⟨B2, _, D, rfl, T2, G.out.2.2.1⟩
      refine leaves_cons (f := 47) (args := #[.pointer (some ⟨w.heap.size + 1, 0, none⟩), .pointer (some ⟨w.heap.size + 1 + 1, 0, none⟩)]) (by simp) (by simp [go_sem]) ?_
      refine (catch_idle ⟨w.heap.size + 1, 0, none⟩ ⟨w.heap.size + 1 + 1, 0, none⟩ _).mono ?_
      rintro e u' w'' ⟨rfl, rfl, rfl⟩
      clear F1 F2 y1 y2 y3 y4 T1 T2 B2
      generalize (wr.setCell ⟨w.heap.size + 1, 0, none⟩ (.slice qv D.length kv)).setCell ⟨w.heap.size + 1 + 1, 0, none⟩ .nilIface = W at *
      generalize LexIs w (.ok T) = R at *
      simp [Leaves, settle, results, Tryz.results23, go_sem, z1, z2]
      exact hL
theorem lex_c {w : World} (hG : Glb w) (s : ByteArray) (m : Md) :
    Calls Tryz.prog 23 #[.string s, .agg #[.bool m.c, .bool m.f]] w (LexIs w (lexM m s)) := by
  unfold lexM
  split
  · rename_i h; exact lex_long s m h
  · exact lex_short hG s m (by omega)
end Go.Proofs.YtpfdapnfkghgkaaGreatDoor
namespace Go.Proofs.YtpfdapnfkghgkaaGreatDoor
open Go Go.RowKit

theorem node_c9 {base : Nat} {N : Nat → Prop} : ∀ (m : Nat) (x : Ps) (W : World) (v : Value), x.sz ≤ m → x.sz ≤ 100000 → wf x → PV base N W x v → base ≤ W.heap.size → Calls Tryz.prog 27 #[v] W (NodeIs base W x) := by
  intro m
  induction m with
  | zero => intro x W v hm; exact absurd (psz_pos x) (by omega)
  | succ m ih =>
    intro x W v hm hsz hw h hb
    have nd : ∀ W v, PV base N W x v → base ≤ W.heap.size → Calls Tryz.prog 56 #[v] W (NodesIs base W x) := fun W v hv hb' => nodes_c9 (fun y W' v' hy hv' hb'' => by
      have h1 := psz_kid hy
      exact ih y W' v' (by omega) (by omega) (wf_kid hw hy) hv' hb'') (by omega) hb' hv
    cases x with
    | lf k n rs => exact node_leaf h
    | grp n k => exact node_group h hb nd
    | rep a b k => exact node_turns h hb nd
    | row l => exact node_row h hw hb hsz nd
    | alt l => exact node_choice h hw hb hsz nd
abbrev zV : Value := .agg #[.int .i64 0, .int .i64 0, .int .i64 0, .int .i64 0, .slice none 0 0, .slice none 0 0]
/-- Parse refuses. -/
def ParseErr (w : World) (c a : Nat) (e : Ending) (w' : World) : Prop := ∃ g, w.heap.size ≤ g ∧ e = .returned (.tuple #[zV, .iface 62 (.pointer (some ⟨g, 0, none⟩))]) ∧ BadAt w' g c a ∧ Below w.heap.size w w'
/-- Parse tells a tree. -/
def ParseOk (w : World) (x : Ps) (e : Ending) (w' : World) : Prop := ∃ t', e = .returned (.tuple #[.agg #[.int .i64 t'.f.k, .int .i64 t'.f.n, .int .i64 t'.f.mn, .int .i64 t'.f.mx, .slice t'.f.rq t'.f.rs.length t'.f.rc, .slice t'.f.kq t'.f.kl t'.f.kc], .nilIface]) ∧ TA w' t' ∧ er t' = te x ∧ Foot (fun k => w.heap.size ≤ k) t' ∧ Below w.heap.size w w'
theorem ret_parse {R : Ending → World → Prop} {a : Act} {W : World} {b : Nat} {f : Fl} {x : Value} (h : Six W b 0 f) (ha : a.tmps[4]?.getD undef = .pointer (some ⟨b, 0, none⟩)) (hb : a.tmps[5]?.getD undef = x) (hd : a.defers = []) (hR : R (.returned (.tuple #[.agg #[.int .i64 f.k, .int .i64 f.n, .int .i64 f.mn, .int .i64 f.mx, .slice f.rq f.rs.length f.rc, .slice f.kq f.kl f.kc], x])) W) : bodyPost Tryz.prog Tryz.f9 R .ret a W := by
  obtain ⟨z0, z1, z2, z3, z4, z5⟩ := h
  simp only [Nat.zero_add] at z1 z2 z3 z4 z5
  refine bodyPost_ret (v := .tuple #[.agg #[.int .i64 f.k, .int .i64 f.n, .int .i64 f.mn, .int .i64 f.mx, .slice f.rq f.rs.length f.rc, .slice f.kq f.kl f.kc], x]) ?_ hd hR
  simp [results, Tryz.results9, go_sem, ha, hb, z0, z1, z2, z3, z4, z5]
theorem perr_end {w w5 : World} {g c a : Nat} (hz : w5.heap[w.heap.size + 1]? = some nodeZ) (hb : BadAt w5 g c a) (hg : w.heap.size + 1 < g) (hB : Below w.heap.size w w5) :
    Six (put6 w5 (w.heap.size + 1) 0 (bare 0)) (w.heap.size + 1) 0 (bare 0) ∧ ParseErr w c a (.returned (.tuple #[zV, .iface 62 (.pointer (some ⟨g, 0, none⟩))])) (put6 w5 (w.heap.size + 1) 0 (bare 0)) := by
  have F := put6_fr w5 (w.heap.size + 1) 0 (bare 0)
  refine ⟨put6_six (f := bare 0) ⟨cell_row hz (i := 0) rfl, cell_row hz (i := 1) rfl, cell_row hz (i := 2) rfl, cell_row hz (i := 3) rfl, cell_row hz (i := 4) rfl, cell_row hz (i := 5) rfl⟩, g, by omega, rfl, (F.block _ (lt_of_heap hb) (by omega)).trans hb, chainF hB F (Nat.le_refl _) (fun k e => by omega)⟩
set_option maxRecDepth 100000 in
set_option maxHeartbeats 4000000 in
theorem parse_lex {w : World} (hG : Glb w) (s : ByteArray) (m : Md) {c a : Nat} (hl : lexM m s = .error (c, a)) :
    Calls Tryz.prog 9 #[.string s, .agg #[.bool m.c, .bool m.f]] w (ParseErr w c a) := by
  have B1 : Below w.heap.size w ((w.alloc (.cells #[.bool m.c, .bool m.f] 23)).alloc nodeZ) := ((Below.refl _ _).alloc (Nat.le_refl _) _).alloc (by simp) _
  have LC := lex_c (hG.kept B1) s m
  rw [hl] at LC
  have HL := hide LC
  have HB1 := hide B1
  have M1 : ((w.alloc (.cells #[.bool m.c, .bool m.f] 23)).alloc nodeZ).heap[w.heap.size]? = some (.cells #[.bool m.c, .bool m.f] 23 (0, 0)) := (Below.heap_alloc _ _ _ (by simp)).trans (alloc_new w _)
  have Z1 : ((w.alloc (.cells #[.bool m.c, .bool m.f] 23)).alloc nodeZ).heap[w.heap.size + 1]? = some nodeZ := (by
    have := alloc_new (w.alloc (.cells #[.bool m.c, .bool m.f] 23)) nodeZ
    rwa [World.size_alloc] at this)
  have HM1 := hide M1
  have HZ1 := hide Z1
  clear hG hl LC B1 M1 Z1
  go_enter Tryz.func9, Tryz.ntmps9
  go_upto_region 1 with fail
  generalize ((w.alloc (.cells #[.bool m.c, .bool m.f] 23)).alloc nodeZ) = W1 at HL HB1 HM1 HZ1 ⊢
  have m0 := cell_row HM1.out (i := 0) rfl
  have m1 := cell_row HM1.out (i := 1) rfl
  have lz := lt_of_heap HZ1.out
  go_wp2_with (go_at_call 23; (with_reducible refine (HL.out).mono ?_); rintro e w5 ⟨h1, g5, h2, rfl, h3⟩; have B5 := hide h1; have X5 := hide (⟨h2, h3⟩ : _ ∧ BadAt w5 g5 c a); have Z5 : w5.heap[w.heap.size + 1]? = some nodeZ := (h1.block _ lz).trans HZ1.out; have l5 := lt_of_heap Z5; have r0 := cell_row Z5 (i := 0) rfl; have r1 := cell_row Z5 (i := 1) rfl; have r2 := cell_row Z5 (i := 2) rfl; have r3 := cell_row Z5 (i := 3) rfl; have r4 := cell_row Z5 (i := 4) rfl; have r5 := cell_row Z5 (i := 5) rfl; have fz := fun z => frz_row Z5 z; have HZ5 := hide Z5; clear h1 h2 h3)
  obtain ⟨E1, E2⟩ := perr_end HZ5.out X5.out.2 (by have := X5.out.1; omega) (chain HB1.out B5.out (Nat.le_refl _))
  exact ret_parse E1 rfl rfl rfl E2
/-- Where Parse stands behind Lex. -/
theorem parse_start {w : World} (hG : Glb w) (s : ByteArray) (m : Md) {T : List Tp} (hl : lexM m s = .ok T) : ∀ W1, Below w.heap.size w W1 → Calls Tryz.prog 23 #[.string s, .agg #[.bool m.c, .bool m.f]] W1 fun e w5 => ∃ q c D, e = .returned (.tuple #[.slice q D.length c, .nilIface]) ∧ Below W1.heap.size W1 w5 ∧ TL W1.heap.size w5 (.slice q D.length c) D ∧ D.map Prod.fst = T ∧ (∀ d ∈ D, TokOK d.1.1 ∧ d.2.2.length ≤ 1000000) ∧ D.length ≤ 2000 := fun W1 hW => by
  have LC := lex_c (hG.kept hW) s m
  rw [hl] at LC
  refine LC.mono fun e w5 ⟨h1, v, D, h2, h3, h4⟩ => ?_
  obtain ⟨q, c, rfl⟩ := ownsRow_shape h3.own
  have h5 := toks_ok hl h4 (fun d hd => (h3.each d hd).2)
  exact ⟨q, c, D, h2, h1, h3, h4, h5.1, h5.2.1⟩
set_option maxRecDepth 100000 in
set_option maxHeartbeats 4000000 in
theorem parse_held {w : World} (hG : Glb w) (s : ByteArray) (m : Md) {T : List Tp} (hl : lexM m s = .ok T) {c a : Nat} (hh : heldM T = some (c, a)) :
    Calls Tryz.prog 9 #[.string s, .agg #[.bool m.c, .bool m.f]] w (ParseErr w c a) := by
  have B1 : Below w.heap.size w ((w.alloc (.cells #[.bool m.c, .bool m.f] 23)).alloc nodeZ) := ((Below.refl _ _).alloc (Nat.le_refl _) _).alloc (by simp) _
  have HL := hide (parse_start hG s m hl _ B1)
  have HB1 := hide B1
  have M1 : ((w.alloc (.cells #[.bool m.c, .bool m.f] 23)).alloc nodeZ).heap[w.heap.size]? = some (.cells #[.bool m.c, .bool m.f] 23 (0, 0)) := (Below.heap_alloc _ _ _ (by simp)).trans (alloc_new w _)
  have Z1 : ((w.alloc (.cells #[.bool m.c, .bool m.f] 23)).alloc nodeZ).heap[w.heap.size + 1]? = some nodeZ := (by
    have := alloc_new (w.alloc (.cells #[.bool m.c, .bool m.f] 23)) nodeZ
    rwa [World.size_alloc] at this)
  have HM1 := hide M1
  have HZ1 := hide Z1
  have HH := hide hh
  clear hG hl hh B1 M1 Z1
  go_enter Tryz.func9, Tryz.ntmps9
  go_upto_region 1 with fail
  generalize ((w.alloc (.cells #[.bool m.c, .bool m.f] 23)).alloc nodeZ) = W1 at HL HB1 HM1 HZ1 ⊢
  have m0 := cell_row HM1.out (i := 0) rfl
  have m1 := cell_row HM1.out (i := 1) rfl
  have lz := lt_of_heap HZ1.out
  go_wp2_with first
    | (go_at_call 23; (with_reducible refine (HL.out).mono ?_); rintro e w5 ⟨q5, c5, D, rfl, h1, h2, h3, h4, h5⟩; have B5 := hide h1; have GC0 := groups_c9 h2 (fun d hd => (h4 d hd).1) h5; rw [h3, HH.out] at GC0; have GC := hide GC0; clear h1 h2 h3 h4 h5 GC0)
    | (go_at_call 24; (with_reducible refine (GC.out).mono ?_); rintro e w6 ⟨h1, g6, h2, rfl, h3⟩; have B6 := hide h1; have X6 := hide (⟨h2, h3⟩ : _ ∧ BadAt w6 g6 c a); have Z6 : w6.heap[w.heap.size + 1]? = some nodeZ := (h1.block _ (Nat.lt_of_lt_of_le lz B5.out.size)).trans ((B5.out.block _ lz).trans HZ1.out); have l6 := lt_of_heap Z6; have r0 := cell_row Z6 (i := 0) rfl; have r1 := cell_row Z6 (i := 1) rfl; have r2 := cell_row Z6 (i := 2) rfl; have r3 := cell_row Z6 (i := 3) rfl; have r4 := cell_row Z6 (i := 4) rfl; have r5 := cell_row Z6 (i := 5) rfl; have fz := fun z => frz_row Z6 z; have HZ6 := hide Z6; clear h1 h2 h3)
  obtain ⟨E1, E2⟩ := perr_end HZ6.out X6.out.2 (by have := X6.out.1; have := B5.out.size; omega) (chain (chain HB1.out B5.out (Nat.le_refl _)) B6.out (Nat.le_refl _))
  exact ret_parse E1 rfl rfl rfl E2
/-- What Parse answers of tokens that are put together. -/
def ParseIs (w : World) (x : Ps) (e : Ending) (w' : World) : Prop := if 40 < x.dp then ParseErr w 43 0 e w' else if 2000 < x.sz then ParseErr w 42 0 e w' else ParseOk w x e w'
set_option maxRecDepth 100000 in
set_option maxHeartbeats 8000000 in
theorem parse_tree {w : World} (hG : Glb w) (s : ByteArray) (m : Md) {T : List Tp} (hl : lexM m s = .ok T) (hh : heldM T = none) {x : Ps} (hw : wf x) (hx : pfl x = sgns 0 T) :
    Calls Tryz.prog 9 #[.string s, .agg #[.bool m.c, .bool m.f]] w (ParseIs w x) := by
  have hsz : x.sz ≤ 100000 := by
    have h1 := (psz_bound x hw).1
    have h2 := lexM_ends m s
    rw [hl] at h2
    have h3 := (show Stands s T s.size from h2).few
    rw [hx, sgns_length] at h1
    have h4 : s.size ≤ 2000 := by
      unfold lexM at hl
      split at hl
      · cases hl
      · omega
    omega
  have B1 : Below w.heap.size w ((w.alloc (.cells #[.bool m.c, .bool m.f] 23)).alloc nodeZ) := ((Below.refl _ _).alloc (Nat.le_refl _) _).alloc (by simp) _
  have HL := hide (parse_start hG s m hl _ B1)
  have HB1 := hide B1
  have M1 : ((w.alloc (.cells #[.bool m.c, .bool m.f] 23)).alloc nodeZ).heap[w.heap.size]? = some (.cells #[.bool m.c, .bool m.f] 23 (0, 0)) := (Below.heap_alloc _ _ _ (by simp)).trans (alloc_new w _)
  have Z1 : ((w.alloc (.cells #[.bool m.c, .bool m.f] 23)).alloc nodeZ).heap[w.heap.size + 1]? = some nodeZ := (by
    have := alloc_new (w.alloc (.cells #[.bool m.c, .bool m.f] 23)) nodeZ
    rwa [World.size_alloc] at this)
  have HM1 := hide M1
  have HZ1 := hide Z1
  have HH := hide hh
  have HW := hide hw
  have HXX := hide hx
  have HSZ := hide hsz
  clear hG hl hh B1 M1 Z1 hw hx hsz
  go_enter Tryz.func9, Tryz.ntmps9
  go_upto_region 1 with fail
  generalize ((w.alloc (.cells #[.bool m.c, .bool m.f] 23)).alloc nodeZ) = W1 at HL HB1 HM1 HZ1 ⊢
  have m0 := cell_row HM1.out (i := 0) rfl
  have m1 := cell_row HM1.out (i := 1) rfl
  have lz := lt_of_heap HZ1.out
  go_upto_region 9 with first
    | (go_at_call 23; (with_reducible refine (HL.out).mono ?_); rintro e w5 ⟨q5, c5, D, rfl, h1, h2, h3, h4, h5⟩; have B5 := hide h1; have T5 := hide h2; have E5 := hide h3; have K5 := hide h4; have N5 := hide h5; have GC0 := groups_c9 h2 (fun d hd => (h4 d hd).1) h5; rw [h3, HH.out] at GC0; have GC := hide GC0; clear h1 h2 h3 h4 h5 GC0)
    | (go_at_call 24; (with_reducible refine (GC.out).mono ?_); rintro e w6 ⟨h1, rfl⟩; have B6 := hide h1; have B7 : Hid (Below w6.heap.size w6 (w6.alloc (.cells #[.slice q5 D.length c5, .int .i64 0, .int .i64 0] 56))) := (Below.refl _ _).alloc (Nat.le_refl _) _; have PB7 : Hid (PB W1.heap.size (w6.alloc (.cells #[.slice q5 D.length c5, .int .i64 0, .int .i64 0] 56)) w6.heap.size (.slice q5 D.length c5) D 0 0) := ⟨alloc_new w6 _, (T5.out.kept B6.out).kept B7.out, Nat.zero_le _, N5.out, Nat.le_refl _, K5.out, Nat.le_trans B5.out.size B6.out.size⟩; have PT := hide (parts_c x HW.out _ _ 0 0 _ _ _ [] PB7.out (by rw [List.append_nil, HXX.out, ← E5.out]; rfl) (.inl rfl)); clear h1)
    | (go_at_call 25; (with_reducible refine (PT.out).mono ?_); rintro e w8 ⟨v8, rfl, h1, h2, h3⟩; obtain ⟨T8, u8, rfl⟩ := h1.shape; have V8 := hide h1; have F8 := hide h3; have SC := hide (size_c9 h1 (by have := HSZ.out; omega)); clear h1 h2 h3)
  have B8 : Hid (Below w.heap.size w w8) := chainF (chain (chain (chain HB1.out B5.out (Nat.le_refl _)) B6.out (Nat.le_refl _)) B7.out (Nat.le_refl _)) F8.out (Nat.le_refl _) (fun k hk => by have : k = w6.heap.size := hk; have := HB1.out.size; have := B5.out.size; have := B6.out.size; omega)
  have Z8 : Hid (w8.heap[w.heap.size + 1]? = some nodeZ) := (F8.out.block _ (Nat.lt_of_lt_of_le lz (Nat.le_trans B5.out.size (Nat.le_trans B6.out.size B7.out.size))) (fun e => by have e' : w.heap.size + 1 = w6.heap.size := e; have := B5.out.size; have := B6.out.size; omega)).trans ((B7.out.block _ (Nat.lt_of_lt_of_le lz (Nat.le_trans B5.out.size B6.out.size))).trans ((B6.out.block _ (Nat.lt_of_lt_of_le lz B5.out.size)).trans ((B5.out.block _ lz).trans HZ1.out)))
  have S8 : Hid (W1.heap.size ≤ w8.heap.size) := Nat.le_trans (Nat.le_trans B5.out.size (Nat.le_trans B6.out.size B7.out.size)) F8.out.size
  clear m0 m1
  by_cases hd : 40 < x.dp
  · rw [if_pos hd] at SC
    have RES : Hid (∀ e w', ParseErr w 43 0 e w' → ParseIs w x e w') := fun e w' h => (by unfold ParseIs; rw [if_pos hd]; exact h)
    clear hd
    go_wp2_with (go_at_call 26; (with_reducible refine (SC.out).mono ?_); rintro e w9 ⟨h1, g9, h2, rfl, h3⟩; have B9 := hide h1; have X9 := hide (⟨h2, h3⟩ : _ ∧ BadAt w9 g9 43 0); have Z9 : w9.heap[w.heap.size + 1]? = some nodeZ := (h1.block _ (lt_of_heap Z8.out)).trans Z8.out; have l9 := lt_of_heap Z9; have r0 := cell_row Z9 (i := 0) rfl; have r1 := cell_row Z9 (i := 1) rfl; have r2 := cell_row Z9 (i := 2) rfl; have r3 := cell_row Z9 (i := 3) rfl; have r4 := cell_row Z9 (i := 4) rfl; have r5 := cell_row Z9 (i := 5) rfl; have fz := fun z => frz_row Z9 z; have HZ9 := hide Z9; clear h1 h2 h3)
    obtain ⟨E1, E2⟩ := perr_end HZ9.out X9.out.2 (by have := X9.out.1; have := S8.out; omega) (chain B8.out B9.out (Nat.le_refl _))
    exact ret_parse E1 rfl rfl rfl (RES.out _ _ E2)
  · rw [if_neg hd] at SC
    by_cases hn : 2000 < x.sz
    · rw [if_pos hn] at SC
      have RES : Hid (∀ e w', ParseErr w 42 0 e w' → ParseIs w x e w') := fun e w' h => (by unfold ParseIs; rw [if_neg hd, if_pos hn]; exact h)
      clear hd hn
      go_wp2_with (go_at_call 26; (with_reducible refine (SC.out).mono ?_); rintro e w9 ⟨h1, g9, h2, rfl, h3⟩; have B9 := hide h1; have X9 := hide (⟨h2, h3⟩ : _ ∧ BadAt w9 g9 42 0); have Z9 : w9.heap[w.heap.size + 1]? = some nodeZ := (h1.block _ (lt_of_heap Z8.out)).trans Z8.out; have l9 := lt_of_heap Z9; have r0 := cell_row Z9 (i := 0) rfl; have r1 := cell_row Z9 (i := 1) rfl; have r2 := cell_row Z9 (i := 2) rfl; have r3 := cell_row Z9 (i := 3) rfl; have r4 := cell_row Z9 (i := 4) rfl; have r5 := cell_row Z9 (i := 5) rfl; have fz := fun z => frz_row Z9 z; have HZ9 := hide Z9; clear h1 h2 h3)
      obtain ⟨E1, E2⟩ := perr_end HZ9.out X9.out.2 (by have := X9.out.1; have := S8.out; omega) (chain B8.out B9.out (Nat.le_refl _))
      exact ret_parse E1 rfl rfl rfl (RES.out _ _ E2)
    · rw [if_neg hn] at SC
      have RES : Hid (∀ e w', ParseOk w x e w' → ParseIs w x e w') := fun e w' h => (by unfold ParseIs; rw [if_neg hd, if_neg hn]; exact h)
      clear hd hn
      go_wp2_with first
        | (go_at_call 26; (with_reducible refine (SC.out).mono ?_); rintro e w9 ⟨h1, rfl⟩; have B9 := hide h1; have NC := hide (node_c9 x.sz x w9 _ (Nat.le_refl _) HSZ.out HW.out (V8.out.kept h1) (Nat.le_trans S8.out h1.size)); clear h1)
        | (go_at_call 27; (with_reducible refine (NC.out).mono ?_); rintro e wA ⟨tA, rfl, h1, h2, h3, h4, h5⟩; have BA := hide h3; have EA := hide h2; have ZA : wA.heap[w.heap.size + 1]? = some nodeZ := (h3.block _ (Nat.lt_of_lt_of_le (lt_of_heap Z8.out) B9.out.size)).trans ((B9.out.block _ (lt_of_heap Z8.out)).trans Z8.out); have lA := lt_of_heap ZA; have r0 := cell_row ZA (i := 0) rfl; have r1 := cell_row ZA (i := 1) rfl; have r2 := cell_row ZA (i := 2) rfl; have r3 := cell_row ZA (i := 3) rfl; have r4 := cell_row ZA (i := 4) rfl; have r5 := cell_row ZA (i := 5) rfl; have fz := fun z => frz_row ZA z; have sA := S8.out; have s9 := B9.out.size; have s1 := HB1.out.size; have FKA := hide (h4.mono (M := fun k => w.heap.size + 1 < k) (fun k hk => by omega)); have FTA := hide (fk_fr (h4.mono (M := fun k => w.heap.size ≤ k) (fun k hk => by omega)) (h5.mono (M := fun k => w.heap.size ≤ k) (fun k hk => by omega))); have L9 := hide (laid9 (bz := w.heap.size + 1) (f := bare 0) h1 FKA.out ⟨_, ZA⟩ ⟨r0, r1, r2, r3, r4, r5⟩); unfold put6 at L9; clear h1 h2 h3 h4 h5)
      exact ret_parse L9.out.1 rfl rfl rfl (RES.out _ _ ⟨tA, rfl, L9.out.2.1, EA.out, FTA.out, chainF (chain (chain B8.out B9.out (Nat.le_refl _)) BA.out (Nat.le_refl _)) L9.out.2.2.1 (Nat.le_refl _) (fun k e => by omega)⟩)
end Go.Proofs.YtpfdapnfkghgkaaGreatDoor
namespace Go.Proofs.YtpfdapnfkghgkaaGreatDoor
open Go Go.RowKit
attribute [local go_sem] ext_cell

abbrev m09 : Md := ⟨false, false⟩
abbrev qA : Int → Prop := setQ m09 [(97, 97)] false
abbrev qB : Int → Prop := setQ m09 [(98, 98)] false
theorem ex9_tree : lexM m09 ⟨#[92, 40, 97, 92, 40, 98, 92, 41, 92, 41, 92, 50]⟩ = .ok [(kT 3, 0, 2), (setT m09 [(97, 97)] false, 2, 3), (kT 3, 3, 5), (setT m09 [(98, 98)] false, 5, 6), (kT 4, 6, 8), (kT 4, 8, 10), (backT 2, 10, 12)] := by kernel_rfl
theorem ex9_close : lexM m09 ⟨#[97, 92, 41]⟩ = .ok [(setT m09 [(97, 97)] false, 0, 1), (kT 4, 1, 3)] := by kernel_rfl
theorem ex9_open : lexM m09 ⟨#[92, 40, 92, 40, 97, 92, 41]⟩ = .ok [(kT 3, 0, 2), (kT 3, 2, 4), (setT m09 [(97, 97)] false, 4, 5), (kT 4, 5, 7)] := by kernel_rfl
theorem ex9_back : lexM m09 ⟨#[92, 50, 92, 40, 97, 92, 41]⟩ = .ok [(backT 2, 0, 2), (kT 3, 2, 4), (setT m09 [(97, 97)] false, 4, 5), (kT 4, 5, 7)] := by kernel_rfl
noncomputable abbrev ex9_x : Ps := .row [.grp 1 (.row [.lf 2 0 (rsQ qA), .grp 2 (.lf 2 0 (rsQ qB))]), .lf 8 2 []]
theorem ex9_wf : wf ex9_x := by
  simp only [wf, wfs, Anch]
  refine ⟨by simp, fun i x hx => ?_, ⟨by simp, fun i x hx => ?_, by simp⟩, by simp⟩
  · match i, hx with
    | 0, hx => simp at hx; subst hx; simp [isItm, Ps.kd]
    | 1, hx => simp at hx; subst hx; simp [isItm, Ps.kd]
    | i + 2, hx => simp at hx
  · match i, hx with
    | 0, hx => simp at hx; subst hx; simp [isItm, Ps.kd]
    | 1, hx => simp at hx; subst hx; simp [isItm, Ps.kd]
    | i + 2, hx => simp at hx
theorem ex9_flat : pfl ex9_x = sgns 0 [(kT 3, 0, 2), (setT m09 [(97, 97)] false, 2, 3), (kT 3, 3, 5), (setT m09 [(98, 98)] false, 5, 6), (kT 4, 6, 8), (kT 4, 8, 10), (backT 2, 10, 12)] := by
  simp [pfl, pfls, sgns, sgT, gnx, kT, setT, backT]
theorem told_nil9 (w : World) : Calls Tryz.prog 10 #[.nilIface] w fun e w' => e = .returned (.tuple #[.int .i64 0, .int .i64 0, .bool true]) ∧ Below w.heap.size w w' := by
  go_enter Tryz.func10, Tryz.ntmps10
  go_wp2
  refine bodyPost_ret (results_tmp3 rfl _ _ _) rfl ?_
  exact ⟨rfl, Below.refl _ _⟩
theorem told_bad9 {w : World} {g c a : Nat} (h : BadAt w g c a) : Calls Tryz.prog 10 #[.iface 62 (.pointer (some ⟨g, 0, none⟩))] w fun e w' => e = .returned (.tuple #[.int .i64 (c : Int), .int .i64 (a : Int), .bool true]) ∧ Below w.heap.size w w' := by
  have hta : ∀ W, (Instr.typeAssert (.iface 62 (.pointer (some ⟨g, 0, none⟩))) 30 62 true).run Tryz.prog W = .ok (.tuple #[.pointer (some ⟨g, 0, none⟩), .bool true]) W := fun W => run_bad_assert2 W _ _ _ _ und_bad
  have c0 : w.cell? ⟨g, 0, none⟩ = some (.int .i64 (c : Int)) := cell_row h (i := 0) rfl
  have c1 : w.cell? ⟨g, 1, none⟩ = some (.int .i64 (a : Int)) := cell_row h (i := 1) rfl
  have lg := lt_of_heap h
  clear h
  go_enter Tryz.func10, Tryz.ntmps10
  go_wp2
  refine wp_region_ext (by kernel_rfl) (by kernel_rfl) ?_
  repeat (go_big_quiet_step (first | exact rfl))
  refine wpQuiet_nil ?_
  intro w5 hw5
  have B5 : Hid (Below w.heap.size w w5) := ext_of hw5
  clear hw5
  go_wp2
  refine bodyPost_ret (results_tmp3 rfl _ _ _) rfl ?_
  exact ⟨rfl, B5.out⟩
set_option maxRecDepth 100000 in
set_option maxHeartbeats 4000000 in
theorem wrong_is9 {w : World} (s : ByteArray) (c a : Nat) (hp : Calls Tryz.prog 9 #[.string s, .agg #[.bool false, .bool false]] w (ParseErr w c a)) :
    Calls Tryz.prog 22 #[.string s, .int .i64 (c : Int), .int .i64 (a : Int)] w fun e w' => e = .returned (.bool true) ∧ Below w.heap.size w w' := by
  have HP := hide hp
  clear hp
  go_enter Tryz.func22, Tryz.ntmps22
  go_wp2_with first
    | (go_at_call 9; (with_reducible refine (HP.out).mono ?_); rintro e w5 ⟨g5, h1, rfl, h2, h3⟩; have B5 := hide (h3.alloc h3.size nodeZ); have X5 : Hid (BadAt (w5.alloc nodeZ) g5 c a) := (((Below.refl _ _).alloc (Nat.le_refl _) _).block _ (lt_of_heap h2)).trans h2; have N5 := alloc_new w5 nodeZ; have k0 := cell_row N5 (i := 0) rfl; have l0 := lt_of_heap N5; have HN5 := hide N5; clear h1 h2 h3 N5)
    | (go_at_call 10; (with_reducible refine (told_bad9 X5.out).mono ?_); rintro e w6 ⟨rfl, h1⟩; have B6 := hide h1; have k6 := (h1.cell (p := ⟨w5.heap.size, 0, none⟩) l0).trans k0; have l6 : w5.heap.size < w6.heap.size := Nat.lt_of_lt_of_le l0 h1.size; clear h1)
  go_ret
  refine ⟨?_, chain B5.out B6.out (Nat.le_refl _)⟩
  simp
theorem ex9_see {W : World} {t : Tr} (h : TA W t) (he : er t = te ex9_x) : t.f.k = 5 ∧ t.f.kl = 2 ∧ ∃ g off, t.f.kq = some ⟨g, off, none⟩ ∧ g < W.heap.size ∧ W.cell? ⟨g, off, none⟩ = some (.int .i64 7) ∧ W.cell? ⟨g, off + 6 + 1, none⟩ = some (.int .i64 2) := by
  rw [te] at he
  obtain ⟨f1, -, -, -, -, f6⟩ := er_open he
  rw [tes_map] at f6
  obtain ⟨t6, t7, hk, e6, e7⟩ := map_two f6
  obtain ⟨p1, -⟩ := er_open (e6.trans (by rw [te]))
  obtain ⟨-, p2, -⟩ := er_open (e7.trans (by rw [te]))
  have hn := h.node
  have hkl := hn.kl
  rw [hk] at hkl
  refine ⟨f1, hkl, ?_⟩
  rcases hn.k with ⟨p, cap, -, e, -⟩ | ⟨g, off, cap, e, hg, -, -, hs⟩
  · rw [hk] at e; cases e
  · injection e with e1
    have s0 := (hs 0 t6 (by rw [hk]; rfl)).1
    have s1 := (hs 1 t7 (by rw [hk]; rfl)).2.1
    rw [p1] at s0
    rw [p2] at s1
    exact ⟨g, off, e1, hg, by simpa using s0, by simpa using s1⟩
set_option maxRecDepth 100000 in
set_option maxHeartbeats 4000000 in
theorem examples9_c {w : World} (hG : Glb w) : Calls Tryz.prog 8 #[] w fun e w' => e = .returned (.bool true) ∧ Below w.heap.size w w' := by
  have PT : Hid (Calls Tryz.prog 9 #[.string ⟨#[92, 40, 97, 92, 40, 98, 92, 41, 92, 41, 92, 50]⟩, .agg #[.bool false, .bool false]] w (ParseOk w ex9_x)) := by
    have := parse_tree hG ⟨#[92, 40, 97, 92, 40, 98, 92, 41, 92, 41, 92, 50]⟩ m09 ex9_tree rfl ex9_wf ex9_flat
    refine this.mono fun e w' h => ?_
    unfold ParseIs at h
    rw [if_neg (by simp [Ps.dp, pdps]), if_neg (by simp [Ps.sz, pszs])] at h
    exact h
  have V40 : Hid (∀ W, Below w.heap.size w W → Calls Tryz.prog 22 #[.string ⟨#[97, 92, 41]⟩, .int .i64 40, .int .i64 1] W fun e w' => e = .returned (.bool true) ∧ Below W.heap.size W w') := fun W hW => wrong_is9 ⟨#[97, 92, 41]⟩ 40 1 (parse_held (hG.kept hW) _ m09 ex9_close rfl)
  have V39 : Hid (∀ W, Below w.heap.size w W → Calls Tryz.prog 22 #[.string ⟨#[92, 40, 92, 40, 97, 92, 41]⟩, .int .i64 39, .int .i64 0] W fun e w' => e = .returned (.bool true) ∧ Below W.heap.size W w') := fun W hW => wrong_is9 ⟨#[92, 40, 92, 40, 97, 92, 41]⟩ 39 0 (parse_held (hG.kept hW) _ m09 ex9_open rfl)
  have V41 : Hid (∀ W, Below w.heap.size w W → Calls Tryz.prog 22 #[.string ⟨#[92, 50, 92, 40, 97, 92, 41]⟩, .int .i64 41, .int .i64 0] W fun e w' => e = .returned (.bool true) ∧ Below W.heap.size W w') := fun W hW => wrong_is9 ⟨#[92, 50, 92, 40, 97, 92, 41]⟩ 41 0 (parse_held (hG.kept hW) _ m09 ex9_back rfl)
  clear hG
  go_enter Tryz.func8, Tryz.ntmps8
  go_wp2_with first
    | (go_at_call 9; (with_reducible refine (PT.out).mono ?_); rintro e w5 ⟨t5, rfl, h1, h2, h3, h4⟩; obtain ⟨f1, f2, g, off, f3, f4, f5, f6⟩ := ex9_see h1 h2; have X5 := hide (h4.alloc h4.size (.cells #[.int .i64 5, .int .i64 t5.f.n, .int .i64 t5.f.mn, .int .i64 t5.f.mx, .slice t5.f.rq t5.f.rs.length t5.f.rc, .slice (some ⟨g, off, none⟩) 2 t5.f.kc] 28)); rw [f1, f2, f3]; clear f1 f2 f3 h1 h2 h3 h4)
    | (go_at_call 22; (with_reducible refine (V40.out _ X5.out).mono ?_); rintro e w6 ⟨rfl, h1⟩; have X6 : Hid (Below w.heap.size w w6) := chain X5.out h1 (Nat.le_refl _); clear h1)
    | (go_at_call 22; (with_reducible refine (V39.out _ X6.out).mono ?_); rintro e w7 ⟨rfl, h1⟩; have X7 : Hid (Below w.heap.size w w7) := chain X6.out h1 (Nat.le_refl _); clear h1)
    | (go_at_call 22; (with_reducible refine (V41.out _ X7.out).mono ?_); rintro e w8 ⟨rfl, h1⟩; have X8 : Hid (Below w.heap.size w w8) := chain X7.out h1 (Nat.le_refl _); clear h1)
  go_ret
  exact ⟨rfl, X8.out⟩
end Go.Proofs.YtpfdapnfkghgkaaGreatDoor
