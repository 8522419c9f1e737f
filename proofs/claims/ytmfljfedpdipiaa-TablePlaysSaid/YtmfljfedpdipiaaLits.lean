/-
  Put, Get, Drop at keys that the law lays just ahead of the call; the chapter's first example.
-/
import Derived.Test.YtmfljfedpdipiaaTab
namespace Go.Proofs.Ytmfljfedpdipiaa
open Go Go.RowKit

section
variable {W M c n : Nat} {m : List Int → Option Int} {k : List Int}
theorem putE_new (hl : k.length = W) (hm : m k = none) (hc : c < M) : putE W M c m k = 0 := by
  unfold putE; rw [if_neg (by simp [hl]), hm, if_neg (by simp), if_neg (by omega)]
theorem putE_old {y : Int} (hl : k.length = W) (hm : m k = some y) : putE W M c m k = 0 := by
  unfold putE; rw [if_neg (by simp [hl]), hm, if_pos (by simp)]
theorem putE_full (hl : k.length = W) (hm : m k = none) (hc : c = M) : putE W M c m k = 10 := by
  unfold putE; rw [if_neg (by simp [hl]), hm, if_neg (by simp), if_pos hc]
theorem putE_wide (hl : k.length ≠ W) : putE W M c m k = 11 := by unfold putE; rw [if_pos hl]
theorem putE_far (h : putE W M c m k ≠ 0) (x : Int) : putM W M c m k x = m ∧ putC W M c m k = c ∧ putN W M c n m k = n := by
  refine ⟨if_neg h, if_neg (fun q => h q.1), if_neg (fun q => h q.1)⟩
end

section
variable {base : Nat} {w : World} {b W M c n : Nat} {m : List Int → Option Int}
/-- A new key. -/
theorem put_new (h : TS base w b W M c n m) {v : Value} {k : List Int} (hz : ArgI w v k) (hap : Apart v b) (x : Int) (hl : k.length = W) (hm : m k = none) (hc : c < M) :
    Calls Try.prog 11 #[.pointer (some ⟨b, 0, none⟩), v, .int .i64 x] w fun e w' => e = .returned (.int .i64 0) ∧ (∃ n', TS base w' b W M (c + 1) n' (upd m k (some x)) ∧ (n' = n ∨ n < 2 * (c + 1) ∧ n' = max 16 (2 * n))) ∧ Out base w w' := by
  have := put_s h hz hap x
  rw [show putM W M c m k x = upd m k (some x) from if_pos (putE_new hl hm hc), show putC W M c m k = c + 1 from if_pos ⟨putE_new hl hm hc, hm⟩, putE_new hl hm hc] at this
  refine this.mono fun e w' ⟨h1, h2, h3⟩ => ⟨h1, ⟨_, h2, ?_⟩, h3⟩
  unfold putN
  split
  · rename_i q; exact .inr ⟨q.2.2, rfl⟩
  · exact .inl rfl
/-- A key that is there. -/
theorem put_old (h : TS base w b W M c n m) {v : Value} {k : List Int} (hz : ArgI w v k) (hap : Apart v b) (x : Int) (hl : k.length = W) {y : Int} (hm : m k = some y) :
    Calls Try.prog 11 #[.pointer (some ⟨b, 0, none⟩), v, .int .i64 x] w fun e w' => e = .returned (.int .i64 0) ∧ TS base w' b W M c n (upd m k (some x)) ∧ Out base w w' := by
  have := put_s h hz hap x
  rw [show putM W M c m k x = upd m k (some x) from if_pos (putE_old hl hm), show putC W M c m k = c from if_neg (by simp [hm]), show putN W M c n m k = n from if_neg (by simp [hm]), putE_old hl hm] at this
  exact this
/-- No room. -/
theorem put_full (h : TS base w b W M c n m) {v : Value} {k : List Int} (hz : ArgI w v k) (hap : Apart v b) (x : Int) (hl : k.length = W) (hm : m k = none) (hc : c = M) :
    Calls Try.prog 11 #[.pointer (some ⟨b, 0, none⟩), v, .int .i64 x] w fun e w' => e = .returned (.int .i64 10) ∧ TS base w' b W M c n m ∧ Out base w w' := by
  have := put_s h hz hap x
  obtain ⟨e1, e2, e3⟩ := putE_far (W := W) (M := M) (c := c) (n := n) (m := m) (k := k) (by rw [putE_full hl hm hc]; decide) x
  rw [e1, e2, e3, putE_full hl hm hc] at this
  exact this
/-- Another width. -/
theorem put_wide (h : TS base w b W M c n m) {v : Value} {k : List Int} (hz : ArgI w v k) (hap : Apart v b) (x : Int) (hl : k.length ≠ W) :
    Calls Try.prog 11 #[.pointer (some ⟨b, 0, none⟩), v, .int .i64 x] w fun e w' => e = .returned (.int .i64 11) ∧ TS base w' b W M c n m ∧ Out base w w' := by
  have := put_s h hz hap x
  obtain ⟨e1, e2, e3⟩ := putE_far (W := W) (M := M) (c := c) (n := n) (m := m) (k := k) (by rw [putE_wide hl]; decide) x
  rw [e1, e2, e3, putE_wide hl] at this
  exact this

theorem Out.laid {base : Nat} {w w' : World} {ob : Obj} (h : Out base (w.alloc ob) w') (hb : base ≤ w.heap.size) : Out base w w' := (Out.of_below ((Below.refl _ _).alloc (Nat.le_refl _) _) hb).trans h
theorem TS.alloc (h : TS base w b W M c n m) (ob : Obj) : TS base (w.alloc ob) b W M c n m := h.kept ((Below.refl _ _).alloc (Nat.le_refl _) _)
theorem TS.base_le (h : TS base w b W M c n m) : base ≤ w.heap.size := Nat.le_trans h.hb (Nat.le_of_lt h.lt)
end
theorem lay1 (w : World) (x : Int) : ArgI (w.alloc (.cells #[.int .i64 x] 3)) (.slice (some ⟨w.heap.size, 0, none⟩) 1 1) [x] := argI_new w [x] (by unfold maxLen; simp)
section
variable {base : Nat} {w : World} {b W M c n : Nat} {m : List Int → Option Int}
theorem putn1 (h : TS base w b 1 M c n m) (x z : Int) (hm : m [x] = none) (hc : c < M) :
    Calls Try.prog 11 #[.pointer (some ⟨b, 0, none⟩), .slice (some ⟨w.heap.size, 0, none⟩) 1 1, .int .i64 z] (w.alloc (.cells #[.int .i64 x] 3)) fun e w' => e = .returned (.int .i64 0) ∧ (∃ n', TS base w' b 1 M (c + 1) n' (upd m [x] (some z)) ∧ (n' = n ∨ n < 2 * (c + 1) ∧ n' = max 16 (2 * n))) ∧ Out base w w' :=
  (put_new (h.alloc _) (lay1 w x) (apart_new h.lt) z rfl hm hc).mono fun _ _ ⟨h1, h2, h3⟩ => ⟨h1, h2, h3.laid h.base_le⟩
theorem puto1 (h : TS base w b 1 M c n m) (x z : Int) {u : Int} (hm : m [x] = some u) :
    Calls Try.prog 11 #[.pointer (some ⟨b, 0, none⟩), .slice (some ⟨w.heap.size, 0, none⟩) 1 1, .int .i64 z] (w.alloc (.cells #[.int .i64 x] 3)) fun e w' => e = .returned (.int .i64 0) ∧ TS base w' b 1 M c n (upd m [x] (some z)) ∧ Out base w w' :=
  (put_old (h.alloc _) (lay1 w x) (apart_new h.lt) z rfl hm).mono fun _ _ ⟨h1, h2, h3⟩ => ⟨h1, h2, h3.laid h.base_le⟩
theorem putf1 (h : TS base w b 1 M c n m) (x z : Int) (hm : m [x] = none) (hc : c = M) :
    Calls Try.prog 11 #[.pointer (some ⟨b, 0, none⟩), .slice (some ⟨w.heap.size, 0, none⟩) 1 1, .int .i64 z] (w.alloc (.cells #[.int .i64 x] 3)) fun e w' => e = .returned (.int .i64 10) ∧ TS base w' b 1 M c n m ∧ Out base w w' :=
  (put_full (h.alloc _) (lay1 w x) (apart_new h.lt) z rfl hm hc).mono fun _ _ ⟨h1, h2, h3⟩ => ⟨h1, h2, h3.laid h.base_le⟩
theorem get1 (h : TS base w b 1 M c n m) (x : Int) :
    Calls Try.prog 13 #[.pointer (some ⟨b, 0, none⟩), .slice (some ⟨w.heap.size, 0, none⟩) 1 1] (w.alloc (.cells #[.int .i64 x] 3)) fun e w' => e = .returned (.tuple #[.int .i64 (getV (m [x])), .bool (m [x]).isSome]) ∧ Below w.heap.size w w' :=
  (get_s (h.alloc _) (lay1 w x)).mono fun _ _ ⟨h1, h2⟩ => ⟨h1, chain ((Below.refl _ _).alloc (Nat.le_refl _) _) h2 (Nat.le_refl _)⟩
theorem drop1 (h : TS base w b 1 M c n m) (x : Int) :
    Calls Try.prog 14 #[.pointer (some ⟨b, 0, none⟩), .slice (some ⟨w.heap.size, 0, none⟩) 1 1] (w.alloc (.cells #[.int .i64 x] 3)) fun e w' => e = .returned (.bool (m [x]).isSome) ∧ TS base w' b 1 M (dropC c (m [x])) n (upd m [x] none) ∧ Out base w w' :=
  (drop_s (h.alloc _) (lay1 w x)).mono fun _ _ ⟨h1, h2, h3⟩ => ⟨h1, h2, h3.laid h.base_le⟩
end
theorem lay2 (w : World) (x y : Int) : ArgI (w.alloc (.cells #[.int .i64 x, .int .i64 y] 3)) (.slice (some ⟨w.heap.size, 0, none⟩) 2 2) [x, y] := argI_new w [x, y] (by unfold maxLen; simp)
section
variable {base : Nat} {w : World} {b W M c n : Nat} {m : List Int → Option Int}
theorem putn2 (h : TS base w b 2 M c n m) (x y z : Int) (hm : m [x, y] = none) (hc : c < M) :
    Calls Try.prog 11 #[.pointer (some ⟨b, 0, none⟩), .slice (some ⟨w.heap.size, 0, none⟩) 2 2, .int .i64 z] (w.alloc (.cells #[.int .i64 x, .int .i64 y] 3)) fun e w' => e = .returned (.int .i64 0) ∧ (∃ n', TS base w' b 2 M (c + 1) n' (upd m [x, y] (some z)) ∧ (n' = n ∨ n < 2 * (c + 1) ∧ n' = max 16 (2 * n))) ∧ Out base w w' :=
  (put_new (h.alloc _) (lay2 w x y) (apart_new h.lt) z rfl hm hc).mono fun _ _ ⟨h1, h2, h3⟩ => ⟨h1, h2, h3.laid h.base_le⟩
theorem puto2 (h : TS base w b 2 M c n m) (x y z : Int) {u : Int} (hm : m [x, y] = some u) :
    Calls Try.prog 11 #[.pointer (some ⟨b, 0, none⟩), .slice (some ⟨w.heap.size, 0, none⟩) 2 2, .int .i64 z] (w.alloc (.cells #[.int .i64 x, .int .i64 y] 3)) fun e w' => e = .returned (.int .i64 0) ∧ TS base w' b 2 M c n (upd m [x, y] (some z)) ∧ Out base w w' :=
  (put_old (h.alloc _) (lay2 w x y) (apart_new h.lt) z rfl hm).mono fun _ _ ⟨h1, h2, h3⟩ => ⟨h1, h2, h3.laid h.base_le⟩
theorem putf2 (h : TS base w b 2 M c n m) (x y z : Int) (hm : m [x, y] = none) (hc : c = M) :
    Calls Try.prog 11 #[.pointer (some ⟨b, 0, none⟩), .slice (some ⟨w.heap.size, 0, none⟩) 2 2, .int .i64 z] (w.alloc (.cells #[.int .i64 x, .int .i64 y] 3)) fun e w' => e = .returned (.int .i64 10) ∧ TS base w' b 2 M c n m ∧ Out base w w' :=
  (put_full (h.alloc _) (lay2 w x y) (apart_new h.lt) z rfl hm hc).mono fun _ _ ⟨h1, h2, h3⟩ => ⟨h1, h2, h3.laid h.base_le⟩
theorem get2 (h : TS base w b 2 M c n m) (x y : Int) :
    Calls Try.prog 13 #[.pointer (some ⟨b, 0, none⟩), .slice (some ⟨w.heap.size, 0, none⟩) 2 2] (w.alloc (.cells #[.int .i64 x, .int .i64 y] 3)) fun e w' => e = .returned (.tuple #[.int .i64 (getV (m [x, y])), .bool (m [x, y]).isSome]) ∧ Below w.heap.size w w' :=
  (get_s (h.alloc _) (lay2 w x y)).mono fun _ _ ⟨h1, h2⟩ => ⟨h1, chain ((Below.refl _ _).alloc (Nat.le_refl _) _) h2 (Nat.le_refl _)⟩
theorem drop2 (h : TS base w b 2 M c n m) (x y : Int) :
    Calls Try.prog 14 #[.pointer (some ⟨b, 0, none⟩), .slice (some ⟨w.heap.size, 0, none⟩) 2 2] (w.alloc (.cells #[.int .i64 x, .int .i64 y] 3)) fun e w' => e = .returned (.bool (m [x, y]).isSome) ∧ TS base w' b 2 M (dropC c (m [x, y])) n (upd m [x, y] none) ∧ Out base w w' :=
  (drop_s (h.alloc _) (lay2 w x y)).mono fun _ _ ⟨h1, h2, h3⟩ => ⟨h1, h2, h3.laid h.base_le⟩
end
theorem lay3 (w : World) (x y u : Int) : ArgI (w.alloc (.cells #[.int .i64 x, .int .i64 y, .int .i64 u] 3)) (.slice (some ⟨w.heap.size, 0, none⟩) 3 3) [x, y, u] := argI_new w [x, y, u] (by unfold maxLen; simp)
section
variable {base : Nat} {w : World} {b W M c n : Nat} {m : List Int → Option Int}
theorem putn3 (h : TS base w b 3 M c n m) (x y u z : Int) (hm : m [x, y, u] = none) (hc : c < M) :
    Calls Try.prog 11 #[.pointer (some ⟨b, 0, none⟩), .slice (some ⟨w.heap.size, 0, none⟩) 3 3, .int .i64 z] (w.alloc (.cells #[.int .i64 x, .int .i64 y, .int .i64 u] 3)) fun e w' => e = .returned (.int .i64 0) ∧ (∃ n', TS base w' b 3 M (c + 1) n' (upd m [x, y, u] (some z)) ∧ (n' = n ∨ n < 2 * (c + 1) ∧ n' = max 16 (2 * n))) ∧ Out base w w' :=
  (put_new (h.alloc _) (lay3 w x y u) (apart_new h.lt) z rfl hm hc).mono fun _ _ ⟨h1, h2, h3⟩ => ⟨h1, h2, h3.laid h.base_le⟩
theorem puto3 (h : TS base w b 3 M c n m) (x y u z : Int) {u' : Int} (hm : m [x, y, u] = some u') :
    Calls Try.prog 11 #[.pointer (some ⟨b, 0, none⟩), .slice (some ⟨w.heap.size, 0, none⟩) 3 3, .int .i64 z] (w.alloc (.cells #[.int .i64 x, .int .i64 y, .int .i64 u] 3)) fun e w' => e = .returned (.int .i64 0) ∧ TS base w' b 3 M c n (upd m [x, y, u] (some z)) ∧ Out base w w' :=
  (put_old (h.alloc _) (lay3 w x y u) (apart_new h.lt) z rfl hm).mono fun _ _ ⟨h1, h2, h3⟩ => ⟨h1, h2, h3.laid h.base_le⟩
theorem putf3 (h : TS base w b 3 M c n m) (x y u z : Int) (hm : m [x, y, u] = none) (hc : c = M) :
    Calls Try.prog 11 #[.pointer (some ⟨b, 0, none⟩), .slice (some ⟨w.heap.size, 0, none⟩) 3 3, .int .i64 z] (w.alloc (.cells #[.int .i64 x, .int .i64 y, .int .i64 u] 3)) fun e w' => e = .returned (.int .i64 10) ∧ TS base w' b 3 M c n m ∧ Out base w w' :=
  (put_full (h.alloc _) (lay3 w x y u) (apart_new h.lt) z rfl hm hc).mono fun _ _ ⟨h1, h2, h3⟩ => ⟨h1, h2, h3.laid h.base_le⟩
theorem get3 (h : TS base w b 3 M c n m) (x y u : Int) :
    Calls Try.prog 13 #[.pointer (some ⟨b, 0, none⟩), .slice (some ⟨w.heap.size, 0, none⟩) 3 3] (w.alloc (.cells #[.int .i64 x, .int .i64 y, .int .i64 u] 3)) fun e w' => e = .returned (.tuple #[.int .i64 (getV (m [x, y, u])), .bool (m [x, y, u]).isSome]) ∧ Below w.heap.size w w' :=
  (get_s (h.alloc _) (lay3 w x y u)).mono fun _ _ ⟨h1, h2⟩ => ⟨h1, chain ((Below.refl _ _).alloc (Nat.le_refl _) _) h2 (Nat.le_refl _)⟩
theorem drop3 (h : TS base w b 3 M c n m) (x y u : Int) :
    Calls Try.prog 14 #[.pointer (some ⟨b, 0, none⟩), .slice (some ⟨w.heap.size, 0, none⟩) 3 3] (w.alloc (.cells #[.int .i64 x, .int .i64 y, .int .i64 u] 3)) fun e w' => e = .returned (.bool (m [x, y, u]).isSome) ∧ TS base w' b 3 M (dropC c (m [x, y, u])) n (upd m [x, y, u] none) ∧ Out base w w' :=
  (drop_s (h.alloc _) (lay3 w x y u)).mono fun _ _ ⟨h1, h2, h3⟩ => ⟨h1, h2, h3.laid h.base_le⟩
end

def m0 : List Int → Option Int := fun _ => none
set_option maxRecDepth 100000 in
set_option maxHeartbeats 4000000 in
theorem known_c (w : World) : Calls Try.prog 5 #[] w fun e w' => e = .returned (.bool true) ∧ Below w.heap.size w w' := by
  have hg : (upd (upd (upd m0 [1, 2] (some 7)) [1, 2] (some 8)) [0, 9] (some 1)) [1, 2] = some 8 := rfl
  have hd : (upd (upd (upd m0 [1, 2] (some 7)) [1, 2] (some 8)) [0, 9] (some 1)) [0, 9] = some 1 := rfl
  have n1 : m0 [1, 2] = none := rfl
  have n2 : (upd m0 [1, 2] (some 7)) [1, 2] = some 7 := rfl
  have n3 : (upd (upd m0 [1, 2] (some 7)) [1, 2] (some 8)) [0, 9] = none := rfl
  have n4 : (upd (upd (upd m0 [1, 2] (some 7)) [1, 2] (some 8)) [0, 9] (some 1)) [3, 3] = none := rfl
  have E : Hid ((upd (upd (upd m0 [1, 2] (some 7)) [1, 2] (some 8)) [0, 9] (some 1)) [1, 2] = some 8 ∧ (upd (upd (upd m0 [1, 2] (some 7)) [1, 2] (some 8)) [0, 9] (some 1)) [0, 9] = some 1 ∧ m0 [1, 2] = none ∧ (upd m0 [1, 2] (some 7)) [1, 2] = some 7 ∧ (upd (upd m0 [1, 2] (some 7)) [1, 2] (some 8)) [0, 9] = none ∧ (upd (upd (upd m0 [1, 2] (some 7)) [1, 2] (some 8)) [0, 9] (some 1)) [3, 3] = none) := ⟨hg, hd, n1, n2, n3, n4⟩
  clear hg hd n1 n2 n3 n4
  go_enter Try.func5, Try.ntmps5
  go_wp2_with first | (go_at_call 7; refine (new_s 2 2 (by decide) (by decide) _).mono ?_; rintro e w0 ⟨b, rfl, hT, hB⟩; have T0 : Hid (TS w.heap.size w0 b 2 2 0 0 m0) := hT; have O0 : Hid (Below w.heap.size w w0) := hB; clear hT hB) | (go_at_call 11; (with_reducible refine (putf2 T3.out 3 3 3 E.out.2.2.2.2.2 rfl).mono ?_); rintro e w4 ⟨rfl, hT, hO⟩; have T4 : Hid (TS w.heap.size w4 b 2 2 2 n3 (upd (upd (upd m0 [1, 2] (some 7)) [1, 2] (some 8)) [0, 9] (some 1))) := hT; have O4 : Hid (Below w.heap.size w w4) := O3.out.trans hO.below; clear hT hO) | (go_at_call 11; (with_reducible refine (putn2 T2.out 0 9 1 E.out.2.2.2.2.1 (by decide)).mono ?_); rintro e w3 ⟨rfl, ⟨n3, hT, _⟩, hO⟩; have T3 : Hid (TS w.heap.size w3 b 2 2 2 n3 (upd (upd (upd m0 [1, 2] (some 7)) [1, 2] (some 8)) [0, 9] (some 1))) := hT; have O3 : Hid (Below w.heap.size w w3) := O2.out.trans hO.below; clear hT hO) | (go_at_call 11; (with_reducible refine (puto2 T1.out 1 2 8 E.out.2.2.2.1).mono ?_); rintro e w2 ⟨rfl, hT, hO⟩; have T2 : Hid (TS w.heap.size w2 b 2 2 1 n1 (upd (upd m0 [1, 2] (some 7)) [1, 2] (some 8))) := hT; have O2 : Hid (Below w.heap.size w w2) := O1.out.trans hO.below; clear hT hO) | (go_at_call 11; (with_reducible refine (putn2 T0.out 1 2 7 E.out.2.2.1 (by decide)).mono ?_); rintro e w1 ⟨rfl, ⟨n1, hT, _⟩, hO⟩; have T1 : Hid (TS w.heap.size w1 b 2 2 1 n1 (upd m0 [1, 2] (some 7))) := hT; have O1 : Hid (Below w.heap.size w w1) := O0.out.trans hO.below; clear hT hO) | (go_at_call 13; (with_reducible refine (get2 T4.out 1 2).mono ?_); rw [E.out.1]; rintro e w5 ⟨rfl, hB⟩; have T5 : Hid (TS w.heap.size w5 b 2 2 2 n3 (upd (upd (upd m0 [1, 2] (some 7)) [1, 2] (some 8)) [0, 9] (some 1))) := T4.out.kept hB; have O5 : Hid (Below w.heap.size w w5) := chain O4.out hB (Nat.le_refl _); clear hB) | (go_at_call 14; (with_reducible refine (drop2 T5.out 0 9).mono ?_); rw [E.out.2.1]; rintro e w6 ⟨rfl, hT, hO⟩; have T6 : Hid (TS w.heap.size w6 b 2 2 1 n3 (upd (upd (upd (upd m0 [1, 2] (some 7)) [1, 2] (some 8)) [0, 9] (some 1)) [0, 9] none)) := hT; have O6 : Hid (Below w.heap.size w w6) := O5.out.trans hO.below; clear hT hO) | (go_at_call 12; (with_reducible refine (len_s T6.out).mono ?_); rintro e w7 ⟨rfl, h7⟩; subst w7)
  go_ret
  exact ⟨rfl, O6.out⟩
end Go.Proofs.Ytmfljfedpdipiaa
