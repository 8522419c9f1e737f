/-
  The last token; units; a character. What stands within an item; an END.
-/
import Derived.Test.YtloeajhmmjdlgaaGreatDoorC1
namespace Go.Proofs.YtloeajhmmjdlgaaGreatDoor
open Go Go.RowKit
attribute [local go_sem] ext_cell

/-- Of which kind the last token is that a list of tokens has. -/
def LK (w : World) (b : Nat) (tv : Value) (last : Nat) : Prop :=
  (tv = .slice none 0 0 ∧ last = 0) ∨ ∃ g n c, tv = .slice (some ⟨g, 0, none⟩) (n + 1) c ∧ g ≠ b ∧ g < w.heap.size ∧ n ≤ 2000 ∧ 1 ≤ last ∧ w.cell? ⟨g, n * 7, none⟩ = some (.int .i64 (last : Int))
theorem LK.fr {w w' : World} {b : Nat} {tv : Value} {last : Nat} (h : LK w b tv last) (hf : Fr (At b) w w') : LK w' b tv last := by
  rcases h with h | ⟨g, n, c, h1, h2, h3, h4, h5, h6⟩
  · exact .inl h
  · refine .inr ⟨g, n, c, h1, h2, Nat.lt_of_lt_of_le h3 hf.size, h4, h5, ?_⟩
    have := hf.block g h3 h2
    simpa [World.cell?, this] using h6
theorem LK.kept {w w' : World} {b : Nat} {tv : Value} {last : Nat} (h : LK w b tv last) (hb : Below w.heap.size w w') : LK w' b tv last := h.fr (Fr.of_below hb)

set_option maxRecDepth 100000 in
set_option maxHeartbeats 1000000 in
theorem behind_c {w : World} {b : Nat} {s : ByteArray} {m : Md} {p : Nat} {tv : Value} {last : Nat} (h : RD w b s m p tv) (hk : LK w b tv last) (k : Int) (h0 : 0 < k) :
    Calls Tryz.prog 29 #[.pointer (some ⟨b, 0, none⟩), .int .i64 k] w fun e w' => e = .returned (.bool (decide ((last : Int) = k))) ∧ Below w.heap.size w w' := by
  have c4 := h.c4
  have lb := h.lt
  clear h
  rcases hk with ⟨rfl, rfl⟩ | ⟨g, n, c, rfl, h2, h3, h4, h5, h6⟩
  · have e : decide (((0 : Nat) : Int) = k) = false := decide_eq_false (by omega)
    rw [e]
    go_enter Tryz.func29, Tryz.ntmps29
    go_wp2
    go_ret
    exact ⟨rfl, Below.refl _ _⟩
  · have hw1 : IntKind.wrap .i64 (((n + 1 : Nat) : Int) - 1) = (n : Int) := by rw [wrap_small _ (by omega) (by omega)]; omega
    have i0 : (0 : Int) ≤ (n : Int) := by omega
    have i1 : (n : Int) < ((n + 1 : Nat) : Int) := by omega
    go_enter Tryz.func29, Tryz.ntmps29
    go_wp2
    go_ret
    exact ⟨rfl, Below.refl _ _⟩

theorem bt_idx (t : ByteArray) (k : Nat) (h : k < t.size) : (t[k]'h).toNat = bt t k := by
  have : t.data.toList[k]? = some (t[k]'h) := List.getElem?_eq_getElem (by rw [size_list]; exact h)
  exact (bt_at.1 this).2.symm
set_option maxRecDepth 100000 in
set_option maxHeartbeats 1000000 in
theorem unit_c {w : World} (hG : Glb w) (t : ByteArray) (m : Md) (h : 0 < t.size) (hl : t.size ≤ 2000) :
    Calls Tryz.prog 49 #[.string t, .agg #[.bool m.c, .bool m.f]] w fun e w' => e = .returned (.tuple #[.int .i64 (un m t 0).1, .int .i64 ((un m t 0).2 : Int)]) ∧ Below w.heap.size w w' := by
  obtain ⟨mc, mf⟩ := m
  cases mc with
  | true =>
    have hc : ∀ W, Tabs W → Calls Tryz.prog 68 #[.string t, .int .i64 0] W fun e w' => e = .returned (.tuple #[.int .i64 (ch t 0), .int .i64 (wd t 0 : Int)]) ∧ Below W.heap.size W w' := fun W hW => next_in t 0 W hW h (by unfold maxLen; omega)
    have e : un ⟨true, mf⟩ t 0 = (ch t 0, wd t 0) := rfl
    rw [e]
    have HT : Hid (Tabs (w.alloc (.cells #[.bool true, .bool mf] 23))) := (hG.kept ((Below.refl _ _).alloc (Nat.le_refl _) _)).1
    clear e
    go_enter Tryz.func49, Tryz.ntmps49
    go_wp2_with (go_at_call 68; refine (hc _ HT.out).mono ?_; rintro e w5 ⟨rfl, h5⟩; have X5 : Hid (Below w.heap.size w w5) := chain ((Below.refl _ _).alloc (Nat.le_refl _) _) h5 (Nat.le_refl _); clear h5)
    go_ret2
    exact ⟨rfl, X5.out⟩
  | false =>
    have e : un ⟨false, mf⟩ t 0 = ((bt t 0 : Int), 1) := rfl
    rw [e]
    have hx := bt_idx t 0 h
    have hlt := bt_lt t 0
    go_enter Tryz.func49, Tryz.ntmps49
    go_wp2
    go_ret2
    refine ⟨?_, (Below.refl _ _).alloc (Nat.le_refl _) _⟩
    rw [← hx]
    rfl
theorem tail_un (m : Md) (s : ByteArray) (p : Nat) : un m (s.extract p s.size) 0 = un m s p := by
  unfold un ch wd bad
  rw [Lib.tail_decode, Nat.add_zero]
  have : bt (s.extract p s.size) 0 = bt s p := by
    unfold bt
    rw [ext_list, List.getD_eq_getElem?_getD, List.getD_eq_getElem?_getD, List.getElem?_drop, Nat.add_zero]
  rw [this]
/-- What comes of a call of the reader's: it is somewhere else, or it gives up. -/
def Outs {X : Type} (w : World) (b : Nat) (s : ByteArray) (m : Md) (tv : Value) (val : World → Value → X → Prop) (r : Rs (X × Nat)) (e : Ending) (w' : World) : Prop :=
  Fr (At b) w w' ∧ match r with
  | .error (c, a) => ∃ g, w.heap.size ≤ g ∧ e = .panicked [{ v := .iface 45 (.pointer (some ⟨g, 0, none⟩)), recovered := false }] ∧ BadAt w' g c a
  | .ok (x, q) => ∃ v, e = .returned v ∧ RD w' b s m q tv ∧ val w' v x
theorem Outs.err {X : Type} {w : World} {b : Nat} {s : ByteArray} {m : Md} {tv : Value} {val : World → Value → X → Prop} {w' : World} {c a g : Nat} (h1 : Fr (At b) w w') (h2 : w.heap.size ≤ g) (h3 : BadAt w' g c a) :
    Outs w b s m tv val (.error (c, a)) (.panicked [{ v := .iface 45 (.pointer (some ⟨g, 0, none⟩)), recovered := false }]) w' := ⟨h1, g, h2, rfl, h3⟩
theorem Outs.is {X : Type} {w : World} {b : Nat} {s : ByteArray} {m : Md} {tv : Value} {val : World → Value → X → Prop} {w' : World} {x : X} {q : Nat} {v : Value} (h1 : Fr (At b) w w') (h2 : RD w' b s m q tv) (h3 : val w' v x) :
    Outs w b s m tv val (.ok (x, q)) (.returned v) w' := ⟨h1, v, rfl, h2, h3⟩
def isI (_ : World) (v : Value) (x : Int) : Prop := v = .int .i64 x

set_option maxRecDepth 100000 in
set_option maxHeartbeats 1000000 in
theorem character_c {w : World} {b : Nat} {s : ByteArray} {m : Md} {p : Nat} {tv : Value} (hG : Glb w) (h : RD w b s m p tv) (hp : p < s.size) (hs : s.size ≤ 2000) :
    Calls Tryz.prog 34 #[.pointer (some ⟨b, 0, none⟩)] w (Outs w b s m tv isI (chr m s p)) := by
  have c0 := h.c0
  have c1 := h.c1
  have c2 := h.c2
  have c3 := h.c3
  have lb := h.lt
  have H : Hid (RD w b s m p tv ∧ Glb w) := ⟨h, hG⟩
  have h0 : (0 : Int) ≤ (p : Int) := by omega
  have h1 : (p : Int) ≤ (s.size : Int) := by omega
  have h2 : ¬ s.size < p := by omega
  have hu := un_wd m s p hp
  have hc : ∀ x : Ext w, Calls Tryz.prog 49 #[.string (s.extract p s.size), .agg #[.bool m.c, .bool m.f]] x.val fun e w' => e = .returned (.tuple #[.int .i64 (un m s p).1, .int .i64 ((un m s p).2 : Int)]) ∧ Below x.val.heap.size x.val w' := fun x => by
    have := unit_c (H.out.2.kept x.2) (s.extract p s.size) m (by rw [ByteArray.size_extract]; omega) (by rw [ByteArray.size_extract]; omega)
    rw [tail_un] at this
    exact this
  unfold chr
  generalize (un m s p).1 = c at *
  generalize (un m s p).2 = n at *
  clear h hG
  by_cases hc0 : c < 0
  · rw [if_pos hc0]
    have d0 : decide (c < 0) = true := decide_eq_true hc0
    go_enter Tryz.func34, Tryz.ntmps34
    go_wp2
    refine wp_region_ext (by kernel_rfl) (by kernel_rfl) ?_
    repeat (go_big_quiet_step (first | exact rfl | (go_at_call 49; exact ext_call (hc _))))
    refine wpQuiet_nil ?_
    intro w5 hw5
    have X5 : Hid (Below w.heap.size w w5 ∧ RD w5 b s m p tv) := ⟨ext_of hw5, H.out.1.kept (ext_of hw5)⟩
    have k3 := X5.out.2.c3
    clear hw5
    go_wp2_with (go_at_call 12; refine (wrong_c 20 p _).mono ?_; rintro e w6 ⟨rfl, h6, h7⟩; have X6 : Hid (BadAt w6 w5.heap.size 20 p ∧ Below w5.heap.size w5 w6) := ⟨h6, h7⟩; clear h6 h7)
    exact ⟨rfl, .err (Fr.of_below (chain X5.out.1 X6.out.2 (Nat.le_refl _))) X5.out.1.size X6.out.1⟩
  · rw [if_neg hc0]
    have hw1 : IntKind.wrap .i64 ((p : Int) + (n : Int)) = (p : Int) + (n : Int) := wrap_small _ (by omega) (by omega)
    go_enter Tryz.func34, Tryz.ntmps34
    go_wp2
    refine wp_region_ext (by kernel_rfl) (by kernel_rfl) ?_
    repeat (go_big_quiet_step (first | exact rfl | (go_at_call 49; exact ext_call (hc _))))
    refine wpQuiet_nil ?_
    intro w5 hw5
    have X5 : Hid (Below w.heap.size w w5 ∧ RD w5 b s m p tv) := ⟨ext_of hw5, H.out.1.kept (ext_of hw5)⟩
    have k3 := X5.out.2.c3
    have f3 := X5.out.2.frz 3
    clear hw5
    go_wp2
    go_ret
    exact ⟨Fr.setCell (S := At b) (Fr.of_below X5.out.1) (p := ⟨b, 3, none⟩) rfl _, _, rfl, X5.out.2.to _ (by omega), rfl⟩
end Go.Proofs.YtloeajhmmjdlgaaGreatDoor
namespace Go.Proofs.YtloeajhmmjdlgaaGreatDoor
open Go Go.RowKit
attribute [local go_sem] ext_cell

set_option maxRecDepth 100000 in
set_option maxHeartbeats 1000000 in
theorem atBeg_c {w : World} {b : Nat} {s : ByteArray} {m : Md} {p : Nat} {tv : Value} {last : Nat} (h : RD w b s m p tv) (hk : LK w b tv last) :
    Calls Tryz.prog 27 #[.pointer (some ⟨b, 0, none⟩)] w fun e w' => e = .returned (.bool (atBeg last)) ∧ Below w.heap.size w w' := by
  have c4 := h.c4
  have lb := h.lt
  have H : Hid (RD w b s m p tv ∧ LK w b tv last) := ⟨h, hk⟩
  clear h
  rcases hk with ⟨rfl, rfl⟩ | ⟨g, n, c, rfl, h2, h3, h4, h5, h6⟩
  · go_enter Tryz.func27, Tryz.ntmps27
    go_wp2
    go_ret
    exact ⟨rfl, Below.refl _ _⟩
  · have hn : (((n + 1 : Nat) : Int) == 0) = false := by simp; omega
    have hn2 : ((n : Int) + 1 == 0) = false := by simp; omega
    clear h6
    have e0 : atBeg last = (decide ((last : Int) = 3) || decide ((last : Int) = 5) || decide ((last : Int) = 7)) := by
      unfold atBeg
      have : (last == 0) = false := by simp; omega
      rw [this, Bool.false_or]
      have t : ∀ k : Nat, (last == k) = decide ((last : Int) = (k : Int)) := fun k => by
        rw [Bool.eq_iff_iff]; simp; omega
      rw [t 3, t 5, t 7]
      rfl
    rw [e0]
    clear e0
    have b3 : Hid (∀ W, Below w.heap.size w W → Calls Tryz.prog 29 #[.pointer (some ⟨b, 0, none⟩), .int .i64 3] W fun e w' => e = .returned (.bool (decide ((last : Int) = 3))) ∧ Below W.heap.size W w') := fun W hW => behind_c (H.out.1.kept hW) (H.out.2.kept hW) 3 (by omega)
    have b5 : Hid (∀ W, Below w.heap.size w W → Calls Tryz.prog 29 #[.pointer (some ⟨b, 0, none⟩), .int .i64 5] W fun e w' => e = .returned (.bool (decide ((last : Int) = 5))) ∧ Below W.heap.size W w') := fun W hW => behind_c (H.out.1.kept hW) (H.out.2.kept hW) 5 (by omega)
    have b7 : Hid (∀ W, Below w.heap.size w W → Calls Tryz.prog 29 #[.pointer (some ⟨b, 0, none⟩), .int .i64 7] W fun e w' => e = .returned (.bool (decide ((last : Int) = 7))) ∧ Below W.heap.size W w') := fun W hW => behind_c (H.out.1.kept hW) (H.out.2.kept hW) 7 (by omega)
    generalize decide ((last : Int) = 3) = x3 at *
    generalize decide ((last : Int) = 5) = x5 at *
    generalize decide ((last : Int) = 7) = x7 at *
    rcases x3 with _ | _
    · rcases x5 with _ | _
      · go_enter Tryz.func27, Tryz.ntmps27
        go_wp2_with first
          | (go_at_call 29; (with_reducible refine (b3.out _ (Below.refl _ _)).mono ?_); rintro e w5 ⟨rfl, h5⟩; have X5 : Hid (Below w.heap.size w w5) := h5; clear h5)
          | (go_at_call 29; (with_reducible refine (b5.out _ X5.out).mono ?_); rintro e w6 ⟨rfl, h5⟩; have X6 : Hid (Below w.heap.size w w6) := chain X5.out h5 (Nat.le_refl _); clear h5)
          | (go_at_call 29; (with_reducible refine (b7.out _ X6.out).mono ?_); rintro e w7 ⟨rfl, h5⟩; have X7 : Hid (Below w.heap.size w w7) := chain X6.out h5 (Nat.le_refl _); clear h5)
        go_ret
        exact ⟨rfl, X7.out⟩
      · go_enter Tryz.func27, Tryz.ntmps27
        go_wp2_with first
          | (go_at_call 29; (with_reducible refine (b3.out _ (Below.refl _ _)).mono ?_); rintro e w5 ⟨rfl, h5⟩; have X5 : Hid (Below w.heap.size w w5) := h5; clear h5)
          | (go_at_call 29; (with_reducible refine (b5.out _ X5.out).mono ?_); rintro e w6 ⟨rfl, h5⟩; have X6 : Hid (Below w.heap.size w w6) := chain X5.out h5 (Nat.le_refl _); clear h5)
        go_ret
        exact ⟨rfl, X6.out⟩
    · go_enter Tryz.func27, Tryz.ntmps27
      go_wp2_with (go_at_call 29; (with_reducible refine (b3.out _ (Below.refl _ _)).mono ?_); rintro e w5 ⟨rfl, h5⟩; have X5 : Hid (Below w.heap.size w w5) := h5; clear h5)
      go_ret
      exact ⟨rfl, X5.out⟩

theorem ext_empty (s : ByteArray) (k : Nat) : ((s.extract k s.size).toList == []) = decide (s.size ≤ k) := by
  rw [Lib.toList_data, ext_list]
  rw [Bool.eq_iff_iff]
  simp

set_option maxRecDepth 100000 in
set_option maxHeartbeats 1000000 in
theorem ends_c {w : World} {b : Nat} {s : ByteArray} {m : Md} {p : Nat} {tv : Value} (h : RD w b s m p tv) (hp : p < s.size) (hs : s.size ≤ 2000) :
    Calls Tryz.prog 30 #[.pointer (some ⟨b, 0, none⟩)] w fun e w' => e = .returned (.bool (endsB s p)) ∧ Below w.heap.size w w' := by
  have c0 := h.c0
  have c3 := h.c3
  have lb := h.lt
  have h0 : (0 : Int) ≤ (p : Int) + 1 := by omega
  have h1 : (p : Int) + 1 ≤ (s.size : Int) := by omega
  have h2 : ¬ s.size < p + 1 := by omega
  have h3 : ((p : Int) + 1).toNat = p + 1 := by omega
  have hw1 : IntKind.wrap .i64 ((p : Int) + 1) = (p : Int) + 1 := wrap_small _ (by omega) (by omega)
  have hc1 : Hid (∀ W, Calls Tryz.prog 41 #[.string (s.extract (p + 1) s.size), .string ⟨#[92, 41]⟩] W fun e w' => e = .returned (.bool (sees s (p + 1) [92, 41])) ∧ w' = W) := fun W => by
    have := Tryz.strings_HasPrefix (s.extract (p + 1) s.size) ⟨#[92, 41]⟩ W
    rw [ext_list] at this
    exact this
  have hc2 : Hid (∀ W, Calls Tryz.prog 41 #[.string (s.extract (p + 1) s.size), .string ⟨#[92, 124]⟩] W fun e w' => e = .returned (.bool (sees s (p + 1) [92, 124])) ∧ w' = W) := fun W => by
    have := Tryz.strings_HasPrefix (s.extract (p + 1) s.size) ⟨#[92, 124]⟩ W
    rw [ext_list] at this
    exact this
  have he := ext_empty s (p + 1)
  unfold endsB
  clear h
  generalize sees s (p + 1) [92, 41] = x1 at *
  generalize sees s (p + 1) [92, 124] = x2 at *
  rcases Nat.lt_or_ge (p + 1) s.size with g | g
  · have n1 : decide (p + 1 = s.size) = false := decide_eq_false (by omega)
    have n2 : decide (s.size ≤ p + 1) = false := decide_eq_false (by omega)
    rw [n2] at he
    rw [n1]
    clear n1 n2
    rcases x1 with _ | _
    · go_enter Tryz.func30, Tryz.ntmps30
      go_wp2
      refine wp_region_ext (by kernel_rfl) (by kernel_rfl) ?_
      repeat (go_big_quiet_step (first | exact rfl))
      refine wpQuiet_nil ?_
      intro w5 hw5
      have B5 : Hid (Below w.heap.size w w5) := ext_of hw5
      clear hw5
      go_wp2_with first
        | (go_at_call 41; (with_reducible refine (hc1.out _).mono ?_); rintro e w6 ⟨rfl, h6⟩; subst w6)
        | (go_at_call 41; (with_reducible refine (hc2.out _).mono ?_); rintro e w6 ⟨rfl, h6⟩; subst w6)
      go_ret
      exact ⟨rfl, B5.out⟩
    · go_enter Tryz.func30, Tryz.ntmps30
      go_wp2
      refine wp_region_ext (by kernel_rfl) (by kernel_rfl) ?_
      repeat (go_big_quiet_step (first | exact rfl))
      refine wpQuiet_nil ?_
      intro w5 hw5
      have B5 : Hid (Below w.heap.size w w5) := ext_of hw5
      clear hw5
      go_wp2_with first
        | (go_at_call 41; (with_reducible refine (hc1.out _).mono ?_); rintro e w6 ⟨rfl, h6⟩; subst w6)
      go_ret
      exact ⟨rfl, B5.out⟩
  · have n1 : decide (p + 1 = s.size) = true := decide_eq_true (by omega)
    have n2 : decide (s.size ≤ p + 1) = true := decide_eq_true (by omega)
    rw [n2] at he
    rw [n1]
    clear n1 n2
    go_enter Tryz.func30, Tryz.ntmps30
    go_wp2
    refine wp_region_ext (by kernel_rfl) (by kernel_rfl) ?_
    repeat (go_big_quiet_step (first | exact rfl))
    refine wpQuiet_nil ?_
    intro w5 hw5
    have B5 : Hid (Below w.heap.size w w5) := ext_of hw5
    clear hw5
    go_wp2
    go_ret
    exact ⟨rfl, B5.out⟩
end Go.Proofs.YtloeajhmmjdlgaaGreatDoor
