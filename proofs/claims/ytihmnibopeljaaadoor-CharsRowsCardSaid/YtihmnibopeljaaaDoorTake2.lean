/-
  take, firstDifference: contracts.
-/
import Derived.Test.YtihmnibopeljaaaDoorTake
namespace Go.Proofs.YtihmnibopeljaaaDoor
open Go Go.RowKit
attribute [local go_sem] ext_cell

/-- A unit is taken: what the reader holds then, or the error and its place. -/
def takeS (bd : Bool) (p : Nat) (r : Int) (x : Rs) : Rs ⊕ (Int × Int) :=
  if x.st ≠ 0 then (match escS x r with | some y => .inl y | none => .inr (32, x.bg))
  else if plainI r = false ∨ bd = true then .inr (20, (p : Int))
  else if r = 92 then .inl ⟨x.L, 1, (p : Int), x.hi⟩
  else .inl ⟨x.L ++ Lib.encodeRune r, 0, x.bg, x.hi⟩
def errOf : Rs ⊕ (Int × Int) → Int | .inl _ => 0 | .inr e => e.1
def plOf : Rs ⊕ (Int × Int) → Int | .inl _ => 0 | .inr e => e.2
def optOf : Rs ⊕ (Int × Int) → Option Rs | .inl y => some y | .inr _ => none
theorem dec_valid (s : ByteArray) (p : Nat) : Lib.validRune ((Utf8.decode s p).1 : Int) = true := by
  have q0 := bt_lt s p
  rw [dec_eq]
  unfold Lib.validRune
  rw [decide_eq_true_eq]
  rcases decN_cases (s.size - p) (bt s p) (bt s (p + 1)) (bt s (p + 2)) (bt s (p + 3)) with k | ⟨_, k⟩ | ⟨_, _, _, _, k⟩ | ⟨_, _, _, _, _, _, k⟩ | ⟨_, _, _, _, _, _, _, k⟩
  all_goals (rw [k]; simp only; omega)

set_option maxHeartbeats 4000000 in
set_option maxRecDepth 1000000 in
theorem take_c {base : Nat} {w : World} {b : Nat} {v : Value} {x : Rs} (s : ByteArray) (p : Nat) (h : RD base w b v x.L x.st x.bg x.hi) (hok : x.ok) (hbase : base ≤ w.heap.size) (hl : x.L.length ≤ 70368744177664) (hp : p < s.size) :
    Calls Tryd.prog 35 #[.pointer (some ⟨b, 0, none⟩), .string s, .int .i64 (p : Int), .int .i32 ((Utf8.decode s p).1 : Int)] w fun e w' => e = .returned (.tuple #[.int .i64 (errOf (takeS (bad s p) p ((Utf8.decode s p).1 : Int) x)), .int .i64 (plOf (takeS (bad s p) p ((Utf8.decode s p).1 : Int) x))]) ∧ Aft base w b v (optOf (takeS (bad s p) p ((Utf8.decode s p).1 : Int) x)) w' := by
  have H : Hid (RD base w b v x.L x.st x.bg x.hi) := h
  have c1 := h.cells.2.1
  have c0 := h.cells.1
  have lb := lt_of_heap h.hb
  have hv := dec_valid s p
  have hc := broken_c s p
  have hdl := dec_le s p
  obtain ⟨n, hn⟩ : ∃ n : Int, ((Utf8.decode s p).1 : Int) = n := ⟨_, rfl⟩
  have n0 : 0 ≤ n := by omega
  have n1 : n ≤ 1114111 := by omega
  rw [hn] at hv hc ⊢
  clear hn hdl
  by_cases hst : x.st = 0
  · have hpl := isPlain_c n
    rcases hpb : plainI n with _ | _
    · rw [hpb] at hpl
      have hk : Hid (takeS (bad s p) p n x = .inr (20, (p : Int))) := by show takeS (bad s p) p n x = _; rw [takeS, if_neg (by simpa using hst), if_pos (.inl hpb)]
      rw [hst] at c1
      clear h hok hst hpb
      go_enter Tryd.func35, Tryd.ntmps35
      go_wp2_with (go_at_call 37; (with_reducible refine (hpl _).mono ?_); rintro e w5 ⟨rfl, h5⟩; subst w5)
      go_ret2
      rw [hk.out]
      exact ⟨rfl, Aft.none (Fr.refl _ w) rfl⟩
    · rw [hpb] at hpl
      rcases hbb : bad s p with _ | _
      · rw [hbb] at hc
        by_cases h92 : n = 92
        · subst h92
          have hk : Hid (takeS false p 92 x = .inl ⟨x.L, 1, (p : Int), x.hi⟩) := by show takeS false p 92 x = _; rw [takeS, if_neg (by simpa using hst), if_neg (by rw [hpb]; simp), if_pos rfl]
          have d1 := h.frz 1
          have d2 : (w.setCell ⟨b, 1, none⟩ (.int .i64 1)).cell? ⟨b, 2, none⟩ = some (.int .i64 x.bg) := (h.state 1).cells.2.2.1
          have d3 := (h.state 1).frz 2
          rw [hst] at c1
          clear h hok hst hpb hbb
          go_enter Tryd.func35, Tryd.ntmps35
          go_wp2_with first
            | (go_at_call 37; (with_reducible refine (hpl _).mono ?_); rintro e w5 ⟨rfl, h5⟩; subst w5)
            | (go_at_call 34; (with_reducible refine (hc _ hp).mono ?_); rintro e w5 ⟨rfl, h5⟩; subst w5)
          go_ret2
          rw [hk.out]
          refine ⟨rfl, Aft.some ?_ ((H.out.state 1).begin (p : Int))⟩
          exact ((Fr.refl _ w).setCell (p := ⟨b, 1, none⟩) (.inl rfl) _).setCell (p := ⟨b, 2, none⟩) (.inl rfl) _
        · have b92 : (n == 92) = false := by simpa using h92
          have hk : Hid (takeS false p n x = .inl ⟨x.L ++ Lib.encodeRune n, 0, x.bg, x.hi⟩) := by show takeS false p n x = _; rw [takeS, if_neg (by simpa using hst), if_neg (by rw [hpb]; simp), if_neg (by omega)]
          rw [hst] at c1
          have HST : Hid (x.st = 0) := hst
          obtain ⟨q, c, rfl⟩ := ownsRow_shape H.out.own
          clear h hok hst hpb hbb
          go_enter Tryd.func35, Tryd.ntmps35
          go_wp2_with first
            | (go_at_call 37; (with_reducible refine (hpl _).mono ?_); rintro e w5 ⟨rfl, h5⟩; subst w5)
            | (go_at_call 34; (with_reducible refine (hc _ hp).mono ?_); rintro e w5 ⟨rfl, h5⟩; subst w5)
            | (go_at_call 33; (refine (Tryd.utf8_AppendRune_plain base _ x.L.length _ n (by omega) (by omega) _ H.out.own (by omega) hbase).mono ?_); rintro e w6 ⟨v6, rfl, hown6, ob, hg6⟩; obtain ⟨q6, c6, rfl⟩ := ownsRow_shape hown6; have F6 : Hid (Fr (ow (.slice q x.L.length c)) w w6) := ((Fr.refl _ w).alloc ob).grown hg6 (fun k hk => hk); have O6 : Hid (OB base w6 (.slice q6 (x.L.length + (Lib.runeCells n).length) c6) (x.L ++ Lib.encodeRune n)) := (by show World.ownsRow _ _ _ _ _ (x.L ++ Lib.encodeRune n).length _; rw [List.length_append, Lib.byteCells_append, Lib.byteCells_encodeRune, ← Lib.runeCells_length]; exact hown6); have X6 : Hid _ := H.out.text F6.out O6.out; have d6 : w6.cell? ⟨b, 0, none⟩ = some (.slice q x.L.length c) := cell_row X6.out.2 (i := 0) rfl; have f6 := frz_row X6.out.2 0; clear hown6 hg6 c0)
          go_ret2
          rw [hk.out]
          have X7 := X6.out.1
          rw [HST.out] at X7
          exact ⟨rfl, Aft.some (z := ⟨x.L ++ Lib.encodeRune n, 0, x.bg, x.hi⟩) ((F6.out.mono (fun _ hk => .inr hk)).setCell (p := ⟨b, 0, none⟩) (.inl rfl) _) X7⟩
      · rw [hbb] at hc
        have hk : Hid (takeS true p n x = .inr (20, (p : Int))) := by show takeS true p n x = _; rw [takeS, if_neg (by simpa using hst), if_pos (.inr rfl)]
        rw [hst] at c1
        clear h hok hst hpb hbb
        go_enter Tryd.func35, Tryd.ntmps35
        go_wp2_with first
          | (go_at_call 37; (with_reducible refine (hpl _).mono ?_); rintro e w5 ⟨rfl, h5⟩; subst w5)
          | (go_at_call 34; (with_reducible refine (hc _ hp).mono ?_); rintro e w5 ⟨rfl, h5⟩; subst w5)
        go_ret2
        rw [hk.out]
        exact ⟨rfl, Aft.none (Fr.refl _ w) rfl⟩
  · have bst : (x.st != 0) = true := by simpa using hst
    have he := takeEscape_c h hok hst hbase hl n (by omega) hv
    rcases hy : escS x n with _ | y
    · rw [hy] at he
      have hk : Hid (takeS (bad s p) p n x = .inr (32, x.bg)) := by show takeS (bad s p) p n x = _; rw [takeS, if_pos hst, hy]
      clear h hok hst hy
      go_enter Tryd.func35, Tryd.ntmps35
      go_wp2_with (go_at_call 47; refine Calls.mono he ?_; rintro e w6 ⟨rfl, a6⟩; have A6 : Hid (Aft base w b v none w6) := a6; have k2 : w6.cell? ⟨b, 2, none⟩ = some (.int .i64 x.bg) := (by have q := a6.2.1 rfl; have q2 := H.out.cells.2.2.1; simpa [World.cell?, q] using q2); clear a6)
      refine wp_region_ext (by kernel_rfl) (by kernel_rfl) ?_
      have lb6 : b < w6.heap.size := Nat.lt_of_lt_of_le lb A6.out.1.size
      repeat (go_big_quiet_step (first | exact rfl))
      refine wpQuiet_nil ?_
      intro w7 hw7
      have B7 : Hid (Below w6.heap.size w6 w7) := ext_of hw7
      clear hw7
      go_wp2
      go_ret2
      rw [hk.out]
      exact ⟨rfl, Aft.none (A6.out.1.then B7.out) ((B7.out.block b lb6).trans (A6.out.2.1 rfl))⟩
    · rw [hy] at he
      have hk : Hid (takeS (bad s p) p n x = .inl y) := by show takeS (bad s p) p n x = _; rw [takeS, if_pos hst, hy]
      clear h hok hst hy
      go_enter Tryd.func35, Tryd.ntmps35
      go_wp2_with (go_at_call 47; refine Calls.mono he ?_; rintro e w6 ⟨rfl, a6⟩; have A6 : Hid (Aft base w b v (some y) w6) := a6; clear a6)
      go_ret2
      rw [hk.out]
      exact ⟨rfl, A6.out⟩
end Go.Proofs.YtihmnibopeljaaaDoor
