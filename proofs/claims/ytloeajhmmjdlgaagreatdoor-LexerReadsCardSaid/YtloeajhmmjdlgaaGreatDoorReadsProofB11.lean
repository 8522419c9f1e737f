/-
  The document's tokens.
-/
import Derived.Test.YtloeajhmmjdlgaaGreatDoorReadsProofB10
import Derived.Test.YtloeajhmmjdlgaaGreatDoorC17
namespace Go.Proofs.YtloeajhmmjdlgaaGreatDoor
open Go Go.RowKit
attribute [local go_sem] ext_cell

theorem un_high (m : Md) {s : ByteArray} {p : Nat} (h : 128 ≤ bt s p) : (un m s p).1 < 0 ∨ 128 ≤ (un m s p).1 := by
  unfold un
  split
  · simp only [ch]
    split
    · exact .inl (by omega)
    · refine .inr ?_
      rw [dec_eq]
      rcases decN_cases (s.size - p) (bt s p) (bt s (p + 1)) (bt s (p + 2)) (bt s (p + 3)) with k | ⟨_, k⟩ | ⟨_, _, _, _, k⟩ | ⟨_, _, _, _, _, _, k⟩ | ⟨_, _, _, _, _, _, _, k⟩
      all_goals rw [k]
      all_goals simp only
      all_goals omega
  · exact .inr (by simp only; omega)
theorem un_char (m : Md) {s : ByteArray} {p : Nat} (h : ¬ (un m s p).1 < 0) : isChar m.c (un m s p).1 := by
  obtain ⟨mc, mf⟩ := m
  cases mc with
  | false =>
    have := bt_lt s p
    show isChar false (bt s p : Int)
    refine ⟨by omega, ?_, fun q => by cases q⟩
    show (bt s p : Int) ≤ 255
    omega
  | true =>
    have e : (un ⟨true, mf⟩ s p).1 = ch s p := rfl
    rw [e] at h ⊢
    unfold ch at h ⊢
    split at h
    · exact absurd (by omega) h
    · rename_i hb
      rw [if_neg hb]
      rw [dec_eq]
      have b0 := bt_lt s p
      show isChar true _
      unfold isChar
      rw [show top true = 1114111 from rfl]
      rcases decN_cases (s.size - p) (bt s p) (bt s (p + 1)) (bt s (p + 2)) (bt s (p + 3)) with k | ⟨_, k⟩ | ⟨_, _, _, _, k⟩ | ⟨_, _, _, _, _, _, k⟩ | ⟨_, _, _, _, _, _, _, k⟩
      all_goals rw [k]
      all_goals simp only
      all_goals omega
theorem sees_un (m : Md) {s : ByteArray} {p : Nat} (hp : p < s.size) (y : UInt8) (hy : y.toNat < 128) : sees s p [y] = decide ((un m s p).1 = (y.toNat : Int)) := by
  rw [sees_dec hp]
  by_cases h : bt s p < 128
  · rw [un_ascii m h]
    exact decide_eq_decide.2 (by simp only; omega)
  · have := un_high m (s := s) (p := p) (by omega)
    rw [decide_eq_false (by omega), decide_eq_false (by omega)]
theorem tok_un {m : Md} {s : ByteArray} {p last : Nat} {c : Int} {n : Nat} (hp : p < s.size) (hu : un m s p = (c, n)) : tok m s p last =
    if c = 92 then esc m s p last
    else if c = 42 ∧ atBeg last = false then .ok (repT 0 (-1), p + 1)
    else if c = 94 ∧ (p == 0 || last == 3 || last == 5) = true then .ok (kT 7, p + 1)
    else if c = 36 ∧ endsB s p = true then .ok (kT 8, p + 1)
    else if c = 46 then .ok (setT m [] true, p + 1)
    else if c = 91 then brk m s p
    else if c < 0 then .error (20, p) else .ok (setT m [(c, c)] false, p + n) := by
  have e : ∀ y : UInt8, y.toNat < 128 → sees s p [y] = decide (c = (y.toNat : Int)) := fun y hy => by rw [sees_un m hp y hy, hu]
  unfold tok
  rw [e 92 (by decide), e 42 (by decide), e 94 (by decide), e 36 (by decide), e 46 (by decide), e 91 (by decide)]
  simp only [Bool.and_eq_true, decide_eq_true_eq, Bool.not_eq_true']
  unfold chr
  rw [hu]
  simp only
  repeat' split
  all_goals first
    | rfl
    | (rename_i h1 h2; exact absurd h2 h1)
    | simp_all
theorem all_set (m : Md) : IsC (charsL m.c) (setQ m [] true) := (charsL_is m.c).to fun c => by
  unfold setQ foldQ
  simp only [if_true]
  constructor
  · intro h
    refine ⟨h, ?_⟩
    split
    · rintro (q | q | q)
      · exact in_nil _ q
      · exact in_nil _ q.1
      · exact in_nil _ q.1
    · exact in_nil _
  · exact fun h => h.1
section
variable {base : Nat} {w : World} {b : Nat} {s : ByteArray} {m : Md} {p : Nat} {v : Value} {D : List Dt} {last : Nat}
set_option maxRecDepth 100000 in
set_option maxHeartbeats 4000000 in
theorem rtok_neg (h : Room base w b s m p v D) (hk : LK w b v last) {c : Int} {n : Nat} (hu : un m s p = (c, n)) (hc : c < 0) :
    Calls Tryz.prog 10 #[.pointer (some ⟨b, 0, none⟩)] w (Puts base w b s m p D (.error (20, p))) := by
  have hs := h.len
  have hp := h.at_
  have c0 := h.sx.c0
  have c1 := h.sx.c1
  have c3 := h.sx.c3
  have lb := h.sx.lt
  have bs := h.size
  obtain ⟨P1, hP1⟩ : ∃ P1, P1 = p + 1 := ⟨_, rfl⟩
  have hw1 : IntKind.wrap .i64 ((p : Int) + 1) = (P1 : Int) := by rw [wrap_small _ (by omega) (by omega)]; omega
  obtain ⟨CL, hCL⟩ : ∃ CL, CL = sees s P1 [92, 41] := ⟨_, rfl⟩
  obtain ⟨OR, hOR⟩ : ∃ OR, OR = sees s P1 [92, 124] := ⟨_, rfl⟩
  obtain ⟨EN, hEN⟩ : ∃ EN, EN = decide (P1 = s.size) := ⟨_, rfl⟩
  have dEN : ((P1 : Int) == (s.size : Int)) = EN := by rw [hEN, Bool.eq_iff_iff]; simp; omega
  have CC : Hid (∀ W, SX W b s m p v 0 0 → _) := hide (ris2 hs P1 (by omega) 92 41 hCL)
  have CO : Hid (∀ W, SX W b s m p v 0 0 → _) := hide (ris2 hs P1 (by omega) 92 124 hOR)
  have hU : ∀ W, Calls Tryz.prog 15 #[.string s, .int .i64 (p : Int), .bool m.c] W fun e w' => e = .returned (.tuple #[.int .i64 c, .int .i64 ((n : Nat) : Int)]) ∧ Below W.heap.size W w' := fun W => by
    have := runit_c s p m W hp hs
    rw [hu] at this
    exact this
  have H : Hid (Room base w b s m p v D ∧ LK w b v last) := ⟨h, hk⟩
  clear h hk hP1 hCL hOR hEN hu
  go_enter Tryz.func10, Tryz.ntmps10
  go_wp2
  refine wp_region_ext (by kernel_rfl) (by kernel_rfl) ?_
  repeat (go_big_quiet_step (first | exact rfl | (go_at_call 15; exact ext_call (hU _))))
  refine wpQuiet_nil ?_
  intro w5 hw5
  have X5 : Hid (Room base w5 b s m p v D ∧ LK w5 b v last ∧ Below base w w5) := ⟨H.out.1.kept (ext_of hw5), H.out.2.kept (ext_of hw5), (ext_of hw5).mono bs⟩
  clear hw5
  go_wp2_with first
    | (go_at_call 16; (with_reducible refine (rbegin_c X5.out.1.sx X5.out.2.1).mono ?_); rintro e w6 ⟨rfl, h6⟩; have X6 : Hid (Room base w6 b s m p v D ∧ LK w6 b v last ∧ Below base w w6) := ⟨X5.out.1.kept h6, X5.out.2.1.kept h6, X5.out.2.2.trans (h6.mono X5.out.1.size)⟩; clear h6)
    | (go_at_call 17; (with_reducible refine (ropens_c X6.out.1.sx X6.out.2.1).mono ?_); rintro e w7 ⟨rfl, h6⟩; have X7 : Hid (Room base w7 b s m p v D ∧ LK w7 b v last ∧ Below base w w7) := ⟨X6.out.1.kept h6, X6.out.2.1.kept h6, X6.out.2.2.trans (h6.mono X6.out.1.size)⟩; have q0 := X7.out.1.sx.c0; have q3 := X7.out.1.sx.c3; have ql := X7.out.1.sx.lt; clear h6)
  refine wp_region_ext (by kernel_rfl) (by kernel_rfl) ?_
  repeat (go_big_quiet_step (first | exact rfl))
  refine wpQuiet_nil ?_
  intro w8 hw8
  have X8 : Hid (Room base w8 b s m p v D ∧ LK w8 b v last ∧ Below base w w8) := ⟨X7.out.1.kept (ext_of hw8), X7.out.2.1.kept (ext_of hw8), X7.out.2.2.trans ((ext_of hw8).mono X7.out.1.size)⟩
  have r3 := X8.out.1.sx.c3
  have rl := X8.out.1.sx.lt
  clear hw8
  go_wp2_with first
    | (go_at_call 18; (with_reducible refine (CC.out _ X8.out.1.sx).mono ?_); rintro e w9 ⟨rfl, h6⟩; have X9 : Hid (Room base w9 b s m p v D ∧ LK w9 b v last ∧ Below base w w9) := ⟨X8.out.1.kept h6, X8.out.2.1.kept h6, X8.out.2.2.trans (h6.mono X8.out.1.size)⟩; have s3 := X9.out.1.sx.c3; have sl := X9.out.1.sx.lt; clear h6)
    | (go_at_call 18; (with_reducible refine (CO.out _ X9.out.1.sx).mono ?_); rintro e w10 ⟨rfl, h6⟩; have X10 : Hid (Room base w10 b s m p v D ∧ LK w10 b v last ∧ Below base w w10) := ⟨X9.out.1.kept h6, X9.out.2.1.kept h6, X9.out.2.2.trans (h6.mono X9.out.1.size)⟩; have t3 := X10.out.1.sx.c3; have t1 := X10.out.1.sx.c1; have tl := X10.out.1.sx.lt; clear h6)
    | (go_at_call 19; refine (X10.out.1.no 20 p).mono ?_; rintro e w11 ⟨rfl, h9, g9⟩; have X11 : Hid (SX w11 b s m p v 20 p ∧ Below base w w11) := ⟨h9, X10.out.2.2.trans g9⟩; clear h9 g9)
  go_end0
  exact ⟨rfl, X11.out.2, v, X11.out.1⟩
set_option maxRecDepth 100000 in
set_option maxHeartbeats 4000000 in
theorem rtok_esc (h : Room base w b s m p v D) (hk : LK w b v last) {n : Nat} (hu : un m s p = (92, n)) :
    Calls Tryz.prog 10 #[.pointer (some ⟨b, 0, none⟩)] w (Puts base w b s m p D (esc m s p last)) := by
  have hs := h.len
  have hp := h.at_
  have c0 := h.sx.c0
  have c1 := h.sx.c1
  have c3 := h.sx.c3
  have lb := h.sx.lt
  have bs := h.size
  obtain ⟨P1, hP1⟩ : ∃ P1, P1 = p + 1 := ⟨_, rfl⟩
  have hw1 : IntKind.wrap .i64 ((p : Int) + 1) = (P1 : Int) := by rw [wrap_small _ (by omega) (by omega)]; omega
  obtain ⟨CL, hCL⟩ : ∃ CL, CL = sees s P1 [92, 41] := ⟨_, rfl⟩
  obtain ⟨OR, hOR⟩ : ∃ OR, OR = sees s P1 [92, 124] := ⟨_, rfl⟩
  obtain ⟨EN, hEN⟩ : ∃ EN, EN = decide (P1 = s.size) := ⟨_, rfl⟩
  have dEN : ((P1 : Int) == (s.size : Int)) = EN := by rw [hEN, Bool.eq_iff_iff]; simp; omega
  have CC : Hid (∀ W, SX W b s m p v 0 0 → _) := hide (ris2 hs P1 (by omega) 92 41 hCL)
  have CO : Hid (∀ W, SX W b s m p v 0 0 → _) := hide (ris2 hs P1 (by omega) 92 124 hOR)
  have hU : ∀ W, Calls Tryz.prog 15 #[.string s, .int .i64 (p : Int), .bool m.c] W fun e w' => e = .returned (.tuple #[.int .i64 92, .int .i64 ((n : Nat) : Int)]) ∧ Below W.heap.size W w' := fun W => by
    have := runit_c s p m W hp hs
    rw [hu] at this
    exact this
  have H : Hid (Room base w b s m p v D ∧ LK w b v last) := ⟨h, hk⟩
  clear h hk hP1 hCL hOR hEN hu
  go_enter Tryz.func10, Tryz.ntmps10
  go_wp2
  refine wp_region_ext (by kernel_rfl) (by kernel_rfl) ?_
  repeat (go_big_quiet_step (first | exact rfl | (go_at_call 15; exact ext_call (hU _))))
  refine wpQuiet_nil ?_
  intro w5 hw5
  have X5 : Hid (Room base w5 b s m p v D ∧ LK w5 b v last ∧ Below base w w5) := ⟨H.out.1.kept (ext_of hw5), H.out.2.kept (ext_of hw5), (ext_of hw5).mono bs⟩
  clear hw5
  go_wp2_with first
    | (go_at_call 16; (with_reducible refine (rbegin_c X5.out.1.sx X5.out.2.1).mono ?_); rintro e w6 ⟨rfl, h6⟩; have X6 : Hid (Room base w6 b s m p v D ∧ LK w6 b v last ∧ Below base w w6) := ⟨X5.out.1.kept h6, X5.out.2.1.kept h6, X5.out.2.2.trans (h6.mono X5.out.1.size)⟩; clear h6)
    | (go_at_call 17; (with_reducible refine (ropens_c X6.out.1.sx X6.out.2.1).mono ?_); rintro e w7 ⟨rfl, h6⟩; have X7 : Hid (Room base w7 b s m p v D ∧ LK w7 b v last ∧ Below base w w7) := ⟨X6.out.1.kept h6, X6.out.2.1.kept h6, X6.out.2.2.trans (h6.mono X6.out.1.size)⟩; have q0 := X7.out.1.sx.c0; have q3 := X7.out.1.sx.c3; have ql := X7.out.1.sx.lt; clear h6)
  refine wp_region_ext (by kernel_rfl) (by kernel_rfl) ?_
  repeat (go_big_quiet_step (first | exact rfl))
  refine wpQuiet_nil ?_
  intro w8 hw8
  have X8 : Hid (Room base w8 b s m p v D ∧ LK w8 b v last ∧ Below base w w8) := ⟨X7.out.1.kept (ext_of hw8), X7.out.2.1.kept (ext_of hw8), X7.out.2.2.trans ((ext_of hw8).mono X7.out.1.size)⟩
  have r3 := X8.out.1.sx.c3
  have rl := X8.out.1.sx.lt
  clear hw8
  go_wp2_with first
    | (go_at_call 18; (with_reducible refine (CC.out _ X8.out.1.sx).mono ?_); rintro e w9 ⟨rfl, h6⟩; have X9 : Hid (Room base w9 b s m p v D ∧ LK w9 b v last ∧ Below base w w9) := ⟨X8.out.1.kept h6, X8.out.2.1.kept h6, X8.out.2.2.trans (h6.mono X8.out.1.size)⟩; have s3 := X9.out.1.sx.c3; have sl := X9.out.1.sx.lt; clear h6)
    | (go_at_call 18; (with_reducible refine (CO.out _ X9.out.1.sx).mono ?_); rintro e w10 ⟨rfl, h6⟩; have X10 : Hid (Room base w10 b s m p v D ∧ LK w10 b v last ∧ Below base w w10) := ⟨X9.out.1.kept h6, X9.out.2.1.kept h6, X9.out.2.2.trans (h6.mono X9.out.1.size)⟩; have t3 := X10.out.1.sx.c3; have t1 := X10.out.1.sx.c1; have tl := X10.out.1.sx.lt; clear h6)
    | (go_at_call 20; (with_reducible refine (rescape_c X10.out.1 X10.out.2.1).mono ?_); rintro e w11 h9; have hz := h9.1; subst hz; have X11 : Hid (Puts base w b s m p D (esc m s p last) (.returned (.tuple #[])) w11) := h9.from X10.out.2.2; clear h9)
  go_end0
  exact X11.out
set_option maxRecDepth 100000 in
set_option maxHeartbeats 4000000 in
theorem rtok_all (h : Room base w b s m p v D) (hk : LK w b v last) {n : Nat} (hu : un m s p = (46, n)) :
    Calls Tryz.prog 10 #[.pointer (some ⟨b, 0, none⟩)] w (Puts base w b s m p D (.ok (setT m [] true, p + 1))) := by
  have hs := h.len
  have hp := h.at_
  have c0 := h.sx.c0
  have c1 := h.sx.c1
  have c3 := h.sx.c3
  have lb := h.sx.lt
  have bs := h.size
  obtain ⟨P1, hP1⟩ : ∃ P1, P1 = p + 1 := ⟨_, rfl⟩
  have hw1 : IntKind.wrap .i64 ((p : Int) + 1) = (P1 : Int) := by rw [wrap_small _ (by omega) (by omega)]; omega
  obtain ⟨CL, hCL⟩ : ∃ CL, CL = sees s P1 [92, 41] := ⟨_, rfl⟩
  obtain ⟨OR, hOR⟩ : ∃ OR, OR = sees s P1 [92, 124] := ⟨_, rfl⟩
  obtain ⟨EN, hEN⟩ : ∃ EN, EN = decide (P1 = s.size) := ⟨_, rfl⟩
  have dEN : ((P1 : Int) == (s.size : Int)) = EN := by rw [hEN, Bool.eq_iff_iff]; simp; omega
  have CC : Hid (∀ W, SX W b s m p v 0 0 → _) := hide (ris2 hs P1 (by omega) 92 41 hCL)
  have CO : Hid (∀ W, SX W b s m p v 0 0 → _) := hide (ris2 hs P1 (by omega) 92 124 hOR)
  have hU : ∀ W, Calls Tryz.prog 15 #[.string s, .int .i64 (p : Int), .bool m.c] W fun e w' => e = .returned (.tuple #[.int .i64 46, .int .i64 ((n : Nat) : Int)]) ∧ Below W.heap.size W w' := fun W => by
    have := runit_c s p m W hp hs
    rw [hu] at this
    exact this
  have H : Hid (Room base w b s m p v D ∧ LK w b v last) := ⟨h, hk⟩
  clear h hk hP1 hCL hOR hEN hu
  go_enter Tryz.func10, Tryz.ntmps10
  go_wp2
  refine wp_region_ext (by kernel_rfl) (by kernel_rfl) ?_
  repeat (go_big_quiet_step (first | exact rfl | (go_at_call 15; exact ext_call (hU _))))
  refine wpQuiet_nil ?_
  intro w5 hw5
  have X5 : Hid (Room base w5 b s m p v D ∧ LK w5 b v last ∧ Below base w w5) := ⟨H.out.1.kept (ext_of hw5), H.out.2.kept (ext_of hw5), (ext_of hw5).mono bs⟩
  clear hw5
  go_wp2_with first
    | (go_at_call 16; (with_reducible refine (rbegin_c X5.out.1.sx X5.out.2.1).mono ?_); rintro e w6 ⟨rfl, h6⟩; have X6 : Hid (Room base w6 b s m p v D ∧ LK w6 b v last ∧ Below base w w6) := ⟨X5.out.1.kept h6, X5.out.2.1.kept h6, X5.out.2.2.trans (h6.mono X5.out.1.size)⟩; clear h6)
    | (go_at_call 17; (with_reducible refine (ropens_c X6.out.1.sx X6.out.2.1).mono ?_); rintro e w7 ⟨rfl, h6⟩; have X7 : Hid (Room base w7 b s m p v D ∧ LK w7 b v last ∧ Below base w w7) := ⟨X6.out.1.kept h6, X6.out.2.1.kept h6, X6.out.2.2.trans (h6.mono X6.out.1.size)⟩; have q0 := X7.out.1.sx.c0; have q3 := X7.out.1.sx.c3; have ql := X7.out.1.sx.lt; clear h6)
  refine wp_region_ext (by kernel_rfl) (by kernel_rfl) ?_
  repeat (go_big_quiet_step (first | exact rfl))
  refine wpQuiet_nil ?_
  intro w8 hw8
  have X8 : Hid (Room base w8 b s m p v D ∧ LK w8 b v last ∧ Below base w w8) := ⟨X7.out.1.kept (ext_of hw8), X7.out.2.1.kept (ext_of hw8), X7.out.2.2.trans ((ext_of hw8).mono X7.out.1.size)⟩
  have r3 := X8.out.1.sx.c3
  have rl := X8.out.1.sx.lt
  clear hw8
  go_wp2_with first
    | (go_at_call 18; (with_reducible refine (CC.out _ X8.out.1.sx).mono ?_); rintro e w9 ⟨rfl, h6⟩; have X9 : Hid (Room base w9 b s m p v D ∧ LK w9 b v last ∧ Below base w w9) := ⟨X8.out.1.kept h6, X8.out.2.1.kept h6, X8.out.2.2.trans (h6.mono X8.out.1.size)⟩; have s3 := X9.out.1.sx.c3; have sl := X9.out.1.sx.lt; clear h6)
    | (go_at_call 18; (with_reducible refine (CO.out _ X9.out.1.sx).mono ?_); rintro e w10 ⟨rfl, h6⟩; have X10 : Hid (Room base w10 b s m p v D ∧ LK w10 b v last ∧ Below base w w10) := ⟨X9.out.1.kept h6, X9.out.2.1.kept h6, X9.out.2.2.trans (h6.mono X9.out.1.size)⟩; have t3 := X10.out.1.sx.c3; have t1 := X10.out.1.sx.c1; have tl := X10.out.1.sx.lt; clear h6)
    | (go_at_call 23; (with_reducible refine (rall_c m.c _).mono ?_); rintro e w12 ⟨v12, rfl, h1, h4⟩; obtain ⟨q12, k12, rfl⟩ := h1.shape; have X12 : Hid (Room base w12 b s m p v D ∧ Below base w w12 ∧ RR w10.heap.size w12 (.slice q12 (charsL m.c).length k12) (charsL m.c)) := ⟨X10.out.1.kept h4, X10.out.2.2.trans (h4.mono X10.out.1.size), h1⟩; clear h1 h4)
    | (go_at_call 22; refine (X12.out.1.put (t := setT m [] true) (rv := .slice q12 (charsL m.c).length k12) (C := charsL m.c) (RR.mono X12.out.2.2 X10.out.1.size) (all_set m) (X10.out.1.new X12.out.2.2) (n := 1) (q := p + 1) rfl (by omega)).mono ?_; rintro e w11 h9; have hz := h9.1; subst hz; have X11 : Hid (Puts base w b s m p D (.ok (setT m [] true, p + 1)) (.returned (.tuple #[])) w11) := h9.from X12.out.2.1; clear h9)
  go_end0
  exact X11.out
set_option maxRecDepth 100000 in
set_option maxHeartbeats 4000000 in
theorem rtok_star (h : Room base w b s m p v D) (hk : LK w b v last) {n : Nat} (hu : un m s p = (42, n)) (hbg : atBeg last = false) :
    Calls Tryz.prog 10 #[.pointer (some ⟨b, 0, none⟩)] w (Puts base w b s m p D (.ok (repT 0 (-1), p + 1))) := by
  have hs := h.len
  have hp := h.at_
  have c0 := h.sx.c0
  have c1 := h.sx.c1
  have c3 := h.sx.c3
  have lb := h.sx.lt
  have bs := h.size
  obtain ⟨P1, hP1⟩ : ∃ P1, P1 = p + 1 := ⟨_, rfl⟩
  have hw1 : IntKind.wrap .i64 ((p : Int) + 1) = (P1 : Int) := by rw [wrap_small _ (by omega) (by omega)]; omega
  obtain ⟨CL, hCL⟩ : ∃ CL, CL = sees s P1 [92, 41] := ⟨_, rfl⟩
  obtain ⟨OR, hOR⟩ : ∃ OR, OR = sees s P1 [92, 124] := ⟨_, rfl⟩
  obtain ⟨EN, hEN⟩ : ∃ EN, EN = decide (P1 = s.size) := ⟨_, rfl⟩
  have dEN : ((P1 : Int) == (s.size : Int)) = EN := by rw [hEN, Bool.eq_iff_iff]; simp; omega
  have CC : Hid (∀ W, SX W b s m p v 0 0 → _) := hide (ris2 hs P1 (by omega) 92 41 hCL)
  have CO : Hid (∀ W, SX W b s m p v 0 0 → _) := hide (ris2 hs P1 (by omega) 92 124 hOR)
  have hU : ∀ W, Calls Tryz.prog 15 #[.string s, .int .i64 (p : Int), .bool m.c] W fun e w' => e = .returned (.tuple #[.int .i64 42, .int .i64 ((n : Nat) : Int)]) ∧ Below W.heap.size W w' := fun W => by
    have := runit_c s p m W hp hs
    rw [hu] at this
    exact this
  have H : Hid (Room base w b s m p v D ∧ LK w b v last) := ⟨h, hk⟩
  clear h hk hP1 hCL hOR hEN hu
  go_enter Tryz.func10, Tryz.ntmps10
  go_wp2
  refine wp_region_ext (by kernel_rfl) (by kernel_rfl) ?_
  repeat (go_big_quiet_step (first | exact rfl | (go_at_call 15; exact ext_call (hU _))))
  refine wpQuiet_nil ?_
  intro w5 hw5
  have X5 : Hid (Room base w5 b s m p v D ∧ LK w5 b v last ∧ Below base w w5) := ⟨H.out.1.kept (ext_of hw5), H.out.2.kept (ext_of hw5), (ext_of hw5).mono bs⟩
  clear hw5
  go_wp2_with first
    | (go_at_call 16; (with_reducible refine (rbegin_c X5.out.1.sx X5.out.2.1).mono ?_); rintro e w6 ⟨rfl, h6⟩; have X6 : Hid (Room base w6 b s m p v D ∧ LK w6 b v last ∧ Below base w w6) := ⟨X5.out.1.kept h6, X5.out.2.1.kept h6, X5.out.2.2.trans (h6.mono X5.out.1.size)⟩; clear h6)
    | (go_at_call 17; (with_reducible refine (ropens_c X6.out.1.sx X6.out.2.1).mono ?_); rintro e w7 ⟨rfl, h6⟩; have X7 : Hid (Room base w7 b s m p v D ∧ LK w7 b v last ∧ Below base w w7) := ⟨X6.out.1.kept h6, X6.out.2.1.kept h6, X6.out.2.2.trans (h6.mono X6.out.1.size)⟩; have q0 := X7.out.1.sx.c0; have q3 := X7.out.1.sx.c3; have ql := X7.out.1.sx.lt; clear h6)
  refine wp_region_ext (by kernel_rfl) (by kernel_rfl) ?_
  repeat (go_big_quiet_step (first | exact rfl))
  refine wpQuiet_nil ?_
  intro w8 hw8
  have X8 : Hid (Room base w8 b s m p v D ∧ LK w8 b v last ∧ Below base w w8) := ⟨X7.out.1.kept (ext_of hw8), X7.out.2.1.kept (ext_of hw8), X7.out.2.2.trans ((ext_of hw8).mono X7.out.1.size)⟩
  have r3 := X8.out.1.sx.c3
  have rl := X8.out.1.sx.lt
  clear hw8
  go_wp2_with first
    | (go_at_call 18; (with_reducible refine (CC.out _ X8.out.1.sx).mono ?_); rintro e w9 ⟨rfl, h6⟩; have X9 : Hid (Room base w9 b s m p v D ∧ LK w9 b v last ∧ Below base w w9) := ⟨X8.out.1.kept h6, X8.out.2.1.kept h6, X8.out.2.2.trans (h6.mono X8.out.1.size)⟩; have s3 := X9.out.1.sx.c3; have sl := X9.out.1.sx.lt; clear h6)
    | (go_at_call 18; (with_reducible refine (CO.out _ X9.out.1.sx).mono ?_); rintro e w10 ⟨rfl, h6⟩; have X10 : Hid (Room base w10 b s m p v D ∧ LK w10 b v last ∧ Below base w w10) := ⟨X9.out.1.kept h6, X9.out.2.1.kept h6, X9.out.2.2.trans (h6.mono X9.out.1.size)⟩; have t3 := X10.out.1.sx.c3; have t1 := X10.out.1.sx.c1; have tl := X10.out.1.sx.lt; clear h6)
    | (go_at_call 22; refine (X10.out.1.put0 (t := repT 0 (-1)) rfl (n := 1) (q := p + 1) rfl (by omega)).mono ?_; rintro e w11 h9; have hz := h9.1; subst hz; have X11 : Hid (Puts base w b s m p D (.ok (repT 0 (-1), p + 1)) (.returned (.tuple #[])) w11) := h9.from X10.out.2.2; clear h9)
  go_end0
  exact X11.out
set_option maxRecDepth 100000 in
set_option maxHeartbeats 4000000 in
theorem rtok_beg (h : Room base w b s m p v D) (hk : LK w b v last) {n : Nat} (hu : un m s p = (94, n)) (hop : opn last = true) :
    Calls Tryz.prog 10 #[.pointer (some ⟨b, 0, none⟩)] w (Puts base w b s m p D (.ok (kT 7, p + 1))) := by
  have hs := h.len
  have hp := h.at_
  have c0 := h.sx.c0
  have c1 := h.sx.c1
  have c3 := h.sx.c3
  have lb := h.sx.lt
  have bs := h.size
  obtain ⟨P1, hP1⟩ : ∃ P1, P1 = p + 1 := ⟨_, rfl⟩
  have hw1 : IntKind.wrap .i64 ((p : Int) + 1) = (P1 : Int) := by rw [wrap_small _ (by omega) (by omega)]; omega
  obtain ⟨CL, hCL⟩ : ∃ CL, CL = sees s P1 [92, 41] := ⟨_, rfl⟩
  obtain ⟨OR, hOR⟩ : ∃ OR, OR = sees s P1 [92, 124] := ⟨_, rfl⟩
  obtain ⟨EN, hEN⟩ : ∃ EN, EN = decide (P1 = s.size) := ⟨_, rfl⟩
  have dEN : ((P1 : Int) == (s.size : Int)) = EN := by rw [hEN, Bool.eq_iff_iff]; simp; omega
  have CC : Hid (∀ W, SX W b s m p v 0 0 → _) := hide (ris2 hs P1 (by omega) 92 41 hCL)
  have CO : Hid (∀ W, SX W b s m p v 0 0 → _) := hide (ris2 hs P1 (by omega) 92 124 hOR)
  have hU : ∀ W, Calls Tryz.prog 15 #[.string s, .int .i64 (p : Int), .bool m.c] W fun e w' => e = .returned (.tuple #[.int .i64 94, .int .i64 ((n : Nat) : Int)]) ∧ Below W.heap.size W w' := fun W => by
    have := runit_c s p m W hp hs
    rw [hu] at this
    exact this
  have H : Hid (Room base w b s m p v D ∧ LK w b v last) := ⟨h, hk⟩
  clear h hk hP1 hCL hOR hEN hu
  go_enter Tryz.func10, Tryz.ntmps10
  go_wp2
  refine wp_region_ext (by kernel_rfl) (by kernel_rfl) ?_
  repeat (go_big_quiet_step (first | exact rfl | (go_at_call 15; exact ext_call (hU _))))
  refine wpQuiet_nil ?_
  intro w5 hw5
  have X5 : Hid (Room base w5 b s m p v D ∧ LK w5 b v last ∧ Below base w w5) := ⟨H.out.1.kept (ext_of hw5), H.out.2.kept (ext_of hw5), (ext_of hw5).mono bs⟩
  clear hw5
  go_wp2_with first
    | (go_at_call 16; (with_reducible refine (rbegin_c X5.out.1.sx X5.out.2.1).mono ?_); rintro e w6 ⟨rfl, h6⟩; have X6 : Hid (Room base w6 b s m p v D ∧ LK w6 b v last ∧ Below base w w6) := ⟨X5.out.1.kept h6, X5.out.2.1.kept h6, X5.out.2.2.trans (h6.mono X5.out.1.size)⟩; clear h6)
    | (go_at_call 17; (with_reducible refine (ropens_c X6.out.1.sx X6.out.2.1).mono ?_); rintro e w7 ⟨rfl, h6⟩; have X7 : Hid (Room base w7 b s m p v D ∧ LK w7 b v last ∧ Below base w w7) := ⟨X6.out.1.kept h6, X6.out.2.1.kept h6, X6.out.2.2.trans (h6.mono X6.out.1.size)⟩; have q0 := X7.out.1.sx.c0; have q3 := X7.out.1.sx.c3; have ql := X7.out.1.sx.lt; clear h6)
  refine wp_region_ext (by kernel_rfl) (by kernel_rfl) ?_
  repeat (go_big_quiet_step (first | exact rfl))
  refine wpQuiet_nil ?_
  intro w8 hw8
  have X8 : Hid (Room base w8 b s m p v D ∧ LK w8 b v last ∧ Below base w w8) := ⟨X7.out.1.kept (ext_of hw8), X7.out.2.1.kept (ext_of hw8), X7.out.2.2.trans ((ext_of hw8).mono X7.out.1.size)⟩
  have r3 := X8.out.1.sx.c3
  have rl := X8.out.1.sx.lt
  clear hw8
  go_wp2_with first
    | (go_at_call 18; (with_reducible refine (CC.out _ X8.out.1.sx).mono ?_); rintro e w9 ⟨rfl, h6⟩; have X9 : Hid (Room base w9 b s m p v D ∧ LK w9 b v last ∧ Below base w w9) := ⟨X8.out.1.kept h6, X8.out.2.1.kept h6, X8.out.2.2.trans (h6.mono X8.out.1.size)⟩; have s3 := X9.out.1.sx.c3; have sl := X9.out.1.sx.lt; clear h6)
    | (go_at_call 18; (with_reducible refine (CO.out _ X9.out.1.sx).mono ?_); rintro e w10 ⟨rfl, h6⟩; have X10 : Hid (Room base w10 b s m p v D ∧ LK w10 b v last ∧ Below base w w10) := ⟨X9.out.1.kept h6, X9.out.2.1.kept h6, X9.out.2.2.trans (h6.mono X9.out.1.size)⟩; have t3 := X10.out.1.sx.c3; have t1 := X10.out.1.sx.c1; have tl := X10.out.1.sx.lt; clear h6)
    | (go_at_call 22; refine (X10.out.1.put0 (t := kT 7) rfl (n := 1) (q := p + 1) rfl (by omega)).mono ?_; rintro e w11 h9; have hz := h9.1; subst hz; have X11 : Hid (Puts base w b s m p D (.ok (kT 7, p + 1)) (.returned (.tuple #[])) w11) := h9.from X10.out.2.2; clear h9)
  go_end0
  exact X11.out
set_option maxRecDepth 100000 in
set_option maxHeartbeats 4000000 in
theorem rtok_end1 (h : Room base w b s m p v D) (hk : LK w b v last) {n : Nat} (hu : un m s p = (36, n)) (he : p + 1 = s.size) :
    Calls Tryz.prog 10 #[.pointer (some ⟨b, 0, none⟩)] w (Puts base w b s m p D (.ok (kT 8, p + 1))) := by
  have hs := h.len
  have hp := h.at_
  have c0 := h.sx.c0
  have c1 := h.sx.c1
  have c3 := h.sx.c3
  have lb := h.sx.lt
  have bs := h.size
  obtain ⟨P1, hP1⟩ : ∃ P1, P1 = p + 1 := ⟨_, rfl⟩
  have hw1 : IntKind.wrap .i64 ((p : Int) + 1) = (P1 : Int) := by rw [wrap_small _ (by omega) (by omega)]; omega
  obtain ⟨CL, hCL⟩ : ∃ CL, CL = sees s P1 [92, 41] := ⟨_, rfl⟩
  obtain ⟨OR, hOR⟩ : ∃ OR, OR = sees s P1 [92, 124] := ⟨_, rfl⟩
  obtain ⟨EN, hEN⟩ : ∃ EN, EN = decide (P1 = s.size) := ⟨_, rfl⟩
  have dEN : ((P1 : Int) == (s.size : Int)) = EN := by rw [hEN, Bool.eq_iff_iff]; simp; omega
  have CC : Hid (∀ W, SX W b s m p v 0 0 → _) := hide (ris2 hs P1 (by omega) 92 41 hCL)
  have CO : Hid (∀ W, SX W b s m p v 0 0 → _) := hide (ris2 hs P1 (by omega) 92 124 hOR)
  have hU : ∀ W, Calls Tryz.prog 15 #[.string s, .int .i64 (p : Int), .bool m.c] W fun e w' => e = .returned (.tuple #[.int .i64 36, .int .i64 ((n : Nat) : Int)]) ∧ Below W.heap.size W w' := fun W => by
    have := runit_c s p m W hp hs
    rw [hu] at this
    exact this
  have kE : EN = true := by rw [hEN, decide_eq_true_eq]; omega
  subst kE
  have H : Hid (Room base w b s m p v D ∧ LK w b v last) := ⟨h, hk⟩
  clear h hk hP1 hCL hOR hEN hu
  go_enter Tryz.func10, Tryz.ntmps10
  go_wp2
  refine wp_region_ext (by kernel_rfl) (by kernel_rfl) ?_
  repeat (go_big_quiet_step (first | exact rfl | (go_at_call 15; exact ext_call (hU _))))
  refine wpQuiet_nil ?_
  intro w5 hw5
  have X5 : Hid (Room base w5 b s m p v D ∧ LK w5 b v last ∧ Below base w w5) := ⟨H.out.1.kept (ext_of hw5), H.out.2.kept (ext_of hw5), (ext_of hw5).mono bs⟩
  clear hw5
  go_wp2_with first
    | (go_at_call 16; (with_reducible refine (rbegin_c X5.out.1.sx X5.out.2.1).mono ?_); rintro e w6 ⟨rfl, h6⟩; have X6 : Hid (Room base w6 b s m p v D ∧ LK w6 b v last ∧ Below base w w6) := ⟨X5.out.1.kept h6, X5.out.2.1.kept h6, X5.out.2.2.trans (h6.mono X5.out.1.size)⟩; clear h6)
    | (go_at_call 17; (with_reducible refine (ropens_c X6.out.1.sx X6.out.2.1).mono ?_); rintro e w7 ⟨rfl, h6⟩; have X7 : Hid (Room base w7 b s m p v D ∧ LK w7 b v last ∧ Below base w w7) := ⟨X6.out.1.kept h6, X6.out.2.1.kept h6, X6.out.2.2.trans (h6.mono X6.out.1.size)⟩; have q0 := X7.out.1.sx.c0; have q3 := X7.out.1.sx.c3; have ql := X7.out.1.sx.lt; clear h6)
  refine wp_region_ext (by kernel_rfl) (by kernel_rfl) ?_
  repeat (go_big_quiet_step (first | exact rfl))
  refine wpQuiet_nil ?_
  intro w8 hw8
  have X8 : Hid (Room base w8 b s m p v D ∧ LK w8 b v last ∧ Below base w w8) := ⟨X7.out.1.kept (ext_of hw8), X7.out.2.1.kept (ext_of hw8), X7.out.2.2.trans ((ext_of hw8).mono X7.out.1.size)⟩
  have r3 := X8.out.1.sx.c3
  have rl := X8.out.1.sx.lt
  clear hw8
  go_wp2_with first
    | (go_at_call 18; (with_reducible refine (CC.out _ X8.out.1.sx).mono ?_); rintro e w9 ⟨rfl, h6⟩; have X9 : Hid (Room base w9 b s m p v D ∧ LK w9 b v last ∧ Below base w w9) := ⟨X8.out.1.kept h6, X8.out.2.1.kept h6, X8.out.2.2.trans (h6.mono X8.out.1.size)⟩; have s3 := X9.out.1.sx.c3; have sl := X9.out.1.sx.lt; clear h6)
    | (go_at_call 18; (with_reducible refine (CO.out _ X9.out.1.sx).mono ?_); rintro e w10 ⟨rfl, h6⟩; have X10 : Hid (Room base w10 b s m p v D ∧ LK w10 b v last ∧ Below base w w10) := ⟨X9.out.1.kept h6, X9.out.2.1.kept h6, X9.out.2.2.trans (h6.mono X9.out.1.size)⟩; have t3 := X10.out.1.sx.c3; have t1 := X10.out.1.sx.c1; have tl := X10.out.1.sx.lt; clear h6)
    | (go_at_call 22; refine (X10.out.1.put0 (t := kT 8) rfl (n := 1) (q := p + 1) rfl (by omega)).mono ?_; rintro e w11 h9; have hz := h9.1; subst hz; have X11 : Hid (Puts base w b s m p D (.ok (kT 8, p + 1)) (.returned (.tuple #[])) w11) := h9.from X10.out.2.2; clear h9)
  go_end0
  exact X11.out
set_option maxRecDepth 100000 in
set_option maxHeartbeats 4000000 in
theorem rtok_end2 (h : Room base w b s m p v D) (hk : LK w b v last) {n : Nat} (hu : un m s p = (36, n)) (he : ¬ p + 1 = s.size) (hc : sees s (p + 1) [92, 41] = true) :
    Calls Tryz.prog 10 #[.pointer (some ⟨b, 0, none⟩)] w (Puts base w b s m p D (.ok (kT 8, p + 1))) := by
  have hs := h.len
  have hp := h.at_
  have c0 := h.sx.c0
  have c1 := h.sx.c1
  have c3 := h.sx.c3
  have lb := h.sx.lt
  have bs := h.size
  obtain ⟨P1, hP1⟩ : ∃ P1, P1 = p + 1 := ⟨_, rfl⟩
  have hw1 : IntKind.wrap .i64 ((p : Int) + 1) = (P1 : Int) := by rw [wrap_small _ (by omega) (by omega)]; omega
  obtain ⟨CL, hCL⟩ : ∃ CL, CL = sees s P1 [92, 41] := ⟨_, rfl⟩
  obtain ⟨OR, hOR⟩ : ∃ OR, OR = sees s P1 [92, 124] := ⟨_, rfl⟩
  obtain ⟨EN, hEN⟩ : ∃ EN, EN = decide (P1 = s.size) := ⟨_, rfl⟩
  have dEN : ((P1 : Int) == (s.size : Int)) = EN := by rw [hEN, Bool.eq_iff_iff]; simp; omega
  have CC : Hid (∀ W, SX W b s m p v 0 0 → _) := hide (ris2 hs P1 (by omega) 92 41 hCL)
  have CO : Hid (∀ W, SX W b s m p v 0 0 → _) := hide (ris2 hs P1 (by omega) 92 124 hOR)
  have hU : ∀ W, Calls Tryz.prog 15 #[.string s, .int .i64 (p : Int), .bool m.c] W fun e w' => e = .returned (.tuple #[.int .i64 36, .int .i64 ((n : Nat) : Int)]) ∧ Below W.heap.size W w' := fun W => by
    have := runit_c s p m W hp hs
    rw [hu] at this
    exact this
  have kE : EN = false := by rw [hEN, decide_eq_false_iff_not]; omega
  subst kE
  have kC : CL = true := by rw [hCL, hP1]; exact hc
  subst kC
  have H : Hid (Room base w b s m p v D ∧ LK w b v last) := ⟨h, hk⟩
  clear h hk hP1 hCL hOR hEN hu
  go_enter Tryz.func10, Tryz.ntmps10
  go_wp2
  refine wp_region_ext (by kernel_rfl) (by kernel_rfl) ?_
  repeat (go_big_quiet_step (first | exact rfl | (go_at_call 15; exact ext_call (hU _))))
  refine wpQuiet_nil ?_
  intro w5 hw5
  have X5 : Hid (Room base w5 b s m p v D ∧ LK w5 b v last ∧ Below base w w5) := ⟨H.out.1.kept (ext_of hw5), H.out.2.kept (ext_of hw5), (ext_of hw5).mono bs⟩
  clear hw5
  go_wp2_with first
    | (go_at_call 16; (with_reducible refine (rbegin_c X5.out.1.sx X5.out.2.1).mono ?_); rintro e w6 ⟨rfl, h6⟩; have X6 : Hid (Room base w6 b s m p v D ∧ LK w6 b v last ∧ Below base w w6) := ⟨X5.out.1.kept h6, X5.out.2.1.kept h6, X5.out.2.2.trans (h6.mono X5.out.1.size)⟩; clear h6)
    | (go_at_call 17; (with_reducible refine (ropens_c X6.out.1.sx X6.out.2.1).mono ?_); rintro e w7 ⟨rfl, h6⟩; have X7 : Hid (Room base w7 b s m p v D ∧ LK w7 b v last ∧ Below base w w7) := ⟨X6.out.1.kept h6, X6.out.2.1.kept h6, X6.out.2.2.trans (h6.mono X6.out.1.size)⟩; have q0 := X7.out.1.sx.c0; have q3 := X7.out.1.sx.c3; have ql := X7.out.1.sx.lt; clear h6)
  refine wp_region_ext (by kernel_rfl) (by kernel_rfl) ?_
  repeat (go_big_quiet_step (first | exact rfl))
  refine wpQuiet_nil ?_
  intro w8 hw8
  have X8 : Hid (Room base w8 b s m p v D ∧ LK w8 b v last ∧ Below base w w8) := ⟨X7.out.1.kept (ext_of hw8), X7.out.2.1.kept (ext_of hw8), X7.out.2.2.trans ((ext_of hw8).mono X7.out.1.size)⟩
  have r3 := X8.out.1.sx.c3
  have rl := X8.out.1.sx.lt
  clear hw8
  go_wp2_with first
    | (go_at_call 18; (with_reducible refine (CC.out _ X8.out.1.sx).mono ?_); rintro e w9 ⟨rfl, h6⟩; have X9 : Hid (Room base w9 b s m p v D ∧ LK w9 b v last ∧ Below base w w9) := ⟨X8.out.1.kept h6, X8.out.2.1.kept h6, X8.out.2.2.trans (h6.mono X8.out.1.size)⟩; have s3 := X9.out.1.sx.c3; have sl := X9.out.1.sx.lt; clear h6)
    | (go_at_call 18; (with_reducible refine (CO.out _ X9.out.1.sx).mono ?_); rintro e w10 ⟨rfl, h6⟩; have X10 : Hid (Room base w10 b s m p v D ∧ LK w10 b v last ∧ Below base w w10) := ⟨X9.out.1.kept h6, X9.out.2.1.kept h6, X9.out.2.2.trans (h6.mono X9.out.1.size)⟩; have t3 := X10.out.1.sx.c3; have t1 := X10.out.1.sx.c1; have tl := X10.out.1.sx.lt; clear h6)
    | (go_at_call 22; refine (X10.out.1.put0 (t := kT 8) rfl (n := 1) (q := p + 1) rfl (by omega)).mono ?_; rintro e w11 h9; have hz := h9.1; subst hz; have X11 : Hid (Puts base w b s m p D (.ok (kT 8, p + 1)) (.returned (.tuple #[])) w11) := h9.from X10.out.2.2; clear h9)
  go_end0
  exact X11.out
set_option maxRecDepth 100000 in
set_option maxHeartbeats 4000000 in
theorem rtok_end3 (h : Room base w b s m p v D) (hk : LK w b v last) {n : Nat} (hu : un m s p = (36, n)) (he : ¬ p + 1 = s.size) (hc : sees s (p + 1) [92, 41] = false) (ho : sees s (p + 1) [92, 124] = true) :
    Calls Tryz.prog 10 #[.pointer (some ⟨b, 0, none⟩)] w (Puts base w b s m p D (.ok (kT 8, p + 1))) := by
  have hs := h.len
  have hp := h.at_
  have c0 := h.sx.c0
  have c1 := h.sx.c1
  have c3 := h.sx.c3
  have lb := h.sx.lt
  have bs := h.size
  obtain ⟨P1, hP1⟩ : ∃ P1, P1 = p + 1 := ⟨_, rfl⟩
  have hw1 : IntKind.wrap .i64 ((p : Int) + 1) = (P1 : Int) := by rw [wrap_small _ (by omega) (by omega)]; omega
  obtain ⟨CL, hCL⟩ : ∃ CL, CL = sees s P1 [92, 41] := ⟨_, rfl⟩
  obtain ⟨OR, hOR⟩ : ∃ OR, OR = sees s P1 [92, 124] := ⟨_, rfl⟩
  obtain ⟨EN, hEN⟩ : ∃ EN, EN = decide (P1 = s.size) := ⟨_, rfl⟩
  have dEN : ((P1 : Int) == (s.size : Int)) = EN := by rw [hEN, Bool.eq_iff_iff]; simp; omega
  have CC : Hid (∀ W, SX W b s m p v 0 0 → _) := hide (ris2 hs P1 (by omega) 92 41 hCL)
  have CO : Hid (∀ W, SX W b s m p v 0 0 → _) := hide (ris2 hs P1 (by omega) 92 124 hOR)
  have hU : ∀ W, Calls Tryz.prog 15 #[.string s, .int .i64 (p : Int), .bool m.c] W fun e w' => e = .returned (.tuple #[.int .i64 36, .int .i64 ((n : Nat) : Int)]) ∧ Below W.heap.size W w' := fun W => by
    have := runit_c s p m W hp hs
    rw [hu] at this
    exact this
  have kE : EN = false := by rw [hEN, decide_eq_false_iff_not]; omega
  subst kE
  have kC : CL = false := by rw [hCL, hP1]; exact hc
  subst kC
  have kO : OR = true := by rw [hOR, hP1]; exact ho
  subst kO
  have H : Hid (Room base w b s m p v D ∧ LK w b v last) := ⟨h, hk⟩
  clear h hk hP1 hCL hOR hEN hu
  go_enter Tryz.func10, Tryz.ntmps10
  go_wp2
  refine wp_region_ext (by kernel_rfl) (by kernel_rfl) ?_
  repeat (go_big_quiet_step (first | exact rfl | (go_at_call 15; exact ext_call (hU _))))
  refine wpQuiet_nil ?_
  intro w5 hw5
  have X5 : Hid (Room base w5 b s m p v D ∧ LK w5 b v last ∧ Below base w w5) := ⟨H.out.1.kept (ext_of hw5), H.out.2.kept (ext_of hw5), (ext_of hw5).mono bs⟩
  clear hw5
  go_wp2_with first
    | (go_at_call 16; (with_reducible refine (rbegin_c X5.out.1.sx X5.out.2.1).mono ?_); rintro e w6 ⟨rfl, h6⟩; have X6 : Hid (Room base w6 b s m p v D ∧ LK w6 b v last ∧ Below base w w6) := ⟨X5.out.1.kept h6, X5.out.2.1.kept h6, X5.out.2.2.trans (h6.mono X5.out.1.size)⟩; clear h6)
    | (go_at_call 17; (with_reducible refine (ropens_c X6.out.1.sx X6.out.2.1).mono ?_); rintro e w7 ⟨rfl, h6⟩; have X7 : Hid (Room base w7 b s m p v D ∧ LK w7 b v last ∧ Below base w w7) := ⟨X6.out.1.kept h6, X6.out.2.1.kept h6, X6.out.2.2.trans (h6.mono X6.out.1.size)⟩; have q0 := X7.out.1.sx.c0; have q3 := X7.out.1.sx.c3; have ql := X7.out.1.sx.lt; clear h6)
  refine wp_region_ext (by kernel_rfl) (by kernel_rfl) ?_
  repeat (go_big_quiet_step (first | exact rfl))
  refine wpQuiet_nil ?_
  intro w8 hw8
  have X8 : Hid (Room base w8 b s m p v D ∧ LK w8 b v last ∧ Below base w w8) := ⟨X7.out.1.kept (ext_of hw8), X7.out.2.1.kept (ext_of hw8), X7.out.2.2.trans ((ext_of hw8).mono X7.out.1.size)⟩
  have r3 := X8.out.1.sx.c3
  have rl := X8.out.1.sx.lt
  clear hw8
  go_wp2_with first
    | (go_at_call 18; (with_reducible refine (CC.out _ X8.out.1.sx).mono ?_); rintro e w9 ⟨rfl, h6⟩; have X9 : Hid (Room base w9 b s m p v D ∧ LK w9 b v last ∧ Below base w w9) := ⟨X8.out.1.kept h6, X8.out.2.1.kept h6, X8.out.2.2.trans (h6.mono X8.out.1.size)⟩; have s3 := X9.out.1.sx.c3; have sl := X9.out.1.sx.lt; clear h6)
    | (go_at_call 18; (with_reducible refine (CO.out _ X9.out.1.sx).mono ?_); rintro e w10 ⟨rfl, h6⟩; have X10 : Hid (Room base w10 b s m p v D ∧ LK w10 b v last ∧ Below base w w10) := ⟨X9.out.1.kept h6, X9.out.2.1.kept h6, X9.out.2.2.trans (h6.mono X9.out.1.size)⟩; have t3 := X10.out.1.sx.c3; have t1 := X10.out.1.sx.c1; have tl := X10.out.1.sx.lt; clear h6)
    | (go_at_call 22; refine (X10.out.1.put0 (t := kT 8) rfl (n := 1) (q := p + 1) rfl (by omega)).mono ?_; rintro e w11 h9; have hz := h9.1; subst hz; have X11 : Hid (Puts base w b s m p D (.ok (kT 8, p + 1)) (.returned (.tuple #[])) w11) := h9.from X10.out.2.2; clear h9)
  go_end0
  exact X11.out
set_option maxRecDepth 100000 in
set_option maxHeartbeats 4000000 in
theorem rtok_chr42 (h : Room base w b s m p v D) (hk : LK w b v last) {n : Nat} (hu : un m s p = (42, n)) (hbg : atBeg last = true) :
    Calls Tryz.prog 10 #[.pointer (some ⟨b, 0, none⟩)] w (Puts base w b s m p D (.ok (setT m [(42, 42)] false, p + n))) := by
  have hs := h.len
  have hp := h.at_
  have c0 := h.sx.c0
  have c1 := h.sx.c1
  have c3 := h.sx.c3
  have lb := h.sx.lt
  have bs := h.size
  obtain ⟨P1, hP1⟩ : ∃ P1, P1 = p + 1 := ⟨_, rfl⟩
  have hw1 : IntKind.wrap .i64 ((p : Int) + 1) = (P1 : Int) := by rw [wrap_small _ (by omega) (by omega)]; omega
  obtain ⟨CL, hCL⟩ : ∃ CL, CL = sees s P1 [92, 41] := ⟨_, rfl⟩
  obtain ⟨OR, hOR⟩ : ∃ OR, OR = sees s P1 [92, 124] := ⟨_, rfl⟩
  obtain ⟨EN, hEN⟩ : ∃ EN, EN = decide (P1 = s.size) := ⟨_, rfl⟩
  have dEN : ((P1 : Int) == (s.size : Int)) = EN := by rw [hEN, Bool.eq_iff_iff]; simp; omega
  have CC : Hid (∀ W, SX W b s m p v 0 0 → _) := hide (ris2 hs P1 (by omega) 92 41 hCL)
  have CO : Hid (∀ W, SX W b s m p v 0 0 → _) := hide (ris2 hs P1 (by omega) 92 124 hOR)
  have hU : ∀ W, Calls Tryz.prog 15 #[.string s, .int .i64 (p : Int), .bool m.c] W fun e w' => e = .returned (.tuple #[.int .i64 42, .int .i64 ((n : Nat) : Int)]) ∧ Below W.heap.size W w' := fun W => by
    have := runit_c s p m W hp hs
    rw [hu] at this
    exact this
  have hwd := un_wd m s p hp
  rw [hu] at hwd
  simp only at hwd
  have HCH : Hid (isChar m.c 42) := hide (by have := un_char m (s := s) (p := p); rw [hu] at this; exact this (by simp only; omega))
  have H : Hid (Room base w b s m p v D ∧ LK w b v last) := ⟨h, hk⟩
  clear h hk hP1 hCL hOR hEN hu
  go_enter Tryz.func10, Tryz.ntmps10
  go_wp2
  refine wp_region_ext (by kernel_rfl) (by kernel_rfl) ?_
  repeat (go_big_quiet_step (first | exact rfl | (go_at_call 15; exact ext_call (hU _))))
  refine wpQuiet_nil ?_
  intro w5 hw5
  have X5 : Hid (Room base w5 b s m p v D ∧ LK w5 b v last ∧ Below base w w5) := ⟨H.out.1.kept (ext_of hw5), H.out.2.kept (ext_of hw5), (ext_of hw5).mono bs⟩
  clear hw5
  go_wp2_with first
    | (go_at_call 16; (with_reducible refine (rbegin_c X5.out.1.sx X5.out.2.1).mono ?_); rintro e w6 ⟨rfl, h6⟩; have X6 : Hid (Room base w6 b s m p v D ∧ LK w6 b v last ∧ Below base w w6) := ⟨X5.out.1.kept h6, X5.out.2.1.kept h6, X5.out.2.2.trans (h6.mono X5.out.1.size)⟩; clear h6)
    | (go_at_call 17; (with_reducible refine (ropens_c X6.out.1.sx X6.out.2.1).mono ?_); rintro e w7 ⟨rfl, h6⟩; have X7 : Hid (Room base w7 b s m p v D ∧ LK w7 b v last ∧ Below base w w7) := ⟨X6.out.1.kept h6, X6.out.2.1.kept h6, X6.out.2.2.trans (h6.mono X6.out.1.size)⟩; have q0 := X7.out.1.sx.c0; have q3 := X7.out.1.sx.c3; have ql := X7.out.1.sx.lt; clear h6)
  refine wp_region_ext (by kernel_rfl) (by kernel_rfl) ?_
  repeat (go_big_quiet_step (first | exact rfl))
  refine wpQuiet_nil ?_
  intro w8 hw8
  have X8 : Hid (Room base w8 b s m p v D ∧ LK w8 b v last ∧ Below base w w8) := ⟨X7.out.1.kept (ext_of hw8), X7.out.2.1.kept (ext_of hw8), X7.out.2.2.trans ((ext_of hw8).mono X7.out.1.size)⟩
  have r3 := X8.out.1.sx.c3
  have rl := X8.out.1.sx.lt
  clear hw8
  go_wp2_with first
    | (go_at_call 18; (with_reducible refine (CC.out _ X8.out.1.sx).mono ?_); rintro e w9 ⟨rfl, h6⟩; have X9 : Hid (Room base w9 b s m p v D ∧ LK w9 b v last ∧ Below base w w9) := ⟨X8.out.1.kept h6, X8.out.2.1.kept h6, X8.out.2.2.trans (h6.mono X8.out.1.size)⟩; have s3 := X9.out.1.sx.c3; have sl := X9.out.1.sx.lt; clear h6)
    | (go_at_call 18; (with_reducible refine (CO.out _ X9.out.1.sx).mono ?_); rintro e w10 ⟨rfl, h6⟩; have X10 : Hid (Room base w10 b s m p v D ∧ LK w10 b v last ∧ Below base w w10) := ⟨X9.out.1.kept h6, X9.out.2.1.kept h6, X9.out.2.2.trans (h6.mono X9.out.1.size)⟩; have t3 := X10.out.1.sx.c3; have t1 := X10.out.1.sx.c1; have tl := X10.out.1.sx.lt; clear h6)
    | (go_at_call 24; (with_reducible refine (rone_c X10.out.1.sx (c := 42) HCH.out).mono ?_); rintro e w12 ⟨v12, C12, rfl, h1, h2, h4⟩; obtain ⟨q12, k12, rfl⟩ := h1.shape; have X12 : Hid (Room base w12 b s m p v D ∧ Below base w w12 ∧ RR w10.heap.size w12 (.slice q12 C12.length k12) C12 ∧ IsC C12 (setQ m [(42, 42)] false)) := ⟨X10.out.1.kept h4, X10.out.2.2.trans (h4.mono X10.out.1.size), h1, h2⟩; clear h1 h2 h4)
    | (go_at_call 22; refine (X12.out.1.put (t := setT m [(42, 42)] false) (rv := .slice q12 C12.length k12) (C := C12) (RR.mono X12.out.2.2.1 X10.out.1.size) X12.out.2.2.2 (X10.out.1.new X12.out.2.2.1) (n := n) (q := p + n) rfl (by omega)).mono ?_; rintro e w11 h9; have hz := h9.1; subst hz; have X11 : Hid (Puts base w b s m p D (.ok (setT m [(42, 42)] false, p + n)) (.returned (.tuple #[])) w11) := h9.from X12.out.2.1; clear h9)
  go_end0
  exact X11.out
set_option maxRecDepth 100000 in
set_option maxHeartbeats 4000000 in
theorem rtok_chr94 (h : Room base w b s m p v D) (hk : LK w b v last) {n : Nat} (hu : un m s p = (94, n)) (hop : opn last = false) :
    Calls Tryz.prog 10 #[.pointer (some ⟨b, 0, none⟩)] w (Puts base w b s m p D (.ok (setT m [(94, 94)] false, p + n))) := by
  have hs := h.len
  have hp := h.at_
  have c0 := h.sx.c0
  have c1 := h.sx.c1
  have c3 := h.sx.c3
  have lb := h.sx.lt
  have bs := h.size
  obtain ⟨P1, hP1⟩ : ∃ P1, P1 = p + 1 := ⟨_, rfl⟩
  have hw1 : IntKind.wrap .i64 ((p : Int) + 1) = (P1 : Int) := by rw [wrap_small _ (by omega) (by omega)]; omega
  obtain ⟨CL, hCL⟩ : ∃ CL, CL = sees s P1 [92, 41] := ⟨_, rfl⟩
  obtain ⟨OR, hOR⟩ : ∃ OR, OR = sees s P1 [92, 124] := ⟨_, rfl⟩
  obtain ⟨EN, hEN⟩ : ∃ EN, EN = decide (P1 = s.size) := ⟨_, rfl⟩
  have dEN : ((P1 : Int) == (s.size : Int)) = EN := by rw [hEN, Bool.eq_iff_iff]; simp; omega
  have CC : Hid (∀ W, SX W b s m p v 0 0 → _) := hide (ris2 hs P1 (by omega) 92 41 hCL)
  have CO : Hid (∀ W, SX W b s m p v 0 0 → _) := hide (ris2 hs P1 (by omega) 92 124 hOR)
  have hU : ∀ W, Calls Tryz.prog 15 #[.string s, .int .i64 (p : Int), .bool m.c] W fun e w' => e = .returned (.tuple #[.int .i64 94, .int .i64 ((n : Nat) : Int)]) ∧ Below W.heap.size W w' := fun W => by
    have := runit_c s p m W hp hs
    rw [hu] at this
    exact this
  have hwd := un_wd m s p hp
  rw [hu] at hwd
  simp only at hwd
  have HCH : Hid (isChar m.c 94) := hide (by have := un_char m (s := s) (p := p); rw [hu] at this; exact this (by simp only; omega))
  have H : Hid (Room base w b s m p v D ∧ LK w b v last) := ⟨h, hk⟩
  clear h hk hP1 hCL hOR hEN hu
  go_enter Tryz.func10, Tryz.ntmps10
  go_wp2
  refine wp_region_ext (by kernel_rfl) (by kernel_rfl) ?_
  repeat (go_big_quiet_step (first | exact rfl | (go_at_call 15; exact ext_call (hU _))))
  refine wpQuiet_nil ?_
  intro w5 hw5
  have X5 : Hid (Room base w5 b s m p v D ∧ LK w5 b v last ∧ Below base w w5) := ⟨H.out.1.kept (ext_of hw5), H.out.2.kept (ext_of hw5), (ext_of hw5).mono bs⟩
  clear hw5
  go_wp2_with first
    | (go_at_call 16; (with_reducible refine (rbegin_c X5.out.1.sx X5.out.2.1).mono ?_); rintro e w6 ⟨rfl, h6⟩; have X6 : Hid (Room base w6 b s m p v D ∧ LK w6 b v last ∧ Below base w w6) := ⟨X5.out.1.kept h6, X5.out.2.1.kept h6, X5.out.2.2.trans (h6.mono X5.out.1.size)⟩; clear h6)
    | (go_at_call 17; (with_reducible refine (ropens_c X6.out.1.sx X6.out.2.1).mono ?_); rintro e w7 ⟨rfl, h6⟩; have X7 : Hid (Room base w7 b s m p v D ∧ LK w7 b v last ∧ Below base w w7) := ⟨X6.out.1.kept h6, X6.out.2.1.kept h6, X6.out.2.2.trans (h6.mono X6.out.1.size)⟩; have q0 := X7.out.1.sx.c0; have q3 := X7.out.1.sx.c3; have ql := X7.out.1.sx.lt; clear h6)
  refine wp_region_ext (by kernel_rfl) (by kernel_rfl) ?_
  repeat (go_big_quiet_step (first | exact rfl))
  refine wpQuiet_nil ?_
  intro w8 hw8
  have X8 : Hid (Room base w8 b s m p v D ∧ LK w8 b v last ∧ Below base w w8) := ⟨X7.out.1.kept (ext_of hw8), X7.out.2.1.kept (ext_of hw8), X7.out.2.2.trans ((ext_of hw8).mono X7.out.1.size)⟩
  have r3 := X8.out.1.sx.c3
  have rl := X8.out.1.sx.lt
  clear hw8
  go_wp2_with first
    | (go_at_call 18; (with_reducible refine (CC.out _ X8.out.1.sx).mono ?_); rintro e w9 ⟨rfl, h6⟩; have X9 : Hid (Room base w9 b s m p v D ∧ LK w9 b v last ∧ Below base w w9) := ⟨X8.out.1.kept h6, X8.out.2.1.kept h6, X8.out.2.2.trans (h6.mono X8.out.1.size)⟩; have s3 := X9.out.1.sx.c3; have sl := X9.out.1.sx.lt; clear h6)
    | (go_at_call 18; (with_reducible refine (CO.out _ X9.out.1.sx).mono ?_); rintro e w10 ⟨rfl, h6⟩; have X10 : Hid (Room base w10 b s m p v D ∧ LK w10 b v last ∧ Below base w w10) := ⟨X9.out.1.kept h6, X9.out.2.1.kept h6, X9.out.2.2.trans (h6.mono X9.out.1.size)⟩; have t3 := X10.out.1.sx.c3; have t1 := X10.out.1.sx.c1; have tl := X10.out.1.sx.lt; clear h6)
    | (go_at_call 24; (with_reducible refine (rone_c X10.out.1.sx (c := 94) HCH.out).mono ?_); rintro e w12 ⟨v12, C12, rfl, h1, h2, h4⟩; obtain ⟨q12, k12, rfl⟩ := h1.shape; have X12 : Hid (Room base w12 b s m p v D ∧ Below base w w12 ∧ RR w10.heap.size w12 (.slice q12 C12.length k12) C12 ∧ IsC C12 (setQ m [(94, 94)] false)) := ⟨X10.out.1.kept h4, X10.out.2.2.trans (h4.mono X10.out.1.size), h1, h2⟩; clear h1 h2 h4)
    | (go_at_call 22; refine (X12.out.1.put (t := setT m [(94, 94)] false) (rv := .slice q12 C12.length k12) (C := C12) (RR.mono X12.out.2.2.1 X10.out.1.size) X12.out.2.2.2 (X10.out.1.new X12.out.2.2.1) (n := n) (q := p + n) rfl (by omega)).mono ?_; rintro e w11 h9; have hz := h9.1; subst hz; have X11 : Hid (Puts base w b s m p D (.ok (setT m [(94, 94)] false, p + n)) (.returned (.tuple #[])) w11) := h9.from X12.out.2.1; clear h9)
  go_end0
  exact X11.out
set_option maxRecDepth 100000 in
set_option maxHeartbeats 4000000 in
theorem rtok_chr36 (h : Room base w b s m p v D) (hk : LK w b v last) {n : Nat} (hu : un m s p = (36, n)) (he : endsB s p = false) :
    Calls Tryz.prog 10 #[.pointer (some ⟨b, 0, none⟩)] w (Puts base w b s m p D (.ok (setT m [(36, 36)] false, p + n))) := by
  have hs := h.len
  have hp := h.at_
  have c0 := h.sx.c0
  have c1 := h.sx.c1
  have c3 := h.sx.c3
  have lb := h.sx.lt
  have bs := h.size
  obtain ⟨P1, hP1⟩ : ∃ P1, P1 = p + 1 := ⟨_, rfl⟩
  have hw1 : IntKind.wrap .i64 ((p : Int) + 1) = (P1 : Int) := by rw [wrap_small _ (by omega) (by omega)]; omega
  obtain ⟨CL, hCL⟩ : ∃ CL, CL = sees s P1 [92, 41] := ⟨_, rfl⟩
  obtain ⟨OR, hOR⟩ : ∃ OR, OR = sees s P1 [92, 124] := ⟨_, rfl⟩
  obtain ⟨EN, hEN⟩ : ∃ EN, EN = decide (P1 = s.size) := ⟨_, rfl⟩
  have dEN : ((P1 : Int) == (s.size : Int)) = EN := by rw [hEN, Bool.eq_iff_iff]; simp; omega
  have CC : Hid (∀ W, SX W b s m p v 0 0 → _) := hide (ris2 hs P1 (by omega) 92 41 hCL)
  have CO : Hid (∀ W, SX W b s m p v 0 0 → _) := hide (ris2 hs P1 (by omega) 92 124 hOR)
  have hU : ∀ W, Calls Tryz.prog 15 #[.string s, .int .i64 (p : Int), .bool m.c] W fun e w' => e = .returned (.tuple #[.int .i64 36, .int .i64 ((n : Nat) : Int)]) ∧ Below W.heap.size W w' := fun W => by
    have := runit_c s p m W hp hs
    rw [hu] at this
    exact this
  have hwd := un_wd m s p hp
  rw [hu] at hwd
  simp only at hwd
  have HCH : Hid (isChar m.c 36) := hide (by have := un_char m (s := s) (p := p); rw [hu] at this; exact this (by simp only; omega))
  have kE : EN = false ∧ CL = false ∧ OR = false := by rw [hEN, hCL, hOR, hP1]; unfold endsB at he; simp at he; simp [he]
  obtain ⟨kE, kC, kO⟩ := kE
  subst kE
  subst kC
  subst kO
  have H : Hid (Room base w b s m p v D ∧ LK w b v last) := ⟨h, hk⟩
  clear h hk hP1 hCL hOR hEN hu
  go_enter Tryz.func10, Tryz.ntmps10
  go_wp2
  refine wp_region_ext (by kernel_rfl) (by kernel_rfl) ?_
  repeat (go_big_quiet_step (first | exact rfl | (go_at_call 15; exact ext_call (hU _))))
  refine wpQuiet_nil ?_
  intro w5 hw5
  have X5 : Hid (Room base w5 b s m p v D ∧ LK w5 b v last ∧ Below base w w5) := ⟨H.out.1.kept (ext_of hw5), H.out.2.kept (ext_of hw5), (ext_of hw5).mono bs⟩
  clear hw5
  go_wp2_with first
    | (go_at_call 16; (with_reducible refine (rbegin_c X5.out.1.sx X5.out.2.1).mono ?_); rintro e w6 ⟨rfl, h6⟩; have X6 : Hid (Room base w6 b s m p v D ∧ LK w6 b v last ∧ Below base w w6) := ⟨X5.out.1.kept h6, X5.out.2.1.kept h6, X5.out.2.2.trans (h6.mono X5.out.1.size)⟩; clear h6)
    | (go_at_call 17; (with_reducible refine (ropens_c X6.out.1.sx X6.out.2.1).mono ?_); rintro e w7 ⟨rfl, h6⟩; have X7 : Hid (Room base w7 b s m p v D ∧ LK w7 b v last ∧ Below base w w7) := ⟨X6.out.1.kept h6, X6.out.2.1.kept h6, X6.out.2.2.trans (h6.mono X6.out.1.size)⟩; have q0 := X7.out.1.sx.c0; have q3 := X7.out.1.sx.c3; have ql := X7.out.1.sx.lt; clear h6)
  refine wp_region_ext (by kernel_rfl) (by kernel_rfl) ?_
  repeat (go_big_quiet_step (first | exact rfl))
  refine wpQuiet_nil ?_
  intro w8 hw8
  have X8 : Hid (Room base w8 b s m p v D ∧ LK w8 b v last ∧ Below base w w8) := ⟨X7.out.1.kept (ext_of hw8), X7.out.2.1.kept (ext_of hw8), X7.out.2.2.trans ((ext_of hw8).mono X7.out.1.size)⟩
  have r3 := X8.out.1.sx.c3
  have rl := X8.out.1.sx.lt
  clear hw8
  go_wp2_with first
    | (go_at_call 18; (with_reducible refine (CC.out _ X8.out.1.sx).mono ?_); rintro e w9 ⟨rfl, h6⟩; have X9 : Hid (Room base w9 b s m p v D ∧ LK w9 b v last ∧ Below base w w9) := ⟨X8.out.1.kept h6, X8.out.2.1.kept h6, X8.out.2.2.trans (h6.mono X8.out.1.size)⟩; have s3 := X9.out.1.sx.c3; have sl := X9.out.1.sx.lt; clear h6)
    | (go_at_call 18; (with_reducible refine (CO.out _ X9.out.1.sx).mono ?_); rintro e w10 ⟨rfl, h6⟩; have X10 : Hid (Room base w10 b s m p v D ∧ LK w10 b v last ∧ Below base w w10) := ⟨X9.out.1.kept h6, X9.out.2.1.kept h6, X9.out.2.2.trans (h6.mono X9.out.1.size)⟩; have t3 := X10.out.1.sx.c3; have t1 := X10.out.1.sx.c1; have tl := X10.out.1.sx.lt; clear h6)
    | (go_at_call 24; (with_reducible refine (rone_c X10.out.1.sx (c := 36) HCH.out).mono ?_); rintro e w12 ⟨v12, C12, rfl, h1, h2, h4⟩; obtain ⟨q12, k12, rfl⟩ := h1.shape; have X12 : Hid (Room base w12 b s m p v D ∧ Below base w w12 ∧ RR w10.heap.size w12 (.slice q12 C12.length k12) C12 ∧ IsC C12 (setQ m [(36, 36)] false)) := ⟨X10.out.1.kept h4, X10.out.2.2.trans (h4.mono X10.out.1.size), h1, h2⟩; clear h1 h2 h4)
    | (go_at_call 22; refine (X12.out.1.put (t := setT m [(36, 36)] false) (rv := .slice q12 C12.length k12) (C := C12) (RR.mono X12.out.2.2.1 X10.out.1.size) X12.out.2.2.2 (X10.out.1.new X12.out.2.2.1) (n := n) (q := p + n) rfl (by omega)).mono ?_; rintro e w11 h9; have hz := h9.1; subst hz; have X11 : Hid (Puts base w b s m p D (.ok (setT m [(36, 36)] false, p + n)) (.returned (.tuple #[])) w11) := h9.from X12.out.2.1; clear h9)
  go_end0
  exact X11.out
set_option maxRecDepth 100000 in
set_option maxHeartbeats 4000000 in
theorem rtok_chr (h : Room base w b s m p v D) (hk : LK w b v last) {c : Int} {n : Nat} (hu : un m s p = (c, n)) (hc : ¬ c < 0) (hne : c ≠ 92 ∧ c ≠ 91 ∧ c ≠ 46 ∧ c ≠ 42 ∧ c ≠ 94 ∧ c ≠ 36) :
    Calls Tryz.prog 10 #[.pointer (some ⟨b, 0, none⟩)] w (Puts base w b s m p D (.ok (setT m [(c, c)] false, p + n))) := by
  have hs := h.len
  have hp := h.at_
  have c0 := h.sx.c0
  have c1 := h.sx.c1
  have c3 := h.sx.c3
  have lb := h.sx.lt
  have bs := h.size
  obtain ⟨P1, hP1⟩ : ∃ P1, P1 = p + 1 := ⟨_, rfl⟩
  have hw1 : IntKind.wrap .i64 ((p : Int) + 1) = (P1 : Int) := by rw [wrap_small _ (by omega) (by omega)]; omega
  obtain ⟨CL, hCL⟩ : ∃ CL, CL = sees s P1 [92, 41] := ⟨_, rfl⟩
  obtain ⟨OR, hOR⟩ : ∃ OR, OR = sees s P1 [92, 124] := ⟨_, rfl⟩
  obtain ⟨EN, hEN⟩ : ∃ EN, EN = decide (P1 = s.size) := ⟨_, rfl⟩
  have dEN : ((P1 : Int) == (s.size : Int)) = EN := by rw [hEN, Bool.eq_iff_iff]; simp; omega
  have CC : Hid (∀ W, SX W b s m p v 0 0 → _) := hide (ris2 hs P1 (by omega) 92 41 hCL)
  have CO : Hid (∀ W, SX W b s m p v 0 0 → _) := hide (ris2 hs P1 (by omega) 92 124 hOR)
  have hU : ∀ W, Calls Tryz.prog 15 #[.string s, .int .i64 (p : Int), .bool m.c] W fun e w' => e = .returned (.tuple #[.int .i64 c, .int .i64 ((n : Nat) : Int)]) ∧ Below W.heap.size W w' := fun W => by
    have := runit_c s p m W hp hs
    rw [hu] at this
    exact this
  have hwd := un_wd m s p hp
  rw [hu] at hwd
  simp only at hwd
  have HCH : Hid (isChar m.c c) := hide (by have := un_char m (s := s) (p := p); rw [hu] at this; exact this (by simp only; omega))
  have d92 : (c == 92) = false := by simp; omega
  have d91 : (c == 91) = false := by simp; omega
  have d46 : (c == 46) = false := by simp; omega
  have d42 : (c == 42) = false := by simp; omega
  have d94 : (c == 94) = false := by simp; omega
  have d36 : (c == 36) = false := by simp; omega
  clear hne
  have H : Hid (Room base w b s m p v D ∧ LK w b v last) := ⟨h, hk⟩
  clear h hk hP1 hCL hOR hEN hu
  go_enter Tryz.func10, Tryz.ntmps10
  go_wp2
  refine wp_region_ext (by kernel_rfl) (by kernel_rfl) ?_
  repeat (go_big_quiet_step (first | exact rfl | (go_at_call 15; exact ext_call (hU _))))
  refine wpQuiet_nil ?_
  intro w5 hw5
  have X5 : Hid (Room base w5 b s m p v D ∧ LK w5 b v last ∧ Below base w w5) := ⟨H.out.1.kept (ext_of hw5), H.out.2.kept (ext_of hw5), (ext_of hw5).mono bs⟩
  clear hw5
  go_wp2_with first
    | (go_at_call 16; (with_reducible refine (rbegin_c X5.out.1.sx X5.out.2.1).mono ?_); rintro e w6 ⟨rfl, h6⟩; have X6 : Hid (Room base w6 b s m p v D ∧ LK w6 b v last ∧ Below base w w6) := ⟨X5.out.1.kept h6, X5.out.2.1.kept h6, X5.out.2.2.trans (h6.mono X5.out.1.size)⟩; clear h6)
    | (go_at_call 17; (with_reducible refine (ropens_c X6.out.1.sx X6.out.2.1).mono ?_); rintro e w7 ⟨rfl, h6⟩; have X7 : Hid (Room base w7 b s m p v D ∧ LK w7 b v last ∧ Below base w w7) := ⟨X6.out.1.kept h6, X6.out.2.1.kept h6, X6.out.2.2.trans (h6.mono X6.out.1.size)⟩; have q0 := X7.out.1.sx.c0; have q3 := X7.out.1.sx.c3; have ql := X7.out.1.sx.lt; clear h6)
  refine wp_region_ext (by kernel_rfl) (by kernel_rfl) ?_
  repeat (go_big_quiet_step (first | exact rfl))
  refine wpQuiet_nil ?_
  intro w8 hw8
  have X8 : Hid (Room base w8 b s m p v D ∧ LK w8 b v last ∧ Below base w w8) := ⟨X7.out.1.kept (ext_of hw8), X7.out.2.1.kept (ext_of hw8), X7.out.2.2.trans ((ext_of hw8).mono X7.out.1.size)⟩
  have r3 := X8.out.1.sx.c3
  have rl := X8.out.1.sx.lt
  clear hw8
  go_wp2_with first
    | (go_at_call 18; (with_reducible refine (CC.out _ X8.out.1.sx).mono ?_); rintro e w9 ⟨rfl, h6⟩; have X9 : Hid (Room base w9 b s m p v D ∧ LK w9 b v last ∧ Below base w w9) := ⟨X8.out.1.kept h6, X8.out.2.1.kept h6, X8.out.2.2.trans (h6.mono X8.out.1.size)⟩; have s3 := X9.out.1.sx.c3; have sl := X9.out.1.sx.lt; clear h6)
    | (go_at_call 18; (with_reducible refine (CO.out _ X9.out.1.sx).mono ?_); rintro e w10 ⟨rfl, h6⟩; have X10 : Hid (Room base w10 b s m p v D ∧ LK w10 b v last ∧ Below base w w10) := ⟨X9.out.1.kept h6, X9.out.2.1.kept h6, X9.out.2.2.trans (h6.mono X9.out.1.size)⟩; have t3 := X10.out.1.sx.c3; have t1 := X10.out.1.sx.c1; have tl := X10.out.1.sx.lt; clear h6)
    | (go_at_call 24; (with_reducible refine (rone_c X10.out.1.sx (c := c) HCH.out).mono ?_); rintro e w12 ⟨v12, C12, rfl, h1, h2, h4⟩; obtain ⟨q12, k12, rfl⟩ := h1.shape; have X12 : Hid (Room base w12 b s m p v D ∧ Below base w w12 ∧ RR w10.heap.size w12 (.slice q12 C12.length k12) C12 ∧ IsC C12 (setQ m [(c, c)] false)) := ⟨X10.out.1.kept h4, X10.out.2.2.trans (h4.mono X10.out.1.size), h1, h2⟩; clear h1 h2 h4)
    | (go_at_call 22; refine (X12.out.1.put (t := setT m [(c, c)] false) (rv := .slice q12 C12.length k12) (C := C12) (RR.mono X12.out.2.2.1 X10.out.1.size) X12.out.2.2.2 (X10.out.1.new X12.out.2.2.1) (n := n) (q := p + n) rfl (by omega)).mono ?_; rintro e w11 h9; have hz := h9.1; subst hz; have X11 : Hid (Puts base w b s m p D (.ok (setT m [(c, c)] false, p + n)) (.returned (.tuple #[])) w11) := h9.from X12.out.2.1; clear h9)
  go_end0
  exact X11.out
end
end Go.Proofs.YtloeajhmmjdlgaaGreatDoor
