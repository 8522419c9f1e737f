/-
  Put, Get, Drop, Clear: does.
-/
import Derived.Test.YtmfljfedpdipiaaHalf
namespace Go.Proofs.Ytmfljfedpdipiaa
open Go Go.RowKit Go.Shelf
attribute [local go_sem] Oper.semAt_some ext_cell

theorem ArgK.below {w w' : World} {v : Value} {k : List Int} (h : ArgK w v k) (hb : Below w.heap.size w w') : ArgK w' v k := ⟨h.1.below hb rfl, h.2⟩
theorem PW.slots {w : World} {s : Sd} (h : PW w s) : (s.P.length = 0 ∧ s.E.length = 0) ∨ ((∃ j, s.P.length = 2 ^ j) ∧ 2 * s.E.length ≤ s.P.length ∧ (s.P.length : Int) ≤ 16 + 8 * (s.top : Int)) := by
  have h2 := h.two
  have h3 := h.up
  by_cases hP : s.P = []
  · have h0 : s.P.length = 0 := by simp [hP]
    exact .inl ⟨h0, by omega⟩
  · obtain ⟨j, _, hj⟩ := h.t.t.hn hP
    exact .inr ⟨⟨j, hj⟩, h2, by omega⟩
/-- The frame when the switch is through. -/
def doTmps (f : Nat → Value) (s : Sd) (v : Value) (g cg : Nat) (k : List Int) : Array Value := #[f 0, f 1, f 2, v, f 4, f 5, f 6, f 7, f 8, f 9, f 10, .pointer (some ⟨s.b, 0, none⟩), .pointer (some ⟨s.rb, 0, none⟩), .slice (some ⟨g, 0, none⟩) k.length cg, .bool true, f 15, f 16, f 17, f 18, f 19, f 20, f 21, f 22, f 23, f 24, f 25, f 26, f 27, f 28, f 29, f 30, f 31, f 32, f 33, f 34, f 35, f 36, f 37, f 38, f 39, f 40, f 41, f 42, f 43, f 44, f 45, f 46, f 47, f 48, f 49, f 50, f 51, f 52, f 53, f 54, f 55, f 56, f 57, f 58, f 59, f 60, f 61, f 62, f 63, f 64, f 65, f 66, f 67, f 68, f 69, f 70, f 71, f 72, f 73, f 74, f 75, f 76, f 77, f 78, f 79, f 80, f 81, f 82, f 83, f 84, f 85, f 86, f 87, f 88, f 89, f 90, f 91, f 92, f 93, f 94, f 95, f 96, f 97, f 98, f 99, f 100, f 101, f 102, f 103, f 104, f 105, f 106, f 107, f 108, f 109, f 110, f 111]
/-- What stands when the switch is through. -/
def Mid (w : World) (s : Sd) (g cg : Nat) (k : List Int) (w1 w3 : World) : Prop := ∃ s', PW w3 s' ∧ LentAt w3 w.heap.size g cg k ∧ Next w1.heap.size s s' ∧ Fr s.foot w1 w3

set_option maxRecDepth 100000 in
set_option maxHeartbeats 8000000 in
theorem does5 {w : World} {wb i n0 : Nat} {s : Sd} {v : Value} {k : List Int} (ct : w.cell? ⟨wb, i, none⟩ = some (.pointer (some ⟨s.b, 0, none⟩))) (cr : w.cell? ⟨wb, 2 + i, none⟩ = some (.pointer (some ⟨s.rb, 0, none⟩))) (hi : i < 2) (h : PW w s) (hk : ArgK w v k)
    (hf0 : ∀ j, s.foot j → n0 ≤ j) (hv0 : ∀ p l c, v = .slice (some p) l c → l ≠ 0 → p.block < n0) (kind x : Int) :
    Calls Try.prog 19 #[.pointer (some ⟨wb, 0, none⟩), .int .i64 (i : Int), .int .i64 kind, v, .int .i64 x] w fun e w' => e = .returned (.bool true) ∧ ∃ s', PW w' s' ∧ Next w.heap.size s s' ∧ Fr s.foot w w' := by
  have H : Hid (PW w s) := h
  have HK : Hid (ArgK w v k) := hk
  have HKL : Hid (k.length ≤ 17592186043904) := hk.2.1
  have i0 : (0 : Int) ≤ (i : Int) := by omega
  have i1 : (i : Int) < 2 := by omega
  have BK : Hid (∀ w3, Fr s.foot w w3 → ArgI w3 v k) := fun w3 hf => hk.1.fr hf (fun p l c e hl hq => by have := hf0 _ hq; have := hv0 p l c e hl; omega)
  have ENT : Hid (∀ w1 g cg, Below w.heap.size w w1 → LentAt w1 w.heap.size g cg k → PW w1 s ∧ ArgK w1 v k) := fun w1 g cg hb _ => ⟨h.kept hb, hk.below hb⟩
  have hE : s.E.length ≤ s.M := by rw [← h.cnt]; exact h.t.few
  have HE : Hid (s.E.length ≤ s.M ∧ s.W ≤ 128 ∧ s.M ≤ 1000000 ∧ s.top ≤ 1000000) := ⟨hE, h.t.t.hW, h.t.t.hM, h.topb⟩
  clear hk hv0 hf0 hE h
  go_enter Try.func19, Try.ntmps19
  go_upto_region 5 with (go_at_call 28; (with_reducible refine (lent_c HK.out).mono ?_); rintro e w1 ⟨g, cg, rfl, hL, hb⟩; have L1 : Hid (LentAt w1 w.heap.size g cg k) := hL; have B1 : Hid (Below w.heap.size w w1) := hb; have P1 : Hid (PW w1 s) := H.out.kept hb; have KK1 : Hid (ArgK w1 v k) := HK.out.below hb; clear hL hb)
  rename_i K1 hK1 K2 hK2
  have REST : Hid (∀ (a : Act) (W3 : World), a.tmps = doTmps (fun j => a.tmps.getD j undef) s v g cg k → a.defers = [] → Mid w s g cg k w1 W3 → K1 a W3) := by
    as_aux_lemma =>
      clear hK2 K2 ct cr
      rintro ⟨tm, ds⟩ W3 ha hd ⟨s', hP3, hL3, hN3, hF3⟩
      dsimp only at ha hd
      generalize (fun j => tm.getD j undef) = f at ha
      subst ha hd
      refine hK1 _ _ ?_
      clear hK1 K1
      have HP3 : Hid (PW W3 s') := hP3
      have HL3 : Hid (LentAt W3 w.heap.size g cg k) := hL3
      have HN3 : Hid (Next w1.heap.size s s') := hN3
      have HF3 : Hid (Fr s.foot w1 W3) := hF3
      have KA : Hid (ArgI W3 v k) := BK.out W3 ((Fr.of_below B1.out : Fr s.foot w w1).seq hF3 (fun _ _ q => q))
      have hbb : s'.b = s.b := hN3.b
      have hrr : s'.rb = s.rb := hN3.rb
      have TL : Hid (∀ W4, PW W4 s' → Calls Try.prog 36 #[.pointer (some ⟨s.b, 0, none⟩)] W4 fun e w' => e = .returned (.int .i64 s'.P.length) ∧ w' = W4) := fun W4 h4 => by rw [← hbb]; exact slots_c h4.t.t
      have TR : Hid (∀ W4, PW W4 s' → Calls Try.prog 35 #[.pointer (some ⟨s.rb, 0, none⟩), .int .i64 s'.P.length] W4 fun e w' => e = .returned (.bool true) ∧ w' = W4) := fun W4 h4 => by
        rw [← hrr]
        have h5 := h4.up
        have h6 := h4.topb
        exact rslots h4.r.hb h4.slots (by omega) (by omega)
      have TN : Hid (∀ W4, PW W4 s' → Calls Try.prog 12 #[.pointer (some ⟨s.b, 0, none⟩)] W4 fun e w' => e = .returned (.int .i64 s'.E.length) ∧ w' = W4) := fun W4 h4 => by
        rw [← hbb, ← h4.cnt]; exact len_c h4.t.t
      clear hP3 hL3 hN3 hF3
      unfold doTmps
      go_upto_region 21 with first | (go_at_call 34; (with_reducible refine (back_c HL3.out KA.out HKL.out).mono ?_); rintro e W4 ⟨rfl, hf⟩; have HQ : Hid (PW W4 s' ∧ Next w.heap.size s s' ∧ Fr s.foot w W4) := half_end H.out B1.out L1.out HP3.out HL3.out HN3.out HF3.out hf; clear hf) | (go_at_call 36; (with_reducible refine (TL.out W4 HQ.out.1).mono ?_); rintro e W5 ⟨rfl, h5⟩; subst W5) | (go_at_call 35; (with_reducible refine (TR.out W4 HQ.out.1).mono ?_); rintro e W5 ⟨rfl, h5⟩; subst W5)
      obtain ⟨q', hq'⟩ : ∃ q', s'.q = q' := ⟨_, rfl⟩
      have c2 : W4.cell? ⟨s.rb, 2, none⟩ = some (.slice s'.q s'.E.length s'.cap) := by rw [← hrr]; exact cell_row HQ.out.1.r.hb (i := 2) rfl
      have lr : s.rb < W4.heap.size := by rw [← hrr]; exact lt_of_heap HQ.out.1.r.hb
      have ee : ((s'.E.length : Int) == (s'.E.length : Int)) = true := by simp
      clear hbb hrr hq'
      refine wp_region_ext (by kernel_rfl) (by kernel_rfl) ?_
      repeat (go_big_quiet_step (first | exact rfl | (go_at_call 12; with_reducible exact ext_call_same (TN.out _ (HQ.out.1.kept (ext_below _))))))
      refine wpQuiet_nil ?_
      intro W9 hw
      have B9 : Hid (Below W4.heap.size W4 W9) := ext_of hw
      clear hw c2 lr
      go_wp2
      go_ret
      exact ⟨rfl, s', HQ.out.1.kept B9.out, HQ.out.2.1, HQ.out.2.2.seq (Fr.of_below B9.out : Fr (fun _ => False) W4 W9) (fun _ _ q => q.elim)⟩
  clear hK1
  have M0 : Hid (Mid w s g cg k w1 w1) := ⟨s, P1.out, L1.out, Next.refl _ _, Fr.refl _ _⟩
  by_cases h1 : kind = 1
  · as_aux_lemma =>
      subst h1
      have ee : (putE s.W s.M s.E.length s.m k == putE s.W s.M s.E.length s.m k) = true := by simp
      go_wp2_with first | (go_at_call 29; (with_reducible refine (rput5 P1.out.r P1.out.qe P1.out.lex P1.out.same HE.out.2.1 HE.out.2.2.1 HE.out.1 HE.out.2.2.2 KK1.out x).mono ?_); rintro e w2 ⟨rfl, q2, cap2, E2, top2, hR⟩; have R2 : Hid (RPut w1 w2 s.rb s.W s.M s.q s.E s.top s.m k x q2 cap2 E2 top2) := hR; clear hR) | (go_at_call 11; (with_reducible refine (put_half P1.out L1.out x R2.out).mono ?_); rintro e w3 ⟨rfl, hm⟩; have M3 : Hid (Mid w s g cg k w1 w3) := hm; clear hm)
      refine REST.out _ _ ?_ ?_ M3.out
      · rfl
      · rfl
  by_cases h2 : kind = 2
  · as_aux_lemma =>
      subst h2
      have RG : Hid (Calls Try.prog 30 #[.pointer (some ⟨s.rb, 0, none⟩), v] w1 fun e w' => e = .returned (.tuple #[.int .i64 (getV (s.m k)), .bool (s.m k).isSome]) ∧ Below w1.heap.size w1 w') := (by
        have := rget_c P1.out.r KK1.out.1
        rwa [same_get P1.out.same P1.out.lex] at this)
      have TG : Hid (∀ w2, Below w1.heap.size w1 w2 → Calls Try.prog 13 #[.pointer (some ⟨s.b, 0, none⟩), .slice (some ⟨g, 0, none⟩) k.length cg] w2 fun e w' => e = .returned (.tuple #[.int .i64 (getV (s.m k)), .bool (s.m k).isSome]) ∧ Below w2.heap.size w2 w') := fun w2 hb => (by
        have h2 := P1.out.kept hb
        exact get_p h2.t.t h2.t.p h2.t.m (lent_arg (lent_fr L1.out (Fr.of_below hb : Fr (fun _ => False) w1 w2) (fun _ _ q => q.elim))))
      generalize getV (s.m k) = gv at TG RG
      generalize (s.m k).isSome = gs at TG RG
      have e1 : (gv == gv) = true := by simp
      have e2 : (gs == gs) = true := by simp
      go_wp2_with first | (go_at_call 30; (with_reducible refine RG.out.mono ?_); rintro e w2 ⟨rfl, hb⟩; have B2 : Hid (Below w1.heap.size w1 w2) := hb; clear hb) | (go_at_call 13; (with_reducible refine (TG.out w2 B2.out).mono ?_); rintro e w3 ⟨rfl, hb⟩; have B3 : Hid (Below w1.heap.size w1 w3) := chain B2.out hb (Nat.le_refl _); clear hb)
      refine REST.out _ _ ?_ ?_ ⟨s, P1.out.kept B3.out, lent_fr L1.out (Fr.of_below B3.out : Fr (fun _ => False) w1 w3) (fun _ _ q => q.elim), Next.refl _ _, Fr.of_below B3.out⟩
      · rfl
      · rfl
  by_cases h3 : kind = 3
  · as_aux_lemma =>
      subst h3
      have KA1 : Hid (ArgI w1 v k) := KK1.out.1
      have ee : ((s.m k).isSome == (s.m k).isSome) = true := by simp
      go_wp2_with first | (go_at_call 31; (with_reducible refine (rdrop5 P1.out.r P1.out.qe P1.out.lex P1.out.same KA1.out).mono ?_); rintro e w2 ⟨rfl, q2, cap2, E2, hR⟩; have R2 : Hid (RDrop w1 w2 s.rb s.W s.M s.q s.E s.top s.m k q2 cap2 E2) := hR; clear hR) | (go_at_call 14; (with_reducible refine (drop_half P1.out L1.out R2.out).mono ?_); rintro e w3 ⟨rfl, hm⟩; have M3 : Hid (Mid w s g cg k w1 w3) := hm; clear hm)
      refine REST.out _ _ ?_ ?_ M3.out
      · rfl
      · rfl
  by_cases h4 : kind = 4
  · as_aux_lemma =>
      subst h4
      go_wp2_with first | (go_at_call 32; (with_reducible refine (clear_one P1.out L1.out).mono ?_); rintro e w2 ⟨rfl, hh⟩; have H2 : Hid (HalfC w1 w2 s w.heap.size g cg k) := hh; clear hh) | (go_at_call 33; (with_reducible refine (clear_two P1.out H2.out).mono ?_); rintro e w3 ⟨rfl, hm⟩; have M3 : Hid (Mid w s g cg k w1 w3) := hm; clear hm)
      refine REST.out _ _ ?_ ?_ M3.out
      · rfl
      · rfl
  · as_aux_lemma =>
      go_wp2
      refine REST.out _ _ ?_ ?_ M0.out
      · rfl
      · rfl
end Go.Proofs.Ytmfljfedpdipiaa
