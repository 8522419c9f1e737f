/-
  What the checker says of the next node.
-/
import Derived.Test.YtpfdapnfkghgkaaGreatDoorC5
import Derived.Test.YtpfdapnfkghgkaaGreatDoorC10
namespace Go.Proofs.YtpfdapnfkghgkaaGreatDoor
open Go Go.RowKit
attribute [local go_sem] ext_cell

/-- The node that stands for nothing. -/
def noFl : Fl := ⟨0, 0, 0, 0, [], none, 0, none, 0, 0⟩
/-- The spots hold those around a node that has been taken up, and how many of their Kids came up. -/
def SA (A : Nat → Spot) : Way → Prop
  | [] => (A 0).f = noFl
  | (par, i) :: rest => A (rest.length + 1) = ⟨par.f, (i : Int) + 1⟩ ∧ SA A rest
/-- The spots hold those around the next node. -/
def BA (A : Nat → Spot) : Way → Prop
  | [] => (A 0).f = noFl
  | (par, i) :: rest => A (rest.length + 1) = ⟨par.f, (i : Int)⟩ ∧ SA A rest
theorem SA.tail {A : Nat → Spot} : ∀ {s rest : Way} {x : Tr × Nat}, SA A (s ++ x :: rest) → A (rest.length + 1) = ⟨x.1.f, (x.2 : Int) + 1⟩ ∧ SA A rest
  | [], _, _, h => h
  | _ :: s, _, _, h => SA.tail (s := s) h.2
theorem SA.same {A B : Nat → Spot} : ∀ {p : Way}, SA A p → (∀ i, i ≤ p.length → B i = A i) → SA B p
  | [], h, hb => by unfold SA at *; rw [hb 0 (Nat.le_refl _)]; exact h
  | (par, i) :: rest, h, hb => ⟨by rw [hb _ (by simp)]; exact h.1, h.2.same fun i hi => hb i (by simp; omega)⟩
/-- Next behind a node that has been taken up. -/
theorem BA.next {A : Nat → Spot} {x y : El} (h : Nx x y) (hs : SA A x.1) (hx : A (x.1.length + 1) = ⟨x.2.f, 0⟩) : BA A y.1 := by
  obtain ⟨par, j, rest, e, (⟨rfl, rfl, rfl⟩ | ⟨s, i, e2, rfl⟩)⟩ := h
  · rw [e]
    exact ⟨hx, hs⟩
  · rw [e]
    rw [e2] at hs
    exact hs.tail
/-- What taking a node up leaves. -/
def enterA (A : Nat → Spot) (d : Nat) (f : Fl) : Nat → Spot := setS (setS A d ⟨(A d).f, (A d).s + 1⟩) (d + 1) ⟨f, 0⟩
theorem SA.enter {A : Nat → Spot} {p : Way} {f : Fl} (h : BA A p) : SA (enterA A p.length f) p ∧ enterA A p.length f (p.length + 1) = ⟨f, 0⟩ := by
  refine ⟨?_, by simp [enterA, setS]⟩
  cases p with
  | nil => simp only [SA, enterA, setS, List.length_nil]; exact h
  | cons x rest =>
    obtain ⟨par, i⟩ := x
    refine ⟨?_, h.2.same fun i hi => ?_⟩
    · simp only [enterA, setS, List.length_cons]
      rw [if_neg (by omega), if_pos trivial, h.1]
    · simp only [enterA, setS, List.length_cons]
      rw [if_neg (by omega), if_neg (by omega)]
def endP (p : Way) (num : Int) : Bool := p.any fun x => x.1.f.k == 7 && x.1.f.n == num
theorem SA.inEq {A : Nat → Spot} {num : Int} : ∀ {p : Way}, SA A p → inB A (p.length + 1) num = endP p num
  | [], h => by
    unfold SA at h
    rw [inB_succ]
    simp [inB, endP, h, noFl]
  | (par, i) :: rest, h => by
    rw [List.length_cons, inB_succ, h.2.inEq, h.1]
    simp only [endP, List.any_cons]
    rw [Bool.or_comm]
theorem BA.inEq {A : Nat → Spot} {num : Int} : ∀ {p : Way}, BA A p → inB A (p.length + 1) num = endP p num
  | [], h => SA.inEq (p := []) h
  | (par, i) :: rest, h => by
    rw [List.length_cons, inB_succ, h.2.inEq, h.1]
    simp only [endP, List.any_cons]
    rw [Bool.or_comm]
def standP (p : Way) (k : Int) : Bool := match p with
  | [] => kindB k
  | (par, i) :: _ => standB par.f.k (i : Int) par.ks.length k
theorem BA.stand {A : Nat → Spot} {k : Int} : ∀ {p : Way}, BA A p → (∀ x ∈ p, x.1.f.kl = x.1.ks.length) → standB (A p.length).f.k (A p.length).s (A p.length).f.kl k = standP p k
  | [], h, _ => by
    unfold BA at h
    simp [standB, standP, h, noFl]
  | (par, i) :: rest, h, hk => by
    rw [List.length_cons, h.1]
    simp only [standP]
    rw [hk (par, i) (List.mem_cons_self ..)]
open Classical in
/-- The answer about one node. -/
noncomputable def lookM (c f : Bool) (p : Way) (t : Tr) (ah gr : Nat) : Int :=
  if ah = 2000 then 42 else if 40 < p.length + 1 then 43
  else if ¬ (standP p t.f.k = true ∧ fieldsM c f ((gr : Int) + 1) t.f ∧ kidsB t.f.k t.ks.length = true) then 50
  else if t.f.k = 7 ∧ 30 < t.f.n then 42
  else if t.f.k = 8 ∧ ¬ (endP p t.f.n = false ∧ t.f.n ≤ (gr : Int)) then 41 else 0
theorem rightFields_b {w : World} (F : Fl) (c f : Bool) (g : Int) {r : Bool} (hr : r = true ↔ fieldsM c f g F) (h : ArgR w (.slice F.rq F.rs.length F.rc) F.rs) (hF : Fit F.rs) (hl : F.rs.length + 3 ≤ 8796093022208) :
    Calls Tryz.prog 60 #[.agg #[.int .i64 F.k, .int .i64 F.n, .int .i64 F.mn, .int .i64 F.mx, .slice F.rq F.rs.length F.rc, .slice F.kq F.kl F.kc], .agg #[.bool c, .bool f], .int .i64 g] w fun e w' => e = .returned (.bool r) ∧ Below w.heap.size w w' :=
  (rightFields_c F c f g h hF hl).mono fun e w' ⟨b, h1, h2, h3⟩ => ⟨by rw [h1]; congr 2; rw [Bool.eq_iff_iff, h2, hr], h3⟩

/-- What look answers, and what it leaves. -/
def LookPost (w : World) (b : Nat) (c f : Bool) (A : Nat → Spot) (p : Way) (t : Tr) (ah gr : Nat) (e : Ending) (w' : World) : Prop :=
  e = .returned (.int .i64 (lookM c f p t ah gr)) ∧ (lookM c f p t ah gr = 0 → CB w' b c f ((ah : Int) + 1) ((gr : Int) + (if t.f.k = 7 then 1 else 0)) (enterA A p.length t.f)) ∧ Fr (fun z => z = b) w w'

set_option maxRecDepth 100000 in
set_option maxHeartbeats 8000000 in
theorem look_c {w : World} {b : Nat} {c f : Bool} {ah gr : Nat} {A : Nat → Spot} {p : Way} {t : Tr} (h : CB w b c f (ah : Int) (gr : Int) A) (hb : BA A p) (hk : ∀ x ∈ p, x.1.f.kl = x.1.ks.length) (hl : (A p.length).f.kl ≤ 9223372036854775807) (hs : 0 ≤ (A p.length).s ∧ (A p.length).s ≤ 1000000) (hn : NA w t) (ha : ah ≤ 2000) (hg : gr ≤ 2000) (hp : p.length ≤ 1000000) :
    Calls Tryz.prog 29 #[.pointer (some ⟨b, 0, none⟩), .int .i64 ((p.length : Int) + 1), .agg #[.int .i64 t.f.k, .int .i64 t.f.n, .int .i64 t.f.mn, .int .i64 t.f.mx, .slice t.f.rq t.f.rs.length t.f.rc, .slice t.f.kq t.f.kl t.f.kc]] w (LookPost w b c f A p t ah gr) := by
  obtain ⟨m, hm⟩ : ∃ m, lookM c f p t ah gr = m := ⟨_, rfl⟩
  have HM := hide hm
  have H := hide h
  have HB := hide hb
  have HN := hide hn
  have HKK := hide hk
  have HSS := hide hs
  have HLL := hide hl
  have B1 : Hid (Below w.heap.size w (w.alloc (.cells #[.int .i64 t.f.k, .int .i64 t.f.n, .int .i64 t.f.mn, .int .i64 t.f.mx, .slice t.f.rq t.f.rs.length t.f.rc, .slice t.f.kq t.f.kl t.f.kc] 28))) := (Below.refl _ _).alloc (Nat.le_refl _) _
  have N1 : Hid (BoxN (w.alloc (.cells #[.int .i64 t.f.k, .int .i64 t.f.n, .int .i64 t.f.mn, .int .i64 t.f.mx, .slice t.f.rq t.f.rs.length t.f.rc, .slice t.f.kq t.f.kl t.f.kc] 28)) w.heap.size t.f) := alloc_new w _
  have H1 : Hid (CB (w.alloc (.cells #[.int .i64 t.f.k, .int .i64 t.f.n, .int .i64 t.f.mn, .int .i64 t.f.mx, .slice t.f.rq t.f.rs.length t.f.rc, .slice t.f.kq t.f.kl t.f.kc] 28)) b c f (ah : Int) (gr : Int) A) := h.kept B1.out
  have A1 : Hid (NA (w.alloc (.cells #[.int .i64 t.f.k, .int .i64 t.f.n, .int .i64 t.f.mn, .int .i64 t.f.mx, .slice t.f.rq t.f.rs.length t.f.rc, .slice t.f.kq t.f.kl t.f.kc] 28)) t) := hn.ck (CK.of_below B1.out)
  have F1 : Hid (Fr (fun z => z = b) w (w.alloc (.cells #[.int .i64 t.f.k, .int .i64 t.f.n, .int .i64 t.f.mn, .int .i64 t.f.mx, .slice t.f.rq t.f.rs.length t.f.rc, .slice t.f.kq t.f.kl t.f.kc] 28))) := Fr.of_below B1.out
  have hne : w.heap.size ≠ b := by have := h.lt; omega
  unfold lookM at hm
  clear h hb hn hk hs hl
  by_cases h1 : ah = 2000
  · rw [if_pos h1] at hm
    subst hm h1
    have c2 := H1.out.c2
    have lb := H1.out.lt
    go_enter Tryz.func29, Tryz.ntmps29
    go_wp2
    go_ret
    exact ⟨by rw [HM.out]; rfl, fun z => (by rw [HM.out] at z; cases z), F1.out⟩
  · rw [if_neg h1] at hm
    have h1b : (((ah : Int)) == 2000) = false := by simp; omega
    by_cases h2 : 40 < p.length + 1
    · rw [if_pos h2] at hm
      subst hm
      have c2 := H1.out.c2
      have lb := H1.out.lt
      have h2b : (40 : Int) < (p.length : Int) + 1 := by omega
      go_enter Tryz.func29, Tryz.ntmps29
      go_wp2
      go_ret
      exact ⟨by rw [HM.out]; rfl, fun z => (by rw [HM.out] at z; cases z), F1.out⟩
    · rw [if_neg h2] at hm
      have h2b : ¬ (40 : Int) < (p.length : Int) + 1 := by omega
      have c0 := H1.out.c0
      have c1 := H1.out.c1
      have c2 := H1.out.c2
      have c3 := H1.out.c3
      have lb := H1.out.lt
      obtain ⟨n0, n1, n2, n3, n4, n5⟩ := N1.out.six
      simp only [Nat.zero_add] at n1 n2 n3 n4 n5
      have ln := lt_of_heap N1.out
      have HMM := hide hm
      clear hm
      go_enter Tryz.func29, Tryz.ntmps29
      go_upto_region 5 with fail
      generalize (w.alloc (.cells #[.int .i64 t.f.k, .int .i64 t.f.n, .int .i64 t.f.mn, .int .i64 t.f.mx, .slice t.f.rq t.f.rs.length t.f.rc, .slice t.f.kq t.f.kl t.f.kc] 28)) = w1 at *
      have e41 : p.length < 41 := by omega
      obtain ⟨sb, hsb⟩ : ∃ sb, standP p t.f.k = sb := ⟨_, rfl⟩
      obtain ⟨rf, hrf⟩ : ∃ rf : Bool, rf = true ↔ fieldsM c f ((gr : Int) + 1) t.f := ⟨@decide (fieldsM c f ((gr : Int) + 1) t.f) (Classical.propDecidable _), by simp⟩
      obtain ⟨kb, hkb⟩ : ∃ kb, kidsB t.f.k t.ks.length = kb := ⟨_, rfl⟩
      have MS : Hid (∀ z : Ext w1, Calls Tryz.prog 59 #[.pointer (some ⟨b, 0, none⟩), .int .i64 ((p.length : Int) + 1), .int .i64 t.f.k] z.val fun e w'' => e = .returned (.bool sb) ∧ ∃ y : Ext w1, w'' = y.val) := fun z => ext_call ((mayStand_c (H1.out.kept (ext_below z)) e41 t.f.k HLL.out).mono fun e w' ⟨h1, h2⟩ => ⟨by rw [h1, HB.out.stand HKK.out, hsb], h2⟩)
      have RF : Hid (∀ z : Ext w1, Calls Tryz.prog 60 #[.agg #[.int .i64 t.f.k, .int .i64 t.f.n, .int .i64 t.f.mn, .int .i64 t.f.mx, .slice t.f.rq t.f.rs.length t.f.rc, .slice t.f.kq t.f.kl t.f.kc], .agg #[.bool c, .bool f], .int .i64 ((gr : Int) + 1)] z.val fun e w'' => e = .returned (.bool rf) ∧ ∃ y : Ext w1, w'' = y.val) := fun z => ext_call (rightFields_b t.f c f _ hrf (A1.out.r.kept (ext_below z)) A1.out.fit A1.out.len)
      have RK : Hid (∀ z : Ext w1, Calls Tryz.prog 61 #[.agg #[.int .i64 t.f.k, .int .i64 t.f.n, .int .i64 t.f.mn, .int .i64 t.f.mx, .slice t.f.rq t.f.rs.length t.f.rc, .slice t.f.kq t.f.kl t.f.kc]] z.val fun e w'' => e = .returned (.bool kb) ∧ ∃ y : Ext w1, w'' = y.val) := fun z => ext_call ((rightKids_c t.f z.val).mono fun e w' ⟨h1, h2⟩ => ⟨by rw [h1, A1.out.kl, hkb], h2⟩)
      have HX := hide (⟨hsb, hrf, hkb⟩ : standP p t.f.k = sb ∧ (rf = true ↔ fieldsM c f ((gr : Int) + 1) t.f) ∧ kidsB t.f.k t.ks.length = kb)
      clear hsb hrf hkb
      cases sb with
      | false =>
        have E := HMM.out
        rw [if_pos (by rw [HX.out.1]; simp)] at E
        subst E
        refine wp_region_ext (by kernel_rfl) (by kernel_rfl) ?_
        repeat (go_big_quiet_step (first | exact rfl | (go_at_call 59; with_reducible exact MS.out _) | (go_at_call 60; with_reducible exact RF.out _) | (go_at_call 61; with_reducible exact RK.out _)))
        refine wpQuiet_nil ?_
        intro w2 hw
        have hb2 := ext_of hw
        clear hw
        have F2 : Hid (Fr (fun z => z = b) w w2) := F1.out.trans (Fr.of_below hb2)
        clear hb2 MS RF RK
        go_wp2
        go_ret
        exact ⟨by rw [HM.out]; rfl, fun z => (by rw [HM.out] at z; cases z), F2.out⟩
      | true =>
        cases rf with
        | false =>
          have E := HMM.out
          rw [if_pos (fun z => by have := HX.out.2.1.2 z.2.1; cases this)] at E
          subst E
          refine wp_region_ext (by kernel_rfl) (by kernel_rfl) ?_
          repeat (go_big_quiet_step (first | exact rfl | (go_at_call 59; with_reducible exact MS.out _) | (go_at_call 60; with_reducible exact RF.out _) | (go_at_call 61; with_reducible exact RK.out _)))
          refine wpQuiet_nil ?_
          intro w2 hw
          have hb2 := ext_of hw
          clear hw
          have F2 : Hid (Fr (fun z => z = b) w w2) := F1.out.trans (Fr.of_below hb2)
          clear hb2 MS RF RK
          go_wp2
          go_ret
          exact ⟨by rw [HM.out]; rfl, fun z => (by rw [HM.out] at z; cases z), F2.out⟩
        | true =>
          cases kb with
          | false =>
            have E := HMM.out
            rw [if_pos (fun z => by have := HX.out.2.2; rw [z.2.2] at this; cases this)] at E
            subst E
            refine wp_region_ext (by kernel_rfl) (by kernel_rfl) ?_
            repeat (go_big_quiet_step (first | exact rfl | (go_at_call 59; with_reducible exact MS.out _) | (go_at_call 60; with_reducible exact RF.out _) | (go_at_call 61; with_reducible exact RK.out _)))
            refine wpQuiet_nil ?_
            intro w2 hw
            have hb2 := ext_of hw
            clear hw
            have F2 : Hid (Fr (fun z => z = b) w w2) := F1.out.trans (Fr.of_below hb2)
            clear hb2 MS RF RK
            go_wp2
            go_ret
            exact ⟨by rw [HM.out]; rfl, fun z => (by rw [HM.out] at z; cases z), F2.out⟩
          | true =>
            have E := HMM.out
            rw [if_neg (fun z => z ⟨HX.out.1, HX.out.2.1.1 rfl, HX.out.2.2⟩)] at E
            refine wp_region_ext (by kernel_rfl) (by kernel_rfl) ?_
            repeat (go_big_quiet_step (first | exact rfl | (go_at_call 59; with_reducible exact MS.out _) | (go_at_call 60; with_reducible exact RF.out _) | (go_at_call 61; with_reducible exact RK.out _)))
            refine wpQuiet_nil ?_
            intro w2 hw
            have hb2 := ext_of hw
            clear hw
            have F2 : Hid (Fr (fun z => z = b) w w2) := F1.out.trans (Fr.of_below hb2)
            have H2 := hide (H1.out.kept hb2)
            have N2 : Hid (BoxN w2 w.heap.size t.f) := (hb2.block _ (lt_of_heap N1.out)).trans N1.out
            clear hb2 MS RF RK n0 n1 n2 n3 n4 n5 c0 c1 c2 c3 lb ln H1 N1 F1
            obtain ⟨n0, n1, n2, n3, n4, n5⟩ := N2.out.six
            simp only [Nat.zero_add] at n1 n2 n3 n4 n5
            have XX := H2
            have FF := F2
            by_cases k7 : t.f.k = 7
            · have e7 : (t.f.k == 7) = true := by simpa using k7
              have e8 : (t.f.k == 8) = false := by simp [k7]
              by_cases g30 : 30 < t.f.n
              · rw [if_pos ⟨k7, g30⟩] at E
                subst E
                clear k7
                go_wp2
                go_ret
                exact ⟨by rw [HM.out]; rfl, fun z => (by rw [HM.out] at z; cases z), F2.out⟩
              · rw [if_neg (fun z => g30 z.2), if_neg (fun z => by have := z.1; omega)] at E
                subst E
                clear k7
                go_wp2_with (go_at_call 63; (with_reducible refine (enter_c XX.out (d := p.length) (by omega) t.f (by omega) (by omega) HSS.out).mono ?_); rintro e w5 ⟨rfl, h51, h52⟩; have X5 : Hid (CB w5 b c f ((ah : Int) + 1) ((gr : Int) + (if t.f.k = 7 then 1 else 0)) (enterA A p.length t.f)) := h51; have F5 : Hid (Fr (fun z => z = b) w w5) := FF.out.trans h52; clear h51 h52)
                go_ret
                exact ⟨by rw [HM.out]; rfl, fun _ => X5.out, F5.out⟩
            · have e7 : (t.f.k == 7) = false := by simpa using k7
              rw [if_neg (fun z => k7 z.1)] at E
              by_cases k8 : t.f.k = 8
              · have e8 : (t.f.k == 8) = true := by simpa using k8
                have HE : Calls Tryz.prog 62 #[.pointer (some ⟨b, 0, none⟩), .int .i64 ((p.length : Int) + 1), .int .i64 t.f.n] w2 fun e w' => e = .returned (.bool (!endP p t.f.n && decide (t.f.n ≤ (gr : Int)))) ∧ Below w2.heap.size w2 w' := (hasEnded_c H2.out (d := p.length + 1) (by omega) t.f.n).mono fun e w' ⟨h1, h2⟩ => ⟨by rw [h1, HB.out.inEq], h2⟩
                by_cases hen : endP p t.f.n = false ∧ t.f.n ≤ (gr : Int)
                · rw [if_neg (fun z => z.2 hen)] at E
                  subst E
                  rw [hen.1] at HE
                  have en : (!false && decide (t.f.n ≤ (gr : Int))) = true := by simp [hen.2]
                  rw [en] at HE
                  have HE' := hide HE
                  clear HE k8 hen XX FF
                  go_wp2_with first | (go_at_call 62; (with_reducible refine (HE'.out).mono ?_); rintro e w3 ⟨rfl, h3⟩; have XX := hide (H2.out.kept h3); have FF : Hid (Fr (fun z => z = b) w w3) := F2.out.trans (Fr.of_below h3); have N3 : BoxN w3 w.heap.size t.f := (h3.block _ (lt_of_heap N2.out)).trans N2.out; obtain ⟨r0, r1, r2, r3, r4, r5⟩ := N3.six; simp only [Nat.zero_add] at r1 r2 r3 r4 r5; clear h3 N3) | (go_at_call 63; (with_reducible refine (enter_c XX.out (d := p.length) (by omega) t.f (by omega) (by omega) HSS.out).mono ?_); rintro e w5 ⟨rfl, h51, h52⟩; have X5 : Hid (CB w5 b c f ((ah : Int) + 1) ((gr : Int) + (if t.f.k = 7 then 1 else 0)) (enterA A p.length t.f)) := h51; have F5 : Hid (Fr (fun z => z = b) w w5) := FF.out.trans h52; clear h51 h52)
                  go_ret
                  exact ⟨by rw [HM.out]; rfl, fun _ => X5.out, F5.out⟩
                · rw [if_pos ⟨k8, hen⟩] at E
                  subst E
                  have en : (!endP p t.f.n && decide (t.f.n ≤ (gr : Int))) = false := by
                    cases hq : endP p t.f.n
                    · simp; exact Int.not_le.1 (fun z => hen ⟨hq, z⟩)
                    · rfl
                  rw [en] at HE
                  have HE' := hide HE
                  clear HE k8 hen XX FF
                  go_wp2_with (go_at_call 62; (with_reducible refine (HE'.out).mono ?_); rintro e w3 ⟨rfl, h3⟩; have FF : Hid (Fr (fun z => z = b) w w3) := F2.out.trans (Fr.of_below h3); clear h3)
                  go_ret
                  exact ⟨by rw [HM.out]; rfl, fun z => (by rw [HM.out] at z; cases z), FF.out⟩
              · have e8 : (t.f.k == 8) = false := by simpa using k8
                rw [if_neg (fun z => k8 z.1)] at E
                subst E
                go_wp2_with (go_at_call 63; (with_reducible refine (enter_c XX.out (d := p.length) (by omega) t.f (by omega) (by omega) HSS.out).mono ?_); rintro e w5 ⟨rfl, h51, h52⟩; have X5 : Hid (CB w5 b c f ((ah : Int) + 1) ((gr : Int) + (if t.f.k = 7 then 1 else 0)) (enterA A p.length t.f)) := h51; have F5 : Hid (Fr (fun z => z = b) w w5) := FF.out.trans h52; clear h51 h52)
                go_ret
                exact ⟨by rw [HM.out]; rfl, fun _ => X5.out, F5.out⟩
end Go.Proofs.YtpfdapnfkghgkaaGreatDoor
