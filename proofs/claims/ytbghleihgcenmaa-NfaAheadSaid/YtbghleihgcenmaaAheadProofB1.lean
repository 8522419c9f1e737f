/-
  Parts of the proof.
-/
import Derived.Test.YtbghleihgcenmaaAheadProofB0
set_option linter.unusedSimpArgs false
namespace Go.Proofs.Ytbghleihgcenmaa
open Go Go.RowKit
attribute [local go_sem] Oper.semAt_some
section
variable {P : List Ins} {s t : List UInt8}
theorem dec_len {k pl n : Nat} : decide (k + pl = k + n) = decide (pl = n) := by
  by_cases h : pl = n
  · rw [decide_eq_true h, decide_eq_true (by omega)]
  · rw [decide_eq_false h, decide_eq_false (by omega)]
theorem rc_ahead (hno : ∀ i ∈ P, i.op ≠ 4) {b pl : Nat} {a : Int} (h : Rc P s b pl a) : Rc P (t ++ s) (t.length + b) (t.length + pl) a := by
  refine h.ind (Q := fun pl a => Rc P (t ++ s) (t.length + b) (t.length + pl) a) Rc.start (fun pl a i x _ q hi hx => q.eps hi ?_) (fun pl a i c _ q hi ho hc hs => q.byte hi ho ?_ hs)
  · unfold epsP at hx ⊢
    rw [List.length_append, dec_len, epsL_bg (b2 := decide (pl = 0)) (hno i (List.mem_of_getElem? hi))]
    exact hx
  · rw [List.getElem?_append_right (by omega), show t.length + pl - t.length = pl by omega]
    exact hc
theorem rc_back (hno : ∀ i ∈ P, i.op ≠ 4) {B pl : Nat} {a : Int} (h : Rc P (t ++ s) B pl a) : ∀ b, B = t.length + b → ∃ q, pl = t.length + q ∧ Rc P s b q a := fun b hb => by
  refine h.ind (Q := fun pl a => ∃ q, pl = t.length + q ∧ Rc P s b q a) ⟨b, hb, Rc.start⟩ (fun pl a i x _ q hi hx => ?_) (fun pl a i c _ q hi ho hc hs => ?_)
  · obtain ⟨q, rfl, q1⟩ := q
    refine ⟨q, rfl, q1.eps hi ?_⟩
    unfold epsP at hx ⊢
    rw [List.length_append, dec_len, epsL_bg (b2 := decide (q = 0)) (hno i (List.mem_of_getElem? hi))] at hx
    exact hx
  · obtain ⟨q, rfl, q1⟩ := q
    refine ⟨q + 1, by omega, q1.byte hi ho ?_ hs⟩
    rw [List.getElem?_append_right (by omega), show t.length + q - t.length = q by omega] at hc
    exact hc
theorem mt_ahead (hno : ∀ i ∈ P, i.op ≠ 4) {b e : Nat} (h : Mt P s b e) : Mt P (t ++ s) (t.length + b) (t.length + e) := by
  obtain ⟨a, i, hr, hi, ho⟩ := h
  exact ⟨a, i, rc_ahead hno hr, hi, ho⟩
theorem mt_back (hno : ∀ i ∈ P, i.op ≠ 4) {b E : Nat} (h : Mt P (t ++ s) (t.length + b) E) : ∃ e, E = t.length + e ∧ Mt P s b e := by
  obtain ⟨a, i, hr, hi, ho⟩ := h
  obtain ⟨q, h1, h2⟩ := rc_back hno hr b rfl
  exact ⟨q, h1, a, i, h2, hi, ho⟩
theorem lgs_ahead (hno : ∀ i ∈ P, i.op ≠ 4) {n m : Int} {ok ok2 : Bool} (h : LgS P s 0 n ok) (h2 : LgS P (t ++ s) t.length m ok2) : ok2 = ok ∧ (ok = true → m = n + t.length) := by
  rcases h with ⟨rfl, _, q⟩ | ⟨rfl, e, rfl, h1, q⟩
  · rcases h2 with ⟨rfl, _, _⟩ | ⟨_, E, _, h3, _⟩
    · exact ⟨rfl, fun e => by cases e⟩
    · obtain ⟨e, _, h4⟩ := mt_back (b := 0) hno h3
      exact absurd h4 (q e)
  · have h5 := mt_ahead (t := t) hno h1
    rcases h2 with ⟨_, _, q2⟩ | ⟨rfl, E, rfl, h3, q2⟩
    · exact absurd h5 (q2 _)
    · obtain ⟨e2, rfl, h4⟩ := mt_back (b := 0) hno h3
      have := q _ h4
      have := q2 _ h5
      exact ⟨rfl, fun _ => by omega⟩
theorem fin_ahead (hno : ∀ i ∈ P, i.op ≠ 4) {F T F2 T2 : Int} {ok ok2 : Bool} (h : FinM P s 0 s.length ok F T) (h2 : FinM P (t ++ s) t.length (t.length + s.length) ok2 F2 T2) : ok2 = ok ∧ (ok = true → F2 = F + t.length ∧ T2 = T + t.length) := by
  cases ok with
  | false =>
    cases ok2 with
    | false => exact ⟨rfl, fun e => by cases e⟩
    | true =>
      obtain ⟨B, E, _, _, q1, q2, h3, _⟩ := h2.yes rfl
      obtain ⟨b, rfl⟩ : ∃ b, B = t.length + b := ⟨B - t.length, by omega⟩
      obtain ⟨e, _, h4⟩ := mt_back hno h3
      exact absurd h4 (h.no rfl b e (Nat.zero_le _) (by omega))
  | true =>
    obtain ⟨b, e, rfl, rfl, q1, q2, h3, q3⟩ := h.yes rfl
    have h5 := mt_ahead (t := t) hno h3
    cases ok2 with
    | false => exact absurd h5 (h2.no rfl _ _ (by omega) (by omega))
    | true =>
      obtain ⟨B, E, rfl, rfl, r1, r2, h4, r3⟩ := h2.yes rfl
      obtain ⟨b2, rfl⟩ : ∃ b, B = t.length + b := ⟨B - t.length, by omega⟩
      obtain ⟨e2, rfl, h6⟩ := mt_back hno h4
      have k1 := q3 b2 e2 (Nat.zero_le _) (by omega) h6
      have k2 := r3 _ _ (by omega) (by omega) h5
      refine ⟨rfl, fun _ => ?_⟩
      have hb : b2 = b := by omega
      subst hb
      have := k1.2 rfl
      have := k2.2 rfl
      omega
theorem lgs_bd {n : Int} {ok : Bool} (h : LgS P s 0 n ok) (e : ok = true) : 0 ≤ n ∧ n ≤ s.length := by
  subst e
  obtain ⟨e, rfl, _, h⟩ := lgs_true h
  omega
theorem fin_bd {a l : Nat} {F T : Int} {ok : Bool} (h : FinM P s a l ok F T) (hl : l ≤ s.length) (e : ok = true) : (0 ≤ F ∧ F ≤ s.length) ∧ 0 ≤ T ∧ T ≤ s.length := by
  obtain ⟨b, e, rfl, rfl, _, h2, h3, _⟩ := h.yes e
  have := h3.le (by omega)
  omega
end
set_option maxRecDepth 100000 in
set_option maxHeartbeats 8000000 in
theorem ahead_c {w : World} {p : Pg} (h : PgI w p) (t s : ByteArray) (ht : t.size ≤ 140737488355328) (hs : s.size ≤ 140737488355328) : Calls Try.prog 4 #[.agg #[.slice p.q p.L.length p.c, .int .i64 p.g, .int .i64 p.k, .bool p.f], .string t, .string s] w fun e w' => e = .returned (.bool true) ∧ Below w.heap.size w w' := by
  have B1 : Hid (Below w.heap.size w (w.alloc (.cells #[.slice p.q p.L.length p.c, .int .i64 p.g, .int .i64 p.k, .bool p.f] 24))) := (Below.refl _ _).alloc (Nat.le_refl _) _
  have X1 : Hid ((w.alloc (.cells #[.slice p.q p.L.length p.c, .int .i64 p.g, .int .i64 p.k, .bool p.f] 24)).heap[w.heap.size]? = some (.cells #[.slice p.q p.L.length p.c, .int .i64 p.g, .int .i64 p.k, .bool p.f] 24 (0, 0))) := alloc_new w _
  have H := hide h
  have HO := hide (fun (V : World) (hV : Below w.heap.size w V) => has_op (h.kept hV) 4)
  have hno := hide (fun (q : hasO p 4 = false) => hasO_no q)
  obtain ⟨rd, hrd⟩ : ∃ r, hasO p 4 = r := ⟨_, rfl⟩
  rw [hrd] at HO hno
  have HS := hide hs
  have HT := hide ht
  have g1 : ¬ 9223372036854775807 < t.size + s.size := by omega
  clear h hrd hs ht
  go_enter Try.func4, Try.ntmps4
  go_upto_region 1 with fail
  generalize (w.alloc (.cells #[.slice p.q p.L.length p.c, .int .i64 p.g, .int .i64 p.k, .bool p.f] 24)) = w1 at B1 X1 ⊢
  go_upto_region 2 with (go_at_call 7; (with_reducible refine (known_c _).mono ?_); rintro e w2 ⟨rfl, h2⟩; have B2 := hide (chain B1.out h2 (Nat.le_refl _)); have X2 := hide ((h2.block _ (lt_of_heap X1.out)).trans X1.out); clear h2)
  have p0 := cell_row X2.out (i := 0) rfl
  have p1 := cell_row X2.out (i := 1) rfl
  have p2 := cell_row X2.out (i := 2) rfl
  have p3 := cell_row X2.out (i := 3) rfl
  go_upto_region 3 with (go_at_call 10; (with_reducible refine (HO.out _ B2.out).mono ?_); rintro e w3 ⟨rfl, h2⟩; have B3 := hide (chain B2.out h2 (Nat.le_refl _)); have X3 := hide ((h2.block _ (lt_of_heap X2.out)).trans X2.out); clear h2)
  clear p0 p1 p2 p3
  have p0 := cell_row X3.out (i := 0) rfl
  have p1 := cell_row X3.out (i := 1) rfl
  have p2 := cell_row X3.out (i := 2) rfl
  have p3 := cell_row X3.out (i := 3) rfl
  by_cases hz : wrM p s.size 0 = 0
  case neg =>
    have LB := hide (longest_bad (H.out.kept B3.out) s 0 hz)
    obtain ⟨v, hv⟩ : ∃ v, wrM p s.size 0 = v := ⟨_, rfl⟩
    rw [hv] at LB hz
    have z0 : (v != 0) = true := by simp [hz]
    clear hv hz
    go_wp2_with (go_at_call 8; (with_reducible refine (LB.out).mono ?_); rintro e w4 ⟨rfl, h2⟩; have B4 := hide (chain B3.out h2 (Nat.le_refl _)); clear h2)
    go_ret
    exact ⟨rfl, B4.out⟩
  case pos =>
    obtain ⟨hr, hf, -, -⟩ := wrM_ok hz
    have LO : Hid (Calls Try.prog 8 #[.agg #[.slice p.q p.L.length p.c, .int .i64 p.g, .int .i64 p.k, .bool p.f], .string s, .int .i64 0] w3 fun e w' => (∃ n ok st, e = .returned (.tuple #[.int .i64 n, .bool ok, .int .i64 st, .int .i64 0]) ∧ LgS p.L (sL s) 0 n ok) ∧ Below w3.heap.size w3 w') := longest_ok (H.out.kept B3.out) s 0 hz (by have := HS.out; omega)
    have HZ := hide (fun (n a : Nat) (ha : a ≤ n) => wrM_0 (p := p) (n := n) (pl := (a : Int)) hr hf (by omega) (by omega))
    clear hz hr hf
    cases rd with
    | true =>
      go_wp2_with (go_at_call 8; (with_reducible refine (LO.out).mono ?_); rintro e w4 ⟨⟨n, ok, st, rfl, h1⟩, h2⟩; have B4 := hide (chain B3.out h2 (Nat.le_refl _)); clear h1 h2)
      go_ret
      exact ⟨rfl, B4.out⟩
    | false =>
      have hno2 : Hid (∀ i ∈ p.L, i.op ≠ 4) := hide (by have := hno.out; simpa using this)
      clear hno
      go_upto_region 7 with (go_at_call 8; (with_reducible refine (LO.out).mono ?_); rintro e w4 ⟨⟨n, ok, st, rfl, h1⟩, h2⟩; have S4 := hide h1; have B4 := hide (chain B3.out h2 (Nat.le_refl _)); have X4 := hide ((h2.block _ (lt_of_heap X3.out)).trans X3.out); clear h1 h2)
      clear p0 p1 p2 p3 LO
      have p0 := cell_row X4.out (i := 0) rfl
      have p1 := cell_row X4.out (i := 1) rfl
      have p2 := cell_row X4.out (i := 2) rfl
      have p3 := cell_row X4.out (i := 3) rfl
      have L2 : Hid (Calls Try.prog 8 #[.agg #[.slice p.q p.L.length p.c, .int .i64 p.g, .int .i64 p.k, .bool p.f], .string (t ++ s), .int .i64 (t.size : Int)] w4 fun e w' => (∃ n ok st, e = .returned (.tuple #[.int .i64 n, .bool ok, .int .i64 st, .int .i64 0]) ∧ LgS p.L (sL t ++ sL s) (sL t).length n ok) ∧ Below w4.heap.size w4 w') := hide (by rw [← sL_app, sL_len]; exact longest_ok (H.out.kept B4.out) (t ++ s) t.size (HZ.out _ _ (by rw [size_app]; omega)) (by rw [size_app]; have := HS.out; have := HT.out; omega))
      go_upto_region 8 with (go_at_call 8; (with_reducible refine (L2.out).mono ?_); rintro e w5 ⟨⟨m, ok2, st2, rfl, h1⟩, h2⟩; have S5 := hide (lgs_ahead hno2.out S4.out h1); have B5 := hide (chain B4.out h2 (Nat.le_refl _)); have X5 := hide ((h2.block _ (lt_of_heap X4.out)).trans X4.out); clear h1 h2)
      obtain ⟨hk2, hmn⟩ := S5.out
      have HNB := hide (lgs_bd S4.out)
      subst hk2
      have HMN := hide hmn
      clear hmn S5 S4 L2 p0 p1 p2 p3
      have p0 := cell_row X5.out (i := 0) rfl
      have p1 := cell_row X5.out (i := 1) rfl
      have p2 := cell_row X5.out (i := 2) rfl
      have p3 := cell_row X5.out (i := 3) rfl
      have F1 : Hid (Calls Try.prog 9 #[.agg #[.slice p.q p.L.length p.c, .int .i64 p.g, .int .i64 p.k, .bool p.f], .string s, .int .i64 0] w5 fun e w' => (∃ F T ok st, e = .returned (.tuple #[.agg #[.int .i64 F, .int .i64 T], .bool ok, .int .i64 st, .int .i64 0]) ∧ FinM p.L (sL s) 0 (sL s).length ok F T) ∧ Below w5.heap.size w5 w') := hide (by rw [sL_len]; exact find_ok (H.out.kept B5.out) s 0 (HZ.out _ 0 (Nat.zero_le _)) (by have := HS.out; omega))
      go_upto_region 9 with (go_at_call 9; (with_reducible refine (F1.out).mono ?_); rintro e w6 ⟨⟨F, T, fd, st3, rfl, h1⟩, h2⟩; have S6 := hide h1; have B6 := hide (chain B5.out h2 (Nat.le_refl _)); have X6 := hide ((h2.block _ (lt_of_heap X5.out)).trans X5.out); clear h1 h2)
      clear p0 p1 p2 p3 F1
      have BA : Below w6.heap.size w6 (w6.alloc (.cells #[.int .i64 F, .int .i64 T] 30)) := (Below.refl _ _).alloc (Nat.le_refl _) _
      have X7 := hide ((BA.block _ (lt_of_heap X6.out)).trans X6.out)
      have Y7 : Hid ((w6.alloc (.cells #[.int .i64 F, .int .i64 T] 30)).heap[w6.heap.size]? = some (.cells #[.int .i64 F, .int .i64 T] 30 (0, 0))) := alloc_new w6 _
      have B7 := hide (chain B6.out BA (Nat.le_refl _))
      clear BA
      generalize (w6.alloc (.cells #[.int .i64 F, .int .i64 T] 30)) = w7 at X7 Y7 B7 ⊢
      have p0 := cell_row X7.out (i := 0) rfl
      have p1 := cell_row X7.out (i := 1) rfl
      have p2 := cell_row X7.out (i := 2) rfl
      have p3 := cell_row X7.out (i := 3) rfl
      have F2 : Hid (Calls Try.prog 9 #[.agg #[.slice p.q p.L.length p.c, .int .i64 p.g, .int .i64 p.k, .bool p.f], .string (t ++ s), .int .i64 (t.size : Int)] w7 fun e w' => (∃ F T ok st, e = .returned (.tuple #[.agg #[.int .i64 F, .int .i64 T], .bool ok, .int .i64 st, .int .i64 0]) ∧ FinM p.L (sL t ++ sL s) (sL t).length ((sL t).length + (sL s).length) ok F T) ∧ Below w7.heap.size w7 w') := hide (by
        have h := find_ok (H.out.kept B7.out) (t ++ s) t.size (HZ.out _ _ (by rw [size_app]; omega)) (by rw [size_app]; have := HS.out; have := HT.out; omega)
        rw [size_app, sL_app] at h
        rw [sL_len, sL_len]
        exact h)
      go_upto_region 10 with (go_at_call 9; (with_reducible refine (F2.out).mono ?_); rintro e w8 ⟨⟨F', T', fd2, st4, rfl, h1⟩, h2⟩; have S8 := hide (fin_ahead hno2.out S6.out h1); have B8 := hide (chain B7.out h2 (Nat.le_refl _)); have Y8 := hide ((h2.block _ (lt_of_heap Y7.out)).trans Y7.out); clear h1 h2)
      obtain ⟨hk3, hft⟩ := S8.out
      have HFB := hide (fin_bd S6.out (Nat.le_refl _))
      subst hk3
      have HFT := hide hft
      clear hft S8 S6 F2 p0 p1 p2 p3
      have BA : Below w8.heap.size w8 (w8.alloc (.cells #[.int .i64 F', .int .i64 T'] 30)) := (Below.refl _ _).alloc (Nat.le_refl _) _
      have Y9 := hide ((BA.block _ (lt_of_heap Y8.out)).trans Y8.out)
      have Z9 : Hid ((w8.alloc (.cells #[.int .i64 F', .int .i64 T'] 30)).heap[w8.heap.size]? = some (.cells #[.int .i64 F', .int .i64 T'] 30 (0, 0))) := alloc_new w8 _
      have B9 := hide (chain B8.out BA (Nat.le_refl _))
      clear BA
      generalize (w8.alloc (.cells #[.int .i64 F', .int .i64 T'] 30)) = w9 at Y9 Z9 B9 ⊢
      have y0 := cell_row Y9.out (i := 0) rfl
      have y1 := cell_row Y9.out (i := 1) rfl
      have z0 := cell_row Z9.out (i := 0) rfl
      have z1 := cell_row Z9.out (i := 1) rfl
      have HSb := HS.out
      have HTb := HT.out
      cases fd2 with
      | false =>
       cases ok2 with
       | false =>
        clear HNB HMN HFB HFT
        go_wp2
        go_ret
        exact ⟨rfl, B9.out⟩
       | true =>
        obtain ⟨n0, n1⟩ := HNB.out rfl
        rw [sL_len] at n1
        have em := HMN.out rfl
        rw [sL_len] at em
        subst em
        have hw1 : IntKind.wrap .i64 (n + (t.size : Int)) = n + (t.size : Int) := wrap_small _ (by omega) (by omega)
        clear HNB HMN HFB HFT
        go_wp2
        go_ret
        exact ⟨rfl, B9.out⟩
      | true =>
       cases ok2 with
       | false =>
        obtain ⟨⟨f0, f1⟩, f2, f3⟩ := HFB.out rfl
        rw [sL_len] at f1 f3
        obtain ⟨ef, et⟩ := HFT.out rfl
        rw [sL_len] at ef et
        subst ef
        subst et
        have hw2 : IntKind.wrap .i64 (F + (t.size : Int)) = F + (t.size : Int) := wrap_small _ (by omega) (by omega)
        have hw3 : IntKind.wrap .i64 (T + (t.size : Int)) = T + (t.size : Int) := wrap_small _ (by omega) (by omega)
        clear HNB HMN HFB HFT
        go_wp2
        go_ret
        exact ⟨rfl, B9.out⟩
       | true =>
        obtain ⟨n0, n1⟩ := HNB.out rfl
        rw [sL_len] at n1
        have em := HMN.out rfl
        rw [sL_len] at em
        subst em
        have hw1 : IntKind.wrap .i64 (n + (t.size : Int)) = n + (t.size : Int) := wrap_small _ (by omega) (by omega)
        obtain ⟨⟨f0, f1⟩, f2, f3⟩ := HFB.out rfl
        rw [sL_len] at f1 f3
        obtain ⟨ef, et⟩ := HFT.out rfl
        rw [sL_len] at ef et
        subst ef
        subst et
        have hw2 : IntKind.wrap .i64 (F + (t.size : Int)) = F + (t.size : Int) := wrap_small _ (by omega) (by omega)
        have hw3 : IntKind.wrap .i64 (T + (t.size : Int)) = T + (t.size : Int) := wrap_small _ (by omega) (by omega)
        clear HNB HMN HFB HFT
        go_wp2
        go_ret
        exact ⟨rfl, B9.out⟩
end Go.Proofs.Ytbghleihgcenmaa
