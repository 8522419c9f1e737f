/-
  Are two keys the same? Where does a key stand?
-/
import Derived.Test.YtmfljfedpdipiaaMem
namespace Go.Proofs.Ytmfljfedpdipiaa
open Go Go.RowKit
attribute [local go_sem] ext_cell

theorem take_ext {a c : List Int} {k : Nat} (h : a.take k = c.take k) (ha : k < a.length) (hc : k < c.length) : a.take (k + 1) = c.take (k + 1) ↔ a[k] = c[k] := by
  have h1 := take_next a k ha
  have h2 := take_next c k hc
  rw [h1, h2, h]
  constructor
  · intro q
    exact List.singleton_inj.1 (List.append_cancel_left q)
  · intro q
    rw [q]

set_option maxRecDepth 100000 in
set_option maxHeartbeats 2000000 in
theorem equal_c {w : World} {v1 v2 : Value} {a c : List Int} (h1 : ArgI w v1 a) (h2 : ArgI w v2 c) :
    Calls Try.prog 38 #[v1, v2] w fun e w' => e = .returned (.bool (decide (a = c))) ∧ Below w.heap.size w w' := by
  obtain ⟨q1, cap1, rfl, hlen1, hc1⟩ := h1.slice
  obtain ⟨q2, cap2, rfl, hlen2, hc2⟩ := h2.slice
  have HC1 : Hid (∀ (i : Nat) (x : Int), a[i]? = some x → ∃ g off, q1 = some ⟨g, off, none⟩ ∧ g < w.heap.size ∧ w.cell? ⟨g, off + i, none⟩ = some (.int .i64 x)) := hc1
  have HC2 : Hid (∀ (i : Nat) (x : Int), c[i]? = some x → ∃ g off, q2 = some ⟨g, off, none⟩ ∧ g < w.heap.size ∧ w.cell? ⟨g, off + i, none⟩ = some (.int .i64 x)) := hc2
  clear hc1 hc2 h1 h2
  unfold maxLen at hlen1 hlen2
  by_cases hl : a.length = c.length
  · have hL : Hid (a.length = c.length) := hl
    have hb1 : (((a.length : Nat) : Int) != ((c.length : Nat) : Int)) = false := by simp [hl]
    clear hl
    go_enter Try.func38, Try.ntmps38
    go_wp2
    go_loopw [13] (fun i wr => ∃ k : Nat, k ≤ a.length ∧ i = .int .i64 k ∧ a.take k = c.take k ∧ Below w.heap.size w wr) (fun i _ => a.length - (intOf i).toNat)
    case atStart => exact ⟨0, Nat.zero_le _, rfl, by simp, Below.refl _ _⟩
    case round =>
      obtain ⟨k, hk, rfl, ht, hb⟩ := hrel
      have HT : Hid (a.take k = c.take k) := ht
      have B : Hid (Below w.heap.size w wr) := hb
      clear ht hb
      by_cases hlt : k < a.length
      · have hltc : k < c.length := by have := hL.out; omega
        obtain ⟨g1, o1, rfl, hg1, hx1⟩ := HC1.out k _ (List.getElem?_eq_getElem hlt)
        obtain ⟨g2, o2, rfl, hg2, hx2⟩ := HC2.out k _ (List.getElem?_eq_getElem hltc)
        have HI : Hid (a.take (k + 1) = c.take (k + 1) ↔ a[k] = c[k]) := take_ext HT.out hlt hltc
        have HN : Hid (a[k] ≠ c[k] → a ≠ c) := fun q e => q (by simp [e])
        generalize a[k] = x at hx1 HI HN
        generalize c[k] = y at hx2 HI HN
        have d1 := (B.out.cell (p := ⟨g1, o1 + k, none⟩) hg1).trans hx1
        have d2 := (B.out.cell (p := ⟨g2, o2 + k, none⟩) hg2).trans hx2
        have s1 : g1 < wr.heap.size := Nat.lt_of_lt_of_le hg1 B.out.size
        have s2 : g2 < wr.heap.size := Nat.lt_of_lt_of_le hg2 B.out.size
        clear hx1 hx2
        have i0 : (0 : Int) ≤ (k : Int) := by omega
        have i1 : (k : Int) < (a.length : Int) := by omega
        have i2 : (k : Int) < (c.length : Int) := by omega
        by_cases hxy : x = y
        · have hxe : (x != y) = false := by simp [hxy]
          have HXY : Hid (x = y) := hxy
          clear hxy
          go_wp2
          refine wp_region_ext (by kernel_rfl) (by kernel_rfl) ?_
          repeat (go_big_quiet_step (first | exact rfl))
          refine wpQuiet_nil ?_
          intro w5 hw
          have hb5 := ext_of hw
          clear hw
          go_wp2
          go_roundw
          case rel => exact ⟨k + 1, by omega, by go_num, HI.out.2 HXY.out, B.out.trans (hb5.mono B.out.size)⟩
          case measure => simp [intOf]; omega
        · have hxe : (x != y) = true := by simp [hxy]
          have HXY : Hid (x ≠ y) := hxy
          clear hxy
          go_wp2
          refine wp_region_ext (by kernel_rfl) (by kernel_rfl) ?_
          repeat (go_big_quiet_step (first | exact rfl))
          refine wpQuiet_nil ?_
          intro w5 hw
          have hb5 := ext_of hw
          clear hw
          go_wp2
          go_ret
          exact ⟨by rw [decide_eq_false (HN.out HXY.out)]; rfl, B.out.trans (hb5.mono B.out.size)⟩
      · have i1 : ¬ ((k : Int) < (a.length : Int)) := by omega
        have HE : Hid (a = c) := (by
          have e := HT.out
          rw [List.take_of_length_le (by omega), List.take_of_length_le (by have := hL.out; omega)] at e
          exact e)
        go_wp2
        go_ret
        exact ⟨by rw [decide_eq_true HE.out]; rfl, B.out⟩
  · have hb1 : (((a.length : Nat) : Int) != ((c.length : Nat) : Int)) = true := by simp; omega
    have HN : Hid (¬ a = c) := fun e => hl (by rw [e])
    clear hl
    go_enter Try.func38, Try.ntmps38
    go_wp2
    go_ret
    exact ⟨by rw [decide_eq_false HN.out]; rfl, Below.refl _ _⟩

/-- What find answers. -/
inductive Found (P : Pl) (W : Nat) (k : List Int) : Nat → Bool → Prop
  | there (a : Nat) (e : Ent) (ha : P[a]? = some (some e)) (hk : e.key = k) : Found P W k a true
  | nowhere (h : k.length ≠ W ∨ P = []) : Found P W k 0 false
  | gap (d : Nat) (hl : k.length = W) (hd : ∀ x, x < d → ∃ e, P[pos P.length (hmN P.length k) x]? = some (some e)) (hdl : d < P.length) (hf : P[pos P.length (hmN P.length k) d]? = some none)
      (hn : ∀ (i : Nat) (e : Ent), P[i]? = some (some e) → e.key ≠ k) : Found P W k (pos P.length (hmN P.length k) d) false

set_option maxRecDepth 100000 in
set_option maxHeartbeats 4000000 in
theorem find_c {w : World} {b pb W M c : Nat} {P : Pl} (h : TB w b pb W M c P) (hp : P ≠ [] → Probe (hmN P.length) P) {v : Value} {k : List Int} (hz : ArgI w v k) :
    Calls Try.prog 20 #[.pointer (some ⟨b, 0, none⟩), v] w fun e w' => ∃ a th, e = .returned (.tuple #[.int .i64 (a : Nat), .bool th]) ∧ Found P W k a th ∧ Below w.heap.size w w' := by
  have H : Hid (TB w b pb W M c P) := h
  have HZ : Hid (ArgI w v k) := hz
  have HP : Hid (P ≠ [] → Probe (hmN P.length) P) := hp
  obtain ⟨q, cap, rfl, hlen, -⟩ := hz.slice
  unfold maxLen at hlen
  have c0 := h.c0
  have hW := h.hW
  clear h hz hp
  by_cases hl : k.length = W
  · have HL : Hid (k.length = W) := hl
    have hb1 : (((k.length : Nat) : Int) != ((W : Nat) : Int)) = false := by simp [hl]
    clear hl
    by_cases hP : P = []
    · have c3 : w.cell? ⟨b, 3, none⟩ = some (.slice none 0 0) := by rw [H.out.c3, hP]; rfl
      have HE : Hid (P = []) := hP
      clear hP
      go_enter Try.func20, Try.ntmps20
      go_wp2
      go_ret2
      exact ⟨0, false, rfl, .nowhere (.inr HE.out), Below.refl _ _⟩
    · have NE : Hid (P ≠ []) := hP
      have c3 := H.out.c3p hP
      have hpow := H.out.pow hP
      have PR : Hid (Probe (hmN P.length) P) := HP.out hP
      have P2 : Hid (Pow2 P.length) := H.out.hn hP
      have hb2 : (((P.length : Nat) : Int) == 0) = false := by simp; omega
      clear hP HP
      have hm := PR.out.lt k
      go_enter Try.func20, Try.ntmps20
      go_wp2_with (go_at_call 37; refine (home_c c3 H.out.ltb P2.out HZ.out).mono ?_; rintro e w1 ⟨rfl, hb⟩; have B1 : Hid (Below w.heap.size w w1) := hb; clear hb)
      go_loopw [6] (fun i wr => ∃ d : Nat, d < P.length ∧ i = .int .i64 (pos P.length (hmN P.length k) d : Nat) ∧ (∀ x, x < d → ∃ e, P[pos P.length (hmN P.length k) x]? = some (some e) ∧ e.key ≠ k) ∧ Below w.heap.size w wr) (fun i _ => P.length - dist P.length (hmN P.length k) (intOf i).toNat)
      case atStart => exact ⟨0, by omega, by rw [pos_zero hm], fun x hx => absurd hx (Nat.not_lt_zero _), B1.out⟩
      case round =>
        obtain ⟨d, hd, rfl, hall, hb⟩ := hrel
        have HA : Hid (∀ x, x < d → ∃ e, P[pos P.length (hmN P.length k) x]? = some (some e) ∧ e.key ≠ k) := hall
        have B : Hid (Below w.heap.size w wr) := hb
        clear hall hb B1 c3 c0
        have T : Hid (TB wr b pb W M c P) := H.out.kept B.out
        have c3 := T.out.c3p NE.out
        have hpl := pos_lt hm hd
        have HD : Hid (dist P.length (hmN P.length k) (pos P.length (hmN P.length k) d) = d) := dist_pos hm hd
        rcases get_cases hpl with hg | ⟨e, hg⟩
        · have HG : Hid (P[pos P.length (hmN P.length k) d]? = some none) := hg
          have c5 := T.out.pf2 hg
          have HF : Hid (Found P W k (pos P.length (hmN P.length k) d) false) := .gap d HL.out (fun x hx => (HA.out x hx).imp fun _ q => q.1) hd hg (PR.out.absent HA.out hg)
          generalize pos P.length (hmN P.length k) d = a at *
          have i0 : (0 : Int) ≤ (a : Int) := by omega
          have i1 : (a : Int) < (P.length : Int) := by omega
          go_wp2
          go_ret2
          exact ⟨a, false, rfl, HF.out, B.out⟩
        · have HG : Hid (P[pos P.length (hmN P.length k) d]? = some (some e)) := hg
          have c5 := T.out.pc2 hg
          have c4 := T.out.pc0 hg
          have KE : Hid (ArgI wr e.kv e.key) := T.out.key hg
          have KZ : Hid (ArgI wr (.slice q k.length cap) k) := HZ.out.kept B.out
          by_cases hke : e.key = k
          · have hdec : decide (e.key = k) = true := decide_eq_true hke
            have HF : Hid (Found P W k (pos P.length (hmN P.length k) d) true) := .there _ e hg hke
            clear hke hg
            generalize pos P.length (hmN P.length k) d = a at *
            have i0 : (0 : Int) ≤ (a : Int) := by omega
            have i1 : (a : Int) < (P.length : Int) := by omega
            go_wp2_with (go_at_call 38; refine (equal_c KE.out KZ.out).mono ?_; rw [hdec]; rintro e5 w5 ⟨rfl, hb⟩; have B5 : Hid (Below w.heap.size w w5) := chain B.out hb (Nat.le_refl _); clear hb)
            go_ret2
            exact ⟨a, true, rfl, HF.out, B5.out⟩
          · have hdec : decide (e.key = k) = false := decide_eq_false hke
            have HS : Hid (∀ x, x < d + 1 → ∃ e, P[pos P.length (hmN P.length k) x]? = some (some e) ∧ e.key ≠ k) := fun x hx => by
              rcases Nat.lt_or_eq_of_le (Nat.le_of_lt_succ hx) with q | rfl
              · exact HA.out x q
              · exact ⟨e, hg, hke⟩
            have hd1 : d + 1 < P.length := PR.out.stops hm (fun x hx => (HS.out x hx).imp fun _ q => q.1)
            have HX : Hid ((((pos P.length (hmN P.length k) d : Nat) : Int) + 1) % (P.length : Int) = (pos P.length (hmN P.length k) (d + 1) : Nat)) := by rw [← nxt_pos hm (by omega)]; exact emod_nxt hpl
            have HD1 : Hid (dist P.length (hmN P.length k) (pos P.length (hmN P.length k) (d + 1)) = d + 1) := dist_pos hm hd1
            clear hke hg
            generalize hpd : pos P.length (hmN P.length k) d = a at *
            have HPD : Hid _ := hpd
            clear hpd
            have i0 : (0 : Int) ≤ (a : Int) := by omega
            have i1 : (a : Int) < (P.length : Int) := by omega
            go_wp2_with first | (go_at_call 38; refine (equal_c KE.out KZ.out).mono ?_; rw [hdec]; rintro e5 w5 ⟨rfl, hb⟩; have B5 : Hid (Below w.heap.size w w5) := chain B.out hb (Nat.le_refl _); have c35 := ((T.out.kept hb).c3p NE.out); clear hb) | (go_at_call 39; refine (round_c c35 P2.out _).mono ?_; rw [HX.out]; rintro e6 w6 ⟨rfl, h6⟩; subst w6)
            go_roundw
            case rel => exact ⟨d + 1, hd1, rfl, HS.out, B5.out⟩
            case measure => simp only [intOf, Int.toNat_natCast]; rw [HD1.out, HD.out]; omega
  · have hb1 : (((k.length : Nat) : Int) != ((W : Nat) : Int)) = true := by simp; omega
    have HN : Hid (k.length ≠ W) := hl
    clear hl
    go_enter Try.func20, Try.ntmps20
    go_wp2
    go_ret2
    exact ⟨0, false, rfl, .nowhere (.inl HN.out), Below.refl _ _⟩
end Go.Proofs.Ytmfljfedpdipiaa
