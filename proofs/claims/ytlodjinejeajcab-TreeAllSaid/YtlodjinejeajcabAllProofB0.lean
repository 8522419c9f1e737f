/-
  dredgeref06.sorted, as mathematics: two rising lists, the lesser one first. dredgeref06.sorted, as it runs. dredgeref06.Class: the class of the numbers of some ranges. dredgeref06.Alike: two lists, range by range. lent, still, spoil: lists that are handed in, and lists that came.
-/
import Derived.Test.YtlodjinejeajcabC9
import Derived.Test.YtlodjinejeajcabC10
import Derived.Laws.AppendOwnNone
import Derived.Test.YtlodjinejeajcabC8
import Derived.Laws.MakeOwn
namespace Go.Proofs.Ytlodjinejeajcab
open Go Go.RowKit

/-- Ranges that have numbers, by their first ones. -/
structure Srt (S : List (Int × Int)) : Prop where
  some : ∀ r ∈ S, r.1 ≤ r.2
  rise : S.Pairwise (fun a b => a.1 ≤ b.1)
theorem srt_nil : Srt [] := ⟨fun _ h => (by cases h), List.Pairwise.nil⟩
theorem srt_tail {r : Int × Int} {L : List (Int × Int)} (h : Srt (r :: L)) : Srt L := ⟨fun x hx => h.some x (List.mem_cons_of_mem _ hx), (List.pairwise_cons.1 h.rise).2⟩
theorem srt_app {O L : List (Int × Int)} (h : Srt O) (k : Srt L) (hx : ∀ x ∈ O, ∀ y ∈ L, x.1 ≤ y.1) : Srt (O ++ L) :=
  ⟨fun r hr => (List.mem_append.1 hr).elim (h.some r) (k.some r), List.pairwise_append.2 ⟨h.rise, k.rise, hx⟩⟩
theorem srt_one {r : Int × Int} (h : r.1 ≤ r.2) : Srt [r] := ⟨fun x hx => by simp at hx; subst hx; exact h, List.pairwise_singleton _ _⟩
/-- The merge, on its way: O is out, A' and B' are left. -/
structure MI (A B A' B' O : List (Int × Int)) : Prop where
  out : Srt O
  a : Srt A'
  b : Srt B'
  mem : ∀ c, (In O c ∨ In A' c ∨ In B' c) ↔ (In A c ∨ In B c)
  le : ∀ x ∈ O, ∀ y, y ∈ A' ∨ y ∈ B' → x.1 ≤ y.1
  fit : Fit O ∧ Fit A' ∧ Fit B'
  len : O.length + A'.length + B'.length ≤ A.length + B.length
theorem MI.start {A B : List (Int × Int)} (ha : Srt A) (hb : Srt B) (fa : Fit A) (fb : Fit B) : MI A B A B [] :=
  ⟨srt_nil, ha, hb, fun c => ⟨fun q => q.elim (fun q => absurd q (in_nil c)) id, .inr⟩, fun _ h => (by cases h), ⟨fit_nil, fa, fb⟩, by simp⟩
theorem MI.right {A B A' B' O : List (Int × Int)} {a b : Int × Int} (I : MI A B (a :: A') (b :: B') O) (h : b.1 < a.1) : MI A B (a :: A') B' (O ++ [b]) := by
  refine ⟨srt_app I.out (srt_one (I.b.some b (by simp))) (fun x hx y hy => by simp at hy; subst hy; exact I.le x hx y (.inr (by simp))), I.a, srt_tail I.b, fun c => ?_, fun x hx y hy => ?_, ⟨fit_append I.fit.1 (fit_sub I.fit.2.2 fun z hz => by simp at hz; subst hz; simp), I.fit.2.1, fit_sub I.fit.2.2 fun z hz => List.mem_cons_of_mem _ hz⟩, by have := I.len; simp at *; omega⟩
  · rw [← I.mem, in_append, in_one, in_cons b B']
    constructor
    · rintro ((q | q) | q | q)
      · exact .inl q
      · exact .inr (.inr (.inl q))
      · exact .inr (.inl q)
      · exact .inr (.inr (.inr q))
    · rintro (q | q | q | q)
      · exact .inl (.inl q)
      · exact .inr (.inl q)
      · exact .inl (.inr q)
      · exact .inr (.inr q)
  · rcases List.mem_append.1 hx with hx | hx
    · exact I.le x hx y (hy.elim .inl fun q => .inr (List.mem_cons_of_mem _ q))
    · simp at hx
      subst hx
      rcases hy with hy | hy
      · rcases List.mem_cons.1 hy with rfl | hy
        · omega
        · have := (List.pairwise_cons.1 I.a.rise).1 y hy; omega
      · exact (List.pairwise_cons.1 I.b.rise).1 y hy
theorem MI.left {A B A' B' O : List (Int × Int)} {a : Int × Int} (I : MI A B (a :: A') B' O) (h : ∀ b ∈ B', a.1 ≤ b.1) : MI A B A' B' (O ++ [a]) := by
  refine ⟨srt_app I.out (srt_one (I.a.some a (by simp))) (fun x hx y hy => by simp at hy; subst hy; exact I.le x hx y (.inl (by simp))), srt_tail I.a, I.b, fun c => ?_, fun x hx y hy => ?_, ⟨fit_append I.fit.1 (fit_sub I.fit.2.1 fun z hz => by simp at hz; subst hz; simp), fit_sub I.fit.2.1 fun z hz => List.mem_cons_of_mem _ hz, I.fit.2.2⟩, by have := I.len; simp at *; omega⟩
  · rw [← I.mem, in_append, in_one, in_cons a A']
    constructor
    · rintro ((q | q) | q | q)
      · exact .inl q
      · exact .inr (.inl (.inl q))
      · exact .inr (.inl (.inr q))
      · exact .inr (.inr q)
    · rintro (q | (q | q) | q)
      · exact .inl (.inl q)
      · exact .inl (.inr q)
      · exact .inr (.inl q)
      · exact .inr (.inr q)
  · rcases List.mem_append.1 hx with hx | hx
    · exact I.le x hx y (hy.elim (fun q => .inl (List.mem_cons_of_mem _ q)) .inr)
    · simp at hx
      subst hx
      rcases hy with hy | hy
      · exact (List.pairwise_cons.1 I.a.rise).1 y hy
      · exact h y hy
theorem MI.done {A B B' O : List (Int × Int)} (I : MI A B [] B' O) : Srt (O ++ B') ∧ (∀ c, In (O ++ B') c ↔ (In A c ∨ In B c)) ∧ Fit (O ++ B') ∧ (O ++ B').length ≤ A.length + B.length := by
  refine ⟨srt_app I.out I.b fun x hx y hy => I.le x hx y (.inr hy), fun c => ?_, fit_append I.fit.1 I.fit.2.2, by have := I.len; simp at *; omega⟩
  rw [← I.mem, in_append]
  exact ⟨fun q => q.elim .inl fun q => .inr (.inr q), fun q => q.elim .inl fun q => q.elim (fun q => absurd q (in_nil c)) .inr⟩
/-- What sorted tells. -/
def SortOf (w : World) (L : List (Int × Int)) (e : Ending) (w' : World) : Prop := ∃ v S, e = .returned v ∧ RR w.heap.size w' v S ∧ Srt S ∧ Fit S ∧ (∀ c, In S c ↔ In L c) ∧ S.length ≤ L.length ∧ Below w.heap.size w w'
theorem ArgR.take {W : World} {g off n cap : Nat} {L : List (Int × Int)} (h : ArgR W (.slice (some ⟨g, off, none⟩) n cap) L) {k : Nat} (hk : k ≤ L.length) : ArgR W (.slice (some ⟨g, off, none⟩) k cap) (L.take k) := by
  have hl : (L.take k).length = k := by simp; omega
  rcases h with ⟨p, c, e, rfl, e2⟩ | ⟨g', off', cap', e, h2, h3, h4, h5⟩
  · simp at hk
    subst hk
    cases e
    exact .inl ⟨_, _, rfl, rfl, fun q => by cases q⟩
  · cases e
    refine .inr ⟨g, off, cap, by rw [hl], h2, by omega, h4, fun i r hi => h5 i r ?_⟩
    rw [List.getElem?_take] at hi
    split at hi
    · exact hi
    · cases hi
theorem ArgR.drop {W : World} {g off n cap : Nat} {L : List (Int × Int)} (h : ArgR W (.slice (some ⟨g, off, none⟩) n cap) L) {k : Nat} (hk : k < L.length) : ArgR W (.slice (some ⟨g, off + k * 2, none⟩) (n - k) (cap - k)) (L.drop k) := by
  rcases h with ⟨p, c, e, rfl, e2⟩ | ⟨g', off', cap', e, h2, h3, h4, h5⟩
  · simp at hk
  · cases e
    refine .inr ⟨g, off + k * 2, cap - k, by simp, h2, by simp; omega, by omega, fun i r hi => ?_⟩
    rw [List.getElem?_drop] at hi
    have := h5 (k + i) r hi
    rw [show off + k * 2 + 2 * i = off + 2 * (k + i) by omega]
    exact this
theorem in_halves (L : List (Int × Int)) (k : Nat) (c : Int) : (In (L.take k) c ∨ In (L.drop k) c) ↔ In L c := by rw [← in_append, List.take_append_drop]
end Go.Proofs.Ytlodjinejeajcab
namespace Go.Proofs.Ytlodjinejeajcab
open Go Go.RowKit
attribute [local go_sem] ext_cell

set_option maxRecDepth 100000 in
set_option maxHeartbeats 1000000 in
theorem sorted_small {w : World} {v : Value} {L : List (Int × Int)} (h : ArgR w v L) (hF : Fit L) (hn : L.length ≤ 1) : Calls Try.prog 66 #[v] w (SortOf w L) := by
  obtain ⟨t0, ti, hz0, hz1, hz2⟩ := info_parts size_range
  cases L with
  | nil =>
    obtain ⟨q, cap, e, -, -, -⟩ := h.slice
    subst e
    clear h
    go_enter Try.func66, Try.ntmps66
    go_wp2
    go_ret
    exact ⟨_, [], rfl, RR.nil _ _, srt_nil, fit_nil, fun _ => Iff.rfl, Nat.le_refl _, Below.refl _ _⟩
  | cons r L' =>
    obtain rfl : L' = [] := List.eq_nil_of_length_eq_zero (by simpa using hn)
    obtain ⟨g, off, cap, rfl, hg, hn1, hm1, x1, x2⟩ := h.cons
    have HF : Hid (Fit [r]) := hF
    clear h hF
    obtain ⟨lo, hi⟩ := r
    dsimp only [List.length_nil] at x1 x2 hn1 ⊢
    have W1 : Hid (w = w) := rfl
    by_cases hq : lo ≤ hi
    · have dq : decide (lo ≤ hi) = true := decide_eq_true hq
      have HQ : Hid (lo ≤ hi) := hq
      go_enter Try.func66, Try.ntmps66
      go_wp2
      refine wp_region_ext (by kernel_rfl) (by kernel_rfl) ?_
      repeat (go_big_quiet_step (first | exact rfl))
      refine wpQuiet_nil ?_
      intro w7 hw7
      have B7 : Hid (Below w.heap.size w w7) := ext_of hw7
      have c1 := (B7.out.cell (p := ⟨g, off, none⟩) hg).trans x1
      have c2 := (B7.out.cell (p := ⟨g, off + 1, none⟩) hg).trans x2
      have hz7 := B7.out.size
      clear hw7 x1 x2
      go_wp2_with (at_builtin; refine wpList_append_own_at _ rfl _ _ 22 rfl w.heap.size 55 t0 (.agg #[.int .i64 0, .int .i64 0]) 2 16 und_ranges ti hz0 hz1 hz2 rfl (by decide) (.slice none 0 0) 0 (cellsR []) rfl (RR.nil _ _) ⟨w7.heap.size, 0, none⟩ 1 1 [.int .i64 lo, .int .i64 hi] rfl rfl (news2 _ _ _ _) (by simp [Value.oneCell']) (by unfold maxLen; omega) (by omega) (by simp; omega) ?_; intro v' w6 hown' hgrow _ hblk; obtain ⟨g6, cap6, rfl⟩ := ownsRow_some hown' (Nat.succ_pos _); have A6 : Hid (RR w.heap.size w6 (.slice (some ⟨g6, 0, none⟩) 1 cap6) [(lo, hi)]) := hown'; have B6 : Hid (Below w.heap.size w w6) := below_grown (t := 55) (size := 2) (n := 0) (xs := []) (B7.out.alloc hz7 _) (RR.nil _ _) hgrow; clear hown' hgrow hblk)
      go_ret
      exact ⟨_, [(lo, hi)], rfl, A6.out, srt_one HQ.out, HF.out, fun _ => Iff.rfl, Nat.le_refl _, B6.out⟩
    · have dq : decide (lo ≤ hi) = false := decide_eq_false hq
      have HQ : Hid (¬ lo ≤ hi) := hq
      go_enter Try.func66, Try.ntmps66
      go_wp2
      refine wp_region_ext (by kernel_rfl) (by kernel_rfl) ?_
      repeat (go_big_quiet_step (first | exact rfl))
      refine wpQuiet_nil ?_
      intro w7 hw7
      have B7 : Hid (Below w.heap.size w w7) := ext_of hw7
      clear hw7
      go_wp2
      go_ret
      exact ⟨_, [], rfl, RR.nil _ _, srt_nil, fit_nil, fun c => ⟨fun q => absurd q (in_nil c), fun q => by rw [in_one] at q; have := HQ.out; simp only at q; omega⟩, by simp, B7.out⟩

set_option maxRecDepth 100000 in
set_option maxHeartbeats 4000000 in
theorem sorted_step {w : World} {v : Value} {L : List (Int × Int)} (ih : ∀ (w : World) (v : Value) (L' : List (Int × Int)), L'.length < L.length → ArgR w v L' → Fit L' → Calls Try.prog 66 #[v] w (SortOf w L')) (h : ArgR w v L) (hF : Fit L) (hn : 1 < L.length) (hl : L.length + 1 ≤ 8796093022208) : Calls Try.prog 66 #[v] w (SortOf w L) := by
  obtain ⟨t0, ti, hz0, hz1, hz2⟩ := info_parts size_range
  obtain ⟨q, cap, e, -, hcap, hcells⟩ := h.slice
  subst e
  obtain ⟨g, off, rfl, hg, -, -⟩ := hcells 0 _ (List.getElem?_eq_getElem (by omega))
  obtain ⟨k, hk⟩ : ∃ k, L.length / 2 = k := ⟨_, rfl⟩
  have hk1 : 0 < k := by omega
  have hk2 : k < L.length := by omega
  have IH : Hid (∀ (w : World) (v : Value) (L' : List (Int × Int)), L'.length < L.length → ArgR w v L' → Fit L' → Calls Try.prog 66 #[v] w (SortOf w L')) := ih
  have T1 : Hid (ArgR w (.slice (some ⟨g, off, none⟩) k cap) (L.take k) ∧ Fit (L.take k) ∧ (L.take k).length < L.length) := ⟨h.take (by omega), fit_sub hF fun x hx => List.mem_of_mem_take hx, by simp; omega⟩
  have T2 : Hid (ArgR w (.slice (some ⟨g, off + k * 2, none⟩) (L.length - k) (cap - k)) (L.drop k) ∧ Fit (L.drop k) ∧ (L.drop k).length < L.length) := ⟨h.drop hk2, fit_sub hF fun x hx => List.mem_of_mem_drop hx, by simp; omega⟩
  have HL : Hid ((L.take k).length + (L.drop k).length = L.length) := hide (by simp; omega)
  have q1 : ((L.length : Int).tdiv 2) = (k : Int) := by rw [← hk]; simp [Int.tdiv_eq_ediv]
  have q2 : IntKind.wrap .i64 ((L.length : Int).tdiv 2) = (k : Int) := by rw [q1, IntKind.wrap_i64]; omega
  have n0 : ((L.length : Int) == 0) = false := beq_false_of_ne (by omega)
  have n1 : ((L.length : Int) == 1) = false := beq_false_of_ne (by omega)
  have k0 : (0 : Int) ≤ (k : Int) := by omega
  have k1 : (k : Int) ≤ (cap : Int) := by omega
  have k2 : (k : Int) ≤ (L.length : Int) := by omega
  have k3 : ¬ cap = k := by omega
  clear h hF ih hcells hk
  go_enter Try.func66, Try.ntmps66
  go_wp2_with first
    | (go_at_call 66; have hx := X5.out; clear hx; have hih := IH.out w5 _ _ T2.out.2.2 (T2.out.1.kept X5.out.2.2.2.2.2) T2.out.2.1; (with_reducible refine hih.mono ?_); clear hih; rintro e w6 ⟨v6, B, rfl, h1, h2, h3, h4, h5, h6⟩; obtain ⟨qb, cb, rfl⟩ := h1.shape; have X6 : Hid (RR w5.heap.size w6 (.slice qb B.length cb) B ∧ Srt B ∧ Fit B ∧ (∀ c, In B c ↔ In (L.drop k) c) ∧ B.length ≤ (L.drop k).length ∧ Below w5.heap.size w5 w6) := ⟨h1, h2, h3, h4, h5, h6⟩; clear h1 h2 h3 h4 h5 h6)
    | (go_at_call 66; have hih := IH.out w _ _ T1.out.2.2 T1.out.1 T1.out.2.1; (with_reducible refine hih.mono ?_); clear hih; rintro e w5 ⟨v5, A, rfl, h1, h2, h3, h4, h5, h6⟩; obtain ⟨qa, ca, rfl⟩ := h1.shape; have X5 : Hid (RR w.heap.size w5 (.slice qa A.length ca) A ∧ Srt A ∧ Fit A ∧ (∀ c, In A c ↔ In (L.take k) c) ∧ A.length ≤ (L.take k).length ∧ Below w.heap.size w w5) := ⟨h1, h2, h3, h4, h5, h6⟩; clear h1 h2 h3 h4 h5 h6)
  rename World => W1
  have ST : Hid (MI A B A B []) := MI.start X5.out.2.1 X6.out.2.1 X5.out.2.2.1 X6.out.2.2.1
  have AA : Hid (ArgR W1 (.slice qa A.length ca) A ∧ ArgR W1 (.slice qb B.length cb) B) := ⟨(X5.out.1.kept X6.out.2.2.2.2.2).arg, X6.out.1.arg⟩
  have hab : A.length + B.length + 1 ≤ 8796093022208 := by have := X5.out.2.2.2.2.1; have := X6.out.2.2.2.2.1; have := HL.out; omega
  have BW : Hid (Below w.heap.size w W1) := chain X5.out.2.2.2.2.2 X6.out.2.2.2.2.2 (Nat.le_refl _)
  have HA : Hid (∀ (i : Nat) (r : Int × Int), A[i]? = some r → ∃ g off, qa = some ⟨g, off, none⟩ ∧ g < W1.heap.size ∧ W1.cell? ⟨g, off + 2 * i, none⟩ = some (.int .i64 r.1) ∧ W1.cell? ⟨g, off + 2 * i + 1, none⟩ = some (.int .i64 r.2)) := by
    obtain ⟨q', cap', e, -, -, hc⟩ := AA.out.1.slice
    cases e
    exact hc
  have FIN : Hid (∀ O B', MI A B [] B' O → Srt (O ++ B') ∧ Fit (O ++ B') ∧ (∀ c, In (O ++ B') c ↔ In L c) ∧ (O ++ B').length ≤ L.length) := fun O B' I => by
    obtain ⟨m1, m2, m3, m4⟩ := I.done
    refine ⟨m1, m3, fun c => ?_, ?_⟩
    · rw [m2, X5.out.2.2.2.1, X6.out.2.2.2.1, in_halves]
    · have := X5.out.2.2.2.2.1; have := X6.out.2.2.2.2.1; have := HL.out; omega
  clear q1 q2 k0 k1 k2 k3 n0 n1
  go_loopw [3, 5, 6] (fun ov bv i wr => ∃ (j : Nat) (B' O : List (Int × Int)), j ≤ A.length ∧ i = .int .i64 j ∧ ArgR W1 bv B' ∧ RR W1.heap.size wr ov O ∧ MI A B (A.drop j) B' O ∧ Below W1.heap.size W1 wr) (fun _ _ i _ => A.length - (intOf i).toNat)
  case atStart => exact ⟨0, B, [], Nat.zero_le _, rfl, AA.out.2, RR.nil _ _, ST.out, Below.refl _ _⟩
  case round =>
    obtain ⟨j, B', O, hj, rfl, hbv, hov, hI, hb⟩ := hrel
    have RB : Hid (ArgR W1 u5 B') := hbv
    have RO : Hid (RR W1.heap.size wr u3 O) := hov
    have I : Hid (MI A B (A.drop j) B' O) := hI
    have BB : Hid (Below W1.heap.size W1 wr) := hb
    clear hbv hov hI hb
    by_cases hlt : j < A.length
    · obtain ⟨a, ea⟩ : ∃ r, A[j]? = some r := ⟨_, List.getElem?_eq_getElem hlt⟩
      have DR : Hid (A.drop j = a :: A.drop (j + 1)) := hide (by obtain ⟨h1, h2⟩ := List.getElem?_eq_some_iff.1 ea; rw [List.drop_eq_getElem_cons h1, h2])
      obtain ⟨ga, oa, rfl, hga, xa1, xa2⟩ := HA.out j _ ea
      have I2 : Hid (MI A B (a :: A.drop (j + 1)) B' O) := hide (by rw [← DR.out]; exact I.out)
      rw [Nat.mul_comm] at xa1 xa2
      obtain ⟨la, ra⟩ := a
      dsimp only at xa1 xa2
      have XA : Hid (W1.cell? ⟨ga, oa + j * 2, none⟩ = some (.int .i64 la) ∧ W1.cell? ⟨ga, oa + j * 2 + 1, none⟩ = some (.int .i64 ra) ∧ ga < W1.heap.size) := ⟨xa1, xa2, hga⟩
      have i0 : (0 : Int) ≤ (j : Int) := by omega
      have i1 : (j : Int) < (A.length : Int) := by omega
      clear xa1 xa2 hga ea
      rename World => W2
      obtain ⟨qq, cc, e5⟩ : ∃ q c, u5 = .slice q B'.length c := by obtain ⟨q, c, e, -⟩ := RB.out.slice; exact ⟨q, c, e⟩
      obtain ⟨qq3, cc3, e3⟩ := RO.out.shape
      go_wp2
      go_loopw [3, 5] (fun ov bv wr => ∃ (B' O : List (Int × Int)), ArgR W1 bv B' ∧ RR W1.heap.size wr ov O ∧ MI A B ((la, ra) :: A.drop (j + 1)) B' O ∧ Below W1.heap.size W1 wr) (fun _ bv _ => lenV bv)
      case atStart => exact ⟨B', O, RB.out, RO.out, I2.out, BB.out⟩
      case round =>
        clear RB RO I I2 BB e5 e3
        obtain ⟨B', O, hbv, hov, hI, hb⟩ := hrel
        obtain ⟨qo, co, e3⟩ := hov.shape
        subst e3
        have RO : Hid (RR W1.heap.size wr (.slice qo O.length co) O) := hov
        have I : Hid (MI A B ((la, ra) :: A.drop (j + 1)) B' O) := hI
        have BB : Hid (Below W1.heap.size W1 wr) := hb
        have hol : O.length + 1 ≤ 8796093022208 := by have := hI.len; simp at this; omega
        have hbs := hb.size
        have ca1 := (BB.out.cell (p := ⟨ga, oa + j * 2, none⟩) XA.out.2.2).trans XA.out.1
        have sa : ga < wr.heap.size := Nat.lt_of_lt_of_le XA.out.2.2 hbs
        clear hov hI hb
        cases B' with
        | nil =>
          obtain ⟨q2, cap2, e2, -, -, -⟩ := hbv.slice
          simp only [List.length_nil] at e2
          subst e2
          have RB : Hid (ArgR W1 (.slice q2 0 cap2) []) := hbv
          have I2 : Hid (MI A B (A.drop (j + 1)) [] (O ++ [(la, ra)])) := I.out.left (fun _ h => by cases h)
          have d0 : decide ((0 : Int) < 0) = false := by decide
          clear hbv
          go_wp2
          refine wp_region_ext (by kernel_rfl) (by kernel_rfl) ?_
          repeat (go_big_quiet_step (first | exact rfl))
          refine wpQuiet_nil ?_
          intro w7 hw7
          have B7 : Hid (Below W1.heap.size W1 w7) := chain BB.out (ext_of hw7) (Nat.le_refl _)
          have R7 : Hid (RR W1.heap.size w7 (.slice qo O.length co) O) := RO.out.kept (ext_of hw7)
          have e1 := (B7.out.cell (p := ⟨ga, oa + j * 2, none⟩) XA.out.2.2).trans XA.out.1
          have e2 := (B7.out.cell (p := ⟨ga, oa + j * 2 + 1, none⟩) XA.out.2.2).trans XA.out.2.1
          have hz7 := B7.out.size
          clear hw7 ca1
          go_wp2_with (at_builtin; refine wpList_append_own_at _ rfl _ _ 22 rfl W1.heap.size 55 t0 (.agg #[.int .i64 0, .int .i64 0]) 2 16 und_ranges ti hz0 hz1 hz2 rfl (by decide) (.slice qo O.length co) O.length (cellsR O) rfl (World.ownsRow.alloc R7.out (.cells #[.int .i64 la, .int .i64 ra] 55)) ⟨w7.heap.size, 0, none⟩ 1 1 [.int .i64 la, .int .i64 ra] rfl rfl (news2 _ _ _ _) (by simp [Value.oneCell']) (by unfold maxLen; omega) (by omega) (by simp; omega) ?_; intro v' w6 hown' hgrow _ hblk; obtain ⟨g6, cap6, rfl⟩ := ownsRow_some hown' (Nat.succ_pos _); have A6 : Hid (RR W1.heap.size w6 (.slice (some ⟨g6, 0, none⟩) (O.length + 1) cap6) (O ++ [(la, ra)])) := rr_app hown'; have B6 : Hid (Below W1.heap.size W1 w6) := below_grown (B7.out.alloc B7.out.size _) (World.ownsRow.alloc R7.out _) hgrow; clear hown' hgrow hblk)
          go_roundw
          case rel => exact ⟨j + 1, [], _, by omega, by go_num, RB.out, A6.out, I2.out, B6.out⟩
          case measure => simp [intOf]; omega
        | cons b B' =>
          obtain ⟨g2, o2, cap2, e2, hg2, hn2, hm2, y1, y2⟩ := hbv.cons
          subst e2
          have RB : Hid (ArgR W1 (.slice (some ⟨g2, o2, none⟩) (B'.length + 1) cap2) (b :: B')) := hbv
          obtain ⟨lb, rb⟩ := b
          dsimp only at y1 y2
          have YB : Hid (W1.cell? ⟨g2, o2, none⟩ = some (.int .i64 lb) ∧ W1.cell? ⟨g2, o2 + 1, none⟩ = some (.int .i64 rb) ∧ g2 < W1.heap.size) := ⟨y1, y2, hg2⟩
          have cb1 := (BB.out.cell (p := ⟨g2, o2, none⟩) YB.out.2.2).trans YB.out.1
          have sb : g2 < wr.heap.size := Nat.lt_of_lt_of_le hg2 hbs
          have d1 : (0 : Int) < (B'.length : Int) + 1 := by omega
          have dd : decide ((0 : Int) < (B'.length : Int) + 1) = true := decide_eq_true d1
          unfold maxLen at hm2
          clear hbv y1 y2 hg2
          by_cases hq : lb < la
          · have I2 : Hid (MI A B ((la, ra) :: A.drop (j + 1)) B' (O ++ [(lb, rb)])) := I.out.right hq
            have dq : decide (lb < la) = true := decide_eq_true hq
            have TT := RB.out.tail
            by_cases hcap : cap2 = 1
            · have T1' : Hid (ArgR W1 (.slice (some ⟨g2, o2, none⟩) 0 0) B') := TT.1 hcap
              have hA0 : B'.length = 0 := by omega
              subst hcap
              clear TT
              go_wp2
              refine wp_region_ext (by kernel_rfl) (by kernel_rfl) ?_
              repeat (go_big_quiet_step (first | exact rfl))
              refine wpQuiet_nil ?_
              intro w7 hw7
              have B7 : Hid (Below W1.heap.size W1 w7) := chain BB.out (ext_of hw7) (Nat.le_refl _)
              have R7 : Hid (RR W1.heap.size w7 (.slice qo O.length co) O) := RO.out.kept (ext_of hw7)
              have e1 := (B7.out.cell (p := ⟨g2, o2, none⟩) YB.out.2.2).trans YB.out.1
              have e2 := (B7.out.cell (p := ⟨g2, o2 + 1, none⟩) YB.out.2.2).trans YB.out.2.1
              have hz7 := B7.out.size
              clear hw7 ca1 cb1
              go_wp2_with (at_builtin; refine wpList_append_own_at _ rfl _ _ 22 rfl W1.heap.size 55 t0 (.agg #[.int .i64 0, .int .i64 0]) 2 16 und_ranges ti hz0 hz1 hz2 rfl (by decide) (.slice qo O.length co) O.length (cellsR O) rfl (World.ownsRow.alloc R7.out (.cells #[.int .i64 lb, .int .i64 rb] 55)) ⟨w7.heap.size, 0, none⟩ 1 1 [.int .i64 lb, .int .i64 rb] rfl rfl (news2 _ _ _ _) (by simp [Value.oneCell']) (by unfold maxLen; omega) (by omega) (by simp; omega) ?_; intro v' w6 hown' hgrow _ hblk; obtain ⟨g6, cap6, rfl⟩ := ownsRow_some hown' (Nat.succ_pos _); have A6 : Hid (RR W1.heap.size w6 (.slice (some ⟨g6, 0, none⟩) (O.length + 1) cap6) (O ++ [(lb, rb)])) := rr_app hown'; have B6 : Hid (Below W1.heap.size W1 w6) := below_grown (B7.out.alloc B7.out.size _) (World.ownsRow.alloc R7.out _) hgrow; clear hown' hgrow hblk)
              go_roundw
              case rel => exact ⟨B', _, T1'.out, A6.out, I2.out, B6.out⟩
              case measure => simp only [lenV]; omega
            · have T1' : Hid (ArgR W1 (.slice (some ⟨g2, o2 + 2, none⟩) B'.length (cap2 - 1)) B') := TT.2 hcap
              clear TT
              go_wp2
              refine wp_region_ext (by kernel_rfl) (by kernel_rfl) ?_
              repeat (go_big_quiet_step (first | exact rfl))
              refine wpQuiet_nil ?_
              intro w7 hw7
              have B7 : Hid (Below W1.heap.size W1 w7) := chain BB.out (ext_of hw7) (Nat.le_refl _)
              have R7 : Hid (RR W1.heap.size w7 (.slice qo O.length co) O) := RO.out.kept (ext_of hw7)
              have e1 := (B7.out.cell (p := ⟨g2, o2, none⟩) YB.out.2.2).trans YB.out.1
              have e2 := (B7.out.cell (p := ⟨g2, o2 + 1, none⟩) YB.out.2.2).trans YB.out.2.1
              have hz7 := B7.out.size
              clear hw7 ca1 cb1
              go_wp2_with (at_builtin; refine wpList_append_own_at _ rfl _ _ 22 rfl W1.heap.size 55 t0 (.agg #[.int .i64 0, .int .i64 0]) 2 16 und_ranges ti hz0 hz1 hz2 rfl (by decide) (.slice qo O.length co) O.length (cellsR O) rfl (World.ownsRow.alloc R7.out (.cells #[.int .i64 lb, .int .i64 rb] 55)) ⟨w7.heap.size, 0, none⟩ 1 1 [.int .i64 lb, .int .i64 rb] rfl rfl (news2 _ _ _ _) (by simp [Value.oneCell']) (by unfold maxLen; omega) (by omega) (by simp; omega) ?_; intro v' w6 hown' hgrow _ hblk; obtain ⟨g6, cap6, rfl⟩ := ownsRow_some hown' (Nat.succ_pos _); have A6 : Hid (RR W1.heap.size w6 (.slice (some ⟨g6, 0, none⟩) (O.length + 1) cap6) (O ++ [(lb, rb)])) := rr_app hown'; have B6 : Hid (Below W1.heap.size W1 w6) := below_grown (B7.out.alloc B7.out.size _) (World.ownsRow.alloc R7.out _) hgrow; clear hown' hgrow hblk)
              go_roundw
              case rel => exact ⟨B', _, T1'.out, A6.out, I2.out, B6.out⟩
              case measure => simp only [lenV]; omega
          · have I2 : Hid (MI A B (A.drop (j + 1)) ((lb, rb) :: B') (O ++ [(la, ra)])) := I.out.left (fun y hy => by
              rcases List.mem_cons.1 hy with rfl | hy
              · simp only; omega
              · have := (List.pairwise_cons.1 I.out.b.rise).1 y hy; simp only at this ⊢; omega)
            have dq : decide (lb < la) = false := decide_eq_false hq
            go_wp2
            refine wp_region_ext (by kernel_rfl) (by kernel_rfl) ?_
            repeat (go_big_quiet_step (first | exact rfl))
            refine wpQuiet_nil ?_
            intro w7 hw7
            have B7 : Hid (Below W1.heap.size W1 w7) := chain BB.out (ext_of hw7) (Nat.le_refl _)
            have R7 : Hid (RR W1.heap.size w7 (.slice qo O.length co) O) := RO.out.kept (ext_of hw7)
            have e1 := (B7.out.cell (p := ⟨ga, oa + j * 2, none⟩) XA.out.2.2).trans XA.out.1
            have e2 := (B7.out.cell (p := ⟨ga, oa + j * 2 + 1, none⟩) XA.out.2.2).trans XA.out.2.1
            have hz7 := B7.out.size
            clear hw7 ca1 cb1
            go_wp2_with (at_builtin; refine wpList_append_own_at _ rfl _ _ 22 rfl W1.heap.size 55 t0 (.agg #[.int .i64 0, .int .i64 0]) 2 16 und_ranges ti hz0 hz1 hz2 rfl (by decide) (.slice qo O.length co) O.length (cellsR O) rfl (World.ownsRow.alloc R7.out (.cells #[.int .i64 la, .int .i64 ra] 55)) ⟨w7.heap.size, 0, none⟩ 1 1 [.int .i64 la, .int .i64 ra] rfl rfl (news2 _ _ _ _) (by simp [Value.oneCell']) (by unfold maxLen; omega) (by omega) (by simp; omega) ?_; intro v' w6 hown' hgrow _ hblk; obtain ⟨g6, cap6, rfl⟩ := ownsRow_some hown' (Nat.succ_pos _); have A6 : Hid (RR W1.heap.size w6 (.slice (some ⟨g6, 0, none⟩) (O.length + 1) cap6) (O ++ [(la, ra)])) := rr_app hown'; have B6 : Hid (Below W1.heap.size W1 w6) := below_grown (B7.out.alloc B7.out.size _) (World.ownsRow.alloc R7.out _) hgrow; clear hown' hgrow hblk)
            go_roundw
            case rel => exact ⟨j + 1, (lb, rb) :: B', _, by omega, by go_num, RB.out, A6.out, I2.out, B6.out⟩
            case measure => simp [intOf]; omega
    · have i1 : ¬ (j : Int) < (A.length : Int) := by omega
      have D0 : Hid (A.drop j = []) := hide (List.drop_of_length_le (by omega))
      have I2 : Hid (MI A B [] B' O) := hide (by rw [← D0.out]; exact I.out)
      obtain ⟨q2, cap2, e5, -, -, -⟩ := RB.out.slice
      subst e5
      obtain ⟨qo, co, e3⟩ := RO.out.shape
      subst e3
      have F := FIN.out O B' I2.out
      have FF : Hid _ := F
      have hlen := F.2.2.2
      rw [List.length_append] at hlen
      have hbs := BB.out.size
      clear F
      cases q2 with
      | none =>
        have e0 : Value.slice none B'.length cap2 = .slice none 0 0 ∧ B' = [] := by
          rcases RB.out with ⟨p, cap', e, e2, e3⟩ | ⟨g', off', cap', e, _⟩
          · subst e2
            cases e
            have := e3 rfl
            subst this
            exact ⟨rfl, rfl⟩
          · cases e
        obtain ⟨e1, e2⟩ := e0
        subst e2
        cases e1
        go_wp2_with (at_builtin; refine wpList_append_own_none rfl _ _ 22 rfl W1.heap.size 55 t0 2 und_ranges ti (.slice qo O.length co) O.length (cellsR O) rfl RO.out rfl ?_)
        go_ret
        refine ⟨_, O ++ [], rfl, ?_, FF.out.1, FF.out.2.1, FF.out.2.2.1, FF.out.2.2.2, chain BW.out BB.out (Nat.le_refl _)⟩
        rw [List.append_nil]
        exact RO.out.mono BW.out.size
      | some ad =>
        have NW : Hid (∀ j u, (cellsR B')[j]? = some u → wr.cell? (ad.add j) = some u) := (RB.out.kept BB.out).news
        go_wp2_with (at_builtin; refine wpList_append_own_at _ rfl _ _ 22 rfl W1.heap.size 55 t0 (.agg #[.int .i64 0, .int .i64 0]) 2 16 und_ranges ti hz0 hz1 hz2 rfl (by decide) (.slice qo O.length co) O.length (cellsR O) rfl RO.out ad B'.length cap2 (cellsR B') rfl (cellsR_length B') NW.out (cellsR_one B') (by unfold maxLen; omega) (by omega) hbs ?_; intro v' w6 hown' hgrow _ hblk; have A6 : Hid (RR W1.heap.size w6 v' (O ++ B')) := rr_apps hown'; have B6 : Hid (Below W1.heap.size W1 w6) := below_grown BB.out RO.out hgrow; clear hown' hgrow hblk)
        go_ret
        exact ⟨_, O ++ B', rfl, A6.out.mono BW.out.size, FF.out.1, FF.out.2.1, FF.out.2.2.1, FF.out.2.2.2, chain BW.out B6.out (Nat.le_refl _)⟩

theorem sorted_c (n : Nat) : ∀ (w : World) (v : Value) (L : List (Int × Int)), L.length ≤ n → n + 1 ≤ 8796093022208 → ArgR w v L → Fit L → Calls Try.prog 66 #[v] w (SortOf w L) := by
  induction n with
  | zero => exact fun w v L hn _ h hF => sorted_small h hF (by omega)
  | succ n ih =>
    intro w v L hn hl h hF
    by_cases h1 : L.length ≤ 1
    · exact sorted_small h hF h1
    · exact sorted_step (fun w v L' hL' h' hF' => ih w v L' (by omega) (by omega) h' hF') h hF (by omega) (by omega)
end Go.Proofs.Ytlodjinejeajcab
namespace Go.Proofs.Ytlodjinejeajcab
open Go Go.RowKit
attribute [local go_sem] ext_cell

theorem rr_cast {base : Nat} {w : World} {v : Value} {A B : List (Int × Int)} (e : A = B) (h : RR base w v A) : RR base w v B := e ▸ h
set_option maxRecDepth 100000 in
set_option maxHeartbeats 4000000 in
theorem rclass_c {w : World} {v : Value} {L : List (Int × Int)} (h : ArgR w v L) (hF : Fit L) (hl : L.length + 1 ≤ 8796093022208) :
    Calls Try.prog 47 #[v] w (Gets w (In L) L.length) := by
  obtain ⟨t0, ti, hz0, hz1, hz2⟩ := info_parts size_range
  have H : Hid (ArgR w v L ∧ Fit L) := ⟨h, hF⟩
  clear h hF
  go_enter Try.func47, Try.ntmps47
  go_wp2_with (go_at_call 66; refine (sorted_c L.length w v L (Nat.le_refl _) hl H.out.1 H.out.2).mono ?_; rintro e w5 ⟨v5, S, rfl, h1, h2, h3, h4, h5, h6⟩; obtain ⟨qs, cs, rfl⟩ := h1.shape; have X5 : Hid (RR w.heap.size w5 (.slice qs S.length cs) S ∧ Srt S ∧ Fit S ∧ (∀ c, In S c ↔ In L c) ∧ S.length ≤ L.length ∧ Below w.heap.size w w5) := ⟨h1, h2, h3, h4, h5, h6⟩; clear h1 h2 h3 h4 h5 h6)
  rename World => W1
  have hsl := X5.out.2.2.2.2.1
  have HC : Hid (∀ (i : Nat) (r : Int × Int), S[i]? = some r → ∃ g off, qs = some ⟨g, off, none⟩ ∧ g < W1.heap.size ∧ W1.cell? ⟨g, off + 2 * i, none⟩ = some (.int .i64 r.1) ∧ W1.cell? ⟨g, off + 2 * i + 1, none⟩ = some (.int .i64 r.2)) := by
    obtain ⟨q', cap', e, -, -, hc⟩ := X5.out.1.arg.slice
    cases e
    exact hc
  have SP : Hid (∀ k, k ≤ S.length → Cls ((S.take k).foldl addM []) ∧ Fit ((S.take k).foldl addM []) ∧ ((S.take k).foldl addM []).length ≤ k ∧ ∀ c, In ((S.take k).foldl addM []) c ↔ In (S.take k) c) := fun k hk => by
    have := fold_spec X5.out.2.1.rise X5.out.2.2.1 k hk
    exact ⟨this.1, this.2.1, this.2.2.1, this.2.2.2.1⟩
  go_loopw [3, 5] (fun ov i wr => ∃ k : Nat, k ≤ S.length ∧ i = .int .i64 k ∧ RR W1.heap.size wr ov ((S.take k).foldl addM []) ∧ Below W1.heap.size W1 wr) (fun _ i _ => S.length - (intOf i).toNat)
  case atStart => exact ⟨0, Nat.zero_le _, rfl, RR.nil _ _, Below.refl _ _⟩
  case round =>
    obtain ⟨k, hk, rfl, hrr, hb⟩ := hrel
    have RC : Hid (RR W1.heap.size wr u3 ((S.take k).foldl addM [])) := hrr
    have BB : Hid (Below W1.heap.size W1 wr) := hb
    have hbs := hb.size
    clear hb hrr
    by_cases hlt : k < S.length
    · obtain ⟨r, hr⟩ : ∃ r, S[k]? = some r := ⟨_, List.getElem?_eq_getElem hlt⟩
      obtain ⟨g, off, rfl, hg, x1, x2⟩ := HC.out k _ hr
      rw [Nat.mul_comm] at x1 x2
      have NX : Hid ((S.take (k + 1)).foldl addM [] = addM ((S.take k).foldl addM []) r) := hide (by
        obtain ⟨h1, h2⟩ := List.getElem?_eq_some_iff.1 hr
        rw [take_next _ _ h1, List.foldl_append, h2]; rfl)
      have hne : ¬ r.2 < r.1 := by have := X5.out.2.1.some r (List.mem_of_getElem? hr); omega
      have hfr := X5.out.2.2.1 r (List.mem_of_getElem? hr)
      have SPk := SP.out k hk
      have FC : Hid (Fit ((S.take k).foldl addM [])) := SPk.2.1
      have hcl := SPk.2.2.1
      obtain ⟨lo, hi⟩ := r
      dsimp only at x1 x2 hne hfr
      have XS : Hid (W1.cell? ⟨g, off + k * 2, none⟩ = some (.int .i64 lo) ∧ W1.cell? ⟨g, off + k * 2 + 1, none⟩ = some (.int .i64 hi) ∧ g < W1.heap.size) := ⟨x1, x2, hg⟩
      have cs1 := (BB.out.cell (p := ⟨g, off + k * 2, none⟩) hg).trans x1
      have sg : g < wr.heap.size := Nat.lt_of_lt_of_le hg hbs
      have i0 : (0 : Int) ≤ (k : Int) := by omega
      have i1 : (k : Int) < (S.length : Int) := by omega
      clear x1 x2 hr SPk hg
      generalize (S.take k).foldl addM [] = C at *
      rcases last_cases C with e | ⟨D, x, e⟩
      · subst e
        obtain ⟨qo, co, e3⟩ := RC.out.shape
        subst e3
        have LD : Hid ((0 : Nat) = 0) := rfl
        have NX2 : Hid ((S.take (k + 1)).foldl addM [] = [(lo, hi)]) := hide (by rw [NX.out, addM_nil hne])
        simp only [List.length_nil] at RC ⊢
        have wn : IntKind.wrap .i64 ((0 : Int) - 1) = -1 := by decide
        have d0 : decide ((0 : Int) ≤ -1) = false := by decide
        · ·
            go_wp2
            refine wp_region_ext (by kernel_rfl) (by kernel_rfl) ?_
            repeat (go_big_quiet_step (first | exact rfl))
            refine wpQuiet_nil ?_
            intro w7 hw7
            have B7 : Hid (Below W1.heap.size W1 w7) := chain BB.out (ext_of hw7) (Nat.le_refl _)
            have e1 := (B7.out.cell (p := ⟨g, off + k * 2, none⟩) XS.out.2.2).trans XS.out.1
            have e2 := (B7.out.cell (p := ⟨g, off + k * 2 + 1, none⟩) XS.out.2.2).trans XS.out.2.1
            have hz7 := B7.out.size
            have R7 : Hid (RR W1.heap.size w7 (.slice qo 0 co) []) := RC.out.kept (ext_of hw7)
            clear hw7 cs1
            go_wp2_with (at_builtin; refine wpList_append_own_at _ rfl _ _ 22 rfl W1.heap.size 55 t0 (.agg #[.int .i64 0, .int .i64 0]) 2 16 und_ranges ti hz0 hz1 hz2 rfl (by decide) (.slice qo 0 co) 0 (cellsR []) rfl (World.ownsRow.alloc R7.out (.cells #[.int .i64 lo, .int .i64 hi] 55)) ⟨w7.heap.size, 0, none⟩ 1 1 [.int .i64 lo, .int .i64 hi] rfl rfl (news2 _ _ _ _) (by simp [Value.oneCell']) (by unfold maxLen; omega) (by omega) (by simp; omega) ?_; intro v' w6 hown' hgrow _ hblk; obtain ⟨g6, cap6, rfl⟩ := ownsRow_some hown' (Nat.succ_pos _); have A6 : Hid (RR W1.heap.size w6 (.slice (some ⟨g6, 0, none⟩) (0 + 1) cap6) ([(lo, hi)])) := rr_apps (F := []) (L := [(lo, hi)]) hown'; have B6 : Hid (Below W1.heap.size W1 w6) := below_grown (B7.out.alloc hz7 _) (World.ownsRow.alloc R7.out _) hgrow; clear hown' hgrow hblk)
            go_roundw
            case rel => exact ⟨k + 1, by omega, by go_num, rr_cast NX2.out.symm A6.out, B6.out⟩
            case measure => simp [intOf]; omega
      · subst e
        have fx := FC.out x (by simp)
        obtain ⟨nd, hnd⟩ : ∃ nd, D.length = nd := ⟨_, rfl⟩
        have LD : Hid (D.length = nd) := hnd
        have OW0 : Hid (wr.ownsRow W1.heap.size 55 2 u3 (nd + 1) (cellsR (D ++ [x]))) := hide (by have := RC.out; unfold RR at this; rwa [List.length_append, List.length_singleton, hnd] at this)
        obtain ⟨go, co, e3⟩ := ownsRow_some OW0.out (by omega)
        subst e3
        have OW : Hid (wr.ownsRow W1.heap.size 55 2 (.slice (some ⟨go, 0, none⟩) (nd + 1) co) (nd + 1) (cellsR (D ++ [x]))) := OW0.out
        have hgo : go < wr.heap.size := (ownsRow_at OW.out rfl).2.1
        have hgb : W1.heap.size ≤ go := (ownsRow_at OW.out rfl).1
        have hcell := (last_cell OW.out hnd).2
        rw [List.length_append, List.length_singleton, hnd] at hcl
        clear RC OW0 hnd
        obtain ⟨y, hy⟩ : ∃ y, x.2 = y := ⟨_, rfl⟩
        rw [hy] at hcell fx
        have HY : Hid (x.2 = y) := hy
        clear hy
        have wn : IntKind.wrap .i64 ((nd : Int) + 1 - 1) = (nd : Int) := by rw [IntKind.wrap_i64]; omega
        have j0 : (0 : Int) ≤ (nd : Int) := by omega
        have j1 : (nd : Int) < (nd : Int) + 1 := by omega
        have d0 : decide ((0 : Int) ≤ (nd : Int)) = true := decide_eq_true j0
        by_cases hf : y + 1 < lo
        · have d1 : decide (lo ≤ y) = false := decide_eq_false (by omega)
          have wl : IntKind.wrap .i64 (lo - 1) = lo - 1 := by rw [IntKind.wrap_i64]; omega
          have d2 : (lo - 1 == y) = false := beq_false_of_ne (by omega)
          have NX2 : Hid ((S.take (k + 1)).foldl addM [] = D ++ [x] ++ [(lo, hi)]) := hide (by rw [NX.out, addM_far hne (by rw [HY.out]; exact hf)])
          ·
            go_wp2
            refine wp_region_ext (by kernel_rfl) (by kernel_rfl) ?_
            repeat (go_big_quiet_step (first | exact rfl))
            refine wpQuiet_nil ?_
            intro w7 hw7
            have B7 : Hid (Below W1.heap.size W1 w7) := chain BB.out (ext_of hw7) (Nat.le_refl _)
            have e1 := (B7.out.cell (p := ⟨g, off + k * 2, none⟩) XS.out.2.2).trans XS.out.1
            have e2 := (B7.out.cell (p := ⟨g, off + k * 2 + 1, none⟩) XS.out.2.2).trans XS.out.2.1
            have hz7 := B7.out.size
            have R7 : Hid (w7.ownsRow W1.heap.size 55 2 (.slice (some ⟨go, 0, none⟩) (nd + 1) co) (nd + 1) (cellsR (D ++ [x]))) := ownsRow_fr (S := fun _ => False) OW.out (Fr.of_below (ext_of hw7)) (fun _ _ q => q)
            clear hw7 cs1 hcell
            go_wp2_with (at_builtin; refine wpList_append_own_at _ rfl _ _ 22 rfl W1.heap.size 55 t0 (.agg #[.int .i64 0, .int .i64 0]) 2 16 und_ranges ti hz0 hz1 hz2 rfl (by decide) (.slice (some ⟨go, 0, none⟩) (nd + 1) co) (nd + 1) (cellsR (D ++ [x])) rfl (World.ownsRow.alloc R7.out (.cells #[.int .i64 lo, .int .i64 hi] 55)) ⟨w7.heap.size, 0, none⟩ 1 1 [.int .i64 lo, .int .i64 hi] rfl rfl (news2 _ _ _ _) (by simp [Value.oneCell']) (by unfold maxLen; omega) (by omega) (by simp; omega) ?_; intro v' w6 hown' hgrow _ hblk; obtain ⟨g6, cap6, rfl⟩ := ownsRow_some hown' (Nat.succ_pos _); have A6 : Hid (RR W1.heap.size w6 (.slice (some ⟨g6, 0, none⟩) ((nd + 1) + 1) cap6) (D ++ [x] ++ [(lo, hi)])) := rr_apps (F := (D ++ [x])) (L := [(lo, hi)]) hown'; have B6 : Hid (Below W1.heap.size W1 w6) := below_grown (B7.out.alloc hz7 _) (World.ownsRow.alloc R7.out _) hgrow; clear hown' hgrow hblk)
            go_roundw
            case rel => exact ⟨k + 1, by omega, by go_num, rr_cast NX2.out.symm A6.out, B6.out⟩
            case measure => simp [intOf]; omega
        · obtain ⟨M, hM⟩ : ∃ M, max x.2 hi = M := ⟨_, rfl⟩
          have HM : Hid (max x.2 hi = M) := hM
          have hmx : ∀ t ty w, (Builtin.max_ t ty #[.int .i64 y, .int .i64 hi]).run Try.prog w = .ok (.int .i64 M) w := fun t ty w => by rw [max_run, ← HY.out, HM.out]
          have NR : Hid (¬ hi < lo → addM (D ++ [x]) (lo, hi) = D ++ [(x.1, max x.2 hi)]) := fun q => addM_near q (by rw [HY.out]; exact hf)
          clear hM
          by_cases hq : lo ≤ y
          · have d1 : decide (lo ≤ y) = true := decide_eq_true hq
            have d2 : True := trivial
            go_wp2
            refine wp_region_ext (by kernel_rfl) (by kernel_rfl) ?_
            repeat (go_big_quiet_step (first | exact rfl))
            refine wpQuiet_nil ?_
            intro w7 hw7
            have B7 : Hid (Below W1.heap.size W1 w7) := chain BB.out (ext_of hw7) (Nat.le_refl _)
            have e1 := (B7.out.cell (p := ⟨g, off + k * 2, none⟩) XS.out.2.2).trans XS.out.1
            have e2 := (B7.out.cell (p := ⟨g, off + k * 2 + 1, none⟩) XS.out.2.2).trans XS.out.2.1
            have hz7 := B7.out.size
            have O7 : Hid (w7.drew.ownsRow W1.heap.size 55 2 (.slice (some ⟨go, 0, none⟩) (nd + 1) co) (nd + 1) (cellsR (D ++ [x]))) := (ownsRow_fr (S := fun _ => False) OW.out (Fr.of_below (ext_of hw7)) (fun _ _ q => q)).drew
            have c7 := ((ext_of hw7).cell (p := ⟨go, nd * 2 + 1, none⟩) hgo).trans hcell
            have f7 : w7.frozen? ⟨go, nd * 2 + 1, none⟩ = false := O7.out.frozenAt (nd * 2 + 1)
            clear hw7 hcell d1 d2
            go_wp2
            go_region_with fail
            all_goals (
              go_wp2
              go_roundw
              case rel => exact ⟨k + 1, by omega, by go_num, rr_cast (NX.out.trans (NR.out hne)).symm (by rw [HM.out]; exact rr_of (set_last O7.out LD.out M) (by have := LD.out; simp; omega)), B7.out.drew.setCell (p := ⟨go, nd * 2 + 1, none⟩) hgb _⟩
              case measure => simp [intOf]; omega)
          · have d1 : decide (lo ≤ y) = false := decide_eq_false hq
            have wl : IntKind.wrap .i64 (lo - 1) = lo - 1 := by rw [IntKind.wrap_i64]; omega
            have d2 : (lo - 1 == y) = true := by rw [beq_iff_eq]; omega
            go_wp2
            refine wp_region_ext (by kernel_rfl) (by kernel_rfl) ?_
            repeat (go_big_quiet_step (first | exact rfl))
            refine wpQuiet_nil ?_
            intro w7 hw7
            have B7 : Hid (Below W1.heap.size W1 w7) := chain BB.out (ext_of hw7) (Nat.le_refl _)
            have e1 := (B7.out.cell (p := ⟨g, off + k * 2, none⟩) XS.out.2.2).trans XS.out.1
            have e2 := (B7.out.cell (p := ⟨g, off + k * 2 + 1, none⟩) XS.out.2.2).trans XS.out.2.1
            have hz7 := B7.out.size
            have O7 : Hid (w7.drew.ownsRow W1.heap.size 55 2 (.slice (some ⟨go, 0, none⟩) (nd + 1) co) (nd + 1) (cellsR (D ++ [x]))) := (ownsRow_fr (S := fun _ => False) OW.out (Fr.of_below (ext_of hw7)) (fun _ _ q => q)).drew
            have c7 := ((ext_of hw7).cell (p := ⟨go, nd * 2 + 1, none⟩) hgo).trans hcell
            have f7 : w7.frozen? ⟨go, nd * 2 + 1, none⟩ = false := O7.out.frozenAt (nd * 2 + 1)
            clear hw7 hcell d1 d2
            go_wp2
            go_region_with fail
            all_goals (
              go_wp2
              go_roundw
              case rel => exact ⟨k + 1, by omega, by go_num, rr_cast (NX.out.trans (NR.out hne)).symm (by rw [HM.out]; exact rr_of (set_last O7.out LD.out M) (by have := LD.out; simp; omega)), B7.out.drew.setCell (p := ⟨go, nd * 2 + 1, none⟩) hgb _⟩
              case measure => simp [intOf]; omega)
    · have i1 : ¬ (k : Int) < (S.length : Int) := by omega
      have E : Hid (S.take k = S) := hide (List.take_of_length_le (by omega))
      have SPn := SP.out k hk
      rw [E.out] at RC SPn
      have SS : Hid _ := SPn
      have hcl := SPn.2.2.1
      clear SPn
      go_wp2
      go_ret
      exact ⟨_, _, rfl, RC.out.mono X5.out.2.2.2.2.2.size, ⟨SS.out.1, SS.out.2.1, fun c => (SS.out.2.2.2 c).trans (X5.out.2.2.2.1 c)⟩, by omega, chain X5.out.2.2.2.2.2 BB.out (Nat.le_refl _)⟩
end Go.Proofs.Ytlodjinejeajcab
namespace Go.Proofs.Ytlodjinejeajcab
open Go Go.RowKit
attribute [local go_sem] ext_cell

set_option maxRecDepth 100000 in
set_option maxHeartbeats 2000000 in
theorem alike_c {w : World} {va vb : Value} {A B : List (Int × Int)} (ha : ArgR w va A) (hb : ArgR w vb B) :
    Calls Try.prog 26 #[va, vb] w fun e w' => e = .returned (.bool (decide (A = B))) ∧ Below w.heap.size w w' := by
  obtain ⟨q1, cap1, rfl, hl1, -, hc1⟩ := ha.slice
  obtain ⟨q2, cap2, rfl, hl2, -, hc2⟩ := hb.slice
  have HC1 : Hid (∀ (i : Nat) (r : Int × Int), A[i]? = some r → ∃ g off, q1 = some ⟨g, off, none⟩ ∧ g < w.heap.size ∧ w.cell? ⟨g, off + 2 * i, none⟩ = some (.int .i64 r.1) ∧ w.cell? ⟨g, off + 2 * i + 1, none⟩ = some (.int .i64 r.2)) := hc1
  have HC2 : Hid (∀ (i : Nat) (r : Int × Int), B[i]? = some r → ∃ g off, q2 = some ⟨g, off, none⟩ ∧ g < w.heap.size ∧ w.cell? ⟨g, off + 2 * i, none⟩ = some (.int .i64 r.1) ∧ w.cell? ⟨g, off + 2 * i + 1, none⟩ = some (.int .i64 r.2)) := hc2
  clear hc1 hc2 ha hb
  unfold maxLen at hl1 hl2
  by_cases hne : A.length = B.length
  · have HNE : Hid (A.length = B.length) := hne
    rw [← hne]
    have b1 : (((A.length : Nat) : Int) != ((A.length : Nat) : Int)) = false := by simp
    clear hne hl2
    go_enter Try.func26, Try.ntmps26
    go_wp2
    go_loopw [5] (fun i wr => ∃ k : Nat, k ≤ A.length ∧ i = .int .i64 k ∧ A.take k = B.take k ∧ Below w.heap.size w wr) (fun i _ => A.length - (intOf i).toNat)
    case atStart => exact ⟨0, Nat.zero_le _, rfl, by simp, Below.refl _ _⟩
    case round =>
      obtain ⟨k, hk, rfl, ht, hbl⟩ := hrel
      have HT : Hid (A.take k = B.take k) := ht
      have BW : Hid (Below w.heap.size w wr) := hbl
      clear ht hbl
      by_cases hlt : k < A.length
      · obtain ⟨a, ea⟩ : ∃ r, A[k]? = some r := ⟨_, List.getElem?_eq_getElem hlt⟩
        obtain ⟨b, eb⟩ : ∃ r, B[k]? = some r := ⟨_, List.getElem?_eq_getElem (by have := HNE.out; omega)⟩
        obtain ⟨g1, o1, rfl, hg1, x1, x2⟩ := HC1.out k _ ea
        obtain ⟨g2, o2, rfl, hg2, y1, y2⟩ := HC2.out k _ eb
        have d1 := (BW.out.cell (p := ⟨g1, o1 + 2 * k, none⟩) hg1).trans x1
        have d2 := (BW.out.cell (p := ⟨g1, o1 + 2 * k + 1, none⟩) hg1).trans x2
        have d3 := (BW.out.cell (p := ⟨g2, o2 + 2 * k, none⟩) hg2).trans y1
        have d4 := (BW.out.cell (p := ⟨g2, o2 + 2 * k + 1, none⟩) hg2).trans y2
        rw [Nat.mul_comm] at d1 d2 d3 d4
        have s1 : g1 < wr.heap.size := Nat.lt_of_lt_of_le hg1 BW.out.size
        have s2 : g2 < wr.heap.size := Nat.lt_of_lt_of_le hg2 BW.out.size
        have NX : Hid (A.take (k + 1) = B.take (k + 1) ↔ a = b) := take_eq_next ea eb HT.out
        have NE : Hid (a ≠ b → ¬ A = B) := fun q e => by subst e; rw [ea] at eb; exact q (Option.some.inj eb)
        have i0 : (0 : Int) ≤ (k : Int) := by omega
        have i1 : (k : Int) < (A.length : Int) := by omega
        obtain ⟨a1, a2⟩ := a
        obtain ⟨b1', b2⟩ := b
        dsimp only at d1 d2 d3 d4
        clear x1 x2 y1 y2 ea eb
        by_cases e1 : a1 = b1'
        · by_cases e2 : a2 = b2
          · subst e1 e2
            have f1 : (a1 == a1) = true := by simp
            have f2 : (a2 == a2) = true := by simp
            have NX2 : Hid (A.take (k + 1) = B.take (k + 1)) := NX.out.2 rfl
            clear NX NE
            go_wp2
            refine wp_region_ext (by kernel_rfl) (by kernel_rfl) ?_
            repeat (go_big_quiet_step (first | exact rfl))
            refine wpQuiet_nil ?_
            intro w7 hw7
            have B7 : Hid (Below wr.heap.size wr w7) := ext_of hw7
            clear hw7
            go_wp2
            go_roundw
            case rel => exact ⟨k + 1, by omega, by go_num, NX2.out, chain BW.out B7.out (Nat.le_refl _)⟩
            case measure => simp [intOf]; omega
          · subst e1
            have f1 : (a1 == a1) = true := by simp
            have f2 : (a2 == b2) = false := by simp [e2]
            have N2 : Hid (decide (A = B) = false) := decide_eq_false (NE.out (fun q => e2 (Prod.mk.inj q).2))
            clear NX NE
            go_wp2
            refine wp_region_ext (by kernel_rfl) (by kernel_rfl) ?_
            repeat (go_big_quiet_step (first | exact rfl))
            refine wpQuiet_nil ?_
            intro w7 hw7
            have B7 : Hid (Below wr.heap.size wr w7) := ext_of hw7
            clear hw7
            go_wp2
            go_ret
            exact ⟨by rw [N2.out]; rfl, chain BW.out B7.out (Nat.le_refl _)⟩
        · have f1 : (a1 == b1') = false := by simp [e1]
          have N2 : Hid (decide (A = B) = false) := decide_eq_false (NE.out (fun q => e1 (Prod.mk.inj q).1))
          clear NX NE
          go_wp2
          refine wp_region_ext (by kernel_rfl) (by kernel_rfl) ?_
          repeat (go_big_quiet_step (first | exact rfl))
          refine wpQuiet_nil ?_
          intro w7 hw7
          have B7 : Hid (Below wr.heap.size wr w7) := ext_of hw7
          clear hw7
          go_wp2
          go_ret
          exact ⟨by rw [N2.out]; rfl, chain BW.out B7.out (Nat.le_refl _)⟩
      · have i1 : ¬ (k : Int) < (A.length : Int) := by omega
        have EE : Hid (decide (A = B) = true) := decide_eq_true (by
          have e := HT.out
          rw [List.take_of_length_le (by omega), List.take_of_length_le (by have := HNE.out; omega)] at e
          exact e)
        go_wp2
        go_ret
        exact ⟨by rw [EE.out]; rfl, BW.out⟩
  · have EE : Hid (decide (A = B) = false) := decide_eq_false (fun e => hne (by rw [e]))
    have b1 : (((A.length : Nat) : Int) != ((B.length : Nat) : Int)) = true := by simp; omega
    go_enter Try.func26, Try.ntmps26
    go_wp2
    go_ret
    exact ⟨by rw [EE.out]; rfl, Below.refl _ _⟩
end Go.Proofs.Ytlodjinejeajcab
namespace Go.Proofs.Ytlodjinejeajcab
open Go Go.RowKit

theorem size_two : (Try.prog.info? 55).map (·.size) = some 2 := by kernel_rfl
theorem run_copy_two {P : Program} (w : World) (dT sT ty elem : TypeId) (g dLen dCap : Nat) (sp : Option Addr) (sLen sCap : Nat) (cur : Array Value) (t : TypeId) (cs : List Value)
    (hu : P.underlying dT = some (.slice elem)) (hs : (P.info? elem).map (·.size) = some 2)
    (hg : w.heap[g]? = some (.cells cur t (0, 0))) (hn : cs.length = sLen * 2) (hle : sLen ≤ dLen)
    (hsrc : sLen = 0 ∨ ∃ ad, sp = some ad ∧ ∀ j v, cs[j]? = some v → w.cell? (ad.add j) = some v) (hfit : cs.length ≤ cur.size) (h1 : ∀ v ∈ cs, v.oneCell' = true) :
    (Builtin.copy_ #[dT, sT] ty #[.slice (some ⟨g, 0, none⟩) dLen dCap, .slice sp sLen sCap]).run P w =
      .ok (goInt sLen) (w.setRow g (cs ++ cur.toList.drop cs.length).toArray) := by
  have hmin : sLen.min dLen = sLen := Nat.min_eq_left hle
  have hst := run_storeCells_at P g 0 t cs 0 cur w hg (by simpa using hfit) h1
  simp only [Nat.zero_add, Nat.add_zero, List.take_zero, List.nil_append] at hst
  cases hq : P.info? elem with
  | none => simp [hq] at hs
  | some i =>
    have hi : i.size = 2 := by simpa [hq] using hs
    rcases hsrc with h0 | ⟨ad, rfl, hsrc⟩
    · subst h0
      obtain rfl : cs = [] := List.eq_nil_of_length_eq_zero (by simpa using hn)
      have hl : ∀ (x : Addr), (loadCells x 0).run P w = .ok #[] w := fun x => by simpa using run_loadCells_list (P := P) w x [] (by simp)
      have hst' : (storeCells ⟨g, 0, none⟩ [] 0).run P w = .ok () (w.setRow g (cur.toList.drop 0).toArray) := hst
      cases sp <;> simp [Builtin.copy_, run_underlying hu, Builtin.lenOf, Builtin.firstCells, sizeOf, typeInfo, hq, hl, hst']
    · have hl := run_loadCells_list (P := P) w ad cs hsrc
      rw [hn] at hl
      simp [Builtin.copy_, run_underlying hu, Builtin.lenOf, Builtin.firstCells, sizeOf, typeInfo, hq, hi, hmin, hl, hst]
theorem wpList_copy_two {P : Program} {w : World} {ops : Array Oper} {rest : List Oper} {o : Oper} {a : Act} {Q : Exit → Act → World → Prop} (hgd : o.guard = none) (d s : Operand) (dT sT : TypeId)
    (ho : o.op = .call { callee := .builtin .copy, args := #[d, s], argTypes := #[dT, sT] }) (elem : TypeId) (hu : P.underlying dT = some (.slice elem)) (hsz : (P.info? elem).map (·.size) = some 2)
    (g dLen dCap : Nat) (sp : Option Addr) (sLen sCap : Nat) (hd : a.eval d = .slice (some ⟨g, 0, none⟩) dLen dCap) (hs : a.eval s = .slice sp sLen sCap)
    (cur : Array Value) (t : TypeId) (hg : w.heap[g]? = some (.cells cur t (0, 0))) (cs : List Value) (hn : cs.length = sLen * 2) (hle : sLen ≤ dLen)
    (hsrc : sLen = 0 ∨ ∃ ad, sp = some ad ∧ ∀ j v, cs[j]? = some v → w.cell? (ad.add j) = some v) (hfit : cs.length ≤ cur.size) (h1 : ∀ v ∈ cs, v.oneCell' = true)
    (h : ∀ w', Hid (w'.heap[g]? = some (.cells (cs ++ cur.toList.drop cs.length).toArray t (0, 0))) → Below g w w' → wpList P ops Q rest (a.put o.dst (goInt sLen)) w') : wpList P ops Q (o :: rest) a w := by
  refine wpList_plain hgd fun K hK => ?_
  have hrun := run_copy_two (P := P) w dT sT o.type elem g dLen dCap sp sLen sCap cur t cs hu hsz hg hn hle hsrc hfit h1
  unfold Oper.wp
  simp [execOp, ho, resolve, invoke, builtin, hd, hs, hrun, Result.andThen]
  exact hK _ _ (h _ (setRow_heap w g _ _ t _ hg) (((Fr.refl (fun k => k = g) w).setRow rfl _).below (Nat.le_of_lt (lt_of_heap hg)) (fun k e => by omega)))

/-- The copy with the mark behind it. -/
def XAt (W : World) (X : Nat) (L : List (Int × Int)) : Prop := W.heap[X]? = some (.cells (cellsR (L ++ [(-7, 7)])).toArray 55 (0, 0))
theorem XAt.kept {W W' : World} {X : Nat} {L : List (Int × Int)} (h : XAt W X L) (hb : Below W.heap.size W W') : XAt W' X L := (hb.block X (lt_of_heap h)).trans h
theorem XAt.get {W : World} {X : Nat} {L : List (Int × Int)} (h : XAt W X L) {i : Nat} {r : Int × Int} (hi : (L ++ [(-7, 7)])[i]? = some r) : W.cell? ⟨X, 2 * i, none⟩ = some (.int .i64 r.1) ∧ W.cell? ⟨X, 2 * i + 1, none⟩ = some (.int .i64 r.2) := by
  obtain ⟨f1, f2⟩ := cellsR_get _ i r hi
  exact ⟨cell_row h (by simpa using f1), cell_row h (by simpa using f2)⟩
theorem XAt.arg {W : World} {X : Nat} {L : List (Int × Int)} (h : XAt W X L) (hm : L.length + 1 ≤ maxLen) : ArgR W (.slice (some ⟨X, 0, none⟩) L.length (L.length + 1)) L :=
  .inr ⟨X, 0, L.length + 1, rfl, lt_of_heap h, by omega, hm, fun i r hi => by
    have hl : i < L.length := (List.getElem?_eq_some_iff.1 hi).1
    rw [Nat.zero_add]
    exact h.get (by rw [List.getElem?_append_left hl]; exact hi)⟩
theorem ArgR.src {w : World} {sp : Option Addr} {n cap : Nat} {L : List (Int × Int)} (h : ArgR w (.slice sp n cap) L) : n = 0 ∨ ∃ ad, sp = some ad ∧ ∀ j v, (cellsR L)[j]? = some v → w.cell? (ad.add j) = some v := by
  cases sp with
  | none =>
    rcases h with ⟨_, _, h1, _⟩ | ⟨g, off, cap', h1, _⟩
    · cases h1; exact .inl rfl
    · cases h1
  | some ad => exact .inr ⟨ad, rfl, h.news⟩
theorem made_mark {W : World} {X : Nat} {L : List (Int × Int)} {Z : List Value} (h : W.heap[X]? = some (.cells (cellsR L ++ Z).toArray 55 (0, 0))) (hZ : Z.length = 2) :
    XAt ((W.setCell ⟨X, L.length * 2, none⟩ (.int .i64 (-7))).setCell ⟨X, L.length * 2 + 1, none⟩ (.int .i64 7)) X L := by
  refine (heap_set_in (heap_set_in h _ _) _ _).trans ?_
  obtain ⟨x, y, rfl⟩ : ∃ x y, Z = [x, y] := by
    match Z, hZ with
    | [x, y], _ => exact ⟨x, y, rfl⟩
  congr 2
  apply Array.ext'
  simp only [Array.toList_setIfInBounds]
  rw [cellsR_append, List.set_append_right _ _ (by rw [cellsR_length]; omega), List.set_append_right _ _ (by rw [cellsR_length]; omega), cellsR_length]
  simp [cellsR]
theorem made_cells {W : World} {X : Nat} {L : List (Int × Int)} {Z : List Value} (h : W.heap[X]? = some (.cells (cellsR L ++ Z).toArray 55 (0, 0))) (hZ : Z.length = 2) :
    (∃ u, W.cell? ⟨X, L.length * 2, none⟩ = some u) ∧ (∃ u, W.cell? ⟨X, L.length * 2 + 1, none⟩ = some u) ∧ ∀ o, W.frozen? ⟨X, o, none⟩ = false := by
  obtain ⟨x, y, rfl⟩ : ∃ x y, Z = [x, y] := by
    match Z, hZ with
    | [x, y], _ => exact ⟨x, y, rfl⟩
  refine ⟨⟨x, cell_row h ?_⟩, ⟨y, cell_row h ?_⟩, fun o => frz_row h o⟩
  · simp [← cellsR_length]
  · rw [List.getElem?_toArray, List.getElem?_append_right (by rw [cellsR_length]; omega), cellsR_length]
    simp

theorem make_ranges (n : Nat) (h : n ≤ 8796093022208) (w : World) :
    (Instr.makeSlice 22 (.int .i64 (n : Int)) (.int .i64 (n : Int))).run Try.prog w = .ok (.slice (some ⟨w.heap.size, 0, none⟩) n n) (w.alloc (.cells (madeCells #[.int .i64 0, .int .i64 0] (n * 2)) 55)) := by
  obtain ⟨i0, hi, hz0, hz1, hz2⟩ := info_parts size_range
  have := run_make (P := Try.prog) w 22 55 i0 (.agg #[.int .i64 0, .int .i64 0]) und_ranges hi hz0 .i64 .i64 (n : Int) (n : Int) (by omega) (by omega) (by rw [hz2]; omega) (by omega)
  rw [hz1] at this
  simpa [Value.cells] using this

end Go.Proofs.Ytlodjinejeajcab
