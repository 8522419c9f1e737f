/-
  The document's units, numbers, places. dredgeref06.sorted, as mathematics: two rising lists, the lesser one first. dredgeref06.sorted, as it runs. dredgeref06.Class: the class of the numbers of some ranges. dredgeref06.Alike: two lists, range by range.
-/
import Derived.Test.YtloeajhmmjdlgaaGreatDoorReadsProofB0
import Derived.Test.YtloeajhmmjdlgaaGreatDoorC13
import Derived.Test.YtloeajhmmjdlgaaGreatDoorC11
import Derived.Test.YtloeajhmmjdlgaaGreatDoorC6
import Derived.Laws.AppendOwnNone
import Derived.Test.YtloeajhmmjdlgaaGreatDoorC12
namespace Go.Proofs.YtloeajhmmjdlgaaGreatDoor
open Go Go.RowKit
attribute [local go_sem] ext_cell

set_option maxRecDepth 100000 in
set_option maxHeartbeats 1000000 in
theorem runit_c (s : ByteArray) (k : Nat) (m : Md) (w : World) (hk : k < s.size) (hs : s.size ≤ 2000) :
    Calls Tryz.prog 15 #[.string s, .int .i64 (k : Int), .bool m.c] w fun e w' => e = .returned (.tuple #[.int .i64 (un m s k).1, .int .i64 ((un m s k).2 : Int)]) ∧ Below w.heap.size w w' := by
  obtain ⟨mc, mf⟩ := m
  cases mc with
  | true =>
    have e : un ⟨true, mf⟩ s k = (ch s k, wd s k) := rfl
    rw [e]
    clear e
    have hc := fun W => rNext_c s k W hk (by omega)
    go_enter Tryz.func15, Tryz.ntmps15
    go_wp2_with (go_at_call 35; refine (hc _).mono ?_; rintro e w5 ⟨rfl, h5⟩; have X5 : Hid (Below w.heap.size w w5) := h5; clear h5)
    go_ret2
    exact ⟨rfl, X5.out⟩
  | false =>
    have e : un ⟨false, mf⟩ s k = ((bt s k : Int), 1) := rfl
    rw [e]
    clear e
    have hx := bt_idx s k hk
    have hlt := bt_lt s k
    have i0 : ¬ (k : Int) < 0 := by omega
    have i1 : ¬ (s.size : Int) ≤ (k : Int) := by omega
    have i2 : (0 : Int) ≤ (k : Int) := by omega
    have i3 : (k : Int) < (s.size : Int) := by omega
    have hw : IntKind.wrap .i64 ((s[k]'hk).toNat : Int) = ((s[k]'hk).toNat : Int) := wrap_small _ (by omega) (by omega)
    go_enter Tryz.func15, Tryz.ntmps15
    go_wp2
    go_ret2
    refine ⟨?_, Below.refl _ _⟩
    rw [← hx]
    rfl
set_option maxRecDepth 100000 in
set_option maxHeartbeats 1000000 in
theorem runit_out (s : ByteArray) (k : Nat) (m : Md) (w : World) (hk : s.size ≤ k) (hs : k ≤ 5000) :
    Calls Tryz.prog 15 #[.string s, .int .i64 (k : Int), .bool m.c] w fun e w' => e = .returned (.tuple #[.int .i64 0, .int .i64 0]) ∧ Below w.heap.size w w' := by
  have i0 : ¬ (k : Int) < 0 := by omega
  have i1 : (s.size : Int) ≤ (k : Int) := by omega
  obtain ⟨mc, mf⟩ := m
  cases mc with
  | true =>
    have hc : ∀ W, Calls Tryz.prog 35 #[.string s, .int .i64 (k : Int)] W fun e w' => e = .returned (.tuple #[.int .i64 0, .int .i64 0]) ∧ Below W.heap.size W w' := fun W => by
      go_enter Tryz.func35, Tryz.ntmps35
      go_wp2
      go_ret2
      exact ⟨rfl, Below.refl _ _⟩
    go_enter Tryz.func15, Tryz.ntmps15
    go_wp2_with (go_at_call 35; refine (hc _).mono ?_; rintro e w5 ⟨rfl, h5⟩; have X5 : Hid (Below w.heap.size w w5) := h5; clear h5)
    go_ret2
    exact ⟨rfl, X5.out⟩
  | false =>
    go_enter Tryz.func15, Tryz.ntmps15
    go_wp2
    go_ret2
    exact ⟨rfl, Below.refl _ _⟩

set_option maxRecDepth 100000 in
set_option maxHeartbeats 4000000 in
theorem rnumber_c {w : World} {b : Nat} {s : ByteArray} {m : Md} {p0 : Nat} {tv : Value} {x a : Nat} (h : SX w b s m p0 tv x a) (p : Nat) (hp : p ≤ s.size) (hs : s.size ≤ 2000) :
    Calls Tryz.prog 52 #[.pointer (some ⟨b, 0, none⟩), .int .i64 (p : Int)] w fun e w' => e = .returned (.tuple #[.int .i64 (numL (digs s p) : Int), .int .i64 ((p + (digs s p).length : Nat) : Int), .bool (decide (0 < (digs s p).length))]) ∧ Below w.heap.size w w' := by
  have c0 := h.c0
  have lb := h.lt
  have hlen := digs_le s p hp
  obtain ⟨QQ, hQQ⟩ : ∃ QQ, QQ = p + (digs s p).length := ⟨_, rfl⟩
  obtain ⟨NN, hNN⟩ : ∃ NN, NN = numL (digs s p) := ⟨_, rfl⟩
  rw [← hQQ, ← hNN]
  have HQ : Hid (QQ = p + (digs s p).length ∧ NN = numL (digs s p)) := ⟨hQQ, hNN⟩
  clear h hQQ hNN
  go_enter Tryz.func52, Tryz.ntmps52
  go_wp2
  go_loopw [1, 7] (fun u v wr => ∃ k : Nat, k ≤ (digs s p).length ∧ u = .int .i64 ((p + k : Nat) : Int) ∧ v = .int .i64 (numL ((digs s p).take k) : Int) ∧ wr = w) (fun u _ _ => s.size + 1 - (intOf u).toNat)
  case atStart => exact ⟨0, Nat.zero_le _, rfl, rfl, rfl⟩
  case round =>
    obtain ⟨k, hk, rfl, rfl, rfl⟩ := hrel
    obtain ⟨pos, hpos⟩ : ∃ pos, pos = p + k := ⟨_, rfl⟩
    rw [← hpos]
    obtain ⟨n, hn⟩ : ∃ n, n = numL ((digs s p).take k) := ⟨_, rfl⟩
    have hn2 : n ≤ 256 := by rw [hn]; exact numL_le _
    rw [← hn]
    have i0 : (0 : Int) ≤ (pos : Int) := by omega
    rcases Nat.lt_or_ge k (digs s p).length with hlt | hge
    · obtain ⟨x, hx⟩ : ∃ x, (digs s p)[k]? = some x := ⟨_, List.getElem?_eq_getElem hlt⟩
      obtain ⟨hx1, hx2, hx3⟩ := digs_get hx
      have htk : numL ((digs s p).take (k + 1)) = min (10 * n + (x.toNat - 48)) 256 := by
        rw [List.take_add_one, hx, hn]
        exact numL_snoc _ _
      rw [← hpos] at hx1
      obtain ⟨hpl, hbx⟩ := bt_at.1 hx1
      have hxv : s[pos]'hpl = x := by
        have := bt_idx s pos hpl
        exact UInt8.toNat_inj.1 (by omega)
      obtain ⟨d, hd⟩ : ∃ d, d = x.toNat - 48 := ⟨_, rfl⟩
      obtain ⟨n', hn'⟩ : ∃ n', n' = min (10 * n + d) 256 := ⟨_, rfl⟩
      have j1 : (48 : Int) ≤ (x.toNat : Int) := by omega
      have j2 : (x.toNat : Int) ≤ 57 := by omega
      have i1 : (pos : Int) < (s.size : Int) := by omega
      have hw1 : IntKind.wrap .i64 (x.toNat : Int) = (x.toNat : Int) := wrap_small _ (by omega) (by omega)
      have hw2 : IntKind.wrap .i64 (10 * (n : Int)) = 10 * (n : Int) := wrap_small _ (by omega) (by omega)
      have hw3 : IntKind.wrap .i64 (10 * (n : Int) + (x.toNat : Int)) = 10 * (n : Int) + (x.toNat : Int) := wrap_small _ (by omega) (by omega)
      have hw4 : IntKind.wrap .i64 ((pos : Int) + 1) = (pos : Int) + 1 := wrap_small _ (by omega) (by omega)
      have hw5 : IntKind.wrap .i64 (10 * (n : Int) + (x.toNat : Int) - 48) = 10 * (n : Int) + (d : Int) := by rw [wrap_small _ (by omega) (by omega)]; omega
      have hmin : ∀ (t : Array TypeId) (ty : TypeId) (W : World), (Builtin.min_ t ty #[.int .i64 (10 * (n : Int) + (d : Int)), .int .i64 256]).run Tryz.prog W = .ok (.int .i64 (n' : Int)) W := fun t ty W => by
        rw [min_run, hn']
        congr 2
        omega
      have F : Hid (pos = p + k ∧ n' = numL ((digs s p).take (k + 1))) := ⟨hpos, by rw [htk, hn', hd]⟩
      clear hpos hn hx htk hx1 hbx hd hn'
      go_wp2
      go_roundw
      case rel => exact ⟨k + 1, by omega, by rw [← Nat.add_assoc, ← F.out.1]; rfl, by rw [← F.out.2], trivial⟩
      case measure => simp [intOf]; omega
    · have hkl : k = (digs s p).length := by omega
      have hend : pos = s.size ∨ ∃ x : UInt8, ∃ hpl : pos < s.size, s[pos]'hpl = x ∧ (x.toNat < 48 ∨ 57 < x.toNat) := by
        rcases Nat.lt_or_ge pos s.size with g | g
        · refine .inr ⟨_, g, rfl, ?_⟩
          refine digs_end (s := s) (p := p) ?_
          rw [← hkl, ← hpos]
          exact List.getElem?_eq_getElem (by rw [size_list]; exact g)
        · exact .inl (by omega)
      have F : Hid (pos = QQ ∧ n = NN) := ⟨by have := HQ.out.1; omega, by rw [hn, hkl, List.take_length, HQ.out.2]⟩
      have DG : Hid (decide (p < pos) = decide (0 < (digs s p).length)) := decide_eq_decide.2 (by omega)
      clear hpos hn hkl hge hk hlen
      rcases hend with hpe | ⟨x, hpl, hxv, hx⟩
      · have i1 : ¬ (pos : Int) < (s.size : Int) := by omega
        clear hpe
        go_wp2
        go_ret3
        exact ⟨by rw [← F.out.2, ← DG.out, ← F.out.1]; rfl, Below.refl _ _⟩
      · have i1 : (pos : Int) < (s.size : Int) := by omega
        have hx' : x.toNat < 48 ∨ 48 ≤ x.toNat ∧ 57 < x.toNat := by omega
        rcases hx' with j1 | ⟨j1, j2⟩
        · have j1' : ¬ (48 : Int) ≤ (x.toNat : Int) := by omega
          clear hx
          go_wp2
          go_ret3
          exact ⟨by rw [← F.out.2, ← DG.out, ← F.out.1]; rfl, Below.refl _ _⟩
        · have j1' : (48 : Int) ≤ (x.toNat : Int) := by omega
          have j2' : ¬ (x.toNat : Int) ≤ 57 := by omega
          clear hx
          go_wp2
          go_ret3
          exact ⟨by rw [← F.out.2, ← DG.out, ← F.out.1]; rfl, Below.refl _ _⟩
/-- The place of a text as a number. -/
def plcI (r : Option Nat) : Int := match r with
  | none => -1
  | some e => (e : Int)
set_option maxRecDepth 100000 in
set_option maxHeartbeats 4000000 in
theorem rfind_c {w : World} {b : Nat} {s : ByteArray} {m : Md} {p : Nat} {tv : Value} {x a : Nat} (h : SX w b s m p tv x a) (hs : s.size ≤ 2000) (k : Nat) (hk : k ≤ 4000) (t : ByteArray) (ht : t.size = 2) :
    Calls Tryz.prog 69 #[.pointer (some ⟨b, 0, none⟩), .int .i64 (k : Int), .string t] w fun e w' => e = .returned (.int .i64 (plcI (fnd s t.data.toList k))) ∧ Below w.heap.size w w' := by
  have hne : t.data.toList ≠ [] := fun q => by have hl := size_list t; rw [q] at hl; simp at hl; omega
  have hl2 : t.data.toList.length = 2 := by rw [size_list, ht]
  have H : Hid (SX w b s m p tv x a) := h
  clear h
  go_enter Tryz.func69, Tryz.ntmps69
  go_wp2
  go_loopw [7] (fun u wr => ∃ j : Nat, k ≤ j ∧ j ≤ 4000 ∧ u = .int .i64 (j : Int) ∧ (∀ i, k ≤ i → i < j → sees s i t.data.toList = false) ∧ Below w.heap.size w wr) (fun u _ => s.size + 4001 - (intOf u).toNat)
  case atStart => exact ⟨k, Nat.le_refl _, hk, rfl, fun i h1 h2 => by omega, Below.refl _ _⟩
  case round =>
    obtain ⟨j, hj, hj2, rfl, hno, hb⟩ := hrel
    have G : Hid (SX wr b s m p tv x a ∧ Below w.heap.size w wr ∧ ∀ i, k ≤ i → i < j → sees s i t.data.toList = false) := ⟨H.out.kept hb, hb, hno⟩
    have q0 := G.out.1.c0
    have ql := G.out.1.lt
    clear hno hb
    by_cases hlt : j < s.size
    · have i1 : (j : Int) < (s.size : Int) := by omega
      have hc := ris_c G.out.1 hs j (by omega) t (by omega) (by omega)
      have hw4 : IntKind.wrap .i64 ((j : Int) + 1) = (j : Int) + 1 := wrap_small _ (by omega) (by omega)
      cases hsee : sees s j t.data.toList with
      | true =>
        rw [hsee] at hc
        have E : Hid (fnd s t.data.toList k = some j) := fnd_is hne hj hsee G.out.2.2
        go_wp2_with (go_at_call 18; refine hc.mono ?_; rintro e w5 ⟨rfl, h5⟩; have X5 : Hid (Below w.heap.size w w5) := chain G.out.2.1 h5 (Nat.le_refl _); clear h5)
        go_ret
        exact ⟨by rw [E.out]; rfl, X5.out⟩
      | false =>
        rw [hsee] at hc
        have HS : Hid (sees s j t.data.toList = false) := hsee
        clear hsee
        go_wp2_with (go_at_call 18; refine hc.mono ?_; rintro e w5 ⟨rfl, h5⟩; have X5 : Hid (Below w.heap.size w w5) := chain G.out.2.1 h5 (Nat.le_refl _); clear h5)
        go_roundw
        case rel => exact ⟨j + 1, by omega, by omega, rfl, fun i h1 h2 => by
          rcases Nat.lt_or_ge i j with g | g
          · exact G.out.2.2 i h1 g
          · rw [show i = j by omega]; exact HS.out, X5.out⟩
        case measure => simp [intOf]; omega
    · have i1 : ¬ (j : Int) < (s.size : Int) := by omega
      have E : Hid (fnd s t.data.toList k = none) := fnd_isnone fun i hi => by
        rcases Nat.lt_or_ge i j with g | g
        · exact G.out.2.2 i hi g
        · exact sees_off hne (by rw [hl2]; omega)
      go_wp2
      go_ret
      exact ⟨by rw [E.out]; rfl, G.out.2.1⟩
end Go.Proofs.YtloeajhmmjdlgaaGreatDoor
namespace Go.Proofs.YtloeajhmmjdlgaaGreatDoor
open Go Go.RowKit

/-- Ranges that have numbers, by their first ones. -/
structure Srt (S : List (Int × Int)) : Prop where
  some : ∀ r ∈ S, r.1 ≤ r.2
  rise : S.Pairwise (fun a b => a.1 ≤ b.1)
theorem srt_nil : Srt [] := ⟨fun _ h => (by cases h), List.Pairwise.nil⟩
theorem srt_tail {r : Int × Int} {L : List (Int × Int)} (h : Srt (r :: L)) : Srt L := ⟨fun x hx => h.some x (List.mem_cons_of_mem _ hx), (List.pairwise_cons.1 h.rise).2⟩
theorem srt_app {O L : List (Int × Int)} (h : Srt O) (k : Srt L) (hx : ∀ x ∈ O, ∀ y ∈ L, x.1 ≤ y.1) : Srt (O ++ L) :=
  ⟨fun r hr => (List.mem_append.1 hr).elim (h.some r) (k.some r), List.pairwise_append.2 ⟨h.rise, k.rise, hx⟩⟩
theorem srt_one {r : Int × Int} (h : r.1 ≤ r.2) : Srt [r] := ⟨fun x hx => by simp at hx; subst hx; exact h, List.pairwise_singleton _ _⟩
/-- The merge, on its way: O is out, A' and B' are left. -/
structure MI (A B A' B' O : List (Int × Int)) : Prop where
  out : Srt O
  a : Srt A'
  b : Srt B'
  mem : ∀ c, (In O c ∨ In A' c ∨ In B' c) ↔ (In A c ∨ In B c)
  le : ∀ x ∈ O, ∀ y, y ∈ A' ∨ y ∈ B' → x.1 ≤ y.1
  fit : Fit O ∧ Fit A' ∧ Fit B'
  len : O.length + A'.length + B'.length ≤ A.length + B.length
theorem MI.start {A B : List (Int × Int)} (ha : Srt A) (hb : Srt B) (fa : Fit A) (fb : Fit B) : MI A B A B [] :=
  ⟨srt_nil, ha, hb, fun c => ⟨fun q => q.elim (fun q => absurd q (in_nil c)) id, .inr⟩, fun _ h => (by cases h), ⟨fit_nil, fa, fb⟩, by simp⟩
theorem MI.right {A B A' B' O : List (Int × Int)} {a b : Int × Int} (I : MI A B (a :: A') (b :: B') O) (h : b.1 < a.1) : MI A B (a :: A') B' (O ++ [b]) := by
  refine ⟨srt_app I.out (srt_one (I.b.some b (by simp))) (fun x hx y hy => by simp at hy; subst hy; exact I.le x hx y (.inr (by simp))), I.a, srt_tail I.b, fun c => ?_, fun x hx y hy => ?_, ⟨fit_append I.fit.1 (fit_sub I.fit.2.2 fun z hz => by simp at hz; subst hz; simp), I.fit.2.1, fit_sub I.fit.2.2 fun z hz => List.mem_cons_of_mem _ hz⟩, by have := I.len; simp at *; omega⟩
  · rw [← I.mem, in_append, in_one, in_cons b B']
    constructor
    · rintro ((q | q) | q | q)
      · exact .inl q
      · exact .inr (.inr (.inl q))
      · exact .inr (.inl q)
      · exact .inr (.inr (.inr q))
    · rintro (q | q | q | q)
      · exact .inl (.inl q)
      · exact .inr (.inl q)
      · exact .inl (.inr q)
      · exact .inr (.inr q)
  · rcases List.mem_append.1 hx with hx | hx
    · exact I.le x hx y (hy.elim .inl fun q => .inr (List.mem_cons_of_mem _ q))
    · simp at hx
      subst hx
      rcases hy with hy | hy
      · rcases List.mem_cons.1 hy with rfl | hy
        · omega
        · have := (List.pairwise_cons.1 I.a.rise).1 y hy; omega
      · exact (List.pairwise_cons.1 I.b.rise).1 y hy
theorem MI.left {A B A' B' O : List (Int × Int)} {a : Int × Int} (I : MI A B (a :: A') B' O) (h : ∀ b ∈ B', a.1 ≤ b.1) : MI A B A' B' (O ++ [a]) := by
  refine ⟨srt_app I.out (srt_one (I.a.some a (by simp))) (fun x hx y hy => by simp at hy; subst hy; exact I.le x hx y (.inl (by simp))), srt_tail I.a, I.b, fun c => ?_, fun x hx y hy => ?_, ⟨fit_append I.fit.1 (fit_sub I.fit.2.1 fun z hz => by simp at hz; subst hz; simp), fit_sub I.fit.2.1 fun z hz => List.mem_cons_of_mem _ hz, I.fit.2.2⟩, by have := I.len; simp at *; omega⟩
  · rw [← I.mem, in_append, in_one, in_cons a A']
    constructor
    · rintro ((q | q) | q | q)
      · exact .inl q
      · exact .inr (.inl (.inl q))
      · exact .inr (.inl (.inr q))
      · exact .inr (.inr q)
    · rintro (q | (q | q) | q)
      · exact .inl (.inl q)
      · exact .inl (.inr q)
      · exact .inr (.inl q)
      · exact .inr (.inr q)
  · rcases List.mem_append.1 hx with hx | hx
    · exact I.le x hx y (hy.elim (fun q => .inl (List.mem_cons_of_mem _ q)) .inr)
    · simp at hx
      subst hx
      rcases hy with hy | hy
      · exact (List.pairwise_cons.1 I.a.rise).1 y hy
      · exact h y hy
theorem MI.done {A B B' O : List (Int × Int)} (I : MI A B [] B' O) : Srt (O ++ B') ∧ (∀ c, In (O ++ B') c ↔ (In A c ∨ In B c)) ∧ Fit (O ++ B') ∧ (O ++ B').length ≤ A.length + B.length := by
  refine ⟨srt_app I.out I.b fun x hx y hy => I.le x hx y (.inr hy), fun c => ?_, fit_append I.fit.1 I.fit.2.2, by have := I.len; simp at *; omega⟩
  rw [← I.mem, in_append]
  exact ⟨fun q => q.elim .inl fun q => .inr (.inr q), fun q => q.elim .inl fun q => q.elim (fun q => absurd q (in_nil c)) .inr⟩
/-- What sorted tells. -/
def SortOf (w : World) (L : List (Int × Int)) (e : Ending) (w' : World) : Prop := ∃ v S, e = .returned v ∧ RR w.heap.size w' v S ∧ Srt S ∧ Fit S ∧ (∀ c, In S c ↔ In L c) ∧ S.length ≤ L.length ∧ Below w.heap.size w w'
theorem ArgR.take {W : World} {g off n cap : Nat} {L : List (Int × Int)} (h : ArgR W (.slice (some ⟨g, off, none⟩) n cap) L) {k : Nat} (hk : k ≤ L.length) : ArgR W (.slice (some ⟨g, off, none⟩) k cap) (L.take k) := by
  have hl : (L.take k).length = k := by simp; omega
  rcases h with ⟨p, c, e, rfl, e2⟩ | ⟨g', off', cap', e, h2, h3, h4, h5⟩
  · simp at hk
    subst hk
    cases e
    exact .inl ⟨_, _, rfl, rfl, fun q => by cases q⟩
  · cases e
    refine .inr ⟨g, off, cap, by rw [hl], h2, by omega, h4, fun i r hi => h5 i r ?_⟩
    rw [List.getElem?_take] at hi
    split at hi
    · exact hi
    · cases hi
theorem ArgR.drop {W : World} {g off n cap : Nat} {L : List (Int × Int)} (h : ArgR W (.slice (some ⟨g, off, none⟩) n cap) L) {k : Nat} (hk : k < L.length) : ArgR W (.slice (some ⟨g, off + k * 2, none⟩) (n - k) (cap - k)) (L.drop k) := by
  rcases h with ⟨p, c, e, rfl, e2⟩ | ⟨g', off', cap', e, h2, h3, h4, h5⟩
  · simp at hk
  · cases e
    refine .inr ⟨g, off + k * 2, cap - k, by simp, h2, by simp; omega, by omega, fun i r hi => ?_⟩
    rw [List.getElem?_drop] at hi
    have := h5 (k + i) r hi
    rw [show off + k * 2 + 2 * i = off + 2 * (k + i) by omega]
    exact this
theorem in_halves (L : List (Int × Int)) (k : Nat) (c : Int) : (In (L.take k) c ∨ In (L.drop k) c) ↔ In L c := by rw [← in_append, List.take_append_drop]
end Go.Proofs.YtloeajhmmjdlgaaGreatDoor
namespace Go.Proofs.YtloeajhmmjdlgaaGreatDoor
open Go Go.RowKit
attribute [local go_sem] ext_cell

set_option maxRecDepth 100000 in
set_option maxHeartbeats 1000000 in
theorem sorted_small {w : World} {v : Value} {L : List (Int × Int)} (h : ArgR w v L) (hF : Fit L) (hn : L.length ≤ 1) : Calls Tryz.prog 71 #[v] w (SortOf w L) := by
  obtain ⟨t0, ti, hz0, hz1, hz2⟩ := info_parts size_range
  cases L with
  | nil =>
    obtain ⟨q, cap, e, -, -, -⟩ := h.slice
    subst e
    clear h
    go_enter Tryz.func71, Tryz.ntmps71
    go_wp2
    go_ret
    exact ⟨_, [], rfl, RR.nil _ _, srt_nil, fit_nil, fun _ => Iff.rfl, Nat.le_refl _, Below.refl _ _⟩
  | cons r L' =>
    obtain rfl : L' = [] := List.eq_nil_of_length_eq_zero (by simpa using hn)
    obtain ⟨g, off, cap, rfl, hg, hn1, hm1, x1, x2⟩ := h.cons
    have HF : Hid (Fit [r]) := hF
    clear h hF
    obtain ⟨lo, hi⟩ := r
    dsimp only [List.length_nil] at x1 x2 hn1 ⊢
    have W1 : Hid (w = w) := rfl
    by_cases hq : lo ≤ hi
    · have dq : decide (lo ≤ hi) = true := decide_eq_true hq
      have HQ : Hid (lo ≤ hi) := hq
      go_enter Tryz.func71, Tryz.ntmps71
      go_wp2
      refine wp_region_ext (by kernel_rfl) (by kernel_rfl) ?_
      repeat (go_big_quiet_step (first | exact rfl))
      refine wpQuiet_nil ?_
      intro w7 hw7
      have B7 : Hid (Below w.heap.size w w7) := ext_of hw7
      have c1 := (B7.out.cell (p := ⟨g, off, none⟩) hg).trans x1
      have c2 := (B7.out.cell (p := ⟨g, off + 1, none⟩) hg).trans x2
      have hz7 := B7.out.size
      clear hw7 x1 x2
      go_wp2_with (at_builtin; refine wpList_append_own_at _ rfl _ _ 35 rfl w.heap.size 39 t0 (.agg #[.int .i64 0, .int .i64 0]) 2 16 und_ranges ti hz0 hz1 hz2 rfl (by decide) (.slice none 0 0) 0 (cellsR []) rfl (RR.nil _ _) ⟨w7.heap.size, 0, none⟩ 1 1 [.int .i64 lo, .int .i64 hi] rfl rfl (news2 _ _ _ _) (by simp [Value.oneCell']) (by unfold maxLen; omega) (by omega) (by simp; omega) ?_; intro v' w6 hown' hgrow _ hblk; obtain ⟨g6, cap6, rfl⟩ := ownsRow_some hown' (Nat.succ_pos _); have A6 : Hid (RR w.heap.size w6 (.slice (some ⟨g6, 0, none⟩) 1 cap6) [(lo, hi)]) := hown'; have B6 : Hid (Below w.heap.size w w6) := below_grown (t := 39) (size := 2) (n := 0) (xs := []) (B7.out.alloc hz7 _) (RR.nil _ _) hgrow; clear hown' hgrow hblk)
      go_ret
      exact ⟨_, [(lo, hi)], rfl, A6.out, srt_one HQ.out, HF.out, fun _ => Iff.rfl, Nat.le_refl _, B6.out⟩
    · have dq : decide (lo ≤ hi) = false := decide_eq_false hq
      have HQ : Hid (¬ lo ≤ hi) := hq
      go_enter Tryz.func71, Tryz.ntmps71
      go_wp2
      refine wp_region_ext (by kernel_rfl) (by kernel_rfl) ?_
      repeat (go_big_quiet_step (first | exact rfl))
      refine wpQuiet_nil ?_
      intro w7 hw7
      have B7 : Hid (Below w.heap.size w w7) := ext_of hw7
      clear hw7
      go_wp2
      go_ret
      exact ⟨_, [], rfl, RR.nil _ _, srt_nil, fit_nil, fun c => ⟨fun q => absurd q (in_nil c), fun q => by rw [in_one] at q; have := HQ.out; simp only at q; omega⟩, by simp, B7.out⟩

set_option maxRecDepth 100000 in
set_option maxHeartbeats 4000000 in
theorem sorted_step {w : World} {v : Value} {L : List (Int × Int)} (ih : ∀ (w : World) (v : Value) (L' : List (Int × Int)), L'.length < L.length → ArgR w v L' → Fit L' → Calls Tryz.prog 71 #[v] w (SortOf w L')) (h : ArgR w v L) (hF : Fit L) (hn : 1 < L.length) (hl : L.length + 1 ≤ 8796093022208) : Calls Tryz.prog 71 #[v] w (SortOf w L) := by
  obtain ⟨t0, ti, hz0, hz1, hz2⟩ := info_parts size_range
  obtain ⟨q, cap, e, -, hcap, hcells⟩ := h.slice
  subst e
  obtain ⟨g, off, rfl, hg, -, -⟩ := hcells 0 _ (List.getElem?_eq_getElem (by omega))
  obtain ⟨k, hk⟩ : ∃ k, L.length / 2 = k := ⟨_, rfl⟩
  have hk1 : 0 < k := by omega
  have hk2 : k < L.length := by omega
  have IH : Hid (∀ (w : World) (v : Value) (L' : List (Int × Int)), L'.length < L.length → ArgR w v L' → Fit L' → Calls Tryz.prog 71 #[v] w (SortOf w L')) := ih
  have T1 : Hid (ArgR w (.slice (some ⟨g, off, none⟩) k cap) (L.take k) ∧ Fit (L.take k) ∧ (L.take k).length < L.length) := ⟨h.take (by omega), fit_sub hF fun x hx => List.mem_of_mem_take hx, by simp; omega⟩
  have T2 : Hid (ArgR w (.slice (some ⟨g, off + k * 2, none⟩) (L.length - k) (cap - k)) (L.drop k) ∧ Fit (L.drop k) ∧ (L.drop k).length < L.length) := ⟨h.drop hk2, fit_sub hF fun x hx => List.mem_of_mem_drop hx, by simp; omega⟩
  have HL : Hid ((L.take k).length + (L.drop k).length = L.length) := hide (by simp; omega)
  have q1 : ((L.length : Int).tdiv 2) = (k : Int) := by rw [← hk]; simp [Int.tdiv_eq_ediv]
  have q2 : IntKind.wrap .i64 ((L.length : Int).tdiv 2) = (k : Int) := by rw [q1, IntKind.wrap_i64]; omega
  have n0 : ((L.length : Int) == 0) = false := beq_false_of_ne (by omega)
  have n1 : ((L.length : Int) == 1) = false := beq_false_of_ne (by omega)
  have k0 : (0 : Int) ≤ (k : Int) := by omega
  have k1 : (k : Int) ≤ (cap : Int) := by omega
  have k2 : (k : Int) ≤ (L.length : Int) := by omega
  have k3 : ¬ cap = k := by omega
  clear h hF ih hcells hk
  go_enter Tryz.func71, Tryz.ntmps71
  go_wp2_with first
    | (go_at_call 71; have hx := X5.out; clear hx; have hih := IH.out w5 _ _ T2.out.2.2 (T2.out.1.kept X5.out.2.2.2.2.2) T2.out.2.1; (with_reducible refine hih.mono ?_); clear hih; rintro e w6 ⟨v6, B, rfl, h1, h2, h3, h4, h5, h6⟩; obtain ⟨qb, cb, rfl⟩ := h1.shape; have X6 : Hid (RR w5.heap.size w6 (.slice qb B.length cb) B ∧ Srt B ∧ Fit B ∧ (∀ c, In B c ↔ In (L.drop k) c) ∧ B.length ≤ (L.drop k).length ∧ Below w5.heap.size w5 w6) := ⟨h1, h2, h3, h4, h5, h6⟩; clear h1 h2 h3 h4 h5 h6)
    | (go_at_call 71; have hih := IH.out w _ _ T1.out.2.2 T1.out.1 T1.out.2.1; (with_reducible refine hih.mono ?_); clear hih; rintro e w5 ⟨v5, A, rfl, h1, h2, h3, h4, h5, h6⟩; obtain ⟨qa, ca, rfl⟩ := h1.shape; have X5 : Hid (RR w.heap.size w5 (.slice qa A.length ca) A ∧ Srt A ∧ Fit A ∧ (∀ c, In A c ↔ In (L.take k) c) ∧ A.length ≤ (L.take k).length ∧ Below w.heap.size w w5) := ⟨h1, h2, h3, h4, h5, h6⟩; clear h1 h2 h3 h4 h5 h6)
  rename World => W1
  have ST : Hid (MI A B A B []) := MI.start X5.out.2.1 X6.out.2.1 X5.out.2.2.1 X6.out.2.2.1
  have AA : Hid (ArgR W1 (.slice qa A.length ca) A ∧ ArgR W1 (.slice qb B.length cb) B) := ⟨(X5.out.1.kept X6.out.2.2.2.2.2).arg, X6.out.1.arg⟩
  have hab : A.length + B.length + 1 ≤ 8796093022208 := by have := X5.out.2.2.2.2.1; have := X6.out.2.2.2.2.1; have := HL.out; omega
  have BW : Hid (Below w.heap.size w W1) := chain X5.out.2.2.2.2.2 X6.out.2.2.2.2.2 (Nat.le_refl _)
  have HA : Hid (∀ (i : Nat) (r : Int × Int), A[i]? = some r → ∃ g off, qa = some ⟨g, off, none⟩ ∧ g < W1.heap.size ∧ W1.cell? ⟨g, off + 2 * i, none⟩ = some (.int .i64 r.1) ∧ W1.cell? ⟨g, off + 2 * i + 1, none⟩ = some (.int .i64 r.2)) := by
    obtain ⟨q', cap', e, -, -, hc⟩ := AA.out.1.slice
    cases e
    exact hc
  have FIN : Hid (∀ O B', MI A B [] B' O → Srt (O ++ B') ∧ Fit (O ++ B') ∧ (∀ c, In (O ++ B') c ↔ In L c) ∧ (O ++ B').length ≤ L.length) := fun O B' I => by
    obtain ⟨m1, m2, m3, m4⟩ := I.done
    refine ⟨m1, m3, fun c => ?_, ?_⟩
    · rw [m2, X5.out.2.2.2.1, X6.out.2.2.2.1, in_halves]
    · have := X5.out.2.2.2.2.1; have := X6.out.2.2.2.2.1; have := HL.out; omega
  clear q1 q2 k0 k1 k2 k3 n0 n1
  go_loopw [3, 5, 6] (fun ov bv i wr => ∃ (j : Nat) (B' O : List (Int × Int)), j ≤ A.length ∧ i = .int .i64 j ∧ ArgR W1 bv B' ∧ RR W1.heap.size wr ov O ∧ MI A B (A.drop j) B' O ∧ Below W1.heap.size W1 wr) (fun _ _ i _ => A.length - (intOf i).toNat)
  case atStart => exact ⟨0, B, [], Nat.zero_le _, rfl, AA.out.2, RR.nil _ _, ST.out, Below.refl _ _⟩
  case round =>
    obtain ⟨j, B', O, hj, rfl, hbv, hov, hI, hb⟩ := hrel
    have RB : Hid (ArgR W1 u5 B') := hbv
    have RO : Hid (RR W1.heap.size wr u3 O) := hov
    have I : Hid (MI A B (A.drop j) B' O) := hI
    have BB : Hid (Below W1.heap.size W1 wr) := hb
    clear hbv hov hI hb
    by_cases hlt : j < A.length
    · obtain ⟨a, ea⟩ : ∃ r, A[j]? = some r := ⟨_, List.getElem?_eq_getElem hlt⟩
      have DR : Hid (A.drop j = a :: A.drop (j + 1)) := hide (by obtain ⟨h1, h2⟩ := List.getElem?_eq_some_iff.1 ea; rw [List.drop_eq_getElem_cons h1, h2])
      obtain ⟨ga, oa, rfl, hga, xa1, xa2⟩ := HA.out j _ ea
      have I2 : Hid (MI A B (a :: A.drop (j + 1)) B' O) := hide (by rw [← DR.out]; exact I.out)
      rw [Nat.mul_comm] at xa1 xa2
      obtain ⟨la, ra⟩ := a
      dsimp only at xa1 xa2
      have XA : Hid (W1.cell? ⟨ga, oa + j * 2, none⟩ = some (.int .i64 la) ∧ W1.cell? ⟨ga, oa + j * 2 + 1, none⟩ = some (.int .i64 ra) ∧ ga < W1.heap.size) := ⟨xa1, xa2, hga⟩
      have i0 : (0 : Int) ≤ (j : Int) := by omega
      have i1 : (j : Int) < (A.length : Int) := by omega
      clear xa1 xa2 hga ea
      rename World => W2
      obtain ⟨qq, cc, e5⟩ : ∃ q c, u5 = .slice q B'.length c := by obtain ⟨q, c, e, -⟩ := RB.out.slice; exact ⟨q, c, e⟩
      obtain ⟨qq3, cc3, e3⟩ := RO.out.shape
      go_wp2
      go_loopw [3, 5] (fun ov bv wr => ∃ (B' O : List (Int × Int)), ArgR W1 bv B' ∧ RR W1.heap.size wr ov O ∧ MI A B ((la, ra) :: A.drop (j + 1)) B' O ∧ Below W1.heap.size W1 wr) (fun _ bv _ => lenV bv)
      case atStart => exact ⟨B', O, RB.out, RO.out, I2.out, BB.out⟩
      case round =>
        clear RB RO I I2 BB e5 e3
        obtain ⟨B', O, hbv, hov, hI, hb⟩ := hrel
        obtain ⟨qo, co, e3⟩ := hov.shape
        subst e3
        have RO : Hid (RR W1.heap.size wr (.slice qo O.length co) O) := hov
        have I : Hid (MI A B ((la, ra) :: A.drop (j + 1)) B' O) := hI
        have BB : Hid (Below W1.heap.size W1 wr) := hb
        have hol : O.length + 1 ≤ 8796093022208 := by have := hI.len; simp at this; omega
        have hbs := hb.size
        have ca1 := (BB.out.cell (p := ⟨ga, oa + j * 2, none⟩) XA.out.2.2).trans XA.out.1
        have sa : ga < wr.heap.size := Nat.lt_of_lt_of_le XA.out.2.2 hbs
        clear hov hI hb
        cases B' with
        | nil =>
          obtain ⟨q2, cap2, e2, -, -, -⟩ := hbv.slice
          simp only [List.length_nil] at e2
          subst e2
          have RB : Hid (ArgR W1 (.slice q2 0 cap2) []) := hbv
          have I2 : Hid (MI A B (A.drop (j + 1)) [] (O ++ [(la, ra)])) := I.out.left (fun _ h => by cases h)
          have d0 : decide ((0 : Int) < 0) = false := by decide
          clear hbv
          go_wp2
          refine wp_region_ext (by kernel_rfl) (by kernel_rfl) ?_
          repeat (go_big_quiet_step (first | exact rfl))
          refine wpQuiet_nil ?_
          intro w7 hw7
          have B7 : Hid (Below W1.heap.size W1 w7) := chain BB.out (ext_of hw7) (Nat.le_refl _)
          have R7 : Hid (RR W1.heap.size w7 (.slice qo O.length co) O) := RO.out.kept (ext_of hw7)
          have e1 := (B7.out.cell (p := ⟨ga, oa + j * 2, none⟩) XA.out.2.2).trans XA.out.1
          have e2 := (B7.out.cell (p := ⟨ga, oa + j * 2 + 1, none⟩) XA.out.2.2).trans XA.out.2.1
          have hz7 := B7.out.size
          clear hw7 ca1
          go_wp2_with (at_builtin; refine wpList_append_own_at _ rfl _ _ 35 rfl W1.heap.size 39 t0 (.agg #[.int .i64 0, .int .i64 0]) 2 16 und_ranges ti hz0 hz1 hz2 rfl (by decide) (.slice qo O.length co) O.length (cellsR O) rfl (World.ownsRow.alloc R7.out (.cells #[.int .i64 la, .int .i64 ra] 39)) ⟨w7.heap.size, 0, none⟩ 1 1 [.int .i64 la, .int .i64 ra] rfl rfl (news2 _ _ _ _) (by simp [Value.oneCell']) (by unfold maxLen; omega) (by omega) (by simp; omega) ?_; intro v' w6 hown' hgrow _ hblk; obtain ⟨g6, cap6, rfl⟩ := ownsRow_some hown' (Nat.succ_pos _); have A6 : Hid (RR W1.heap.size w6 (.slice (some ⟨g6, 0, none⟩) (O.length + 1) cap6) (O ++ [(la, ra)])) := rr_app hown'; have B6 : Hid (Below W1.heap.size W1 w6) := below_grown (B7.out.alloc B7.out.size _) (World.ownsRow.alloc R7.out _) hgrow; clear hown' hgrow hblk)
          go_roundw
          case rel => exact ⟨j + 1, [], _, by omega, by go_num, RB.out, A6.out, I2.out, B6.out⟩
          case measure => simp [intOf]; omega
        | cons b B' =>
          obtain ⟨g2, o2, cap2, e2, hg2, hn2, hm2, y1, y2⟩ := hbv.cons
          subst e2
          have RB : Hid (ArgR W1 (.slice (some ⟨g2, o2, none⟩) (B'.length + 1) cap2) (b :: B')) := hbv
          obtain ⟨lb, rb⟩ := b
          dsimp only at y1 y2
          have YB : Hid (W1.cell? ⟨g2, o2, none⟩ = some (.int .i64 lb) ∧ W1.cell? ⟨g2, o2 + 1, none⟩ = some (.int .i64 rb) ∧ g2 < W1.heap.size) := ⟨y1, y2, hg2⟩
          have cb1 := (BB.out.cell (p := ⟨g2, o2, none⟩) YB.out.2.2).trans YB.out.1
          have sb : g2 < wr.heap.size := Nat.lt_of_lt_of_le hg2 hbs
          have d1 : (0 : Int) < (B'.length : Int) + 1 := by omega
          have dd : decide ((0 : Int) < (B'.length : Int) + 1) = true := decide_eq_true d1
          unfold maxLen at hm2
          clear hbv y1 y2 hg2
          by_cases hq : lb < la
          · have I2 : Hid (MI A B ((la, ra) :: A.drop (j + 1)) B' (O ++ [(lb, rb)])) := I.out.right hq
            have dq : decide (lb < la) = true := decide_eq_true hq
            have TT := RB.out.tail
            by_cases hcap : cap2 = 1
            · have T1' : Hid (ArgR W1 (.slice (some ⟨g2, o2, none⟩) 0 0) B') := TT.1 hcap
              have hA0 : B'.length = 0 := by omega
              subst hcap
              clear TT
              go_wp2
              refine wp_region_ext (by kernel_rfl) (by kernel_rfl) ?_
              repeat (go_big_quiet_step (first | exact rfl))
              refine wpQuiet_nil ?_
              intro w7 hw7
              have B7 : Hid (Below W1.heap.size W1 w7) := chain BB.out (ext_of hw7) (Nat.le_refl _)
              have R7 : Hid (RR W1.heap.size w7 (.slice qo O.length co) O) := RO.out.kept (ext_of hw7)
              have e1 := (B7.out.cell (p := ⟨g2, o2, none⟩) YB.out.2.2).trans YB.out.1
              have e2 := (B7.out.cell (p := ⟨g2, o2 + 1, none⟩) YB.out.2.2).trans YB.out.2.1
              have hz7 := B7.out.size
              clear hw7 ca1 cb1
              go_wp2_with (at_builtin; refine wpList_append_own_at _ rfl _ _ 35 rfl W1.heap.size 39 t0 (.agg #[.int .i64 0, .int .i64 0]) 2 16 und_ranges ti hz0 hz1 hz2 rfl (by decide) (.slice qo O.length co) O.length (cellsR O) rfl (World.ownsRow.alloc R7.out (.cells #[.int .i64 lb, .int .i64 rb] 39)) ⟨w7.heap.size, 0, none⟩ 1 1 [.int .i64 lb, .int .i64 rb] rfl rfl (news2 _ _ _ _) (by simp [Value.oneCell']) (by unfold maxLen; omega) (by omega) (by simp; omega) ?_; intro v' w6 hown' hgrow _ hblk; obtain ⟨g6, cap6, rfl⟩ := ownsRow_some hown' (Nat.succ_pos _); have A6 : Hid (RR W1.heap.size w6 (.slice (some ⟨g6, 0, none⟩) (O.length + 1) cap6) (O ++ [(lb, rb)])) := rr_app hown'; have B6 : Hid (Below W1.heap.size W1 w6) := below_grown (B7.out.alloc B7.out.size _) (World.ownsRow.alloc R7.out _) hgrow; clear hown' hgrow hblk)
              go_roundw
              case rel => exact ⟨B', _, T1'.out, A6.out, I2.out, B6.out⟩
              case measure => simp only [lenV]; omega
            · have T1' : Hid (ArgR W1 (.slice (some ⟨g2, o2 + 2, none⟩) B'.length (cap2 - 1)) B') := TT.2 hcap
              clear TT
              go_wp2
              refine wp_region_ext (by kernel_rfl) (by kernel_rfl) ?_
              repeat (go_big_quiet_step (first | exact rfl))
              refine wpQuiet_nil ?_
              intro w7 hw7
              have B7 : Hid (Below W1.heap.size W1 w7) := chain BB.out (ext_of hw7) (Nat.le_refl _)
              have R7 : Hid (RR W1.heap.size w7 (.slice qo O.length co) O) := RO.out.kept (ext_of hw7)
              have e1 := (B7.out.cell (p := ⟨g2, o2, none⟩) YB.out.2.2).trans YB.out.1
              have e2 := (B7.out.cell (p := ⟨g2, o2 + 1, none⟩) YB.out.2.2).trans YB.out.2.1
              have hz7 := B7.out.size
              clear hw7 ca1 cb1
              go_wp2_with (at_builtin; refine wpList_append_own_at _ rfl _ _ 35 rfl W1.heap.size 39 t0 (.agg #[.int .i64 0, .int .i64 0]) 2 16 und_ranges ti hz0 hz1 hz2 rfl (by decide) (.slice qo O.length co) O.length (cellsR O) rfl (World.ownsRow.alloc R7.out (.cells #[.int .i64 lb, .int .i64 rb] 39)) ⟨w7.heap.size, 0, none⟩ 1 1 [.int .i64 lb, .int .i64 rb] rfl rfl (news2 _ _ _ _) (by simp [Value.oneCell']) (by unfold maxLen; omega) (by omega) (by simp; omega) ?_; intro v' w6 hown' hgrow _ hblk; obtain ⟨g6, cap6, rfl⟩ := ownsRow_some hown' (Nat.succ_pos _); have A6 : Hid (RR W1.heap.size w6 (.slice (some ⟨g6, 0, none⟩) (O.length + 1) cap6) (O ++ [(lb, rb)])) := rr_app hown'; have B6 : Hid (Below W1.heap.size W1 w6) := below_grown (B7.out.alloc B7.out.size _) (World.ownsRow.alloc R7.out _) hgrow; clear hown' hgrow hblk)
              go_roundw
              case rel => exact ⟨B', _, T1'.out, A6.out, I2.out, B6.out⟩
              case measure => simp only [lenV]; omega
          · have I2 : Hid (MI A B (A.drop (j + 1)) ((lb, rb) :: B') (O ++ [(la, ra)])) := I.out.left (fun y hy => by
              rcases List.mem_cons.1 hy with rfl | hy
              · simp only; omega
              · have := (List.pairwise_cons.1 I.out.b.rise).1 y hy; simp only at this ⊢; omega)
            have dq : decide (lb < la) = false := decide_eq_false hq
            go_wp2
            refine wp_region_ext (by kernel_rfl) (by kernel_rfl) ?_
            repeat (go_big_quiet_step (first | exact rfl))
            refine wpQuiet_nil ?_
            intro w7 hw7
            have B7 : Hid (Below W1.heap.size W1 w7) := chain BB.out (ext_of hw7) (Nat.le_refl _)
            have R7 : Hid (RR W1.heap.size w7 (.slice qo O.length co) O) := RO.out.kept (ext_of hw7)
            have e1 := (B7.out.cell (p := ⟨ga, oa + j * 2, none⟩) XA.out.2.2).trans XA.out.1
            have e2 := (B7.out.cell (p := ⟨ga, oa + j * 2 + 1, none⟩) XA.out.2.2).trans XA.out.2.1
            have hz7 := B7.out.size
            clear hw7 ca1 cb1
            go_wp2_with (at_builtin; refine wpList_append_own_at _ rfl _ _ 35 rfl W1.heap.size 39 t0 (.agg #[.int .i64 0, .int .i64 0]) 2 16 und_ranges ti hz0 hz1 hz2 rfl (by decide) (.slice qo O.length co) O.length (cellsR O) rfl (World.ownsRow.alloc R7.out (.cells #[.int .i64 la, .int .i64 ra] 39)) ⟨w7.heap.size, 0, none⟩ 1 1 [.int .i64 la, .int .i64 ra] rfl rfl (news2 _ _ _ _) (by simp [Value.oneCell']) (by unfold maxLen; omega) (by omega) (by simp; omega) ?_; intro v' w6 hown' hgrow _ hblk; obtain ⟨g6, cap6, rfl⟩ := ownsRow_some hown' (Nat.succ_pos _); have A6 : Hid (RR W1.heap.size w6 (.slice (some ⟨g6, 0, none⟩) (O.length + 1) cap6) (O ++ [(la, ra)])) := rr_app hown'; have B6 : Hid (Below W1.heap.size W1 w6) := below_grown (B7.out.alloc B7.out.size _) (World.ownsRow.alloc R7.out _) hgrow; clear hown' hgrow hblk)
            go_roundw
            case rel => exact ⟨j + 1, (lb, rb) :: B', _, by omega, by go_num, RB.out, A6.out, I2.out, B6.out⟩
            case measure => simp [intOf]; omega
    · have i1 : ¬ (j : Int) < (A.length : Int) := by omega
      have D0 : Hid (A.drop j = []) := hide (List.drop_of_length_le (by omega))
      have I2 : Hid (MI A B [] B' O) := hide (by rw [← D0.out]; exact I.out)
      obtain ⟨q2, cap2, e5, -, -, -⟩ := RB.out.slice
      subst e5
      obtain ⟨qo, co, e3⟩ := RO.out.shape
      subst e3
      have F := FIN.out O B' I2.out
      have FF : Hid _ := F
      have hlen := F.2.2.2
      rw [List.length_append] at hlen
      have hbs := BB.out.size
      clear F
      cases q2 with
      | none =>
        have e0 : Value.slice none B'.length cap2 = .slice none 0 0 ∧ B' = [] := by
          rcases RB.out with ⟨p, cap', e, e2, e3⟩ | ⟨g', off', cap', e, _⟩
          · subst e2
            cases e
            have := e3 rfl
            subst this
            exact ⟨rfl, rfl⟩
          · cases e
        obtain ⟨e1, e2⟩ := e0
        subst e2
        cases e1
        go_wp2_with (at_builtin; refine wpList_append_own_none rfl _ _ 35 rfl W1.heap.size 39 t0 2 und_ranges ti (.slice qo O.length co) O.length (cellsR O) rfl RO.out rfl ?_)
        go_ret
        refine ⟨_, O ++ [], rfl, ?_, FF.out.1, FF.out.2.1, FF.out.2.2.1, FF.out.2.2.2, chain BW.out BB.out (Nat.le_refl _)⟩
        rw [List.append_nil]
        exact RO.out.mono BW.out.size
      | some ad =>
        have NW : Hid (∀ j u, (cellsR B')[j]? = some u → wr.cell? (ad.add j) = some u) := (RB.out.kept BB.out).news
        go_wp2_with (at_builtin; refine wpList_append_own_at _ rfl _ _ 35 rfl W1.heap.size 39 t0 (.agg #[.int .i64 0, .int .i64 0]) 2 16 und_ranges ti hz0 hz1 hz2 rfl (by decide) (.slice qo O.length co) O.length (cellsR O) rfl RO.out ad B'.length cap2 (cellsR B') rfl (cellsR_length B') NW.out (cellsR_one B') (by unfold maxLen; omega) (by omega) hbs ?_; intro v' w6 hown' hgrow _ hblk; have A6 : Hid (RR W1.heap.size w6 v' (O ++ B')) := rr_apps hown'; have B6 : Hid (Below W1.heap.size W1 w6) := below_grown BB.out RO.out hgrow; clear hown' hgrow hblk)
        go_ret
        exact ⟨_, O ++ B', rfl, A6.out.mono BW.out.size, FF.out.1, FF.out.2.1, FF.out.2.2.1, FF.out.2.2.2, chain BW.out B6.out (Nat.le_refl _)⟩

theorem sorted_c (n : Nat) : ∀ (w : World) (v : Value) (L : List (Int × Int)), L.length ≤ n → n + 1 ≤ 8796093022208 → ArgR w v L → Fit L → Calls Tryz.prog 71 #[v] w (SortOf w L) := by
  induction n with
  | zero => exact fun w v L hn _ h hF => sorted_small h hF (by omega)
  | succ n ih =>
    intro w v L hn hl h hF
    by_cases h1 : L.length ≤ 1
    · exact sorted_small h hF h1
    · exact sorted_step (fun w v L' hL' h' hF' => ih w v L' (by omega) (by omega) h' hF') h hF (by omega) (by omega)
end Go.Proofs.YtloeajhmmjdlgaaGreatDoor
namespace Go.Proofs.YtloeajhmmjdlgaaGreatDoor
open Go Go.RowKit
attribute [local go_sem] ext_cell

theorem rr_cast {base : Nat} {w : World} {v : Value} {A B : List (Int × Int)} (e : A = B) (h : RR base w v A) : RR base w v B := e ▸ h
set_option maxRecDepth 100000 in
set_option maxHeartbeats 4000000 in
theorem rclass_c {w : World} {v : Value} {L : List (Int × Int)} (h : ArgR w v L) (hF : Fit L) (hl : L.length + 1 ≤ 8796093022208) :
    Calls Tryz.prog 55 #[v] w (Gets w (In L) L.length) := by
  obtain ⟨t0, ti, hz0, hz1, hz2⟩ := info_parts size_range
  have H : Hid (ArgR w v L ∧ Fit L) := ⟨h, hF⟩
  clear h hF
  go_enter Tryz.func55, Tryz.ntmps55
  go_wp2_with (go_at_call 71; refine (sorted_c L.length w v L (Nat.le_refl _) hl H.out.1 H.out.2).mono ?_; rintro e w5 ⟨v5, S, rfl, h1, h2, h3, h4, h5, h6⟩; obtain ⟨qs, cs, rfl⟩ := h1.shape; have X5 : Hid (RR w.heap.size w5 (.slice qs S.length cs) S ∧ Srt S ∧ Fit S ∧ (∀ c, In S c ↔ In L c) ∧ S.length ≤ L.length ∧ Below w.heap.size w w5) := ⟨h1, h2, h3, h4, h5, h6⟩; clear h1 h2 h3 h4 h5 h6)
  rename World => W1
  have hsl := X5.out.2.2.2.2.1
  have HC : Hid (∀ (i : Nat) (r : Int × Int), S[i]? = some r → ∃ g off, qs = some ⟨g, off, none⟩ ∧ g < W1.heap.size ∧ W1.cell? ⟨g, off + 2 * i, none⟩ = some (.int .i64 r.1) ∧ W1.cell? ⟨g, off + 2 * i + 1, none⟩ = some (.int .i64 r.2)) := by
    obtain ⟨q', cap', e, -, -, hc⟩ := X5.out.1.arg.slice
    cases e
    exact hc
  have SP : Hid (∀ k, k ≤ S.length → Cls ((S.take k).foldl addM []) ∧ Fit ((S.take k).foldl addM []) ∧ ((S.take k).foldl addM []).length ≤ k ∧ ∀ c, In ((S.take k).foldl addM []) c ↔ In (S.take k) c) := fun k hk => by
    have := fold_spec X5.out.2.1.rise X5.out.2.2.1 k hk
    exact ⟨this.1, this.2.1, this.2.2.1, this.2.2.2.1⟩
  go_loopw [3, 5] (fun ov i wr => ∃ k : Nat, k ≤ S.length ∧ i = .int .i64 k ∧ RR W1.heap.size wr ov ((S.take k).foldl addM []) ∧ Below W1.heap.size W1 wr) (fun _ i _ => S.length - (intOf i).toNat)
  case atStart => exact ⟨0, Nat.zero_le _, rfl, RR.nil _ _, Below.refl _ _⟩
  case round =>
    obtain ⟨k, hk, rfl, hrr, hb⟩ := hrel
    have RC : Hid (RR W1.heap.size wr u3 ((S.take k).foldl addM [])) := hrr
    have BB : Hid (Below W1.heap.size W1 wr) := hb
    have hbs := hb.size
    clear hb hrr
    by_cases hlt : k < S.length
    · obtain ⟨r, hr⟩ : ∃ r, S[k]? = some r := ⟨_, List.getElem?_eq_getElem hlt⟩
      obtain ⟨g, off, rfl, hg, x1, x2⟩ := HC.out k _ hr
      rw [Nat.mul_comm] at x1 x2
      have NX : Hid ((S.take (k + 1)).foldl addM [] = addM ((S.take k).foldl addM []) r) := hide (by
        obtain ⟨h1, h2⟩ := List.getElem?_eq_some_iff.1 hr
        rw [take_next _ _ h1, List.foldl_append, h2]; rfl)
      have hne : ¬ r.2 < r.1 := by have := X5.out.2.1.some r (List.mem_of_getElem? hr); omega
      have hfr := X5.out.2.2.1 r (List.mem_of_getElem? hr)
      have SPk := SP.out k hk
      have FC : Hid (Fit ((S.take k).foldl addM [])) := SPk.2.1
      have hcl := SPk.2.2.1
      obtain ⟨lo, hi⟩ := r
      dsimp only at x1 x2 hne hfr
      have XS : Hid (W1.cell? ⟨g, off + k * 2, none⟩ = some (.int .i64 lo) ∧ W1.cell? ⟨g, off + k * 2 + 1, none⟩ = some (.int .i64 hi) ∧ g < W1.heap.size) := ⟨x1, x2, hg⟩
      have cs1 := (BB.out.cell (p := ⟨g, off + k * 2, none⟩) hg).trans x1
      have sg : g < wr.heap.size := Nat.lt_of_lt_of_le hg hbs
      have i0 : (0 : Int) ≤ (k : Int) := by omega
      have i1 : (k : Int) < (S.length : Int) := by omega
      clear x1 x2 hr SPk hg
      generalize (S.take k).foldl addM [] = C at *
      rcases last_cases C with e | ⟨D, x, e⟩
      · subst e
        obtain ⟨qo, co, e3⟩ := RC.out.shape
        subst e3
        have LD : Hid ((0 : Nat) = 0) := rfl
        have NX2 : Hid ((S.take (k + 1)).foldl addM [] = [(lo, hi)]) := hide (by rw [NX.out, addM_nil hne])
        simp only [List.length_nil] at RC ⊢
        have wn : IntKind.wrap .i64 ((0 : Int) - 1) = -1 := by decide
        have d0 : decide ((0 : Int) ≤ -1) = false := by decide
        · ·
            go_wp2
            refine wp_region_ext (by kernel_rfl) (by kernel_rfl) ?_
            repeat (go_big_quiet_step (first | exact rfl))
            refine wpQuiet_nil ?_
            intro w7 hw7
            have B7 : Hid (Below W1.heap.size W1 w7) := chain BB.out (ext_of hw7) (Nat.le_refl _)
            have e1 := (B7.out.cell (p := ⟨g, off + k * 2, none⟩) XS.out.2.2).trans XS.out.1
            have e2 := (B7.out.cell (p := ⟨g, off + k * 2 + 1, none⟩) XS.out.2.2).trans XS.out.2.1
            have hz7 := B7.out.size
            have R7 : Hid (RR W1.heap.size w7 (.slice qo 0 co) []) := RC.out.kept (ext_of hw7)
            clear hw7 cs1
            go_wp2_with (at_builtin; refine wpList_append_own_at _ rfl _ _ 35 rfl W1.heap.size 39 t0 (.agg #[.int .i64 0, .int .i64 0]) 2 16 und_ranges ti hz0 hz1 hz2 rfl (by decide) (.slice qo 0 co) 0 (cellsR []) rfl (World.ownsRow.alloc R7.out (.cells #[.int .i64 lo, .int .i64 hi] 39)) ⟨w7.heap.size, 0, none⟩ 1 1 [.int .i64 lo, .int .i64 hi] rfl rfl (news2 _ _ _ _) (by simp [Value.oneCell']) (by unfold maxLen; omega) (by omega) (by simp; omega) ?_; intro v' w6 hown' hgrow _ hblk; obtain ⟨g6, cap6, rfl⟩ := ownsRow_some hown' (Nat.succ_pos _); have A6 : Hid (RR W1.heap.size w6 (.slice (some ⟨g6, 0, none⟩) (0 + 1) cap6) ([(lo, hi)])) := rr_apps (F := []) (L := [(lo, hi)]) hown'; have B6 : Hid (Below W1.heap.size W1 w6) := below_grown (B7.out.alloc hz7 _) (World.ownsRow.alloc R7.out _) hgrow; clear hown' hgrow hblk)
            go_roundw
            case rel => exact ⟨k + 1, by omega, by go_num, rr_cast NX2.out.symm A6.out, B6.out⟩
            case measure => simp [intOf]; omega
      · subst e
        have fx := FC.out x (by simp)
        obtain ⟨nd, hnd⟩ : ∃ nd, D.length = nd := ⟨_, rfl⟩
        have LD : Hid (D.length = nd) := hnd
        have OW0 : Hid (wr.ownsRow W1.heap.size 39 2 u3 (nd + 1) (cellsR (D ++ [x]))) := hide (by have := RC.out; unfold RR at this; rwa [List.length_append, List.length_singleton, hnd] at this)
        obtain ⟨go, co, e3⟩ := ownsRow_some OW0.out (by omega)
        subst e3
        have OW : Hid (wr.ownsRow W1.heap.size 39 2 (.slice (some ⟨go, 0, none⟩) (nd + 1) co) (nd + 1) (cellsR (D ++ [x]))) := OW0.out
        have hgo : go < wr.heap.size := (ownsRow_at OW.out rfl).2.1
        have hgb : W1.heap.size ≤ go := (ownsRow_at OW.out rfl).1
        have hcell := (last_cell OW.out hnd).2
        rw [List.length_append, List.length_singleton, hnd] at hcl
        clear RC OW0 hnd
        obtain ⟨y, hy⟩ : ∃ y, x.2 = y := ⟨_, rfl⟩
        rw [hy] at hcell fx
        have HY : Hid (x.2 = y) := hy
        clear hy
        have wn : IntKind.wrap .i64 ((nd : Int) + 1 - 1) = (nd : Int) := by rw [IntKind.wrap_i64]; omega
        have j0 : (0 : Int) ≤ (nd : Int) := by omega
        have j1 : (nd : Int) < (nd : Int) + 1 := by omega
        have d0 : decide ((0 : Int) ≤ (nd : Int)) = true := decide_eq_true j0
        by_cases hf : y + 1 < lo
        · have d1 : decide (lo ≤ y) = false := decide_eq_false (by omega)
          have wl : IntKind.wrap .i64 (lo - 1) = lo - 1 := by rw [IntKind.wrap_i64]; omega
          have d2 : (lo - 1 == y) = false := beq_false_of_ne (by omega)
          have NX2 : Hid ((S.take (k + 1)).foldl addM [] = D ++ [x] ++ [(lo, hi)]) := hide (by rw [NX.out, addM_far hne (by rw [HY.out]; exact hf)])
          ·
            go_wp2
            refine wp_region_ext (by kernel_rfl) (by kernel_rfl) ?_
            repeat (go_big_quiet_step (first | exact rfl))
            refine wpQuiet_nil ?_
            intro w7 hw7
            have B7 : Hid (Below W1.heap.size W1 w7) := chain BB.out (ext_of hw7) (Nat.le_refl _)
            have e1 := (B7.out.cell (p := ⟨g, off + k * 2, none⟩) XS.out.2.2).trans XS.out.1
            have e2 := (B7.out.cell (p := ⟨g, off + k * 2 + 1, none⟩) XS.out.2.2).trans XS.out.2.1
            have hz7 := B7.out.size
            have R7 : Hid (w7.ownsRow W1.heap.size 39 2 (.slice (some ⟨go, 0, none⟩) (nd + 1) co) (nd + 1) (cellsR (D ++ [x]))) := ownsRow_fr (S := fun _ => False) OW.out (Fr.of_below (ext_of hw7)) (fun _ _ q => q)
            clear hw7 cs1 hcell
            go_wp2_with (at_builtin; refine wpList_append_own_at _ rfl _ _ 35 rfl W1.heap.size 39 t0 (.agg #[.int .i64 0, .int .i64 0]) 2 16 und_ranges ti hz0 hz1 hz2 rfl (by decide) (.slice (some ⟨go, 0, none⟩) (nd + 1) co) (nd + 1) (cellsR (D ++ [x])) rfl (World.ownsRow.alloc R7.out (.cells #[.int .i64 lo, .int .i64 hi] 39)) ⟨w7.heap.size, 0, none⟩ 1 1 [.int .i64 lo, .int .i64 hi] rfl rfl (news2 _ _ _ _) (by simp [Value.oneCell']) (by unfold maxLen; omega) (by omega) (by simp; omega) ?_; intro v' w6 hown' hgrow _ hblk; obtain ⟨g6, cap6, rfl⟩ := ownsRow_some hown' (Nat.succ_pos _); have A6 : Hid (RR W1.heap.size w6 (.slice (some ⟨g6, 0, none⟩) ((nd + 1) + 1) cap6) (D ++ [x] ++ [(lo, hi)])) := rr_apps (F := (D ++ [x])) (L := [(lo, hi)]) hown'; have B6 : Hid (Below W1.heap.size W1 w6) := below_grown (B7.out.alloc hz7 _) (World.ownsRow.alloc R7.out _) hgrow; clear hown' hgrow hblk)
            go_roundw
            case rel => exact ⟨k + 1, by omega, by go_num, rr_cast NX2.out.symm A6.out, B6.out⟩
            case measure => simp [intOf]; omega
        · obtain ⟨M, hM⟩ : ∃ M, max x.2 hi = M := ⟨_, rfl⟩
          have HM : Hid (max x.2 hi = M) := hM
          have hmx : ∀ t ty w, (Builtin.max_ t ty #[.int .i64 y, .int .i64 hi]).run Tryz.prog w = .ok (.int .i64 M) w := fun t ty w => by rw [max_run, ← HY.out, HM.out]
          have NR : Hid (¬ hi < lo → addM (D ++ [x]) (lo, hi) = D ++ [(x.1, max x.2 hi)]) := fun q => addM_near q (by rw [HY.out]; exact hf)
          clear hM
          by_cases hq : lo ≤ y
          · have d1 : decide (lo ≤ y) = true := decide_eq_true hq
            have d2 : True := trivial
            go_wp2
            refine wp_region_ext (by kernel_rfl) (by kernel_rfl) ?_
            repeat (go_big_quiet_step (first | exact rfl))
            refine wpQuiet_nil ?_
            intro w7 hw7
            have B7 : Hid (Below W1.heap.size W1 w7) := chain BB.out (ext_of hw7) (Nat.le_refl _)
            have e1 := (B7.out.cell (p := ⟨g, off + k * 2, none⟩) XS.out.2.2).trans XS.out.1
            have e2 := (B7.out.cell (p := ⟨g, off + k * 2 + 1, none⟩) XS.out.2.2).trans XS.out.2.1
            have hz7 := B7.out.size
            have O7 : Hid (w7.drew.ownsRow W1.heap.size 39 2 (.slice (some ⟨go, 0, none⟩) (nd + 1) co) (nd + 1) (cellsR (D ++ [x]))) := (ownsRow_fr (S := fun _ => False) OW.out (Fr.of_below (ext_of hw7)) (fun _ _ q => q)).drew
            have c7 := ((ext_of hw7).cell (p := ⟨go, nd * 2 + 1, none⟩) hgo).trans hcell
            have f7 : w7.frozen? ⟨go, nd * 2 + 1, none⟩ = false := O7.out.frozenAt (nd * 2 + 1)
            clear hw7 hcell d1 d2
            go_wp2
            go_region_with fail
            all_goals (
              go_wp2
              go_roundw
              case rel => exact ⟨k + 1, by omega, by go_num, rr_cast (NX.out.trans (NR.out hne)).symm (by rw [HM.out]; exact rr_of (set_last O7.out LD.out M) (by have := LD.out; simp; omega)), B7.out.drew.setCell (p := ⟨go, nd * 2 + 1, none⟩) hgb _⟩
              case measure => simp [intOf]; omega)
          · have d1 : decide (lo ≤ y) = false := decide_eq_false hq
            have wl : IntKind.wrap .i64 (lo - 1) = lo - 1 := by rw [IntKind.wrap_i64]; omega
            have d2 : (lo - 1 == y) = true := by rw [beq_iff_eq]; omega
            go_wp2
            refine wp_region_ext (by kernel_rfl) (by kernel_rfl) ?_
            repeat (go_big_quiet_step (first | exact rfl))
            refine wpQuiet_nil ?_
            intro w7 hw7
            have B7 : Hid (Below W1.heap.size W1 w7) := chain BB.out (ext_of hw7) (Nat.le_refl _)
            have e1 := (B7.out.cell (p := ⟨g, off + k * 2, none⟩) XS.out.2.2).trans XS.out.1
            have e2 := (B7.out.cell (p := ⟨g, off + k * 2 + 1, none⟩) XS.out.2.2).trans XS.out.2.1
            have hz7 := B7.out.size
            have O7 : Hid (w7.drew.ownsRow W1.heap.size 39 2 (.slice (some ⟨go, 0, none⟩) (nd + 1) co) (nd + 1) (cellsR (D ++ [x]))) := (ownsRow_fr (S := fun _ => False) OW.out (Fr.of_below (ext_of hw7)) (fun _ _ q => q)).drew
            have c7 := ((ext_of hw7).cell (p := ⟨go, nd * 2 + 1, none⟩) hgo).trans hcell
            have f7 : w7.frozen? ⟨go, nd * 2 + 1, none⟩ = false := O7.out.frozenAt (nd * 2 + 1)
            clear hw7 hcell d1 d2
            go_wp2
            go_region_with fail
            all_goals (
              go_wp2
              go_roundw
              case rel => exact ⟨k + 1, by omega, by go_num, rr_cast (NX.out.trans (NR.out hne)).symm (by rw [HM.out]; exact rr_of (set_last O7.out LD.out M) (by have := LD.out; simp; omega)), B7.out.drew.setCell (p := ⟨go, nd * 2 + 1, none⟩) hgb _⟩
              case measure => simp [intOf]; omega)
    · have i1 : ¬ (k : Int) < (S.length : Int) := by omega
      have E : Hid (S.take k = S) := hide (List.take_of_length_le (by omega))
      have SPn := SP.out k hk
      rw [E.out] at RC SPn
      have SS : Hid _ := SPn
      have hcl := SPn.2.2.1
      clear SPn
      go_wp2
      go_ret
      exact ⟨_, _, rfl, RC.out.mono X5.out.2.2.2.2.2.size, ⟨SS.out.1, SS.out.2.1, fun c => (SS.out.2.2.2 c).trans (X5.out.2.2.2.1 c)⟩, by omega, chain X5.out.2.2.2.2.2 BB.out (Nat.le_refl _)⟩
end Go.Proofs.YtloeajhmmjdlgaaGreatDoor
namespace Go.Proofs.YtloeajhmmjdlgaaGreatDoor
open Go Go.RowKit
attribute [local go_sem] ext_cell

set_option maxRecDepth 100000 in
set_option maxHeartbeats 2000000 in
theorem alike_c {w : World} {va vb : Value} {A B : List (Int × Int)} (ha : ArgR w va A) (hb : ArgR w vb B) :
    Calls Tryz.prog 14 #[va, vb] w fun e w' => e = .returned (.bool (decide (A = B))) ∧ Below w.heap.size w w' := by
  obtain ⟨q1, cap1, rfl, hl1, -, hc1⟩ := ha.slice
  obtain ⟨q2, cap2, rfl, hl2, -, hc2⟩ := hb.slice
  have HC1 : Hid (∀ (i : Nat) (r : Int × Int), A[i]? = some r → ∃ g off, q1 = some ⟨g, off, none⟩ ∧ g < w.heap.size ∧ w.cell? ⟨g, off + 2 * i, none⟩ = some (.int .i64 r.1) ∧ w.cell? ⟨g, off + 2 * i + 1, none⟩ = some (.int .i64 r.2)) := hc1
  have HC2 : Hid (∀ (i : Nat) (r : Int × Int), B[i]? = some r → ∃ g off, q2 = some ⟨g, off, none⟩ ∧ g < w.heap.size ∧ w.cell? ⟨g, off + 2 * i, none⟩ = some (.int .i64 r.1) ∧ w.cell? ⟨g, off + 2 * i + 1, none⟩ = some (.int .i64 r.2)) := hc2
  clear hc1 hc2 ha hb
  unfold maxLen at hl1 hl2
  by_cases hne : A.length = B.length
  · have HNE : Hid (A.length = B.length) := hne
    rw [← hne]
    have b1 : (((A.length : Nat) : Int) != ((A.length : Nat) : Int)) = false := by simp
    clear hne hl2
    go_enter Tryz.func14, Tryz.ntmps14
    go_wp2
    go_loopw [5] (fun i wr => ∃ k : Nat, k ≤ A.length ∧ i = .int .i64 k ∧ A.take k = B.take k ∧ Below w.heap.size w wr) (fun i _ => A.length - (intOf i).toNat)
    case atStart => exact ⟨0, Nat.zero_le _, rfl, by simp, Below.refl _ _⟩
    case round =>
      obtain ⟨k, hk, rfl, ht, hbl⟩ := hrel
      have HT : Hid (A.take k = B.take k) := ht
      have BW : Hid (Below w.heap.size w wr) := hbl
      clear ht hbl
      by_cases hlt : k < A.length
      · obtain ⟨a, ea⟩ : ∃ r, A[k]? = some r := ⟨_, List.getElem?_eq_getElem hlt⟩
        obtain ⟨b, eb⟩ : ∃ r, B[k]? = some r := ⟨_, List.getElem?_eq_getElem (by have := HNE.out; omega)⟩
        obtain ⟨g1, o1, rfl, hg1, x1, x2⟩ := HC1.out k _ ea
        obtain ⟨g2, o2, rfl, hg2, y1, y2⟩ := HC2.out k _ eb
        have d1 := (BW.out.cell (p := ⟨g1, o1 + 2 * k, none⟩) hg1).trans x1
        have d2 := (BW.out.cell (p := ⟨g1, o1 + 2 * k + 1, none⟩) hg1).trans x2
        have d3 := (BW.out.cell (p := ⟨g2, o2 + 2 * k, none⟩) hg2).trans y1
        have d4 := (BW.out.cell (p := ⟨g2, o2 + 2 * k + 1, none⟩) hg2).trans y2
        rw [Nat.mul_comm] at d1 d2 d3 d4
        have s1 : g1 < wr.heap.size := Nat.lt_of_lt_of_le hg1 BW.out.size
        have s2 : g2 < wr.heap.size := Nat.lt_of_lt_of_le hg2 BW.out.size
        have NX : Hid (A.take (k + 1) = B.take (k + 1) ↔ a = b) := take_eq_next ea eb HT.out
        have NE : Hid (a ≠ b → ¬ A = B) := fun q e => by subst e; rw [ea] at eb; exact q (Option.some.inj eb)
        have i0 : (0 : Int) ≤ (k : Int) := by omega
        have i1 : (k : Int) < (A.length : Int) := by omega
        obtain ⟨a1, a2⟩ := a
        obtain ⟨b1', b2⟩ := b
        dsimp only at d1 d2 d3 d4
        clear x1 x2 y1 y2 ea eb
        by_cases e1 : a1 = b1'
        · by_cases e2 : a2 = b2
          · subst e1 e2
            have f1 : (a1 == a1) = true := by simp
            have f2 : (a2 == a2) = true := by simp
            have NX2 : Hid (A.take (k + 1) = B.take (k + 1)) := NX.out.2 rfl
            clear NX NE
            go_wp2
            refine wp_region_ext (by kernel_rfl) (by kernel_rfl) ?_
            repeat (go_big_quiet_step (first | exact rfl))
            refine wpQuiet_nil ?_
            intro w7 hw7
            have B7 : Hid (Below wr.heap.size wr w7) := ext_of hw7
            clear hw7
            go_wp2
            go_roundw
            case rel => exact ⟨k + 1, by omega, by go_num, NX2.out, chain BW.out B7.out (Nat.le_refl _)⟩
            case measure => simp [intOf]; omega
          · subst e1
            have f1 : (a1 == a1) = true := by simp
            have f2 : (a2 == b2) = false := by simp [e2]
            have N2 : Hid (decide (A = B) = false) := decide_eq_false (NE.out (fun q => e2 (Prod.mk.inj q).2))
            clear NX NE
            go_wp2
            refine wp_region_ext (by kernel_rfl) (by kernel_rfl) ?_
            repeat (go_big_quiet_step (first | exact rfl))
            refine wpQuiet_nil ?_
            intro w7 hw7
            have B7 : Hid (Below wr.heap.size wr w7) := ext_of hw7
            clear hw7
            go_wp2
            go_ret
            exact ⟨by rw [N2.out]; rfl, chain BW.out B7.out (Nat.le_refl _)⟩
        · have f1 : (a1 == b1') = false := by simp [e1]
          have N2 : Hid (decide (A = B) = false) := decide_eq_false (NE.out (fun q => e1 (Prod.mk.inj q).1))
          clear NX NE
          go_wp2
          refine wp_region_ext (by kernel_rfl) (by kernel_rfl) ?_
          repeat (go_big_quiet_step (first | exact rfl))
          refine wpQuiet_nil ?_
          intro w7 hw7
          have B7 : Hid (Below wr.heap.size wr w7) := ext_of hw7
          clear hw7
          go_wp2
          go_ret
          exact ⟨by rw [N2.out]; rfl, chain BW.out B7.out (Nat.le_refl _)⟩
      · have i1 : ¬ (k : Int) < (A.length : Int) := by omega
        have EE : Hid (decide (A = B) = true) := decide_eq_true (by
          have e := HT.out
          rw [List.take_of_length_le (by omega), List.take_of_length_le (by have := HNE.out; omega)] at e
          exact e)
        go_wp2
        go_ret
        exact ⟨by rw [EE.out]; rfl, BW.out⟩
  · have EE : Hid (decide (A = B) = false) := decide_eq_false (fun e => hne (by rw [e]))
    have b1 : (((A.length : Nat) : Int) != ((B.length : Nat) : Int)) = true := by simp; omega
    go_enter Tryz.func14, Tryz.ntmps14
    go_wp2
    go_ret
    exact ⟨by rw [EE.out]; rfl, Below.refl _ _⟩
end Go.Proofs.YtloeajhmmjdlgaaGreatDoor
