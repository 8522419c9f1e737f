/-
  dredgeref06.Or and Same; spoil.
-/
import Derived.Test.YtfihhliiecdnaaaRefL2
namespace Go.Proofs.Ytfihhliiecdnaaa
open Go Go.RowKit

theorem argr_none {w : World} {n k : Nat} {L : List (Int × Int)} (h : ArgR w (.slice none n k) L) : n = 0 ∧ k = 0 ∧ L = [] := by
  rcases h with ⟨p, cap', e, e2, e3⟩ | ⟨g', off', cap', e, _⟩
  · subst e2
    cases e
    exact ⟨rfl, e3 rfl, rfl⟩
  · cases e
set_option maxRecDepth 100000 in
set_option maxHeartbeats 1000000 in
theorem ror_none_none {w : World} {A B : List (Int × Int)} (ea : A = []) (eb : B = []) (fa : Fit A) (fb : Fit B) (hl : A.length + B.length + 1 ≤ 8796093022208) :
    Calls Try.prog 30 #[.slice none 0 0, .slice none 0 0] w (Gets w (fun c => In A c ∨ In B c) (A.length + B.length)) := by
  obtain ⟨t0, ti, hz0, hz1, hz2⟩ := info_parts size_range
  have FF : Hid (Fit (A ++ B)) := fit_append fa fb
  have EL : Hid ((([] : List (Int × Int)) ++ []) = A ++ B) := hide (by subst ea; subst eb; simp)
  clear fa fb
  go_enter Try.func30, Try.ntmps30
  go_wp2_with first
    | (go_at_call 48; refine (rclass_c (L := A ++ B) (rr_cast EL.out G2.out.1).arg FF.out (by simp; omega)).mono ?_; rintro e w6 ⟨v6, C6, rfl, h1, h2, h3, h4⟩; have X6 : Hid (RR w.heap.size w6 v6 C6 ∧ IsC C6 (In (A ++ B)) ∧ C6.length ≤ (A ++ B).length ∧ Below w.heap.size w w6) := ⟨h1.mono G2.out.2.size, h2, h3, chain G2.out.2 h4 (Nat.le_refl _)⟩; clear h1 h2 h3 h4)
    | (at_builtin; have hx := G1.out; clear hx; refine wpList_append_own_none rfl _ _ 22 rfl w.heap.size 38 t0 2 und_ranges ti (.slice none 0 0) _ (cellsR ([] : List (Int × Int))) rfl G1.out.1 rfl ?_; have G2 : Hid (RR w.heap.size w (.slice none 0 0) (([] : List (Int × Int)) ++ []) ∧ Below w.heap.size w w) := ⟨rr_cast (List.append_nil _).symm G1.out.1, G1.out.2⟩)
    | (at_builtin; refine wpList_append_own_none rfl _ _ 22 rfl w.heap.size 38 t0 2 und_ranges ti (.slice none 0 0) 0 (cellsR []) rfl (RR.nil _ _) rfl ?_; have G1 : Hid (RR w.heap.size w (.slice none 0 0) ([] : List (Int × Int)) ∧ Below w.heap.size w w) := ⟨RR.nil _ _, Below.refl _ _⟩)
  go_ret
  exact ⟨_, _, rfl, X6.out.1, X6.out.2.1.to fun c => in_append A B c, by have := X6.out.2.2.1; simpa using this, X6.out.2.2.2⟩
set_option maxRecDepth 100000 in
set_option maxHeartbeats 1000000 in
theorem ror_none_some {w : World} {A B : List (Int × Int)} {ad2 : Addr} {k2 : Nat} (hb : ArgR w (.slice (some ad2) B.length k2) B) (ea : A = []) (fa : Fit A) (fb : Fit B) (hl : A.length + B.length + 1 ≤ 8796093022208) :
    Calls Try.prog 30 #[.slice none 0 0, .slice (some ad2) B.length k2] w (Gets w (fun c => In A c ∨ In B c) (A.length + B.length)) := by
  obtain ⟨t0, ti, hz0, hz1, hz2⟩ := info_parts size_range
  have FF : Hid (Fit (A ++ B)) := fit_append fa fb
  have EL : Hid ((([] : List (Int × Int)) ++ B) = A ++ B) := hide (by subst ea; simp)
  have N2 : Hid (∀ w', Below w.heap.size w w' → ∀ j u, (cellsR B)[j]? = some u → w'.cell? (ad2.add j) = some u) := fun w' h => (hb.kept h).news
  clear fa fb
  go_enter Try.func30, Try.ntmps30
  go_wp2_with first
    | (go_at_call 48; refine (rclass_c (L := A ++ B) (rr_cast EL.out G2.out.1).arg FF.out (by simp; omega)).mono ?_; rintro e w6 ⟨v6, C6, rfl, h1, h2, h3, h4⟩; have X6 : Hid (RR w.heap.size w6 v6 C6 ∧ IsC C6 (In (A ++ B)) ∧ C6.length ≤ (A ++ B).length ∧ Below w.heap.size w w6) := ⟨h1.mono G2.out.2.size, h2, h3, chain G2.out.2 h4 (Nat.le_refl _)⟩; clear h1 h2 h3 h4)
    | (at_builtin; have hx := G1.out; clear hx; refine wpList_append_own_at _ rfl _ _ 22 rfl w.heap.size 38 t0 (.agg #[.int .i64 0, .int .i64 0]) 2 16 und_ranges ti hz0 hz1 hz2 rfl (by decide) (.slice none 0 0) _ (cellsR ([] : List (Int × Int))) rfl G1.out.1 ad2 B.length k2 (cellsR B) rfl (cellsR_length B) (N2.out _ G1.out.2) (cellsR_one B) (by unfold maxLen; simp; omega) (by simp; omega) G1.out.2.size ?_; intro v2 w2 hown2 hgrow2 _ hblk2; have G2 : Hid (RR w.heap.size w2 v2 (([] : List (Int × Int)) ++ B) ∧ Below w.heap.size w w2) := ⟨rr_apps hown2, below_grown G1.out.2 G1.out.1 hgrow2⟩; clear hown2 hgrow2 hblk2)
    | (at_builtin; refine wpList_append_own_none rfl _ _ 22 rfl w.heap.size 38 t0 2 und_ranges ti (.slice none 0 0) 0 (cellsR []) rfl (RR.nil _ _) rfl ?_; have G1 : Hid (RR w.heap.size w (.slice none 0 0) ([] : List (Int × Int)) ∧ Below w.heap.size w w) := ⟨RR.nil _ _, Below.refl _ _⟩)
  go_ret
  exact ⟨_, _, rfl, X6.out.1, X6.out.2.1.to fun c => in_append A B c, by have := X6.out.2.2.1; simpa using this, X6.out.2.2.2⟩
set_option maxRecDepth 100000 in
set_option maxHeartbeats 1000000 in
theorem ror_some_none {w : World} {A B : List (Int × Int)} {ad1 : Addr} {k1 : Nat} (ha : ArgR w (.slice (some ad1) A.length k1) A) (eb : B = []) (fa : Fit A) (fb : Fit B) (hl : A.length + B.length + 1 ≤ 8796093022208) :
    Calls Try.prog 30 #[.slice (some ad1) A.length k1, .slice none 0 0] w (Gets w (fun c => In A c ∨ In B c) (A.length + B.length)) := by
  obtain ⟨t0, ti, hz0, hz1, hz2⟩ := info_parts size_range
  have FF : Hid (Fit (A ++ B)) := fit_append fa fb
  have EL : Hid ((([] ++ A) ++ []) = A ++ B) := hide (by subst eb; simp)
  have N1 : Hid (∀ j u, (cellsR A)[j]? = some u → w.cell? (ad1.add j) = some u) := ha.news
  clear fa fb
  go_enter Try.func30, Try.ntmps30
  go_wp2_with first
    | (go_at_call 48; refine (rclass_c (L := A ++ B) (rr_cast EL.out G2.out.1).arg FF.out (by simp; omega)).mono ?_; rintro e w6 ⟨v6, C6, rfl, h1, h2, h3, h4⟩; have X6 : Hid (RR w.heap.size w6 v6 C6 ∧ IsC C6 (In (A ++ B)) ∧ C6.length ≤ (A ++ B).length ∧ Below w.heap.size w w6) := ⟨h1.mono G2.out.2.size, h2, h3, chain G2.out.2 h4 (Nat.le_refl _)⟩; clear h1 h2 h3 h4)
    | (at_builtin; have hx := G1.out; clear hx; refine wpList_append_own_none rfl _ _ 22 rfl w.heap.size 38 t0 2 und_ranges ti v1 _ (cellsR ([] ++ A)) rfl G1.out.1 rfl ?_; have G2 : Hid (RR w.heap.size w1 v1 (([] ++ A) ++ []) ∧ Below w.heap.size w w1) := ⟨rr_cast (List.append_nil _).symm G1.out.1, G1.out.2⟩)
    | (at_builtin; refine wpList_append_own_at _ rfl _ _ 22 rfl w.heap.size 38 t0 (.agg #[.int .i64 0, .int .i64 0]) 2 16 und_ranges ti hz0 hz1 hz2 rfl (by decide) (.slice none 0 0) 0 (cellsR []) rfl (RR.nil _ _) ad1 A.length k1 (cellsR A) rfl (cellsR_length A) N1.out (cellsR_one A) (by unfold maxLen; omega) (by omega) (Nat.le_refl _) ?_; intro v1 w1 hown1 hgrow1 _ hblk1; have G1 : Hid (RR w.heap.size w1 v1 ([] ++ A) ∧ Below w.heap.size w w1) := ⟨rr_apps (F := []) hown1, below_grown (t := 38) (size := 2) (n := 0) (xs := []) (Below.refl _ _) (RR.nil _ _) hgrow1⟩; clear hown1 hgrow1 hblk1)
  go_ret
  exact ⟨_, _, rfl, X6.out.1, X6.out.2.1.to fun c => in_append A B c, by have := X6.out.2.2.1; simpa using this, X6.out.2.2.2⟩
set_option maxRecDepth 100000 in
set_option maxHeartbeats 1000000 in
theorem ror_some_some {w : World} {A B : List (Int × Int)} {ad1 : Addr} {k1 : Nat} (ha : ArgR w (.slice (some ad1) A.length k1) A) {ad2 : Addr} {k2 : Nat} (hb : ArgR w (.slice (some ad2) B.length k2) B) (fa : Fit A) (fb : Fit B) (hl : A.length + B.length + 1 ≤ 8796093022208) :
    Calls Try.prog 30 #[.slice (some ad1) A.length k1, .slice (some ad2) B.length k2] w (Gets w (fun c => In A c ∨ In B c) (A.length + B.length)) := by
  obtain ⟨t0, ti, hz0, hz1, hz2⟩ := info_parts size_range
  have FF : Hid (Fit (A ++ B)) := fit_append fa fb
  have EL : Hid ((([] ++ A) ++ B) = A ++ B) := hide (by simp)
  have N1 : Hid (∀ j u, (cellsR A)[j]? = some u → w.cell? (ad1.add j) = some u) := ha.news
  have N2 : Hid (∀ w', Below w.heap.size w w' → ∀ j u, (cellsR B)[j]? = some u → w'.cell? (ad2.add j) = some u) := fun w' h => (hb.kept h).news
  clear fa fb
  go_enter Try.func30, Try.ntmps30
  go_wp2_with first
    | (go_at_call 48; refine (rclass_c (L := A ++ B) (rr_cast EL.out G2.out.1).arg FF.out (by simp; omega)).mono ?_; rintro e w6 ⟨v6, C6, rfl, h1, h2, h3, h4⟩; have X6 : Hid (RR w.heap.size w6 v6 C6 ∧ IsC C6 (In (A ++ B)) ∧ C6.length ≤ (A ++ B).length ∧ Below w.heap.size w w6) := ⟨h1.mono G2.out.2.size, h2, h3, chain G2.out.2 h4 (Nat.le_refl _)⟩; clear h1 h2 h3 h4)
    | (at_builtin; have hx := G1.out; clear hx; refine wpList_append_own_at _ rfl _ _ 22 rfl w.heap.size 38 t0 (.agg #[.int .i64 0, .int .i64 0]) 2 16 und_ranges ti hz0 hz1 hz2 rfl (by decide) v1 _ (cellsR ([] ++ A)) rfl G1.out.1 ad2 B.length k2 (cellsR B) rfl (cellsR_length B) (N2.out _ G1.out.2) (cellsR_one B) (by unfold maxLen; simp; omega) (by simp; omega) G1.out.2.size ?_; intro v2 w2 hown2 hgrow2 _ hblk2; have G2 : Hid (RR w.heap.size w2 v2 (([] ++ A) ++ B) ∧ Below w.heap.size w w2) := ⟨rr_apps hown2, below_grown G1.out.2 G1.out.1 hgrow2⟩; clear hown2 hgrow2 hblk2)
    | (at_builtin; refine wpList_append_own_at _ rfl _ _ 22 rfl w.heap.size 38 t0 (.agg #[.int .i64 0, .int .i64 0]) 2 16 und_ranges ti hz0 hz1 hz2 rfl (by decide) (.slice none 0 0) 0 (cellsR []) rfl (RR.nil _ _) ad1 A.length k1 (cellsR A) rfl (cellsR_length A) N1.out (cellsR_one A) (by unfold maxLen; omega) (by omega) (Nat.le_refl _) ?_; intro v1 w1 hown1 hgrow1 _ hblk1; have G1 : Hid (RR w.heap.size w1 v1 ([] ++ A) ∧ Below w.heap.size w w1) := ⟨rr_apps (F := []) hown1, below_grown (t := 38) (size := 2) (n := 0) (xs := []) (Below.refl _ _) (RR.nil _ _) hgrow1⟩; clear hown1 hgrow1 hblk1)
  go_ret
  exact ⟨_, _, rfl, X6.out.1, X6.out.2.1.to fun c => in_append A B c, by have := X6.out.2.2.1; simpa using this, X6.out.2.2.2⟩
theorem ror_c {w : World} {va vb : Value} {A B : List (Int × Int)} (ha : ArgR w va A) (hb : ArgR w vb B) (fa : Fit A) (fb : Fit B) (hl : A.length + B.length + 1 ≤ 8796093022208) :
    Calls Try.prog 30 #[va, vb] w (Gets w (fun c => In A c ∨ In B c) (A.length + B.length)) := by
  obtain ⟨q1, k1, e1, -, -, -⟩ := ha.slice
  obtain ⟨q2, k2, e2, -, -, -⟩ := hb.slice
  subst e1 e2
  cases q1 with
  | none =>
    obtain ⟨z1, z2, z3⟩ := argr_none ha
    have ev : Value.slice none A.length k1 = .slice none 0 0 := by rw [z1, z2]
    rw [ev]
    cases q2 with
    | none =>
      obtain ⟨y1, y2, y3⟩ := argr_none hb
      have ev2 : Value.slice none B.length k2 = .slice none 0 0 := by rw [y1, y2]
      rw [ev2]
      exact ror_none_none z3 y3 fa fb hl
    | some ad2 => exact ror_none_some hb z3 fa fb hl
  | some ad1 =>
    cases q2 with
    | none =>
      obtain ⟨y1, y2, y3⟩ := argr_none hb
      have ev2 : Value.slice none B.length k2 = .slice none 0 0 := by rw [y1, y2]
      rw [ev2]
      exact ror_some_none ha y3 fa fb hl
    | some ad2 => exact ror_some_some ha hb fa fb hl

set_option maxHeartbeats 1000000 in
theorem rsame_c {w : World} {va vb : Value} {A B : List (Int × Int)} (ha : ArgR w va A) (hb : ArgR w vb B) (fa : Fit A) (fb : Fit B) (hl1 : A.length + 1 ≤ 8796093022208) (hl2 : B.length + 1 ≤ 8796093022208) :
    Calls Try.prog 33 #[va, vb] w fun e w' => ∃ b : Bool, e = .returned (.bool b) ∧ (b = true ↔ ∀ c, In A c ↔ In B c) ∧ Below w.heap.size w w' := by
  have H : Hid (ArgR w va A ∧ Fit A) := ⟨ha, fa⟩
  have K : Hid (ArgR w vb B ∧ Fit B) := ⟨hb, fb⟩
  clear ha hb fa fb
  go_enter Try.func33, Try.ntmps33
  go_wp2_with first
    | (go_at_call 48; have hx := X5.out; clear hx; have hih := rclass_c (K.out.1.kept X5.out.2.2.2) K.out.2 hl2; (with_reducible refine hih.mono ?_); clear hih; rintro e w6 ⟨v6, C6, rfl, h1, h2, h3, h4⟩; have X6 : Hid (RR w5.heap.size w6 v6 C6 ∧ IsC C6 (In B) ∧ C6.length ≤ B.length ∧ Below w5.heap.size w5 w6) := ⟨h1, h2, h3, h4⟩; clear h1 h2 h3 h4)
    | (go_at_call 48; (with_reducible refine (rclass_c H.out.1 H.out.2 hl1).mono ?_); rintro e w5 ⟨v5, C5, rfl, h1, h2, h3, h4⟩; have X5 : Hid (RR w.heap.size w5 v5 C5 ∧ IsC C5 (In A) ∧ C5.length ≤ A.length ∧ Below w.heap.size w w5) := ⟨h1, h2, h3, h4⟩; clear h1 h2 h3 h4)
    | (go_at_call 23; refine (alike_c (X5.out.1.kept X6.out.2.2.2).arg X6.out.1.arg).mono ?_; obtain ⟨bb, hbb⟩ : ∃ bb, decide (C5 = C6) = bb := ⟨_, rfl⟩; rw [hbb]; have EB : Hid (decide (C5 = C6) = bb) := hbb; clear hbb; rintro e w7 ⟨rfl, h1⟩; have X7 : Hid (Below w6.heap.size w6 w7) := h1; clear h1)
  go_ret
  refine ⟨bb, rfl, ?_, chain (chain X5.out.2.2.2 X6.out.2.2.2 (Nat.le_refl _)) X7.out (Nat.le_refl _)⟩
  rw [← EB.out, decide_eq_true_iff]
  constructor
  · intro e c
    rw [← X5.out.2.1.mem, ← X6.out.2.1.mem, e]
  · intro e
    exact X5.out.2.1.one X6.out.2.1 e

set_option maxRecDepth 100000 in
set_option maxHeartbeats 1000000 in
theorem spoil_c {base : Nat} {w : World} {v : Value} {L : List (Int × Int)} (h : RR base w v L) :
    Calls Try.prog 28 #[v] w fun e w' => e = .returned (.tuple #[]) ∧ Fr (blk v) w w' := by
  obtain ⟨q, co, e⟩ := h.shape
  subst e
  have H : Hid (RR base w (.slice q L.length co) L) := h
  have hlm : L.length ≤ maxLen := ownsRow_len h
  unfold maxLen at hlm
  clear h
  go_enter Try.func28, Try.ntmps28
  go_wp2
  go_loopw [2] (fun i wr => ∃ (k : Nat) (L' : List (Int × Int)), k ≤ L.length ∧ i = .int .i64 k ∧ L'.length = L.length ∧ wr.ownsRow base 38 2 (.slice q L.length co) L.length (cellsR L') ∧ Fr (blk (.slice q L.length co)) w wr) (fun i _ => L.length - (intOf i).toNat)
  case atStart => exact ⟨0, L, Nat.zero_le _, rfl, rfl, H.out, Fr.refl _ _⟩
  case round =>
    obtain ⟨k, L', hk, rfl, hl', hrr, hf⟩ := hrel
    have OW : Hid (wr.ownsRow base 38 2 (.slice q L.length co) L.length (cellsR L')) := hrr
    have FR : Hid (Fr (blk (.slice q L.length co)) w wr) := hf
    have LL : Hid (L'.length = L.length) := hl'
    clear hrr hf hl'
    by_cases hlt : k < L.length
    · obtain ⟨r, hr⟩ : ∃ r, L'[k]? = some r := ⟨_, List.getElem?_eq_getElem (by have := LL.out; omega)⟩
      obtain ⟨g, c', e⟩ := ownsRow_some OW.out (by omega)
      cases e
      obtain ⟨z1, z2⟩ := cellsR_get _ k r hr
      have d1 := ownsRow_cell OW.out z1
      have d2 := ownsRow_cell OW.out z2
      rw [Nat.mul_comm] at d1 d2
      have f1 := OW.out.frozenAt (k * 2)
      have f2 := OW.out.frozenAt (k * 2 + 1)
      have hgs := (ownsRow_at OW.out rfl).2.1
      have i0 : (0 : Int) ≤ (k : Int) := by omega
      have i1 : (k : Int) < (L.length : Int) := by omega
      have O2 : Hid ((((wr.setCell ⟨g, k * 2, none⟩ (.int .i64 3)).setCell ⟨g, k * 2 + 1, none⟩ (.int .i64 (-3)))).ownsRow base 38 2 (.slice (some ⟨g, 0, none⟩) L.length co) L.length (cellsR (L'.set k (3, -3)))) := hide (by
        have := ((OW.out.stored (k * 2) (.int .i64 3)).1.stored (k * 2 + 1) (.int .i64 (-3))).1
        rwa [cellsR_set] at this)
      have F2 : Hid (Fr (blk (.slice (some ⟨g, 0, none⟩) L.length co)) w ((wr.setCell ⟨g, k * 2, none⟩ (.int .i64 3)).setCell ⟨g, k * 2 + 1, none⟩ (.int .i64 (-3)))) := (FR.out.setCell (p := ⟨g, k * 2, none⟩) rfl _).setCell (p := ⟨g, k * 2 + 1, none⟩) rfl _
      clear z1 z2 hr
      go_wp2
      go_roundw
      case rel => exact ⟨k + 1, L'.set k (3, -3), by omega, by go_num, by have := LL.out; simpa using this, O2.out, F2.out⟩
      case measure => simp [intOf]; omega
    · have i1 : ¬ (k : Int) < (L.length : Int) := by omega
      go_wp2
      go_end0
      exact ⟨rfl, FR.out⟩
end Go.Proofs.Ytfihhliiecdnaaa
