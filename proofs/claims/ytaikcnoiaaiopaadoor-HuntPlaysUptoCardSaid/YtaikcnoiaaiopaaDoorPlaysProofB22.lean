/-
  Parts of the proof.
-/
import Derived.Test.YtaikcnoiaaiopaaDoorPlaysProofB19
import Derived.Test.YtaikcnoiaaiopaaDoorPlaysProofB20
import Derived.Test.YtaikcnoiaaiopaaDoorPlaysProofB21
import Derived.Test.YtaikcnoiaaiopaaDoorPlaysProofB17
set_option linter.unusedSimpArgs false
namespace Go.Proofs.YtaikcnoiaaiopaaDoor
open Go Go.RowKit Go.Shelf
attribute [local go_sem] Oper.semAt_some
def z1_addR (acc : List (Int × Int)) (b : Int) : List (Int × Int) :=
  match acc.getLast? with
  | some p => if p.2 = b - 1 then acc.dropLast ++ [(p.1, b)] else acc ++ [(b, b)]
  | none => [(b, b)]
def z1_rngs (l : List z1_B8) : List (Int × Int) := l.foldl (fun acc x => z1_addR acc x.1) []
def z1_flat (rs : List (Int × Int)) : List Value := rs.flatMap fun r => [.int .i64 r.1, .int .i64 r.2]
theorem z1_rngs_snoc (l : List z1_B8) (x : z1_B8) : z1_rngs (l ++ [x]) = z1_addR (z1_rngs l) x.1 := by simp [z1_rngs]
theorem z1_addR_nil (b : Int) : z1_addR [] b = [(b, b)] := rfl
theorem z1_addR_hit (acc : List (Int × Int)) (lo hi b : Int) (h : hi = b - 1) : z1_addR (acc ++ [(lo, hi)]) b = acc ++ [(lo, b)] := by simp [z1_addR, h]
theorem z1_addR_miss (acc : List (Int × Int)) (lo hi b : Int) (h : ¬ hi = b - 1) : z1_addR (acc ++ [(lo, hi)]) b = acc ++ [(lo, hi)] ++ [(b, b)] := by simp [z1_addR, h]
theorem z1_flat_append (a b : List (Int × Int)) : z1_flat (a ++ b) = z1_flat a ++ z1_flat b := by simp [z1_flat]
theorem z1_flat_one (a b : Int) : z1_flat [(a, b)] = [.int .i64 a, .int .i64 b] := rfl
theorem z1_flat_length (a : List (Int × Int)) : (z1_flat a).length = a.length * 2 := by
  induction a with
  | nil => rfl
  | cons x a ih => rw [show x :: a = [x] ++ a from rfl, z1_flat_append, List.length_append, ih]; simp only [z1_flat, List.flatMap_cons, List.flatMap_nil, List.append_nil, List.length_cons, List.length_nil, List.length_append]; omega
theorem z1_addR_length (acc : List (Int × Int)) (b : Int) : (z1_addR acc b).length ≤ acc.length + 1 := by
  rcases List.eq_nil_or_concat acc with rfl | ⟨l, p, rfl⟩
  · simp [z1_addR]
  · rw [List.concat_eq_append]
    by_cases h : p.2 = b - 1
    · rw [show p = (p.1, p.2) from rfl, z1_addR_hit _ _ _ _ h]; simp
    · rw [show p = (p.1, p.2) from rfl, z1_addR_miss _ _ _ _ h]; simp
theorem z1_rngs_length_aux : ∀ (n : Nat) (l : List z1_B8), l.length = n → (z1_rngs l).length ≤ l.length
  | 0, l, h => by
    obtain rfl := List.eq_nil_of_length_eq_zero h
    simp [z1_rngs]
  | n + 1, l, h => by
    rcases List.eq_nil_or_concat l with rfl | ⟨m, b, rfl⟩
    · simp [z1_rngs]
    · rw [List.concat_eq_append] at h ⊢
      rw [z1_rngs_snoc]
      have h1 := z1_addR_length (z1_rngs m) b.1
      have h2 := z1_rngs_length_aux n m (by simpa using h)
      simp; omega
theorem z1_rngs_length (l : List z1_B8) : (z1_rngs l).length ≤ l.length := z1_rngs_length_aux _ l rfl
theorem z1_heap_setCell_in {W : World} {g : Nat} {cur : Array Value} {t : TypeId} (hg : W.heap[g]? = some (.cells cur t (0, 0))) (o : Nat) (v : Value) : (W.setCell ⟨g, o, none⟩ v).heap[g]? = some (.cells (cur.setIfInBounds o v) t (0, 0)) := by
  unfold World.setCell
  dsimp only
  rw [Array.getElem?_modify, if_pos rfl, hg]
  rfl
theorem z1_news2 (W : World) (a b : Value) (t : TypeId) : ∀ (j : Nat) (u : Value), [a, b][j]? = some u → (W.alloc (.cells #[a, b] t)).cell? ((⟨W.heap.size, 0, none⟩ : Addr).add j) = some u := by
  intro j u h
  match j, h with
  | 0, h => simp at h; subst h; simp [go_sem, Addr.add]
  | 1, h => simp at h; subst h; simp [go_sem, Addr.add]
  | j + 2, h => simp at h
end Go.Proofs.YtaikcnoiaaiopaaDoor
namespace Go.Proofs.YtaikcnoiaaiopaaDoor
open Go Go.RowKit
attribute [local go_sem] z1_idx0 z1_idx1 z1_idx2 z1_idx3 z1_u64_signed z1_eqg_set z1_eqIn_set
theorem z1_ex_range : ∃ d : z1_S, z1_rangeS 48 57 = d ∧ z1_rangeE 48 57 = 0 ∧ z1_rangeE 5 4 = 1 ∧ (z1_nextV d 50 = 50 ∧ z1_nextB d 50 = true) ∧ z1_scount d = 10 :=
  ⟨z1_srange 48 57, z1_rangeS_ok ⟨by decide, by decide, by decide⟩, z1_rangeE_ok ⟨by decide, by decide, by decide⟩, z1_rangeE_bad (by unfold z1_rangeOk; omega), by decide +kernel, by decide +kernel⟩
end Go.Proofs.YtaikcnoiaaiopaaDoor
namespace Go.Proofs.YtaikcnoiaaiopaaDoor
open Go Go.RowKit
attribute [local go_sem] z1_idx0 z1_idx1 z1_idx2 z1_idx3 z1_u64_signed z1_ext_cell z1_eqg_set z1_eqIn_set
theorem z1_bit_and (a b : z1_S) (n : Nat) : (z1_sand a b).getLsbD n = (a.getLsbD n && b.getLsbD n) := by simp [z1_sand]
theorem z1_bit_or (a b : z1_S) (n : Nat) : (z1_sor a b).getLsbD n = (a.getLsbD n || b.getLsbD n) := by simp [z1_sor]
theorem z1_shas_eq (s : z1_S) (b : Int) : z1_shas s b = (decide (0 ≤ b ∧ b ≤ 255) && s.getLsbD b.toNat) := by
  unfold z1_shas
  by_cases h : 0 ≤ b ∧ b ≤ 255
  · rw [decide_eq_true h, Bool.true_and]
    have e : (s.getLsbD b.toNat = false) ↔ z1_sand s (z1_sonly b) = 0#256 := by
      constructor
      · intro hb
        refine BitVec.eq_of_getLsbD_eq fun n hn => ?_
        rw [z1_bit_and, z1_bit_only]
        by_cases hbn : b = (n : Int)
        · have : b.toNat = n := by omega
          rw [this] at hb; simp [hb]
        · simp [hbn]
      · intro h0
        have := congrArg (fun z => z.getLsbD b.toNat) h0
        simp only [z1_bit_and, z1_bit_only] at this
        have hx : decide (0 ≤ b ∧ b ≤ 255 ∧ b = (b.toNat : Int)) = true := by simp; omega
        rw [hx] at this
        simpa using this
    by_cases hb : s.getLsbD b.toNat = true
    · have : ¬ z1_sand s (z1_sonly b) = 0#256 := fun h0 => by rw [← e, hb] at h0; cases h0
      simp [this, hb]
    · have hb' : s.getLsbD b.toNat = false := by simpa using hb
      rw [hb']; simp [e.1 hb']
  · have : z1_sonly b = 0#256 := by unfold z1_sonly; rw [if_neg h]; rfl
    rw [this, decide_eq_false h]
    simp [z1_sand]
theorem z1_each_same_with (s : z1_S) (b : Int) : z1_shas (z1_sor s (z1_sonly b)) b = decide (0 ≤ b ∧ b ≤ 255) := by
  rw [z1_shas_eq, z1_bit_or, z1_bit_only]
  by_cases h : 0 ≤ b ∧ b ≤ 255
  · have : b = (b.toNat : Int) := by omega
    simp [h, ← this]
  · simp [h]
theorem z1_each_same_without (s : z1_S) (b : Int) : z1_shas (z1_sless s (z1_sonly b)) b = false := by
  rw [z1_shas_eq, z1_bit_less, z1_bit_only]
  by_cases h : 0 ≤ b ∧ b ≤ 255
  · have : b = (b.toNat : Int) := by omega
    simp [h, ← this]
  · simp [h]
theorem z1_each_other_with (s : z1_S) (b c : Int) (h : ¬ c = b) : z1_shas (z1_sor s (z1_sonly b)) c = z1_shas s c := by
  rw [z1_shas_eq, z1_shas_eq, z1_bit_or, z1_bit_only]
  by_cases g : 0 ≤ c ∧ c ≤ 255
  · rw [decide_eq_false (show ¬ (0 ≤ b ∧ b ≤ 255 ∧ b = (c.toNat : Int)) by omega)]; simp
  · simp [g]
theorem z1_each_other_without (s : z1_S) (b c : Int) (h : ¬ c = b) : z1_shas (z1_sless s (z1_sonly b)) c = z1_shas s c := by
  rw [z1_shas_eq, z1_shas_eq, z1_bit_less, z1_bit_only]
  by_cases g : 0 ≤ c ∧ c ≤ 255
  · rw [decide_eq_false (show ¬ (0 ≤ b ∧ b ≤ 255 ∧ b = (c.toNat : Int)) by omega)]; simp
  · simp [g]
end Go.Proofs.YtaikcnoiaaiopaaDoor
namespace Go.Proofs.YtaikcnoiaaiopaaDoor
open Go Go.RowKit
theorem bit_only (m k : Nat) (hm : m ≤ 255) : (z1_sonly (m : Int)).getLsbD k = decide (m = k) := by
  rw [z1_bit_only]
  by_cases h : m = k
  · subst h; simp; omega
  · have : ¬ ((m : Int) = (k : Int)) := by omega
    simp [h, this]
theorem wsOf_bit {Ws : List (List Nat)} {r : List Nat} {k : Nat} : ∀ {m : Nat}, m ≤ 256 → ((wsOf Ws m r).getLsbD k = true ↔ k < m ∧ Ws[k]? = some r)
  | 0, _ => by simp [wsOf]
  | m + 1, h => by
    have ih := wsOf_bit (Ws := Ws) (r := r) (k := k) (m := m) (by omega)
    unfold wsOf
    by_cases e : Ws[m]? = some r
    · rw [if_pos e, z1_bit_or, Bool.or_eq_true, ih, bit_only m k (by omega), decide_eq_true_eq]
      constructor
      · rintro (⟨h1, h2⟩ | rfl)
        · exact ⟨by omega, h2⟩
        · exact ⟨by omega, e⟩
      · rintro ⟨h1, h2⟩
        by_cases hk : k = m
        · exact .inr hk.symm
        · exact .inl ⟨by omega, h2⟩
    · rw [if_neg e, ih]
      constructor
      · rintro ⟨h1, h2⟩; exact ⟨by omega, h2⟩
      · rintro ⟨h1, h2⟩
        exact ⟨by have : k ≠ m := fun q => e (q ▸ h2); omega, h2⟩
theorem set_ne {s : z1_S} : s ≠ 0#256 ↔ ∃ k, k < 256 ∧ s.getLsbD k = true := by
  constructor
  · intro h
    apply Classical.byContradiction
    intro hn
    apply h
    refine BitVec.eq_of_getLsbD_eq fun i hi => ?_
    rw [BitVec.getLsbD_zero]
    rw [Bool.eq_false_iff]
    exact fun q => hn ⟨i, hi, q⟩
  · rintro ⟨k, _, hk⟩ e
    rw [e, BitVec.getLsbD_zero] at hk
    cases hk
def Sd (f : Bool) (ws : List ByteArray) (line : ByteArray) (p k : Nat) : Prop := ∃ s, ws[k]? = some s ∧ cL f s <+: (cL f line).drop p
def SdE (f : Bool) (ws : List ByteArray) (line : ByteArray) (m i p k : Nat) : Prop := m ≤ p ∧ ∃ s, ws[k]? = some s ∧ cL f s <+: (cL f line).drop p ∧ p + s.size ≤ m + i
section
variable {f : Bool} {ws : List ByteArray} {line s : ByteArray} {m i p k : Nat}
theorem mayB_of (h : mayB ws = true) : (∀ s ∈ ws, 1 ≤ s.size ∧ s.size ≤ 1000) ∧ 0 < ws.length ∧ ws.length ≤ 100 := by
  simp only [mayB, Bool.and_eq_true, decide_eq_true_eq, List.all_eq_true, wOk] at h
  exact ⟨h.1.1, h.1.2, h.2⟩
theorem sd_len (h : cL f s <+: (cL f line).drop p) (h1 : 1 ≤ s.size) : p + s.size ≤ line.size := by
  have := h.length_le
  rw [cL_len, List.length_drop, cL_len] at this
  omega
theorem rdP_len (h : m + i ≤ line.size) : (rdP f line m i).length = i := by
  rw [rdP, List.length_reverse, List.length_take, List.length_drop, cL_len]; omega
theorem rdP_take {n : Nat} (h : m + i ≤ line.size) (hn : n ≤ i) : (rdP f line m i).take n = (((cL f line).drop (m + i - n)).take n).reverse := by
  have hl : (((cL f line).drop m).take i).length = i := by rw [List.length_take, List.length_drop, cL_len]; omega
  rw [rdP, List.take_reverse, hl, List.drop_take, List.drop_drop]
  congr 2
  · omega
  · congr 1; omega
theorem end_iff (h : m + i ≤ line.size) : (cL f s).reverse <+: rdP f line m i ↔ s.size ≤ i ∧ cL f s <+: (cL f line).drop (m + i - s.size) := by
  constructor
  · intro hp
    have hl := hp.length_le
    rw [List.length_reverse, cL_len, rdP_len h] at hl
    refine ⟨hl, ?_⟩
    have h1 := List.prefix_iff_eq_take.1 hp
    rw [List.length_reverse, cL_len, rdP_take h hl, List.reverse_inj] at h1
    rw [List.prefix_iff_eq_take, cL_len]
    exact h1
  · rintro ⟨hl, hp⟩
    have h1 := List.prefix_iff_eq_take.1 hp
    rw [cL_len] at h1
    rw [List.prefix_iff_eq_take, List.length_reverse, cL_len, rdP_take h hl, ← h1]
theorem begun {T : Pt} {D : List Nat → Prop} {R : List Nat → Nat → Prop} {K : List Nat → Kn} {base : Nat} {w : World} {lg : Int} (hH : Hu base w f ws T D R K lg) (h : m + i ≤ line.size) (hk : ws[k]? = some s) (hs : cL f s <+: (cL f line).drop p) (h1 : m ≤ p) (h2 : p ≤ m + i) (h3 : m + i ≤ p + s.size) {r : List Nat} (hr : IsLg D (rdP f line m i) r) : m + i - p ≤ r.length := by
  have hn : m + i - p ≤ i := by omega
  have ht := rdP_take (f := f) (line := line) (n := m + i - p) h hn
  have hD : D ((rdP f line m i).take (m + i - p)) := by
    rw [hH.d]
    refine .inr ⟨(cL f s).reverse, List.mem_map.2 ⟨s, List.mem_of_getElem? hk, rfl⟩, ?_⟩
    rw [ht, show m + i - (m + i - p) = p by omega, List.reverse_suffix]
    have h5 := List.prefix_iff_eq_take.1 hs
    rw [cL_len] at h5
    rw [h5]
    exact (List.take_prefix_take_left (by omega))
  have := hr.2.2 _ (List.take_prefix _ _) hD
  rwa [List.length_take, rdP_len h, Nat.min_eq_left hn] at this
theorem wk_iff {T : Pt} {D : List Nat → Prop} {R : List Nat → Nat → Prop} {K : List Nat → Kn} {base : Nat} {w : World} {lg : Int} (hH : Hu base w f ws T D R K lg) {y : List Nat} {k : Nat} : (K y).ws.getLsbD k = true ↔ ∃ s, ws[k]? = some s ∧ (cL f s).reverse = y := by
  have h100 := (mayB_of hH.ok).2.2
  rw [hH.kw, wsOf_bit (by omega)]
  constructor
  · rintro ⟨h1, h2⟩
    simp only [WsOf, List.getElem?_map, Option.map_eq_some_iff] at h2
    exact h2
  · rintro ⟨s, h1, h2⟩
    exact ⟨(List.getElem?_eq_some_iff.1 h1).1, by rw [wsOf_get h1, h2]⟩
theorem WK_iff {T : Pt} {D : List Nat → Prop} {R : List Nat → Nat → Prop} {K : List Nat → Kn} {base : Nat} {w : World} {lg : Int} (hH : Hu base w f ws T D R K lg) {y : List Nat} : WK K y ↔ ∃ (k : Nat) (s : ByteArray), ws[k]? = some s ∧ (cL f s).reverse = y := by
  have h100 := (mayB_of hH.ok).2.2
  unfold WK
  rw [set_ne]
  constructor
  · rintro ⟨k, _, hk⟩
    obtain ⟨s, h1, h2⟩ := (wk_iff hH).1 hk
    exact ⟨k, s, h1, h2⟩
  · rintro ⟨k, s, h1, h2⟩
    exact ⟨k, by have := (List.getElem?_eq_some_iff.1 h1).1; omega, (wk_iff hH).2 ⟨s, h1, h2⟩⟩
theorem WK_D {T : Pt} {D : List Nat → Prop} {R : List Nat → Nat → Prop} {K : List Nat → Kn} {base : Nat} {w : World} {lg : Int} (hH : Hu base w f ws T D R K lg) : ∀ y, WK K y → D y := fun y hy => by
  obtain ⟨k, s, h1, h2⟩ := (WK_iff hH).1 hy
  rw [hH.d]
  exact .inr ⟨y, List.mem_map.2 ⟨s, List.mem_of_getElem? h1, h2⟩, List.suffix_refl _⟩
def FstI (f : Bool) (ws : List ByteArray) (line : ByteArray) (m i a b : Nat) : Prop :=
  (a = line.size ∧ b = 0 ∧ ∀ p k, ¬ SdE f ws line m i p k) ∨ (SdE f ws line m i a b ∧ ∀ p k, SdE f ws line m i p k → a < p ∨ a = p ∧ b ≤ k)
def FstA (f : Bool) (ws : List ByteArray) (line : ByteArray) (m a b : Nat) : Prop :=
  (a = line.size ∧ b = 0 ∧ ∀ p k, m ≤ p → ¬ Sd f ws line p k) ∨ (m ≤ a ∧ Sd f ws line a b ∧ ∀ p k, m ≤ p → Sd f ws line p k → a < p ∨ a = p ∧ b ≤ k)
theorem fst0 (hok : mayB ws = true) : FstI f ws line m 0 line.size 0 := .inl ⟨rfl, rfl, fun p k h => by
  obtain ⟨h1, s, h2, h3, h4⟩ := h
  have := ((mayB_of hok).1 s (List.mem_of_getElem? h2)).1
  omega⟩
theorem sdE_sd (h : SdE f ws line m i p k) : m ≤ p ∧ Sd f ws line p k := by obtain ⟨h1, s, h2, h3, _⟩ := h; exact ⟨h1, s, h2, h3⟩
theorem fstI_lt (hok : mayB ws = true) {a b : Nat} (h : FstI f ws line m i a b) : a ≤ line.size := by
  rcases h with ⟨rfl, _⟩ | ⟨⟨_, s, h2, h3, _⟩, _⟩
  · exact Nat.le_refl _
  · have := sd_len h3 ((mayB_of hok).1 s (List.mem_of_getElem? h2)).1; omega
theorem fst_all (hok : mayB ws = true) {a b : Nat} (h : FstI f ws line m (line.size - m) a b) (hm : m ≤ line.size) : FstA f ws line m a b := by
  have key : ∀ p k, m ≤ p → Sd f ws line p k → SdE f ws line m (line.size - m) p k := fun p k hp ⟨s, h1, h2⟩ => ⟨hp, s, h1, h2, by have := sd_len h2 ((mayB_of hok).1 s (List.mem_of_getElem? h1)).1; omega⟩
  rcases h with ⟨h1, h2, h3⟩ | ⟨h1, h2⟩
  · exact .inl ⟨h1, h2, fun p k hp hs => h3 p k (key p k hp hs)⟩
  · exact .inr ⟨(sdE_sd h1).1, (sdE_sd h1).2, fun p k hp hs => h2 p k (key p k hp hs)⟩
theorem fst_stop {T : Pt} {D : List Nat → Prop} {R : List Nat → Nat → Prop} {K : List Nat → Kn} {base : Nat} {w : World} {lg : Int} (hH : Hu base w f ws T D R K lg) {a b : Nat} (h : FstI f ws line m i a b) (hi : m + (i + 1) ≤ line.size) {r : List Nat} (hr : IsLg D (rdP f line m (i + 1)) r) (hlt : a + r.length < m + (i + 1)) : FstA f ws line m a b := by
  have key : ∀ p k, m ≤ p → Sd f ws line p k → SdE f ws line m i p k ∨ a < p := fun p k hp ⟨s, h1, h2⟩ => by
    by_cases he : p + s.size ≤ m + i
    · exact .inl ⟨hp, s, h1, h2, he⟩
    · refine .inr ?_
      by_cases hq : p ≤ m + (i + 1)
      · have := begun hH hi h1 h2 hp hq (by omega) hr
        omega
      · omega
  rcases h with ⟨h1, h2, h3⟩ | ⟨h1, h2⟩
  · omega
  · exact .inr ⟨(sdE_sd h1).1, (sdE_sd h1).2, fun p k hp hs => (key p k hp hs).elim (h2 p k) (fun q => .inl q)⟩
theorem sdE_next (hi : m + (i + 1) ≤ line.size) : SdE f ws line m (i + 1) p k ↔ SdE f ws line m i p k ∨ ∃ s, ws[k]? = some s ∧ (cL f s).reverse <+: rdP f line m (i + 1) ∧ p + s.size = m + (i + 1) := by
  constructor
  · rintro ⟨h1, s, h2, h3, h4⟩
    by_cases he : p + s.size ≤ m + i
    · exact .inl ⟨h1, s, h2, h3, he⟩
    · refine .inr ⟨s, h2, (end_iff hi).2 ⟨by omega, ?_⟩, by omega⟩
      rw [show m + (i + 1) - s.size = p by omega]; exact h3
  · rintro (⟨h1, s, h2, h3, h4⟩ | ⟨s, h2, h3, h4⟩)
    · exact ⟨h1, s, h2, h3, by omega⟩
    · obtain ⟨h5, h6⟩ := (end_iff hi).1 h3
      exact ⟨by omega, s, h2, by rw [show m + (i + 1) - s.size = p by omega] at h6; exact h6, by omega⟩
theorem fst_none {T : Pt} {D : List Nat → Prop} {R : List Nat → Nat → Prop} {K : List Nat → Kn} {base : Nat} {w : World} {lg : Int} (hH : Hu base w f ws T D R K lg) {a b : Nat} (h : FstI f ws line m i a b) (hi : m + (i + 1) ≤ line.size) (hw : WhIs (WK K) (rdP f line m (i + 1)) none) : FstI f ws line m (i + 1) a b := by
  have key : ∀ p k, SdE f ws line m (i + 1) p k ↔ SdE f ws line m i p k := fun p k => by
    rw [sdE_next hi]
    refine ⟨fun q => q.elim id (fun ⟨s, h1, h2, _⟩ => ?_), .inl⟩
    rcases hw with ⟨_, hw⟩ | ⟨x, hx, _⟩
    · exact absurd ((WK_iff hH).2 ⟨k, s, h1, rfl⟩) (hw _ h2)
    · cases hx
  rcases h with ⟨h1, h2, h3⟩ | ⟨h1, h2⟩
  · exact .inl ⟨h1, h2, fun p k hs => h3 p k ((key p k).1 hs)⟩
  · exact .inr ⟨(key a b).2 h1, fun p k hs => h2 p k ((key p k).1 hs)⟩
def LeastK (K : List Nat → Kn) (y : List Nat) (n : Nat) : Prop := (K y).ws.getLsbD n = true ∧ ∀ k, (K y).ws.getLsbD k = true → n ≤ k
def earl (a b c d : Nat) : Nat × Nat := if a < c ∨ (a = c ∧ b < d) then (a, b) else (c, d)
theorem fst_some {T : Pt} {D : List Nat → Prop} {R : List Nat → Nat → Prop} {K : List Nat → Kn} {base : Nat} {w : World} {lg : Int} (hH : Hu base w f ws T D R K lg) {a b : Nat} (h : FstI f ws line m i a b) (hi : m + (i + 1) ≤ line.size) {y : List Nat} (hw : WhIs (WK K) (rdP f line m (i + 1)) (some y)) {n : Nat} (hn : LeastK K y n) :
    FstI f ws line m (i + 1) (earl a b (m + (i + 1) - y.length) n).1 (earl a b (m + (i + 1) - y.length) n).2 := by
  rcases hw with ⟨hx, _⟩ | ⟨y', hy, hp, hwy, hmax⟩
  · cases hx
  cases hy
  obtain ⟨s, hs1, hs2⟩ := (wk_iff hH).1 hn.1
  have hyl : y.length = s.size := by rw [← hs2, List.length_reverse, cL_len]
  have hsz := ((mayB_of hH.ok).1 s (List.mem_of_getElem? hs1)).1
  obtain ⟨hle, hst⟩ := (end_iff (s := s) hi).1 (by rw [hs2]; exact hp)
  have hnew : SdE f ws line m (i + 1) (m + (i + 1) - y.length) n := (sdE_next hi).2 (.inr ⟨s, hs1, by rw [hs2]; exact hp, by omega⟩)
  -- the new ones
  have hge : ∀ p k s', ws[k]? = some s' → (cL f s').reverse <+: rdP f line m (i + 1) → p + s'.size = m + (i + 1) → m + (i + 1) - y.length < p ∨ m + (i + 1) - y.length = p ∧ n ≤ k := fun p k s' h1 h2 h3 => by
    have h5 := hmax _ h2 ((WK_iff hH).2 ⟨k, s', h1, rfl⟩)
    rw [List.length_reverse, cL_len] at h5
    by_cases he : s'.size = y.length
    · refine .inr ⟨by omega, ?_⟩
      have hyy : (cL f s').reverse = y := prefix_eq h2 hp (by rw [List.length_reverse, cL_len]; exact he)
      exact hn.2 k ((wk_iff hH).2 ⟨s', h1, hyy⟩)
    · exact .inl (by omega)
  right
  unfold earl
  by_cases hc : a < m + (i + 1) - y.length ∨ (a = m + (i + 1) - y.length ∧ b < n)
  · rw [if_pos hc]
    rcases h with ⟨h1, h2, h3⟩ | ⟨h1, h2⟩
    · omega
    · refine ⟨(sdE_next hi).2 (.inl h1), fun p k hs => ?_⟩
      rcases (sdE_next hi).1 hs with hs | ⟨s', q1, q2, q3⟩
      · exact h2 p k hs
      · have := hge p k s' q1 q2 q3
        show a < p ∨ a = p ∧ b ≤ k
        omega
  · rw [if_neg hc]
    refine ⟨hnew, fun p k hs => ?_⟩
    rcases (sdE_next hi).1 hs with hs | ⟨s', q1, q2, q3⟩
    · rcases h with ⟨h1, h2, h3⟩ | ⟨h1, h2⟩
      · exact absurd hs (h3 p k)
      · have := h2 p k hs
        show m + (i + 1) - y.length < p ∨ m + (i + 1) - y.length = p ∧ n ≤ k
        omega
    · exact hge p k s' q1 q2 q3
end
theorem wrap64_add (a b : Int) : wrap64 (wrap64 a + b) = wrap64 (a + b) := by unfold wrap64; omega
end Go.Proofs.YtaikcnoiaaiopaaDoor
