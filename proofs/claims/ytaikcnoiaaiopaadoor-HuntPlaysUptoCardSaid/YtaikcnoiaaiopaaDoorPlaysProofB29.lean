/-
  Parts of the proof.
-/
import Derived.Test.YtaikcnoiaaiopaaDoorPlaysProofB28
set_option linter.unusedSimpArgs false
namespace Go.Proofs.YtaikcnoiaaiopaaDoor
open Go Go.RowKit Go.Shelf
theorem mod_ne {a b c m : Nat} (h1 : c ≤ a) (h2 : a < c + m) (h3 : c ≤ b) (h4 : b < c + m) (h : a ≠ b) : a % m ≠ b % m := by
  have key : ∀ a b : Nat, c ≤ a → b < c + m → a < b → a % m ≠ b % m := fun a b h1 h4 hlt e => by
    have h7 := Nat.div_add_mod a m
    have h8 := Nat.div_add_mod b m
    have h9 : m * (a / m) < m * (b / m) := by omega
    have h10 : a / m < b / m := Nat.lt_of_mul_lt_mul_left h9
    have h11 : m * (a / m + 1) ≤ m * (b / m) := Nat.mul_le_mul_left m h10
    rw [Nat.mul_add, Nat.mul_one] at h11
    omega
  rcases Nat.lt_or_gt_of_ne h with q | q
  · exact key a b h1 h4 q
  · exact fun e => key b a h3 h2 q e.symm
def WaitC (f : Bool) (ws : List ByteArray) (line : ByteArray) (i place m : Nat) (cs : List z1_S) (z : Nat) : Prop := ∀ p, place ≤ p → p < place + m → ∃ s, cs[p % m]? = some s ∧ ∀ k, s.getLsbD k = true ↔ SdE f ws line 0 i p k ∨ ∃ s', ws[k]? = some s' ∧ (cL f s').reverse <+: rdP f line 0 (i + 1) ∧ p + s'.size = 0 + (i + 1) ∧ z < s'.size
section
variable {f : Bool} {ws : List ByteArray} {line : ByteArray} {T : Pt} {D : List Nat → Prop} {R : List Nat → Nat → Prop} {K : List Nat → Kn} {base : Nat} {w : World} {lg : Int} {i place m : Nat} {cs : List z1_S}
theorem d_lg (hH : Hu base w f ws T D R K lg) {r : List Nat} (h : D r) : (r.length : Int) ≤ lg := by
  rcases (hH.d r).1 h with rfl | ⟨x, hx, hs⟩
  · exact hH.lg.2.1
  · obtain ⟨s, hs1, rfl⟩ := List.mem_map.1 hx
    have h1 := hs.length_le
    rw [List.length_reverse, cL_len] at h1
    have := hH.lg.1 s hs1
    omega
theorem wk_len (hH : Hu base w f ws T D R K lg) {y : List Nat} (h : WK K y) : 1 ≤ y.length := by
  obtain ⟨k, s, h1, rfl⟩ := (WK_iff hH).1 h
  rw [List.length_reverse, cL_len]
  exact ((mayB_of hH.ok).1 s (List.mem_of_getElem? h1)).1
theorem waitC_start (hH : Hu base w f ws T D R K lg) {r : List Nat} (hr : IsLg D (rdP f line 0 (i + 1)) r) (h : WaitI f ws line i place m cs) : WaitC f ws line i place m cs r.length := fun p h1 h2 => by
  obtain ⟨s, q1, q2⟩ := h p h1 h2
  refine ⟨s, q1, fun k => (q2 k).trans ⟨.inl, fun hh => hh.elim id (fun ⟨s', a, b, c, d⟩ => ?_)⟩⟩
  have h5 := hr.2.2 _ b (WK_D hH _ ((WK_iff hH).2 ⟨k, s', a, rfl⟩))
  rw [List.length_reverse, cL_len] at h5
  omega
theorem waitC_done (hH : Hu base w f ws T D R K lg) (hi : i + 1 ≤ line.size) {z : List Nat} (hz : z <+: rdP f line 0 (i + 1)) (hw : WhIs (WK K) z none) (h : WaitC f ws line i place m cs z.length) : WaitI f ws line (i + 1) place m cs := fun p h1 h2 => by
  obtain ⟨s, q1, q2⟩ := h p h1 h2
  refine ⟨s, q1, fun k => (q2 k).trans ?_⟩
  rw [sdE_next (by omega)]
  refine or_congr Iff.rfl ⟨fun ⟨s', a, b, c, d⟩ => ⟨s', a, b, c⟩, fun ⟨s', a, b, c⟩ => ⟨s', a, b, c, ?_⟩⟩
  rcases Nat.lt_or_ge z.length s'.size with q | q
  · exact q
  · rcases hw with ⟨_, hw⟩ | ⟨x, hx, _⟩
    · exact absurd ((WK_iff hH).2 ⟨k, s', a, rfl⟩) (hw _ (prefix_le b hz (by rw [List.length_reverse, cL_len]; exact q)))
    · cases hx
theorem waitC_step (hH : Hu base w f ws T D R K lg) {z x : List Nat} (hz : z <+: rdP f line 0 (i + 1)) (hw : WhIs (WK K) z (some x)) (h : WaitC f ws line i place m cs z.length) (hl : cs.length = m) (h1 : x.length + place ≤ i + 1) (h2 : i + 1 ≤ place + m) {c : z1_S} (hc : cs[(i + 1 - x.length) % m]? = some c) :
    WaitC f ws line i place m (cs.set ((i + 1 - x.length) % m) (z1_sor c (K x).ws)) x.dropLast.length := by
  rcases hw with ⟨hx, _⟩ | ⟨x', hx, hxz, hxw, hmax⟩
  · cases hx
  cases hx
  have hx1 := wk_len hH hxw
  have hm : 0 < m := by omega
  have hxp := hxz.trans hz
  have hxl := hxz.length_le
  have hdl : x.dropLast.length = x.length - 1 := List.length_dropLast
  intro p q1 q2
  by_cases he : p = i + 1 - x.length
  · subst he
    obtain ⟨s, a1, a2⟩ := h _ q1 q2
    have hsc : s = c := by rw [hc] at a1; injection a1 with a1; exact a1.symm
    subst hsc
    refine ⟨_, List.getElem?_set_self (by rw [hl]; exact Nat.mod_lt _ hm), fun k => ?_⟩
    rw [z1_bit_or, Bool.or_eq_true, a2 k, wk_iff hH]
    constructor
    · rintro ((hs | ⟨s', b1, b2, b3, b4⟩) | ⟨s', b1, b2⟩)
      · exact .inl hs
      · exact .inr ⟨s', b1, b2, b3, by omega⟩
      · have hsz : s'.size = x.length := by rw [← b2, List.length_reverse, cL_len]
        exact .inr ⟨s', b1, by rw [b2]; exact hxp, by omega, by omega⟩
    · rintro (hs | ⟨s', b1, b2, b3, b4⟩)
      · exact .inl (.inl hs)
      · exact .inr ⟨s', b1, prefix_eq b2 hxp (by rw [List.length_reverse, cL_len]; omega)⟩
  · obtain ⟨s, a1, a2⟩ := h p q1 q2
    refine ⟨s, by rw [List.getElem?_set_ne (mod_ne (by omega) (by omega) q1 q2 (fun e => he e.symm))]; exact a1, fun k => (a2 k).trans (or_congr Iff.rfl ⟨fun ⟨s', b1, b2, b3, b4⟩ => ⟨s', b1, b2, b3, by omega⟩, fun ⟨s', b1, b2, b3, b4⟩ => ⟨s', b1, b2, b3, ?_⟩⟩)⟩
    rcases Nat.lt_or_ge z.length s'.size with q | q
    · exact q
    · have h5 := hmax _ (prefix_le b2 hz (by rw [List.length_reverse, cL_len]; exact q)) ((WK_iff hH).2 ⟨k, s', b1, rfl⟩)
      rw [List.length_reverse, cL_len] at h5
      omega
theorem wh_next (hH : Hu base w f ws T D R K lg) {x : List Nat} (hx : WK K x) : ∃ y, (K x).bk = some y ∧ D y ∧ D x ∧ WhIs (WK K) x.dropLast (K y).wh := by
  have hD := WK_D hH x hx
  rcases hH.bk x hD with ⟨rfl, _⟩ | ⟨_, y, h1, h2⟩
  · have := wk_len hH hx; simp at this
  · exact ⟨y, h1, h2.2.1, hD, wh_lg (WK_D hH) h2 (hH.wh y h2.2.1)⟩
end
structure AlM (J : List Ev → World → Prop) (l hb B1 YB wb cb m B2 tb wx rb : Nat) (line : ByteArray) (pre : List Ev) (cs : List z1_S) (nx : Nat) (V : World) : Prop where
  a : AlS J l hb B1 YB wb cb m pre cs nx V
  x2 : V.heap[B2]? = some (.cells #[.string line] 9 (0, 0))
  x4 : V.heap[tb]? = some (.cells #[.func (.func 31) #[] #[.pointer (some ⟨B1, 0, none⟩), .pointer (some ⟨YB, 0, none⟩)]] 81 (0, 0))
  x5 : V.heap[wx]? = some (.cells #[.pointer (some ⟨wb, 0, none⟩)] 82 (0, 0))
  r1 : V.heap[rb]? = some (.cells #[.pointer (some ⟨hb, 0, none⟩)] 25 (0, 0))
  r3 : V.heap[rb + 1]? = some (.cells #[.string line] 9 (0, 0))
section
variable {base : Nat} {f : Bool} {ws : List ByteArray} {line : ByteArray} {T : Pt} {D : List Nat → Prop} {R : List Nat → Nat → Prop} {K : List Nat → Kn} {hb : Nat} {lg : Int} {n l n0 N0 : Nat} {J Jx : List Ev → World → Prop} {B1 YB wb cb m B2 tb wx rb nx : Nat} {pre : List Ev} {cs : List z1_S} {V V' : World}
theorem AlM.below (hA : AH base f ws line T D R K hb lg n l n0 N0 J Jx) (h : AlM J l hb B1 YB wb cb m B2 tb wx rb line pre cs nx V) (hb' : Below V.heap.size V V') : AlM J l hb B1 YB wb cb m B2 tb wx rb line pre cs nx V' :=
  ⟨h.a.below hA hb', (hb'.block _ (lt_of_heap h.x2)).trans h.x2, (hb'.block _ (lt_of_heap h.x4)).trans h.x4, (hb'.block _ (lt_of_heap h.x5)).trans h.x5, (hb'.block _ (lt_of_heap h.r1)).trans h.r1, (hb'.block _ (lt_of_heap h.r3)).trans h.r3⟩
theorem AlM.grown {B : Nat} {row : Option Nat} (hA : AH base f ws line T D R K hb lg n l n0 N0 J Jx) (h : AlM J l hb B1 YB wb cb m B2 tb wx rb line pre cs nx V) (hB : N0 ≤ B) (hg : V.grownBy V' row) (hr : ∀ r, row = some r → B ≤ r ∧ ∃ o : Obj, V.heap[r]? = some o ∧ o.isCells = false) : AlM J l hb B1 YB wb cb m B2 tb wx rb line pre cs nx V' :=
  ⟨h.a.grown hA hB hg hr, cells_kept hg hr h.x2, cells_kept hg hr h.x4, cells_kept hg hr h.x5, cells_kept hg hr h.r1, cells_kept hg hr h.r3⟩
theorem AlM.bump {d : Nat} (hA : AH base f ws line T D R K hb lg n l n0 N0 J Jx) (h : AlM J l hb B1 YB wb cb m B2 tb wx rb line pre cs nx V) (hu : Bump hb (d : Int) V V') : AlM J l hb B1 YB wb cb m B2 tb wx rb line (pre ++ [.inr d]) cs nx V' := by
  obtain ⟨⟨_, st, hh⟩, _⟩ := hA.inv _ _ h.a.j
  have kk : ∀ (k : Nat) (cur : Array Value) (t : TypeId), t ≠ 67 → V.heap[k]? = some (.cells cur t (0, 0)) → V'.heap[k]? = some (.cells cur t (0, 0)) := fun k cur t ht hc => (hu.fr.block k (lt_of_heap hc) (fun e => by
    subst e
    rw [hh] at hc
    injection hc with hc
    injection hc with _ hc _
    exact ht hc.symm)).trans hc
  exact ⟨(h.a.bump hA hu).1, kk _ _ _ (by decide) h.x2, kk _ _ _ (by decide) h.x4, kk _ _ _ (by decide) h.x5, kk _ _ _ (by decide) h.r1, kk _ _ _ (by decide) h.r3⟩
structure AlB (n0 B2 tb wx rb : Nat) : Prop where
  b2 : n0 ≤ B2
  tb : n0 ≤ tb
  wx : n0 ≤ wx
  rb : n0 ≤ rb
theorem AlM.round {pre' : List Ev} {cs' : List z1_S} {nx' : Nat} (hQ : AlB n0 B2 tb wx rb) (h : AlM J l hb B1 YB wb cb m B2 tb wx rb line pre cs nx V) (ha : AlS J l hb B1 YB wb cb m pre' cs' nx' V') (hk : TKeep (keepB n0) V V') : AlM J l hb B1 YB wb cb m B2 tb wx rb line pre' cs' nx' V' := by
  have h1 := hQ.b2
  have h2 := hQ.tb
  have h3 := hQ.wx
  have h4 := hQ.rb
  exact ⟨ha, hk.same _ _ _ _ (.inl ⟨h1, by simp⟩) h.x2, hk.same _ _ _ _ (.inl ⟨h2, by simp⟩) h.x4, hk.same _ _ _ _ (.inl ⟨h3, by simp⟩) h.x5, hk.same _ _ _ _ (.inl ⟨h4, by simp⟩) h.r1, hk.same _ _ _ _ (.inl ⟨by omega, by simp⟩) h.r3⟩
theorem AlM.put {cs' : List z1_S} (hA : AH base f ws line T D R K hb lg n l n0 N0 J Jx) (hP : AlP n0 N0 B1 YB wb cb) (h : AlM J l hb B1 YB wb cb m B2 tb wx rb line pre cs nx V) (hw : WM V' wb cb m cs' nx) (hf : Fr (fun k => k = cb) V V') : AlM J l hb B1 YB wb cb m B2 tb wx rb line pre cs' nx V' ∧ KeepsFrom N0 V V' := by
  have hNZ : N0 ≤ V.heap.size := by have := hP.cb; have := lt_of_heap h.a.w.c; omega
  have F1 : FT N0 tyP V V' := ⟨hf.mono (fun k hk => by subst hk; exact ⟨hP.cb, _, _, h.a.w.c, .inr (.inl rfl)⟩), hNZ⟩
  have kk : ∀ (k : Nat) (cur : Array Value) (t : TypeId), t ≠ 63 → V.heap[k]? = some (.cells cur t (0, 0)) → V'.heap[k]? = some (.cells cur t (0, 0)) := fun k cur t ht hc => (hf.block k (lt_of_heap hc) (ne_type hc h.a.w.c ht)).trans hc
  exact ⟨⟨⟨hA.ft _ _ _ h.a.j F1, hw, kk _ _ _ (by decide) h.a.b1, kk _ _ _ (by decide) h.a.yb⟩, kk _ _ _ (by decide) h.x2, kk _ _ _ (by decide) h.x4, kk _ _ _ (by decide) h.x5, kk _ _ _ (by decide) h.r1, kk _ _ _ (by decide) h.r3⟩, F1.keeps _⟩
theorem AlM.keep {pre' : List Ev} {cs' : List z1_S} {nx' : Nat} (h : AlM J l hb B1 YB wb cb m B2 tb wx rb line pre cs nx V) (h' : AlM J l hb B1 YB wb cb m B2 tb wx rb line pre' cs' nx' V') (hs : V.heap.size ≤ V'.heap.size) : TKeep (fun k _ => k = rb ∨ k = rb + 1) V V' := ⟨hs, fun k cur t fr hk hc => by
  rcases hk with rfl | rfl
  · rw [h.r1] at hc; injection hc with hc; injection hc with h1 h2 h3; subst h1 h2 h3; exact h'.r1
  · rw [h.r3] at hc; injection hc with hc; injection hc with h1 h2 h3; subst h1 h2 h3; exact h'.r3⟩
end
end Go.Proofs.YtaikcnoiaaiopaaDoor
