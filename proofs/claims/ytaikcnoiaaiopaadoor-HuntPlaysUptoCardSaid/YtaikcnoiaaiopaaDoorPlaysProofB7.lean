/-
  Parts of the proof.
-/
import Derived.Test.YtaikcnoiaaiopaaDoorPlaysProofB6
set_option linter.unusedSimpArgs false
namespace Go.Proofs.YtaikcnoiaaiopaaDoor
open Go Go.RowKit
def NR (base : Nat) (w : World) (k : Nat) : Prop := base ≤ k ∧ ∃ cur t, w.heap[k]? = some (.cells cur t (0, 0)) ∧ (t = 65 ∨ t = 112)
def NRk (a b : World) : Prop := ∀ (k : Nat) (cur : Array Value) (t : TypeId), (t = 65 ∨ t = 112) → a.heap[k]? = some (.cells cur t (0, 0)) → ∃ cur', b.heap[k]? = some (.cells cur' t (0, 0))
structure NF (base : Nat) (a b : World) : Prop where
  fr : Fr (NR base a) a b
  hb : base ≤ a.heap.size
theorem NF.refl {base : Nat} {a : World} (h : base ≤ a.heap.size) : NF base a a := ⟨Fr.refl _ _, h⟩
theorem NF.trans {base : Nat} {a b c : World} (h : NF base a b) (k : NF base b c) : NF base a c :=
  ⟨⟨k.fr.os.trans h.fr.os, k.fr.tape.trans h.fr.tape, k.fr.output.trans h.fr.output, Nat.le_trans h.fr.size k.fr.size, fun i hi hs => by
    have h1 := h.fr.block i hi hs
    refine (k.fr.block i (Nat.lt_of_lt_of_le hi h.fr.size) (fun q => hs ?_)).trans h1
    obtain ⟨q1, cur, t, q2, q3⟩ := q
    exact ⟨q1, cur, t, h1 ▸ q2, q3⟩⟩, h.hb⟩
theorem NF.below {base : Nat} {a b : World} (h : NF base a b) : Below base a b := h.fr.below h.hb (fun _ q => q.1)
theorem NF.of_below {base : Nat} {a b : World} (hb : base ≤ a.heap.size) (h : Below a.heap.size a b) : NF base a b := ⟨Fr.of_below h, hb⟩
theorem NF.set {base : Nat} {a : World} (hb : base ≤ a.heap.size) {k j : Nat} {cur : Array Value} {t : TypeId} (h : a.heap[k]? = some (.cells cur t (0, 0))) (ht : t = 65 ∨ t = 112) (hk : base ≤ k) (v : Value) : NF base a (a.setCell ⟨k, j, none⟩ v) :=
  ⟨(Fr.refl _ _).setCell (p := ⟨k, j, none⟩) ⟨hk, cur, t, h, ht⟩ v, hb⟩
theorem NF.keep {base : Nat} {a b : World} (h : NF base a b) {k : Nat} {o : Obj} (hk : a.heap[k]? = some o) (hn : ∀ cur t, o = .cells cur t (0, 0) → ¬ (t = 65 ∨ t = 112)) : b.heap[k]? = some o :=
  (h.fr.block k (Array.getElem?_eq_some_iff.1 hk).1 (fun ⟨_, cur, t, q2, q3⟩ => hn cur t (by rw [hk] at q2; exact Option.some.inj q2) q3)).trans hk
theorem div16 {u l : Nat} (hl : l < 16) : (u * 16 + l) / 16 = u := by omega
section
variable {base : Nat} {w : World} {T : Pt} {D : List Nat → Prop} {R : List Nat → Nat → Prop} {K : List Nat → Kn}
def R1 (R : List Nat → Nat → Prop) (r : List Nat) (u : Nat) : List Nat → Nat → Prop := fun x v => R x v ∨ (x = r ∧ v = u)
def D1 (D : List Nat → Prop) (r : List Nat) : List Nat → Prop := fun x => D x ∨ x = r
open Classical in
noncomputable def T1 (T : Pt) (r : List Nat) (u g : Nat) : Pt := ⟨T.nb, fun x v => if x = r ∧ v = u then g else T.rb x v⟩
open Classical in
noncomputable def T2 (T : Pt) (r : List Nat) (g : Nat) : Pt := ⟨fun x => if x = r then g else T.nb x, T.rb⟩
theorem t2_other (T : Pt) {r x : List Nat} (g : Nat) (h : x ≠ r) : (T2 T r g).nb x = T.nb x := if_neg h
theorem t2_at (T : Pt) (r : List Nat) (g : Nat) : (T2 T r g).nb r = g := if_pos rfl
theorem ndV_t2 {T : Pt} {D : List Nat → Prop} {r : List Nat} {g : Nat} (hr : ¬ D r) {o : Option (List Nat)} (ho : ∀ x, o = some x → D x) : ndV (T2 T r g) o = ndV T o := by
  cases o with
  | none => rfl
  | some x =>
    have : x ≠ r := fun e => hr (e ▸ ho x rfl)
    simp [ndV, ndA, t2_other T g this]
abbrev nils16 : Array Value := #[.pointer none, .pointer none, .pointer none, .pointer none, .pointer none, .pointer none, .pointer none, .pointer none, .pointer none, .pointer none, .pointer none, .pointer none, .pointer none, .pointer none, .pointer none, .pointer none]
theorem get16 {cur : Array Value} {v : Value} (h : (List.range 16).all (fun l => (match cur[l]? with | some (.pointer none) => true | _ => false)) = true) (hv : v = .pointer none) {l : Nat} (hl : l < 16) : cur[l]? = some v := by
  rw [List.all_eq_true] at h
  have := h l (List.mem_range.2 hl)
  subst hv
  split at this
  · assumption
  · cases this
theorem nils16_get {l : Nat} (h : l < 16) : nils16[l]? = some (.pointer none) := get16 (by rfl) rfl h
theorem TrM.addRow (h : TrM base w T D R K) {r : List Nat} {u : Nat} (hr : D r) (hu : u < 16) (hn : ¬ R r u) (hb : base ≤ w.heap.size) :
    TrM base ((w.alloc (.cells nils16 112)).setCell ⟨T.nb r, u, none⟩ (.pointer (some ⟨w.heap.size, 0, none⟩))) (T1 T r u w.heap.size) D (R1 R r u) K := by
  have hbl : Below w.heap.size w (w.alloc (.cells nils16 112)) := (Below.refl _ _).alloc (Nat.le_refl _) _
  have hA := h.below hbl
  have hne : w.heap.size ≠ T.nb r := fun e => by have := h.lt hr; omega
  have hrow : ((w.alloc (.cells nils16 112)).setCell ⟨T.nb r, u, none⟩ (.pointer (some ⟨w.heap.size, 0, none⟩))).heap[w.heap.size]? = some (.cells nils16 112 (0, 0)) :=
    (Below.heap_setCell _ _ _ _ hne).trans (World.alloc_heap_new w _)
  have hnr : ∀ x v, R x v → ¬ (x = r ∧ v = u) := fun x v hx e => hn (by rw [← e.1, ← e.2]; exact hx)
  have hlt : ∀ x v, R x v → T.rb x v < w.heap.size := fun x v hx => by obtain ⟨_, h1, _⟩ := h.row x v hx; exact lt_of_heap h1
  have rbo : ∀ x v, R x v → (T1 T r u w.heap.size).rb x v = T.rb x v := fun x v hx => by simp [T1, hnr x v hx]
  have rbn : (T1 T r u w.heap.size).rb r u = w.heap.size := by simp [T1]
  refine ⟨h.clo, fun b x hx => ⟨(h.byte b x hx).1, .inl (h.byte b x hx).2⟩, fun x v hx => ?_, fun x hx => ?_, fun x v hx => ?_, h.inj, fun x v x' v' hx hx' e => ?_, h.bkd, h.whd, h.few, h.bn, fun x v hx => ?_⟩
  · rcases hx with hx | ⟨rfl, rfl⟩
    · exact h.rup x v hx
    · exact ⟨hr, hu⟩
  · obtain ⟨cur, h1, h2⟩ := hA.node x hx
    have keepRow : ∀ v, x ≠ r ∨ v ≠ u → rowV (T1 T r u w.heap.size) (R1 R r u) x v = rowV T R x v := fun v hv => by
      have he : ¬ (x = r ∧ v = u) := fun e => hv.elim (fun q => q e.1) (fun q => q e.2)
      have hi : R1 R r u x v ↔ R x v := ⟨fun q => q.elim id (fun q => absurd q he), .inl⟩
      unfold rowV
      by_cases hR : R x v
      · rw [if_pos hR, if_pos (hi.2 hR), rbo x v hR]
      · rw [if_neg hR, if_neg (fun q => hR (hi.1 q))]
    by_cases hxr : x = r
    · subst hxr
      refine ⟨cur.setIfInBounds u (.pointer (some ⟨w.heap.size, 0, none⟩)), heap_set_in h1 u _, ?_⟩
      have hg : ∀ i, u ≠ i → (cur.setIfInBounds u (.pointer (some ⟨w.heap.size, 0, none⟩)))[i]? = cur[i]? := fun i hi => by rw [Array.getElem?_setIfInBounds]; simp [hi]
      have gg : ∀ i v, u ≠ i → cur[i]? = some v → (cur.setIfInBounds u (.pointer (some ⟨w.heap.size, 0, none⟩)))[i]? = some v := fun i v hi hc => (hg i hi).trans hc
      refine ⟨by simpa using h2.size, fun v hv => ?_, gg _ _ (by omega) h2.dep, gg _ _ (by omega) h2.w0, gg _ _ (by omega) h2.w1, gg _ _ (by omega) h2.w2, gg _ _ (by omega) h2.w3, gg _ _ (by omega) h2.bk, gg _ _ (by omega) h2.wh⟩
      by_cases hvu : v = u
      · subst hvu
        rw [Array.getElem?_setIfInBounds]
        have : v < cur.size := by rw [h2.size]; omega
        simp [this, rowV, R1, rbn]
      · rw [hg v (fun e => hvu e.symm), h2.rows v hv, keepRow v (.inr hvu)]
    · refine ⟨cur, (Below.heap_setCell _ _ _ _ (fun e => hxr (h.inj x r hx hr e))).trans h1, h2.size, fun v hv => by rw [h2.rows v hv, keepRow v (.inl hxr)], h2.dep, h2.w0, h2.w1, h2.w2, h2.w3, h2.bk, h2.wh⟩
  · rcases hx with hx | ⟨rfl, rfl⟩
    · obtain ⟨cur, h1, h2, h3⟩ := hA.row x v hx
      rw [rbo x v hx]
      obtain ⟨c5, h5, _⟩ := hA.node r hr
      exact ⟨cur, (Below.heap_setCell _ _ _ _ (ne_type h1 h5 (by decide))).trans h1, h2, h3⟩
    · rw [rbn]
      refine ⟨nils16, hrow, rfl, fun l hl => ?_⟩
      have : ¬ D ((v * 16 + l) :: x) := fun q => hn (by have := (h.byte _ _ q).2; rwa [div16 hl] at this)
      rw [nils16_get hl, kidV, if_neg this]
  · rcases hx with hx | ⟨rfl, rfl⟩ <;> rcases hx' with hx' | ⟨rfl, rfl⟩
    · rw [rbo x v hx, rbo x' v' hx'] at e; exact h.rinj x v x' v' hx hx' e
    · rw [rbo x v hx, rbn] at e; have := hlt x v hx; omega
    · rw [rbo x' v' hx', rbn] at e; have := hlt x' v' hx'; omega
    · exact ⟨rfl, rfl⟩
  · rcases hx with hx | ⟨rfl, rfl⟩
    · rw [rbo x v hx]; exact h.br x v hx
    · rw [rbn]; exact hb
abbrev node0 (d : Int) : Array Value := #[.pointer none, .pointer none, .pointer none, .pointer none, .pointer none, .pointer none, .pointer none, .pointer none, .pointer none, .pointer none, .pointer none, .pointer none, .pointer none, .pointer none, .pointer none, .pointer none, .int .i64 d, .int .u64 0, .int .u64 0, .int .u64 0, .int .u64 0, .pointer none, .pointer none]
theorem node0_get (d : Int) {l : Nat} (h : l < 16) : (node0 d)[l]? = some (.pointer none) := get16 (by rfl) rfl h
def kn0 : Kn := ⟨0#256, none, none⟩
theorem wd00 (i : Nat) : z1_wd (0#256) i = 0 := by simp [z1_wd]
theorem TrM.addKid (h : TrM base w T D R K) {r : List Nat} {b : Nat} (hb2 : b < 256) (hR : R r (b / 16)) (hn : ¬ D (b :: r)) (hk : K (b :: r) = kn0) (hl : r.length < 1000) (hb : base ≤ w.heap.size) :
    TrM base ((w.alloc (.cells (node0 ((r.length : Int) + 1)) 65)).setCell ⟨T.rb r (b / 16), b % 16, none⟩ (.pointer (some ⟨w.heap.size, 0, none⟩))) (T2 T (b :: r) w.heap.size) (D1 D (b :: r)) R K := by
  have hbl : Below w.heap.size w (w.alloc (.cells (node0 ((r.length : Int) + 1)) 65)) := (Below.refl _ _).alloc (Nat.le_refl _) _
  have hA := h.below hbl
  obtain ⟨hr, hu⟩ := h.rup r _ hR
  obtain ⟨rc, hrc, hrs, hrk⟩ := hA.row r _ hR
  have hrl : T.rb r (b / 16) < w.heap.size := by obtain ⟨_, h1, _⟩ := h.row r _ hR; exact lt_of_heap h1
  have hne : w.heap.size ≠ T.rb r (b / 16) := by omega
  have hnew : ((w.alloc (.cells (node0 ((r.length : Int) + 1)) 65)).setCell ⟨T.rb r (b / 16), b % 16, none⟩ (.pointer (some ⟨w.heap.size, 0, none⟩))).heap[w.heap.size]? = some (.cells (node0 ((r.length : Int) + 1)) 65 (0, 0)) :=
    (Below.heap_setCell _ _ _ _ hne).trans (World.alloc_heap_new w _)
  have hxn : ∀ x, D x → x ≠ b :: r := fun x hx e => hn (e ▸ hx)
  have hRn : ∀ x v, R x v → x ≠ b :: r := fun x v hx => hxn x (h.rup x v hx).1
  refine ⟨⟨.inl h.clo.root, fun c x hx => ?_⟩, fun c x hx => ?_, fun x v hx => ⟨.inl (h.rup x v hx).1, (h.rup x v hx).2⟩, fun x hx => ?_, fun x v hx => ?_, fun x x' hx hx' e => ?_, h.rinj, fun x y hx hy => ?_, fun x y hx hy => ?_, fun x hx => ?_, fun x hx => ?_, h.br⟩
  · rcases hx with hx | hx
    · exact .inl (h.clo.up c x hx)
    · cases hx; exact .inl hr
  · rcases hx with hx | hx
    · exact h.byte c x hx
    · cases hx; exact ⟨hb2, hR⟩
  · rcases hx with hx | rfl
    · obtain ⟨cur, h1, h2⟩ := hA.node x hx
      rw [t2_other T _ (hxn x hx)]
      refine ⟨cur, (Below.heap_setCell _ _ _ _ (ne_type h1 hrc (by decide))).trans h1, h2.size, fun v hv => h2.rows v hv, h2.dep, h2.w0, h2.w1, h2.w2, h2.w3, ?_, ?_⟩
      · rw [ndV_t2 hn (fun y hy => h.bkd x y hx hy)]; exact h2.bk
      · rw [ndV_t2 hn (fun y hy => h.whd x y hx hy)]; exact h2.wh
    · rw [t2_at, hk]
      refine ⟨_, hnew, rfl, fun v hv => ?_, by simp, by simp [kn0, wd00], by simp [kn0, wd00], by simp [kn0, wd00], by simp [kn0, wd00], rfl, rfl⟩
      rw [node0_get _ hv, rowV, if_neg (fun q => hRn _ v q rfl)]
  · obtain ⟨cur, h1, h2, h3⟩ := hA.row x v hx
    have kk : ∀ c, ¬ (x = r ∧ c = b) → kidV (T2 T (b :: r) w.heap.size) (D1 D (b :: r)) x c = kidV T D x c := fun c hc => by
      have hcn : c :: x ≠ b :: r := fun e => by injection e with e1 e2; exact hc ⟨e2, e1⟩
      unfold kidV
      by_cases hd : D (c :: x)
      · have h1 : D1 D (b :: r) (c :: x) := .inl hd
        rw [if_pos hd, if_pos h1, nodeP, t2_other T _ hcn]
      · have h1 : ¬ D1 D (b :: r) (c :: x) := fun q => q.elim hd (fun q => hcn q)
        rw [if_neg hd, if_neg h1]
    by_cases hxr : x = r ∧ v = b / 16
    · obtain ⟨rfl, rfl⟩ := hxr
      refine ⟨cur.setIfInBounds (b % 16) (.pointer (some ⟨w.heap.size, 0, none⟩)), heap_set_in h1 _ _, by simpa using h2, fun l hl => ?_⟩
      rw [Array.getElem?_setIfInBounds]
      by_cases hlb : b % 16 = l
      · subst hlb
        have h16 : b % 16 < cur.size := by rw [h2]; exact hl
        have hdm : b / 16 * 16 + b % 16 = b := by omega
        rw [hdm]
        simp [h16, kidV, D1, t2_at]
      · simp only [hlb, if_false]
        rw [h3 l hl, kk _ (fun e => hlb (by have := e.2; omega))]
    · refine ⟨cur, (Below.heap_setCell _ _ _ _ (fun e => hxr (by have := h.rinj x v r (b / 16) hx hR e; exact this))).trans h1, h2, fun l hl => ?_⟩
      rw [h3 l hl, kk _ (fun e => hxr ⟨e.1, by have := e.2; omega⟩)]
  · rcases hx with hx | rfl <;> rcases hx' with hx' | rfl
    · rw [t2_other T _ (hxn x hx), t2_other T _ (hxn x' hx')] at e; exact h.inj x x' hx hx' e
    · rw [t2_other T _ (hxn x hx), t2_at] at e; have := h.lt hx; omega
    · rw [t2_other T _ (hxn x' hx'), t2_at] at e; have := h.lt hx'; omega
    · rfl
  · rcases hx with hx | rfl
    · exact .inl (h.bkd x y hx hy)
    · rw [hk] at hy; cases hy
  · rcases hx with hx | rfl
    · exact .inl (h.whd x y hx hy)
    · rw [hk] at hy; cases hy
  · rcases hx with hx | rfl
    · exact h.few x hx
    · simp; omega
  · rcases hx with hx | rfl
    · rw [t2_other T _ (hxn x hx)]; exact h.bn x hx
    · rw [t2_at]; exact hb
end
end Go.Proofs.YtaikcnoiaaiopaaDoor
namespace Go.Proofs.YtaikcnoiaaiopaaDoor
open Go Go.RowKit
attribute [local go_sem] Oper.semAt_some
structure GrP (base : Nat) (w : World) (T : Pt) (D : List Nat → Prop) (K : List Nat → Kn) (r : List Nat) (w' : World) (T' : Pt) (D' : List Nat → Prop) : Prop where
  tr : ∃ R', TrM base w' T' D' R' K
  d : ∀ x, D' x ↔ D x ∨ x = r
  nb : ∀ x, D x → T'.nb x = T.nb x
  nf : NF base w w'
theorem lt_of_row {base : Nat} {w : World} {T : Pt} {D : List Nat → Prop} {R : List Nat → Nat → Prop} {K : List Nat → Kn} (h : TrM base w T D R K) {r : List Nat} {u : Nat} (hR : R r u) : T.rb r u < w.heap.size := by
  obtain ⟨_, h1, _⟩ := h.row r u hR
  exact lt_of_heap h1
theorem grown_cell {base : Nat} {w : World} {T : Pt} {D : List Nat → Prop} {R : List Nat → Nat → Prop} {K : List Nat → Kn} (h : TrM base w T D R K) {r : List Nat} {b : Nat} (hd : D (b :: r)) (hdm : b / 16 * 16 + b % 16 = b) (hl : b % 16 < 16) : w.cell? ⟨T.rb r (b / 16), b % 16, none⟩ = some (nodeP T (b :: r)) := by
  have := h.cKid (h.byte b r hd).2 hl
  rwa [hdm, kidV, if_pos hd] at this
theorem grown_at {base : Nat} {w : World} {T : Pt} {D : List Nat → Prop} {R : List Nat → Nat → Prop} {K : List Nat → Kn} (h : TrM base w T D R K) {r : List Nat} (hd : D r) (hbs : base ≤ w.heap.size) : GrP base w T D K r w T D :=
  ⟨⟨R, h⟩, fun _ => ⟨.inl, fun q => q.elim id (fun e => e ▸ hd)⟩, fun _ _ => rfl, NF.refl hbs⟩
theorem grown_kid {base : Nat} {w : World} {T : Pt} {D : List Nat → Prop} {R : List Nat → Nat → Prop} {K : List Nat → Kn} (h : TrM base w T D R K) {r : List Nat} {b : Nat} (hb : b < 256) (hR : R r (b / 16)) (hn : ¬ D (b :: r)) (hk : K (b :: r) = kn0) (hl : r.length < 1000) (hbs : base ≤ w.heap.size) :
    GrP base w T D K (b :: r) ((w.alloc (.cells (node0 ((r.length : Int) + 1)) 65)).setCell ⟨T.rb r (b / 16), b % 16, none⟩ (.pointer (some ⟨w.heap.size, 0, none⟩))) (T2 T (b :: r) w.heap.size) (D1 D (b :: r)) := by
  refine ⟨⟨R, h.addKid hb hR hn hk hl hbs⟩, fun _ => Iff.rfl, fun x hx => t2_other T _ (fun e => hn (e ▸ hx)), ?_⟩
  obtain ⟨cur, h1, _⟩ := (h.below ((Below.refl _ _).alloc (Nat.le_refl _) (.cells (node0 ((r.length : Int) + 1)) 65))).row r _ hR
  exact (NF.of_below hbs ((Below.refl _ _).alloc (Nat.le_refl _) _)).trans (NF.set (by simp; omega) h1 (.inr rfl) (h.br r _ hR) _)
set_option maxRecDepth 100000 in
set_option maxHeartbeats 4000000 in
theorem grown_c {base : Nat} {w : World} {T : Pt} {D : List Nat → Prop} {R : List Nat → Nat → Prop} {K : List Nat → Kn} (h : TrM base w T D R K) {r : List Nat} (hr : D r) {b : Nat} (hb : b < 256) (hk : ¬ D (b :: r) → K (b :: r) = kn0) (hl : r.length < 1000) (hbs : base ≤ w.heap.size) :
    Calls Tryd.prog 35 #[nodeP T r, .int .u8 (b : Int)] w fun e w' => ∃ T' D', e = .returned (nodeP T' (b :: r)) ∧ GrP base w T D K (b :: r) w' T' D' := by
  have hu : b / 16 < 16 := by omega
  have hlt : b % 16 < 16 := by omega
  have hdm : b / 16 * 16 + b % 16 = b := by omega
  have H : Hid (TrM base w T D R K) := h
  have HK := hide hk
  have HB := hide hbs
  have c1 := h.cRow hr hu
  have f1 := h.frz hr (b / 16)
  have c3 := h.cDep hr
  have wr : IntKind.wrap .i64 ((r.length : Int) + 1) = (r.length : Int) + 1 := wrap_small _ (by omega) (by omega)
  have nbl := h.lt hr
  clear h hk
  by_cases hR : R r (b / 16)
  · have c2 := H.out.cKid hR hlt
    have f2 := H.out.frzR hR (b % 16)
    rw [hdm] at c2
    rw [rowV, if_pos hR] at c1
    by_cases hd : D (b :: r)
    · rw [kidV, if_pos hd] at c2
      go_enter Tryd.func35, Tryd.ntmps35
      go_wp2
      go_ret
      exact ⟨T, D, rfl, grown_at H.out hd HB.out⟩
    · rw [kidV, if_neg hd] at c2
      go_enter Tryd.func35, Tryd.ntmps35
      have bl := lt_of_row H.out hR
      have G0 := grown_kid H.out hb hR hd (HK.out hd) hl HB.out
      rw [World.setCell_alloc_past _ _ _ _ bl] at G0
      have G := hide G0
      clear G0
      go_upto_region 7 with fail
      generalize ((w.setCell ⟨T.rb r (b / 16), b % 16, none⟩ (.pointer (some ⟨w.heap.size, 0, none⟩))).alloc (.cells (node0 ((r.length : Int) + 1)) 65)) = W at G ⊢
      obtain ⟨R', hR'⟩ := G.out.tr
      have cR : W.cell? ⟨T.rb r (b / 16), b % 16, none⟩ = some (nodeP (T2 T (b :: r) w.heap.size) (b :: r)) := grown_cell hR' (.inr rfl) hdm hlt
      clear hR'
      go_wp2
      go_ret
      exact ⟨_, _, rfl, G.out⟩
  · rw [rowV, if_neg hR] at c1
    have hd : ¬ D (b :: r) := fun q => hR (H.out.byte b r q).2
    have A0 := H.out.addRow hr hu hR HB.out
    have N0 : NF base w ((w.alloc (.cells nils16 112)).setCell ⟨T.nb r, b / 16, none⟩ (.pointer (some ⟨w.heap.size, 0, none⟩))) := by
      obtain ⟨cur, h1, _⟩ := (H.out.below ((Below.refl _ _).alloc (Nat.le_refl _) (.cells nils16 112))).node r hr
      exact (NF.of_below HB.out ((Below.refl _ _).alloc (Nat.le_refl _) _)).trans (NF.set (by have := HB.out; simp; omega) h1 (.inl rfl) (H.out.bn r hr) _)
    have hz : ((w.alloc (.cells nils16 112)).setCell ⟨T.nb r, b / 16, none⟩ (.pointer (some ⟨w.heap.size, 0, none⟩))).heap.size = w.heap.size + 1 := by simp [World.setCell]
    rw [World.setCell_alloc_past _ _ _ _ nbl] at A0 N0 hz
    have A1 := hide A0
    have N1 := hide N0
    have Z1 := hide hz
    clear A0 N0 hz
    go_enter Tryd.func35, Tryd.ntmps35
    go_upto_region 4 with fail
    generalize ((w.setCell ⟨T.nb r, b / 16, none⟩ (.pointer (some ⟨w.heap.size, 0, none⟩))).alloc (.cells nils16 112)) = V at A1 N1 Z1 ⊢
    obtain ⟨T5, hT5⟩ : ∃ T5, T5 = T1 T r (b / 16) w.heap.size := ⟨_, rfl⟩
    have hnb : T5.nb = T.nb := by rw [hT5]; rfl
    have hrb : T5.rb r (b / 16) = w.heap.size := by rw [hT5]; simp [T1]
    rw [← hT5] at A1
    have hBV := hide (show base ≤ V.heap.size by have := HB.out; have := Z1.out; omega)
    have hR5 : R1 R r (b / 16) r (b / 16) := .inr ⟨rfl, rfl⟩
    have d1 := A1.out.cRow hr hu
    rw [rowV, if_pos hR5, hnb, hrb] at d1
    have d2 := A1.out.cKid hR5 hlt
    rw [hdm, kidV, if_neg hd, hrb] at d2
    have d3 := A1.out.cDep hr
    rw [hnb] at d3
    have g1 := A1.out.frzR hR5 (b % 16)
    rw [hrb] at g1
    have bl : w.heap.size < V.heap.size := by have := Z1.out; omega
    have bl2 : T.nb r < V.heap.size := by omega
    have G0 := grown_kid A1.out hb hR5 hd (HK.out hd) hl hBV.out
    rw [hrb, World.setCell_alloc_past _ _ _ _ bl] at G0
    have G := hide G0
    clear G0 A1 nbl hT5
    go_upto_region 7 with fail
    generalize ((V.setCell ⟨w.heap.size, b % 16, none⟩ (.pointer (some ⟨V.heap.size, 0, none⟩))).alloc (.cells (node0 ((r.length : Int) + 1)) 65)) = W at G ⊢
    obtain ⟨R', hR'⟩ := G.out.tr
    have cR := grown_cell hR' (.inr rfl) hdm hlt
    rw [show (T2 T5 (b :: r) V.heap.size).rb r (b / 16) = w.heap.size from hrb] at cR
    clear hR'
    go_wp2
    go_ret
    refine ⟨_, _, rfl, G.out.tr, G.out.d, fun x hx => (G.out.nb x hx).trans (by rw [hnb]), N1.out.trans G.out.nf⟩
end Go.Proofs.YtaikcnoiaaiopaaDoor
