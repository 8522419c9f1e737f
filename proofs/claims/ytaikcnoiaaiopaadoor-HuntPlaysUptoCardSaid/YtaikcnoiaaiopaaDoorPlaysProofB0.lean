/-
  Parts of the proof.
-/
import Derived.Test.YtaikcnoiaaiopaaDoorProg
import Derived.WalkKit
import Derived.WalkSpells
import Derived.WalkLawsBesides
import Derived.Below
import Derived.Laws.AppendOwn
import Derived.Laws.MakeOwn
import Derived.Laws.CopyOwn
import Derived.BigQuiet
set_option linter.unusedSimpArgs false
namespace Go.Proofs.YtaikcnoiaaiopaaDoor
open Go Go.RowKit
def ints (l : List Int) : List Value := l.map (Value.int .i64)
theorem ints_length (l : List Int) : (ints l).length = l.length := by simp [ints]
theorem ints_get {l : List Int} {i : Nat} {x : Int} (h : l[i]? = some x) : (ints l)[i]? = some (.int .i64 x) := by simp [ints, h]
theorem ints_append (a b : List Int) : ints (a ++ b) = ints a ++ ints b := by simp [ints]
theorem ints_one (l : List Int) : ∀ v ∈ ints l, v.oneCell' = true := fun v hv => by
  obtain ⟨x, _, rfl⟩ := List.mem_map.1 hv
  rfl
structure Fr (S : Nat → Prop) (w w' : World) : Prop where
  os : w'.os = w.os
  tape : w'.tape = w.tape
  output : w'.output = w.output
  size : w.heap.size ≤ w'.heap.size
  block : ∀ k, k < w.heap.size → ¬ S k → w'.heap[k]? = w.heap[k]?
theorem Fr.refl (S : Nat → Prop) (w : World) : Fr S w w := ⟨rfl, rfl, rfl, Nat.le_refl _, fun _ _ _ => rfl⟩
theorem Fr.trans {S : Nat → Prop} {a b c : World} (h : Fr S a b) (k : Fr S b c) : Fr S a c :=
  ⟨k.os.trans h.os, k.tape.trans h.tape, k.output.trans h.output, Nat.le_trans h.size k.size, fun i hi hs => (k.block i (Nat.lt_of_lt_of_le hi h.size) hs).trans (h.block i hi hs)⟩
theorem Fr.mono {S T : Nat → Prop} {a b : World} (h : Fr S a b) (hst : ∀ k, S k → T k) : Fr T a b := ⟨h.os, h.tape, h.output, h.size, fun i hi hs => h.block i hi (fun q => hs (hst i q))⟩
theorem Fr.below {S : Nat → Prop} {a b : World} {n : Nat} (h : Fr S a b) (hn : n ≤ a.heap.size) (hs : ∀ k, S k → n ≤ k) : Below n a b :=
  ⟨h.os, h.tape, h.output, h.size, fun i hi => h.block i (Nat.lt_of_lt_of_le hi hn) (fun q => by have := hs i q; omega)⟩
theorem Fr.of_below {S : Nat → Prop} {a b : World} (h : Below a.heap.size a b) : Fr S a b := ⟨h.os, h.tape, h.output, h.size, fun i hi _ => h.block i hi⟩
theorem Fr.alloc {S : Nat → Prop} {a w : World} (h : Fr S a w) (o : Obj) : Fr S a (w.alloc o) := h.trans (Fr.of_below ((Below.refl _ _).alloc (Nat.le_refl _) o))
theorem Fr.drew {S : Nat → Prop} {a w : World} (h : Fr S a w) : Fr S a w.drew := h.trans (Fr.of_below (Below.refl _ _).drew)
theorem Fr.setCell {S : Nat → Prop} {a w : World} (h : Fr S a w) {p : Addr} (hp : S p.block) (u : Value) : Fr S a (w.setCell p u) :=
  h.trans ⟨rfl, rfl, rfl, by simp [World.setCell], fun k _ hk => Below.heap_setCell _ _ _ _ (fun e => hk (e ▸ hp))⟩
theorem Fr.setNew {S : Nat → Prop} {a w : World} (h : Fr S a w) {p : Addr} (hp : a.heap.size ≤ p.block) (u : Value) : Fr S a (w.setCell p u) :=
  ⟨h.os, h.tape, h.output, by have := h.size; simp [World.setCell]; exact this, fun k hk hs => (Below.heap_setCell _ _ _ _ (by omega)).trans (h.block k hk hs)⟩
theorem Fr.then {S : Nat → Prop} {a b c : World} (h : Fr S a b) (k : Below b.heap.size b c) : Fr S a c := h.trans (Fr.of_below k)
theorem Fr.setRow {S : Nat → Prop} {a w : World} (h : Fr S a w) {g : Nat} (hp : S g) (cs : Array Value) : Fr S a (w.setRow g cs) :=
  h.trans ⟨rfl, rfl, rfl, by simp, fun k _ hk => setRow_other _ _ _ _ (fun e => hk (e ▸ hp))⟩
theorem Fr.grown {S : Nat → Prop} {a w w' : World} {row : Option Nat} (h : Fr S a w) (hg : w.grownBy w' row) (hr : ∀ k, row = some k → S k) : Fr S a w' :=
  h.trans ⟨hg.os, hg.tape, hg.output, hg.size, fun k hk hs => hg.block k hk (fun e => hs (hr k e.symm))⟩
theorem lt_of_heap {w : World} {k : Nat} {o : Obj} (h : w.heap[k]? = some o) : k < w.heap.size := (Array.getElem?_eq_some_iff.1 h).1
theorem heap_set_in {w : World} {k : Nat} {cur : Array Value} {t : TypeId} {fr : Nat × Nat} (h : w.heap[k]? = some (.cells cur t fr)) (j : Nat) (v : Value) : (w.setCell ⟨k, j, none⟩ v).heap[k]? = some (.cells (cur.setIfInBounds j v) t fr) := by
  simp [World.setCell, Array.getElem?_modify, h]
theorem ne_type {W : World} {x y : Nat} {c c' : Array Value} {t t' : TypeId} {f f' : Nat × Nat} (h : W.heap[x]? = some (.cells c t f)) (h' : W.heap[y]? = some (.cells c' t' f')) (ht : t ≠ t') : x ≠ y := fun e => by
  rw [e, h'] at h
  injection h with h
  injection h with _ h _
  exact ht h.symm
theorem cell_row {W : World} {wb : Nat} {c : Array Value} {t : TypeId} (h : W.heap[wb]? = some (.cells c t (0, 0))) {i : Nat} {v : Value} (hi : c[i]? = some v) : W.cell? ⟨wb, i, none⟩ = some v := by simp [World.cell?, h, hi]
theorem frz_row {W : World} {wb : Nat} {c : Array Value} {t : TypeId} (h : W.heap[wb]? = some (.cells c t (0, 0))) (i : Nat) : W.frozen? ⟨wb, i, none⟩ = false := by simp [World.frozen?, h]
theorem chain {n : Nat} {a b c : World} (h : Below n a b) (k : Below b.heap.size b c) (hn : n ≤ a.heap.size) : Below n a c := h.trans (k.mono (Nat.le_trans hn h.size))
theorem chainF {n : Nat} {a b c : World} {S : Nat → Prop} (h : Below n a b) (k : Fr S b c) (hn : n ≤ a.heap.size) (hs : ∀ k, S k → n ≤ k) : Below n a c := h.trans (k.below (Nat.le_trans hn h.size) hs)
theorem take_next {α : Type} (l : List α) (k : Nat) (h : k < l.length) : l.take (k + 1) = l.take k ++ [l[k]] := by simp
end Go.Proofs.YtaikcnoiaaiopaaDoor
namespace Go.Proofs.YtaikcnoiaaiopaaDoor
structure Clo (D : List Nat → Prop) : Prop where
  root : D []
  up : ∀ b r, D (b :: r) → D r
def IsLg (D : List Nat → Prop) (p x : List Nat) : Prop := x <+: p ∧ D x ∧ ∀ y, y <+: p → D y → y.length ≤ x.length
theorem prefix_le {x y p : List Nat} (hx : x <+: p) (hy : y <+: p) (h : x.length ≤ y.length) : x <+: y := List.prefix_of_prefix_length_le hx hy h
theorem prefix_eq {x y p : List Nat} (hx : x <+: p) (hy : y <+: p) (h : x.length = y.length) : x = y := (prefix_le hx hy (Nat.le_of_eq h)).eq_of_length h
theorem IsLg.uniq {D : List Nat → Prop} {p x y : List Nat} (hx : IsLg D p x) (hy : IsLg D p y) : x = y :=
  prefix_eq hx.1 hy.1 (Nat.le_antisymm (hy.2.2 x hx.1 hx.2.1) (hx.2.2 y hy.1 hy.2.1))
theorem IsLg.nil {D : List Nat → Prop} (h : D []) : IsLg D [] [] := ⟨List.nil_prefix, h, fun y hy _ => by rw [List.prefix_nil.1 hy]; exact Nat.le_refl _⟩
theorem IsLg.len {D : List Nat → Prop} {p x : List Nat} (h : IsLg D p x) : x.length ≤ p.length := h.1.length_le
theorem cons_prefix {b : Nat} {y q : List Nat} (h : y <+: b :: q) : y = [] ∨ ∃ z, y = b :: z ∧ z <+: q := by
  cases y with
  | nil => exact .inl rfl
  | cons c z =>
    rw [List.cons_prefix_cons] at h
    obtain ⟨rfl, h2⟩ := h
    exact .inr ⟨z, rfl, h2⟩
theorem proper {y r : List Nat} (h : y <+: r) (hne : y ≠ r) : y <+: r.dropLast := by
  have h2 : r.dropLast <+: r := List.dropLast_prefix r
  have hl : y.length < r.length := by
    rcases Nat.lt_or_ge y.length r.length with q | q
    · exact q
    · exact absurd (h.eq_of_length (Nat.le_antisymm h.length_le q)) hne
  exact prefix_le h h2 (by rw [List.length_dropLast]; omega)
theorem dropLast_of {y r : List Nat} (h : y <+: r.dropLast) : y <+: r := h.trans (List.dropLast_prefix r)
section
variable {D : List Nat → Prop} (h : Clo D) {q r x z : List Nat} {b : Nat}
include h
theorem lg_kid (hq : IsLg D q r) (hb : D (b :: r)) : IsLg D (b :: q) (b :: r) :=
  ⟨by rw [List.cons_prefix_cons]; exact ⟨rfl, hq.1⟩, hb, fun y hy hd => by
    rcases cons_prefix hy with rfl | ⟨z, rfl, hz⟩
    · exact Nat.zero_le _
    · simpa using hq.2.2 z hz (h.up _ _ hd)⟩
theorem lg_root (hq : IsLg D q []) (hb : ¬ D [b]) : IsLg D (b :: q) [] :=
  ⟨List.nil_prefix, h.root, fun y hy hd => by
    rcases cons_prefix hy with rfl | ⟨z, rfl, hz⟩
    · exact Nat.le_refl _
    · have := hq.2.2 z hz (h.up _ _ hd)
      have hz0 : z = [] := List.eq_nil_of_length_eq_zero (Nat.le_zero.1 this)
      subst hz0
      exact absurd hd hb⟩
theorem lg_back (hq : IsLg D q r) (hb : ¬ D (b :: r)) (hz : IsLg D (b :: r.dropLast) z) : IsLg D (b :: q) z :=
  ⟨hz.1.trans (by rw [List.cons_prefix_cons]; exact ⟨rfl, (List.dropLast_prefix r).trans hq.1⟩), hz.2.1, fun y hy hd => by
    rcases cons_prefix hy with rfl | ⟨y', rfl, hy'⟩
    · exact Nat.zero_le _
    · have hl := hq.2.2 y' hy' (h.up _ _ hd)
      have hp := prefix_le hy' hq.1 hl
      have hne : y' ≠ r := fun e => hb (e ▸ hd)
      exact hz.2.2 _ (by rw [List.cons_prefix_cons]; exact ⟨rfl, proper hp hne⟩) hd⟩
theorem lg_ex (p : List Nat) : ∃ x, IsLg D p x := by
  induction p with
  | nil => exact ⟨[], IsLg.nil h.root⟩
  | cons b q ih =>
    obtain ⟨r, hr⟩ := ih
    have key : ∀ n (q r : List Nat), r.length ≤ n → IsLg D q r → ∃ x, IsLg D (b :: q) x := by
      intro n
      induction n with
      | zero =>
        intro q r hl hr
        have h0 : r = [] := List.eq_nil_of_length_eq_zero (Nat.le_zero.1 hl)
        subst h0
        by_cases hb : D [b]
        · exact ⟨_, lg_kid h hr hb⟩
        · exact ⟨_, lg_root h hr hb⟩
      | succ n ihn =>
        intro q r hl hr
        by_cases hb : D (b :: r)
        · exact ⟨_, lg_kid h hr hb⟩
        by_cases h0 : r = []
        · subst h0; exact ⟨_, lg_root h hr hb⟩
        have hl2 : r.dropLast.length ≤ n := by rw [List.length_dropLast]; omega
        -- the longest of r.dropLast: by the same descent
        have : ∃ y, IsLg D r.dropLast y := by
          clear ihn hr hb
          have gen : ∀ m (p : List Nat), p.length ≤ m → ∃ y, IsLg D p y := by
            intro m
            induction m with
            | zero =>
              intro p hp
              have : p = [] := List.eq_nil_of_length_eq_zero (Nat.le_zero.1 hp)
              subst this
              exact ⟨[], IsLg.nil h.root⟩
            | succ m ihm =>
              intro p hp
              by_cases hd : D p
              · exact ⟨p, List.prefix_refl p, hd, fun y hy _ => hy.length_le⟩
              · by_cases hp0 : p = []
                · subst hp0; exact absurd h.root hd
                obtain ⟨y, hy⟩ := ihm p.dropLast (by rw [List.length_dropLast]; omega)
                exact ⟨y, dropLast_of hy.1, hy.2.1, fun z hz hzd => hy.2.2 z (proper hz (fun e => hd (e ▸ hzd))) hzd⟩
          exact gen _ _ (Nat.le_refl _)
        obtain ⟨y, hy⟩ := this
        obtain ⟨z, hz⟩ := ihn r.dropLast y (Nat.le_trans hy.len hl2) hy
        exact ⟨z, lg_back h hr hb hz⟩
    exact key _ q r (Nat.le_refl _) hr
end
def BkIs (D : List Nat → Prop) (r : List Nat) (o : Option (List Nat)) : Prop := (r = [] ∧ o = none) ∨ (r ≠ [] ∧ ∃ x, o = some x ∧ IsLg D r.dropLast x)
def WhIs (W : List Nat → Prop) (p : List Nat) (o : Option (List Nat)) : Prop := (o = none ∧ ∀ y, y <+: p → ¬ W y) ∨ (∃ x, o = some x ∧ x <+: p ∧ W x ∧ ∀ y, y <+: p → W y → y.length ≤ x.length)
theorem wh_self {W : List Nat → Prop} {r : List Nat} (h : W r) : WhIs W r (some r) := .inr ⟨r, rfl, List.prefix_refl r, h, fun _ hy _ => hy.length_le⟩
theorem wh_root {W : List Nat → Prop} (h : ¬ W []) : WhIs W [] none := .inl ⟨rfl, fun y hy => by rw [List.prefix_nil.1 hy]; exact h⟩
theorem wh_lg {D W : List Nat → Prop} (hw : ∀ y, W y → D y) {p x : List Nat} {o : Option (List Nat)} (hx : IsLg D p x) (ho : WhIs W x o) : WhIs W p o := by
  have hpx : ∀ y, y <+: p → W y → y <+: x := fun y hy hwy => prefix_le hy hx.1 (hx.2.2 y hy (hw y hwy))
  rcases ho with ⟨rfl, h⟩ | ⟨z, rfl, h1, h2, h3⟩
  · exact .inl ⟨rfl, fun y hy hwy => h y (hpx y hy hwy) hwy⟩
  · exact .inr ⟨z, rfl, h1.trans hx.1, h2, fun y hy hwy => h3 y (hpx y hy hwy) hwy⟩
theorem wh_drop {W : List Nat → Prop} {r : List Nat} {o : Option (List Nat)} (hn : ¬ W r) (ho : WhIs W r.dropLast o) : WhIs W r o := by
  have hpx : ∀ y, y <+: r → W y → y <+: r.dropLast := fun y hy hwy => proper hy (fun e => hn (e ▸ hwy))
  rcases ho with ⟨rfl, h⟩ | ⟨z, rfl, h1, h2, h3⟩
  · exact .inl ⟨rfl, fun y hy hwy => h y (hpx y hy hwy) hwy⟩
  · exact .inr ⟨z, rfl, dropLast_of h1, h2, fun y hy hwy => h3 y (hpx y hy hwy) hwy⟩
theorem WhIs.uniq {W : List Nat → Prop} {p : List Nat} {a b : Option (List Nat)} (ha : WhIs W p a) (hb : WhIs W p b) : a = b := by
  rcases ha with ⟨rfl, h⟩ | ⟨x, rfl, h1, h2, h3⟩ <;> rcases hb with ⟨rfl, k⟩ | ⟨y, rfl, k1, k2, k3⟩
  · rfl
  · exact absurd k2 (h y k1)
  · exact absurd h2 (k x h1)
  · rw [prefix_eq h1 k1 (Nat.le_antisymm (k3 x h1 h2) (h3 y k1 k2))]
theorem nodup_le : ∀ (n : Nat) (l : List Nat), l.Nodup → (∀ x ∈ l, x < n) → l.length ≤ n := by
  intro n
  induction n with
  | zero =>
    intro l _ h
    cases l with
    | nil => exact Nat.le_refl _
    | cons a l => exact absurd (h a (by simp)) (by omega)
  | succ n ih =>
    intro l hn h
    by_cases hm : n ∈ l
    · have h1 : (l.erase n).length = l.length - 1 := List.length_erase_of_mem hm
      have h2 := ih (l.erase n) (hn.erase n) (fun x hx => by
        have h3 := (List.Nodup.mem_erase_iff hn).1 hx
        have := h x h3.2
        have := h3.1
        omega)
      omega
    · have := ih l hn (fun x hx => by
        have h3 := h x hx
        have : x ≠ n := fun e => hm (e ▸ hx)
        omega)
      omega
def DW (Ws : List (List Nat)) (r : List Nat) : Prop := r = [] ∨ ∃ w ∈ Ws, r <:+ w
theorem suffix_up {b : Nat} {r w : List Nat} (h : b :: r <:+ w) : r <:+ w := (List.suffix_cons b r).trans h
theorem dw_clo (Ws : List (List Nat)) : Clo (DW Ws) :=
  ⟨.inl rfl, fun b r h => by
    rcases h with h | ⟨w, hw, h⟩
    · cases h
    · exact .inr ⟨w, hw, suffix_up h⟩⟩
theorem dw_few {Ws : List (List Nat)} {l : List (List Nat)} (hn : l.Nodup) (d : Nat) (hd : 0 < d) (h : ∀ r ∈ l, DW Ws r ∧ r.length = d) : l.length ≤ Ws.length := by
  have hk : ∀ r ∈ l, ∃ k, k < Ws.length ∧ ∃ w, Ws[k]? = some w ∧ r <:+ w := fun r hr => by
    obtain ⟨h1, h2⟩ := h r hr
    rcases h1 with rfl | ⟨w, hw, hs⟩
    · simp at h2; omega
    · obtain ⟨k, hk⟩ := List.mem_iff_getElem?.1 hw
      exact ⟨k, (List.getElem?_eq_some_iff.1 hk).1, w, hk, hs⟩
  let f : List Nat → Nat := fun r => if hr : r ∈ l then Classical.choose (hk r hr) else 0
  have hf : ∀ r (hr : r ∈ l), f r < Ws.length ∧ ∃ w, Ws[f r]? = some w ∧ r <:+ w := fun r hr => by
    have : f r = Classical.choose (hk r hr) := by simp [f, hr]
    rw [this]
    exact Classical.choose_spec (hk r hr)
  have h1 : (l.map f).Nodup := by
    rw [List.nodup_iff_pairwise_ne, List.pairwise_map]
    refine List.Pairwise.imp_of_mem ?_ hn
    intro a b ha hb hab e
    obtain ⟨_, w, hw, hs⟩ := hf a ha
    obtain ⟨_, w', hw', hs'⟩ := hf b hb
    rw [e, hw'] at hw
    cases hw
    have hl : a.length = b.length := by rw [(h a ha).2, (h b hb).2]
    exact hab ((List.suffix_of_suffix_length_le hs hs' (Nat.le_of_eq hl)).eq_of_length hl)
  have := nodup_le Ws.length (l.map f) h1 (fun x hx => by
    obtain ⟨r, hr, rfl⟩ := List.mem_map.1 hx
    exact (hf r hr).1)
  simpa using this
end Go.Proofs.YtaikcnoiaaiopaaDoor
namespace Go.Proofs.YtaikcnoiaaiopaaDoor
open Go Go.RowKit
def Ext (W : World) : Type := { w : World // Below W.heap.size W w }
theorem wp_region_ext {P : Program} {id : Nat} {Q : Exit → Act → World → Prop} {a : Act} {w : World} {l : List Oper} (hm : P.follows .mixedOrders = true) (hB : Region.lexB .any l.toArray = true)
    (h : wpQuiet P l.toArray (fun w' => ∃ x : Ext w, w' = x.val) (fun a' => ∀ w', (∃ x : Ext w, w' = x.val) → Q .normal a' w') l a) : (Code.region id l.toArray true).wp P Q a w :=
  wp_region_quiet (C := fun w' => ∃ x : Ext w, w' = x.val) hm hB ⟨⟨w.drew, (Below.refl _ _).drew⟩, rfl⟩ (by simpa using h)
theorem ext_call {P : Program} {f : FuncId} {args : Array Value} {W : World} {x : Ext W} {v : Value}
    (h : Calls P f args x.val fun e w' => e = .returned v ∧ Below x.val.heap.size x.val w') : Calls P f args x.val fun e w'' => e = .returned v ∧ ∃ y : Ext W, w'' = y.val :=
  h.mono fun _ w' ⟨he, hb⟩ => ⟨he, ⟨w', x.2.trans (hb.mono x.2.size)⟩, rfl⟩
theorem ext_call_same {P : Program} {f : FuncId} {args : Array Value} {W : World} {x : Ext W} {v : Value}
    (h : Calls P f args x.val fun e w' => e = .returned v ∧ w' = x.val) : Calls P f args x.val fun e w'' => e = .returned v ∧ ∃ y : Ext W, w'' = y.val :=
  h.mono fun _ _ ⟨he, hb⟩ => ⟨he, x, hb⟩
theorem ext_cell {W : World} (x : Ext W) (b o : Nat) (h : b < W.heap.size) : x.val.cell? ⟨b, o, none⟩ = W.cell? ⟨b, o, none⟩ := x.2.cell (p := ⟨b, o, none⟩) h
theorem ext_frozen {W : World} (x : Ext W) (b o : Nat) (h : b < W.heap.size) : x.val.frozen? ⟨b, o, none⟩ = W.frozen? ⟨b, o, none⟩ := x.2.frozen (p := ⟨b, o, none⟩) h
theorem ext_below {W : World} (x : Ext W) : Below W.heap.size W x.val := x.2
theorem ext_size {W : World} (x : Ext W) : W.heap.size ≤ x.val.heap.size := x.2.size
theorem ext_of {W w1 : World} (h : ∃ x : Ext W, w1 = x.val) : Below W.heap.size W w1 := by
  obtain ⟨x, rfl⟩ := h
  exact x.2
theorem bcell {W w1 : World} (hb : Below W.heap.size W w1) : (∀ b o, b < W.heap.size → w1.cell? ⟨b, o, none⟩ = W.cell? ⟨b, o, none⟩) ∧ (∀ b o, b < W.heap.size → w1.frozen? ⟨b, o, none⟩ = W.frozen? ⟨b, o, none⟩) :=
  ⟨fun b o h => hb.cell (p := ⟨b, o, none⟩) h, fun b o h => hb.frozen (p := ⟨b, o, none⟩) h⟩
end Go.Proofs.YtaikcnoiaaiopaaDoor
