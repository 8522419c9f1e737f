/-
  The script's world: two sets, the document's two, the iterators made at first, the lists that came out.
-/
import Derived.Test.YtofiidfnjgoenaaOwns
namespace Go.Proofs.Ytofiidfnjgoenaa
open Go Go.RowKit

/-- The numbers and values of a state: by the set (false: the first, true: the second). L: the set's numbers; R: the document's. -/
structure St where
  b : Bool → Nat
  o : Bool → Nat
  p : Bool → Nat
  room : Bool → Nat
  L : Bool → List Int
  R : Bool → List Int
  rb : Bool → Nat
  v : Bool → Value
  ab : Bool → Nat
  ov : Value
  vs : List Value
def St.mv (s : St) (k : Bool) : Value := .pointer (some ⟨s.b k, 0, none⟩)
def St.rv (s : St) (k : Bool) : Value := .pointer (some ⟨s.rb k, 0, none⟩)
def St.av (s : St) (k : Bool) : Value := .func (.func 26) #[] #[.pointer (some ⟨s.ab k, 0, none⟩)]
/-- No two lists of numbers share a block. -/
structure Ap (s : St) : Prop where
  oo : s.o false ≠ s.o true
  op : s.o false ≠ s.p true
  po : s.p false ≠ s.o true
  pp : s.p false ≠ s.p true
  vo : ∀ k j, (s.v k).ownBlock ≠ some (s.o j) ∧ (s.v k).ownBlock ≠ some (s.p j)
  vv : ∀ g, (s.v false).ownBlock = some g → (s.v true).ownBlock ≠ some g
  uo : ∀ u ∈ s.vs, ∀ j, u.ownBlock ≠ some (s.o j) ∧ u.ownBlock ≠ some (s.p j)
  uv : ∀ u ∈ s.vs, ∀ k g, (s.v k).ownBlock = some g → u.ownBlock ≠ some g
  uu : Sep s.vs

/-- The script's world lies in block wb. -/
structure WS (W : World) (wb : Nat) (s : St) : Prop where
  hb : W.heap[wb]? = some (.cells #[s.mv false, s.mv true, s.rv false, s.rv true, s.av false, s.av true, s.ov] 39 (0, 0))
  m : ∀ k, MAt W (s.b k) (s.o k) (s.p k) (s.room k) (s.L k)
  r : ∀ k, RAt W (s.rb k) (s.room k) (s.v k) (s.R k)
  a : ∀ k, Boxed W (s.ab k) 23 (s.mv k)
  out : OutAt W s.ov s.vs
  ap : Ap s
  nb : s.b false ≠ s.b true
  nr : s.rb false ≠ s.rb true

theorem ne_type {W : World} {x y : Nat} {c c' : Array Value} {t t' : TypeId} {f f' : Nat × Nat} (h : W.heap[x]? = some (.cells c t f)) (h' : W.heap[y]? = some (.cells c' t' f')) (ht : t ≠ t') : x ≠ y := fun e => by
  rw [e, h'] at h
  injection h with h
  injection h with _ h _
  exact ht h.symm
theorem Ap.o2 {s : St} (h : Ap s) {k j : Bool} (hk : k ≠ j) : s.o k ≠ s.o j ∧ s.o k ≠ s.p j ∧ s.p k ≠ s.o j ∧ s.p k ≠ s.p j := by
  cases k <;> cases j
  · exact absurd rfl hk
  · exact ⟨h.oo, h.op, h.po, h.pp⟩
  · exact ⟨Ne.symm h.oo, Ne.symm h.po, Ne.symm h.op, Ne.symm h.pp⟩
  · exact absurd rfl hk
theorem Ap.v2 {s : St} (h : Ap s) {k j : Bool} (hk : k ≠ j) : ∀ g, (s.v k).ownBlock = some g → (s.v j).ownBlock ≠ some g := by
  cases k <;> cases j
  · exact absurd rfl hk
  · exact h.vv
  · exact fun g hg q => h.vv g q hg
  · exact absurd rfl hk
theorem WS.b2 {W : World} {wb : Nat} {s : St} (h : WS W wb s) {k j : Bool} (hk : k ≠ j) : s.b k ≠ s.b j ∧ s.rb k ≠ s.rb j := by
  cases k <;> cases j
  · exact absurd rfl hk
  · exact ⟨h.nb, h.nr⟩
  · exact ⟨Ne.symm h.nb, Ne.symm h.nr⟩
  · exact absurd rfl hk
/-- All is as it was where the blocks lie. -/
theorem WS.same {W W' : World} {wb : Nat} {s : St} (h : WS W wb s) {S : Nat → Prop} (hf : Fr S W W') (h0 : ¬ S wb) (h1 : ∀ k, ¬ S (s.b k) ∧ ¬ S (s.o k) ∧ ¬ S (s.p k)) (h2 : ∀ k, ¬ S (s.rb k)) (h3 : ∀ k g, (s.v k).ownBlock = some g → ¬ S g) (h4 : ∀ k, ¬ S (s.ab k)) (h5 : ∀ g, s.ov.ownBlock = some g → ¬ S g) (h6 : ∀ u ∈ s.vs, ∀ g, u.ownBlock = some g → ¬ S g) : WS W' wb s :=
  ⟨(hf.block wb (lt_of_heap h.hb) h0).trans h.hb, fun k => (h.m k).fr hf (h1 k).1 (h1 k).2.1 (h1 k).2.2, fun k => (h.r k).fr hf (h2 k) (h3 k), fun k => boxed_fr (h.a k) hf (h4 k),
    ⟨rowL_fr h.out.row hf h5, fun i u hu => by
      obtain ⟨n, hn, ho⟩ := h.out.lists i u hu
      exact ⟨n, hn, ho.fr hf (h6 u (List.mem_of_getElem? hu))⟩⟩, h.ap, h.nb, h.nr⟩
theorem WS.kept {W W' : World} {wb : Nat} {s : St} (h : WS W wb s) (hb : Below W.heap.size W W') : WS W' wb s :=
  h.same (S := fun _ => False) (Fr.of_below hb) (fun q => q) (fun _ => ⟨fun q => q, fun q => q, fun q => q⟩) (fun _ q => q) (fun _ _ _ q => q) (fun _ q => q) (fun _ _ q => q) (fun _ _ _ _ q => q)

theorem MAt.heapo {w : World} {b o p room : Nat} {L : List Int} (h : MAt w b o p room L) : ∃ c, w.heap[o]? = some (.cells c 3 (0, 0)) := by obtain ⟨c, h, _⟩ := h.ho; exact ⟨c, h⟩
theorem MAt.heapp {w : World} {b o p room : Nat} {L : List Int} (h : MAt w b o p room L) : ∃ c, w.heap[p]? = some (.cells c 3 (0, 0)) := by obtain ⟨c, h, _⟩ := h.hp; exact ⟨_, h⟩
theorem OwnI.heap {W : World} {base g : Nat} {v : Value} {l : List Int} (h : OwnI W base v l) (hg : v.ownBlock = some g) : ∃ c, W.heap[g]? = some (.cells c 3 (0, 0)) := by
  rcases h.2 with ⟨rfl, _⟩ | ⟨g', cap, cur, rfl, _, h4, _⟩
  · simp [Value.ownBlock] at hg
  · simp [Value.ownBlock] at hg
    subst hg
    exact ⟨cur, h4⟩

/-- The k-th set has changed: all else is as it was. -/
theorem WS.setM {W W' : World} {wb : Nat} {s : St} (h : WS W wb s) (k : Bool) {L' : List Int} (hm : MAt W' (s.b k) (s.o k) (s.p k) (s.room k) L') (hf : Fr (own3 (s.b k) (s.o k) (s.p k)) W W') :
    WS W' wb { s with L := fun j => if j = k then L' else s.L j } := by
  obtain ⟨co, ho⟩ := (h.m k).heapo
  obtain ⟨cp, hp⟩ := (h.m k).heapp
  have hbk := (h.m k).hb
  have T : ∀ {x : Nat} {c : Array Value} {t : TypeId} {f : Nat × Nat}, W.heap[x]? = some (.cells c t f) → t ≠ 60 → t ≠ 3 → ¬ own3 (s.b k) (s.o k) (s.p k) x := fun hx h1 h2 q => by
    rcases q with q | q | q
    · exact ne_type hx hbk h1 q
    · exact ne_type hx ho h2 q
    · exact ne_type hx hp h2 q
  have I : ∀ {g : Nat}, (∃ c, W.heap[g]? = some (.cells c 3 (0, 0))) → g ≠ s.o k → g ≠ s.p k → ¬ own3 (s.b k) (s.o k) (s.p k) g := fun hg h1 h2 q => by
    obtain ⟨c, hg⟩ := hg
    rcases q with q | q | q
    · exact ne_type hg hbk (by decide) q
    · exact h1 q
    · exact h2 q
  refine ⟨(hf.block wb (lt_of_heap h.hb) (T h.hb (by decide) (by decide))).trans h.hb, fun j => ?_, fun j => ?_, fun j => boxed_fr (h.a j) hf (T (h.a j) (by decide) (by decide)), ⟨rowL_fr h.out.row hf (fun g hg => ?_), fun i u hu => ?_⟩, ⟨h.ap.oo, h.ap.op, h.ap.po, h.ap.pp, h.ap.vo, h.ap.vv, h.ap.uo, h.ap.uv, h.ap.uu⟩, h.nb, h.nr⟩
  · by_cases hj : j = k
    · subst hj
      simp only [if_true]
      exact hm
    · simp only [if_neg hj]
      obtain ⟨q1, q2, q3, q4⟩ := h.ap.o2 hj
      refine (h.m j).fr hf (fun q => ?_) (I (h.m j).heapo q1 q2) (I (h.m j).heapp q3 q4)
      rcases q with q | q | q
      · exact (h.b2 hj).1 q
      · exact ne_type (h.m j).hb ho (by decide) q
      · exact ne_type (h.m j).hb hp (by decide) q
  · exact (h.r j).fr hf (T (h.r j).hb (by decide) (by decide)) (fun g hg => I ((h.r j).ho.heap hg) (fun e => (h.ap.vo j k).1 (by rw [hg, e])) (fun e => (h.ap.vo j k).2 (by rw [hg, e])))
  · obtain ⟨c, hc⟩ := rowL_blk h.out.row hg
    exact T hc (by decide) (by decide)
  · obtain ⟨n, hn, hown⟩ := h.out.lists i u hu
    have hmem := List.mem_of_getElem? hu
    exact ⟨n, hn, hown.fr hf (fun g hg => I (hown.heap hg) (fun e => (h.ap.uo u hmem k).1 (by rw [hg, e])) (fun e => (h.ap.uo u hmem k).2 (by rw [hg, e])))⟩
end Go.Proofs.Ytofiidfnjgoenaa
