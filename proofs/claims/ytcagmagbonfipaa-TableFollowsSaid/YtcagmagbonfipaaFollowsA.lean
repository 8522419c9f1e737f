/-
  The law TableFollows: its boxes, what holds between two rounds of its range.
-/
import Derived.Test.YtcagmagbonfipaaRng
import Derived.Test.YtcagmagbonfipaaNoPanic
namespace Go.Proofs.Ytcagmagbonfipaa
open Go Go.RowKit Go.Shelf
attribute [local go_sem] Oper.semAt_some ext_cell

theorem boxed_same {W W' : World} {B : Nat} {t : TypeId} {v : Value} (h : Boxed W B t v) (e : W'.heap[B]? = W.heap[B]?) : Boxed W' B t v := e.trans h
theorem boxed_kept {W W' : World} {B : Nat} {t : TypeId} {v : Value} (h : Boxed W B t v) (hb : Below W.heap.size W W') : Boxed W' B t v := boxed_same h (hb.block _ h.lt)
theorem boxed_ki {W W' : World} {B : Nat} {t : TypeId} {v : Value} (h : Boxed W B t v) (hk : KI W W') (h1 : t ≠ 61) (h2 : t ≠ 63) : Boxed W' B t v := hk B _ t h1 h2 h

theorem boxed_second (w : World) (o : Obj) (t : TypeId) (v : Value) : Boxed ((w.alloc o).alloc (.cells #[v] t)) (w.heap.size + 1) t v := by
  have := Boxed.new (w.alloc o) t v
  rwa [World.size_alloc] at this
/-- The law's own boxes: the list, the answer, the table. -/
structure FB (W : World) (lb rb tb b : Nat) (u : Value) : Prop where
  l : Boxed W lb 34 u
  r : Boxed W rb 4 (.bool false)
  t : Boxed W tb 23 (.pointer (some ⟨b, 0, none⟩))
theorem FB.kept {W W' : World} {lb rb tb b : Nat} {u : Value} (h : FB W lb rb tb b u) (hb : Below W.heap.size W W') : FB W' lb rb tb b u := ⟨boxed_kept h.l hb, boxed_kept h.r hb, boxed_kept h.t hb⟩
theorem FB.ki {W W' : World} {lb rb tb b : Nat} {u : Value} (h : FB W lb rb tb b u) (hk : KI W W') : FB W' lb rb tb b u := ⟨boxed_ki h.l hk (by decide) (by decide), boxed_ki h.r hk (by decide) (by decide), boxed_ki h.t hk (by decide) (by decide)⟩

theorem TS.bare_fr {S : Nat → Prop} {base : Nat} {w w' : World} {b W M c : Nat} {m : List Int → Option Int} (h : TS base w b W M c 0 m) (hf : Fr S w w') (hs : ¬ S b) : TS base w' b W M c 0 m := by
  obtain ⟨pb, P, h1, h2, h3, h4, h5⟩ := h.ex
  obtain rfl := List.length_eq_zero_iff.1 h3
  exact ⟨⟨pb, [], ⟨⟨(hf.block b h1.t.ltb hs).trans h1.t.hb, fun q => absurd rfl q, fun i e hi => by simp at hi, fun q => absurd rfl q, h1.t.hW, h1.t.hM⟩, h1.p, h1.m, h1.few⟩, h2, h3, h4, h5⟩, h.hb⟩
theorem TS.not_box {base : Nat} {w : World} {b W M c n B : Nat} {m : List Int → Option Int} {t : TypeId} {v : Value} (h : TS base w b W M c n m) (hB : Boxed w B t v) (ht : t ≠ 61) : B ≠ b := fun e => by
  obtain ⟨pb, P, h1, _⟩ := h.ex
  subst e
  exact ne_type (show w.heap[B]? = _ from hB) h1.t.hb ht rfl
theorem getV_some (v : Int) : getV (some v) = v := rfl
theorem getV_none : getV none = 0 := rfl
theorem TS.pos {base : Nat} {w : World} {b W M c n : Nat} {m : List Int → Option Int} (h : TS base w b W M c n m) {k : List Int} {v : Int} (hk : m k = some v) : 0 < c := by
  obtain ⟨pb, P, h1, rfl, _⟩ := h.ex
  obtain ⟨i, e, hi, _⟩ := (h1.m k v).1 hk
  have := cnt_set (y := none) hi
  simp at this
  omega
def kk (x : Int) : List Int := [x, x.tmod 7]
/-- Each value tells where its key's number stands in the list. -/
def Places (zs : List Int) (k : Nat) (m : List Int → Option Int) : Prop := ∀ (q : List Int) (v : Int), m q = some v → ∃ j : Nat, v = j ∧ j < k ∧ ∃ x, zs[j]? = some x ∧ q = kk x
theorem Places.put {zs : List Int} {k : Nat} {m : List Int → Option Int} (h : Places zs k m) {x : Int} (hx : zs[k]? = some x) : Places zs (k + 1) (upd m (kk x) (some (k : Int))) := fun q v hq => by
  unfold upd at hq
  split at hq
  · rename_i e
    cases hq
    exact ⟨k, rfl, by omega, x, hx, e⟩
  · obtain ⟨j, h1, h2, h3⟩ := h q v hq
    exact ⟨j, h1, by omega, h3⟩
theorem Places.drop {zs : List Int} {k : Nat} {m : List Int → Option Int} (h : Places zs k m) (q : List Int) : Places zs k (upd m q none) := fun q' v hq => by
  unfold upd at hq
  split at hq
  · cases hq
  · exact h q' v hq

theorem kk_len (x : Int) : (kk x).length = 2 := rfl
/-- What holds between two rounds of the range. -/
structure FI (w : World) (nb sb lb rb tb b : Nat) (u : Value) (pb : Nat) (P : Pl) (m : List Int → Option Int) (pre : List Hd) (W : World) : Prop where
  n : Boxed W nb 3 (.int .i64 (pre.length : Nat))
  last : ∃ uu, Boxed W sb 34 uu ∧ ∀ z, pre.getLast? = some z → uu = .slice (some ⟨z.1, 0, none⟩) z.2.1.length z.2.1.length ∧ W.heap[z.1]? = some (.cells (ints z.2.1).toArray 3 (0, 0))
  fb : FB W lb rb tb b u
  t : TM W b pb 2 1000000 P m
  bel : Below w.heap.size w W
theorem FI.own {w : World} {nb sb lb rb tb b : Nat} {u : Value} {pb : Nat} {P : Pl} {m : List Int → Option Int} {B : Nat} (hB : w.heap.size ≤ B) : OwnFrom B (FI w nb sb lb rb tb b u pb P m) := fun pre W W' row h hg hr => by
  obtain ⟨uu, h1, h2⟩ := h.last
  exact ⟨cells_kept hg hr h.n, ⟨uu, cells_kept hg hr h1, fun z hz => ⟨(h2 z hz).1, cells_kept hg hr (h2 z hz).2⟩⟩, ⟨cells_kept hg hr h.fb.l, cells_kept hg hr h.fb.r, cells_kept hg hr h.fb.t⟩, h.t.cells (fun k cur t hc => cells_kept hg hr hc),
    h.bel.trans ⟨hg.os, hg.tape, hg.output, hg.size, fun k hk => hg.block k (Nat.lt_of_lt_of_le hk h.bel.size) (fun e => by have := (hr k e.symm).1; omega)⟩⟩
theorem FI.next {w : World} {nb sb lb rb tb b : Nat} {u : Value} {pb : Nat} {P : Pl} {m : List Int → Option Int} {pre : List Hd} {V V' : World} {x : Hd} {B : Nat} (h : FI w nb sb lb rb tb b u pb P m pre V) (hb : Below V.heap.size V V')
    (hx : V.heap[x.1]? = some (.cells (ints x.2.1).toArray 3 (0, 0))) (h1 : nb ≠ sb) (hnb : nb < B) (hsb : sb < B) (hxB : B ≤ x.1) (hw : w.heap.size ≤ nb ∧ w.heap.size ≤ sb) (hk : ∀ k, kblk P k → k < nb ∧ k < sb)
    (hd : lb ≠ nb ∧ lb ≠ sb ∧ rb ≠ nb ∧ rb ≠ sb ∧ tb ≠ nb ∧ tb ≠ sb ∧ b ≠ nb ∧ b ≠ sb ∧ pb ≠ nb ∧ pb ≠ sb) :
    ownPostG B (CKeep fun k => B ≤ k ∨ kblk P k) (FI w nb sb lb rb tb b u pb P m) (fun _ _ _ => False) (pre ++ [x]) V .normal ⟨#[], []⟩ ((V'.setCell ⟨sb, 0, none⟩ (.slice (some ⟨x.1, 0, none⟩) x.2.1.length x.2.1.length)).setCell ⟨nb, 0, none⟩ (.int .i64 ((pre.length : Int) + 1))) := by
  obtain ⟨d1, d2, d3, d4, d5, d6, d7, d8, d9, d10⟩ := hd
  have fr : Fr (fun k => k = nb ∨ k = sb) V ((V'.setCell ⟨sb, 0, none⟩ (.slice (some ⟨x.1, 0, none⟩) x.2.1.length x.2.1.length)).setCell ⟨nb, 0, none⟩ (.int .i64 ((pre.length : Int) + 1))) := ((Fr.of_below hb).setCell (p := ⟨sb, 0, none⟩) (.inr rfl) _).setCell (p := ⟨nb, 0, none⟩) (.inl rfl) _
  obtain ⟨uu, hu, _⟩ := h.last
  refine ⟨fr.keepsFrom (fun k hk => by omega), fr.ckeep (fun k hk hq => by rcases hq with q | q; omega; (have := hk; have := hk; have h2 := (‹∀ k, kblk P k → k < nb ∧ k < sb›) k q; omega)), ?_⟩
  refine ⟨?_, ⟨_, (((boxed_kept hu hb).set _).other (Ne.symm h1) _), fun z hz => ?_⟩, ⟨boxed_same h.fb.l (fr.block _ h.fb.l.lt (by omega)), boxed_same h.fb.r (fr.block _ h.fb.r.lt (by omega)), boxed_same h.fb.t (fr.block _ h.fb.t.lt (by omega))⟩, ?_, ?_⟩
  · have := ((boxed_kept h.n hb).other h1 (.slice (some ⟨x.1, 0, none⟩) x.2.1.length x.2.1.length)).set (.int .i64 ((pre.length : Int) + 1))
    simpa using this
  · simp at hz
    subst hz
    exact ⟨rfl, (fr.block _ (lt_of_heap hx) (by omega)).trans hx⟩
  · exact h.t.fr fr (by omega) (fun _ => by omega) (fun k hk' hq => by have := hk k hq; omega)
  · exact h.bel.trans (fr.below h.bel.size (fun k hk' => by omega))
theorem kk_lt {x y : Int} (h : lexC (kk x) (kk y) = -1) : x < y := by
  unfold kk lexC at h
  split at h
  · assumption
  · split at h
    · cases h
    · rename_i h1 h2
      obtain rfl : x = y := by omega
      unfold lexC at h
      simp [lexC] at h
end Go.Proofs.Ytcagmagbonfipaa
