/-
  Cells beside the document's own: what both have.
-/
import Derived.Test.YtobeiigmeflbjaaRefC2
namespace Go.Proofs.Ytobeiigmeflbjaa
open Go Go.RowKit

/-- What the cells have and what the document's cells have. -/
structure Rel (N : Nat) (V : List Int) (U L : List (Int × Int)) : Prop where
  v : V = setsV N L
  n : U.length = L.length
  back : ∀ m, m ≤ L.length → backV V U m = setsV N (L.take m)
  ok : ∀ p ∈ L, ∃ k : Nat, p.1 = k ∧ k < N
theorem Rel.new (N : Nat) : Rel N (List.replicate N (-1)) [] [] := ⟨rfl, rfl, (fun m hm => by simp at hm; subst hm; rfl), (fun p hp => by cases hp)⟩
theorem Rel.len {N : Nat} {V : List Int} {U L : List (Int × Int)} (h : Rel N V U L) : V.length = N := by rw [h.v, setsV_length]
theorem Rel.set {N : Nat} {V : List Int} {U L : List (Int × Int)} (h : Rel N V U L) {i : Nat} {y : Int} (hi : V[i]? = some y) (x : Int) : Rel N (V.set i x) (U ++ [((i : Int), y)]) (L ++ [((i : Int), x)]) := by
  have hiN : i < N := by have := (List.getElem?_eq_some_iff.1 hi).1; rwa [h.len] at this
  refine ⟨by rw [setsV_snoc, h.v]; rfl, by simp [h.n], fun m hm => ?_, fun p hp => ?_⟩
  · rw [List.length_append, List.length_singleton] at hm
    rcases Nat.lt_or_ge L.length m with hlt | hge
    · obtain rfl : m = L.length + 1 := by omega
      have e1 : (U ++ [((i : Int), y)]).length = L.length + 1 := by simp [h.n]
      rw [← e1, backV_all, e1, List.take_of_length_le (by simp), setsV_snoc, h.v]
      rfl
    · rw [backV_set V U hi x (by rw [h.n]; exact hge), List.take_append_of_le_length hge]
      exact h.back m hge
  · rcases List.mem_append.1 hp with q | q
    · exact h.ok p q
    · obtain rfl := List.mem_singleton.1 q
      exact ⟨i, rfl, hiN⟩
theorem Rel.take {N : Nat} {V : List Int} {U L : List (Int × Int)} (h : Rel N V U L) {m : Nat} (hm : m ≤ L.length) : Rel N (backV V U m) (U.take m) (L.take m) := by
  refine ⟨h.back m hm, by simp [h.n], fun m' hm' => ?_, fun p hp => h.ok p (List.mem_of_mem_take hp)⟩
  have h' : m' ≤ m := by simp at hm'; omega
  rw [backV_back V U h', List.take_take, Nat.min_eq_left h']
  exact h.back m' (by omega)

/-- Cells beside the document's. -/
structure PS (n : Nat) (w : World) (c g ub : Nat) (uv : Value) (r : Nat) (rv : Value) (N : Nat) (V : List Int) (U L : List (Int × Int)) (wr : World) : Prop where
  ca : CA n wr c g ub uv V U
  rc : RC n wr r rv N L
  bel : Below n w wr
  hn : n ≤ w.heap.size
  rel : Rel N V U L
section
variable {n : Nat} {w wr w' : World} {c g ub : Nat} {uv uv' : Value} {r : Nat} {rv rv' : Value} {N : Nat} {V V' : List Int} {U U' L L' : List (Int × Int)}
theorem ps_sep (ca : CA n wr c g ub uv V U) (rc : RC n wr r rv N L) : ∀ k, clies c g ub uv k → ¬ foot r rv k := fun k hk q => by
  rcases hk with rfl | rfl | rfl | hk
  · rcases q with rfl | q
    · exact ne_type ca.hb rc.hb (by decide) rfl
    · exact ownsRow_not rc.own ca.hb (by decide) q
  · rcases q with rfl | q
    · exact ne_type ca.hg rc.hb (by decide) rfl
    · exact ownsRow_not rc.own ca.hg (by decide) q
  · rcases q with rfl | q
    · exact ne_type ca.u.hb rc.hb (by decide) rfl
    · exact ownsRow_not rc.own ca.u.hb (by decide) q
  · obtain ⟨_, _, cur, hcur⟩ := ownsRow_at ca.u.own hk
    rcases q with rfl | q
    · exact ne_type hcur rc.hb (by decide) rfl
    · exact ownsRow_not rc.own hcur (by decide) q
theorem PS.len (h : PS n w c g ub uv r rv N V U L wr) : n ≤ wr.heap.size := Nat.le_trans h.hn h.bel.size
theorem PS.kept (h : PS n w c g ub uv r rv N V U L wr) (hb : Below wr.heap.size wr w') : PS n w c g ub uv r rv N V U L w' := ⟨h.ca.kept hb, h.rc.kept hb, chain h.bel hb h.hn, h.hn, h.rel⟩
/-- A block that neither has is changed. -/
theorem PS.fr {S : Nat → Prop} (h : PS n w c g ub uv r rv N V U L wr) (hf : Fr S wr w') (hs : ∀ k, S k → n ≤ k ∧ ¬ clies c g ub uv k ∧ ¬ foot r rv k) : PS n w c g ub uv r rv N V U L w' :=
  ⟨h.ca.fr hf (fun k hk q => (hs k q).2.1 hk), h.rc.fr hf (fun k hk q => (hs k q).2.2 hk), chainF h.bel hf h.hn (fun k hk => (hs k hk).1), h.hn, h.rel⟩
theorem PS.both {wm : World} (h : PS n w c g ub uv r rv N V U L wr) (hr : RC n wm r rv' N L') (hf : Fr (foot r rv) wr wm) (hc : CA n w' c g ub uv' V' U') (hf' : Fr (cfoot g ub uv) wm w') (rel : Rel N V' U' L') : PS n w c g ub uv' r rv' N V' U' L' w' :=
  ⟨hc, hr.fr hf' (fun k hk q => ps_sep (h.ca.fr hf (ps_sep h.ca h.rc)) hr k (.inr q) hk), chainF (chainF h.bel hf h.hn h.rc.low) hf' h.hn h.ca.lof, h.hn, rel⟩
end
theorem mark_x {n : Nat} {w W : World} {c g ub : Nat} {uv : Value} {r : Nat} {rv : Value} {N : Nat} {V : List Int} {U L : List (Int × Int)} (h : PS n w c g ub uv r rv N V U L W) {x : Ext W} : Calls Try.prog 27 #[.pointer (some ⟨c, 0, none⟩)] x.val fun e w'' => e = .returned (.int .i64 L.length) ∧ ∃ y : Ext W, w'' = y.val := by
  have := ext_call_same (mark_c (h.ca.kept (ext_below x)))
  rw [h.rel.n] at this
  exact this
/-- A block that is of none of the types. -/
theorem PS.out {n : Nat} {w W : World} {c g ub : Nat} {uv : Value} {r : Nat} {rv : Value} {N : Nat} {V : List Int} {U L : List (Int × Int)} (h : PS n w c g ub uv r rv N V U L W) {bx : Nat} {cs : Array Value} (hx : W.heap[bx]? = some (.cells cs 52 (0, 0))) : ¬ clies c g ub uv bx ∧ ¬ foot r rv bx := by
  constructor
  · rintro (q | q | q | q)
    · exact ne_type hx h.ca.hb (by decide) q
    · exact ne_type hx h.ca.hg (by decide) q
    · exact ne_type hx h.ca.u.hb (by decide) q
    · exact ownsRow_not h.ca.u.own hx (by decide) q
  · rintro (q | q)
    · exact ne_type hx h.rc.hb (by decide) q
    · exact ownsRow_not h.rc.own hx (by decide) q
/-- Some cells beside the document's, of at most k Sets. -/
def PD (n : Nat) (w : World) (c g ub r N k : Nat) (wx : World) : Prop := ∃ (uv rv : Value) (V : List Int) (U L : List (Int × Int)), L.length ≤ k ∧ PS n w c g ub uv r rv N V U L wx
/-- A row of numbers of the call's own, as an argument. -/
theorem own_arg {W : World} {base n : Nat} {v : Value} {A : List Int} (h : W.ownsRow base 3 1 v n (ints A)) : ArgI W v A := by
  have hl : A.length = n := by have := h.1; rw [ints_length] at this; omega
  subst hl
  rcases h.2 with ⟨rfl, hn⟩ | ⟨g, cap, cur, rfl, hg, hc, h1, h2, h3, h4⟩
  · exact .inl ⟨none, 0, rfl, List.eq_nil_of_length_eq_zero hn⟩
  · exact .inr ⟨g, 0, cap, rfl, lt_of_heap hc, h1, h2, fun i x hx => by rw [Nat.zero_add]; exact ownsRow_cell h (ints_get hx)⟩
theorem row_own {W : World} {g base : Nat} {V : List Int} (h : W.heap[g]? = some (.cells (ints V).toArray 3 (0, 0))) (hb : base ≤ g) (hl : V.length ≤ maxLen) : W.ownsRow base 3 1 (.slice (some ⟨g, 0, none⟩) V.length V.length) V.length (ints V) :=
  ⟨by rw [ints_length]; omega, .inr ⟨g, _, _, rfl, hb, h, Nat.le_refl _, hl, by simp [ints_length], by rw [List.take_of_length_le (by simp [ints_length])]⟩⟩
/-- While the list that came out is written over. -/
structure VI (n : Nat) (w : World) (c g ub : Nat) (uv : Value) (r : Nat) (rv : Value) (N : Nat) (V : List Int) (U L : List (Int × Int)) (b1 : Nat) (vo : Value) (ga : Nat) (ws : World) : Prop where
  ps : PS n w c g ub uv r rv N V U L ws
  o : ws.ownsRow b1 3 1 vo N (ints V)
  row : ∃ A : List Int, A.length = N ∧ ws.heap[ga]? = some (.cells (ints A).toArray 3 (0, 0))
  lo : n ≤ ga
  nc : ¬ clies c g ub uv ga
  nr : ¬ foot r rv ga
  no : vo.ownBlock ≠ some ga
theorem VI.kept {n : Nat} {w : World} {c g ub : Nat} {uv : Value} {r : Nat} {rv : Value} {N : Nat} {V : List Int} {U L : List (Int × Int)} {b1 : Nat} {vo : Value} {ga : Nat} {ws w' : World} (h : VI n w c g ub uv r rv N V U L b1 vo ga ws) (hb : Below ws.heap.size ws w') : VI n w c g ub uv r rv N V U L b1 vo ga w' := by
  obtain ⟨A, hA, hr⟩ := h.row
  exact ⟨h.ps.kept hb, ownsRow_fr h.o (Fr.of_below (S := fun _ => False) hb) (fun _ _ q => q), ⟨A, hA, (hb.block ga (lt_of_heap hr)).trans hr⟩, h.lo, h.nc, h.nr, h.no⟩
theorem PS.lt {n : Nat} {w : World} {c g ub : Nat} {uv : Value} {r : Nat} {rv : Value} {N : Nat} {V : List Int} {U L : List (Int × Int)} {wr : World} (h : PS n w c g ub uv r rv N V U L wr) : (∀ k, clies c g ub uv k → k < wr.heap.size) ∧ ∀ k, foot r rv k → k < wr.heap.size :=
  ⟨h.ca.lt, fun k hk => by
    rcases hk with rfl | q
    · exact lt_of_heap h.rc.hb
    · exact (ownsRow_at h.rc.own q).2.1⟩
theorem VI.set {n : Nat} {w : World} {c g ub : Nat} {uv : Value} {r : Nat} {rv : Value} {N : Nat} {V : List Int} {U L : List (Int × Int)} {b1 : Nat} {vo : Value} {ga : Nat} {ws : World} (h : VI n w c g ub uv r rv N V U L b1 vo ga ws) (k : Nat) (x : Int) : VI n w c g ub uv r rv N V U L b1 vo ga (ws.setCell ⟨ga, k, none⟩ (.int .i64 x)) := by
  have hf : Fr (fun z => z = ga) ws (ws.setCell ⟨ga, k, none⟩ (.int .i64 x)) := (Fr.refl (fun z => z = ga) ws).setCell (p := ⟨ga, k, none⟩) rfl _
  obtain ⟨A, hA, hr⟩ := h.row
  refine ⟨h.ps.fr hf (fun z hz => by subst hz; exact ⟨h.lo, h.nc, h.nr⟩), ownsRow_fr h.o hf (fun z hz e => h.no (e ▸ hz)), ⟨A.set k x, by simpa using hA, ?_⟩, h.lo, h.nc, h.nr, h.no⟩
  rw [heap_set_in hr k _, ints_set]
  simp
end Go.Proofs.Ytobeiigmeflbjaa
