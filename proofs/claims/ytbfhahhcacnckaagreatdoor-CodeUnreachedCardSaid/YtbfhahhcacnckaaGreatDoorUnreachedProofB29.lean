/-
  Parts of the proof.
-/
import Derived.Test.YtbfhahhcacnckaaGreatDoorUnreachedProofB27
set_option linter.unusedSimpArgs false
namespace Go.Proofs.YtbfhahhcacnckaaGreatDoor
open Go Go.RowKit
def setA (cur : Array Value) (o : Nat) : List Value → Array Value
  | [] => cur
  | v :: vs => setA (cur.setIfInBounds o v) (o + 1) vs
theorem setA_size : ∀ (vs : List Value) (cur : Array Value) (o : Nat), (setA cur o vs).size = cur.size
  | [], _, _ => rfl
  | v :: vs, cur, o => by
    unfold setA
    rw [setA_size vs]
    simp
theorem setA_get : ∀ (vs : List Value) (cur : Array Value) (o k : Nat), o + vs.length ≤ cur.size → (setA cur o vs)[k]? = if o ≤ k ∧ k < o + vs.length then vs[k - o]? else cur[k]?
  | [], cur, o, k, _ => by
    unfold setA
    rw [if_neg (by simp)]
  | v :: vs, cur, o, k, h => by
    simp only [List.length_cons] at h
    unfold setA
    rw [setA_get vs _ (o + 1) k (by simp; omega)]
    simp only [List.length_cons]
    by_cases h1 : o + 1 ≤ k ∧ k < o + 1 + vs.length
    · rw [if_pos h1, if_pos (by omega), show k - o = (k - (o + 1)) + 1 by omega, List.getElem?_cons_succ]
    · rw [if_neg h1]
      by_cases h2 : k = o
      · subst h2
        rw [if_pos (by omega), Nat.sub_self, Array.getElem?_setIfInBounds_self_of_lt (by omega)]
        rfl
      · rw [if_neg (by omega), Array.getElem?_setIfInBounds_ne (by omega)]
theorem setA_heap {g : Nat} {t : TypeId} {fz : Nat × Nat} : ∀ (vs : List Value) (o : Nat) (W : World) (cur : Array Value), W.heap[g]? = some (.cells cur t fz) → (W.setCells g o vs).heap[g]? = some (.cells (setA cur o vs) t fz)
  | [], o, W, cur, h => by unfold World.setCells setA; exact h
  | v :: vs, o, W, cur, h => by
    have := setA_heap vs (o + 1) (W.setCell ⟨g, o, none⟩ v) _ (heap_set_in h o v)
    unfold setA
    simpa [World.setCells] using this
theorem setA_fr (b : Nat) : ∀ (vs : List Value) (o : Nat) (W : World), Fr (At1 b) W (W.setCells b o vs)
  | [], _, W => by unfold World.setCells; exact Fr.refl _ W
  | v :: vs, o, W => by
    have := ((Fr.refl (At1 b) W).setCell (p := ⟨b, o, none⟩) rfl v).trans (setA_fr b vs (o + 1) (W.setCell ⟨b, o, none⟩ v))
    simpa [World.setCells] using this
theorem ceI14_get (M : List Ins) (k : Nat) : (ceI14 M)[k]? = (M[k / 10]?).bind fun i => (inC i)[k % 10]? := by
  by_cases h : k / 10 < M.length
  · have hi := List.getElem?_eq_getElem h
    have hm : k % 10 < (inC M[k / 10]).length := by rw [inC_len]; omega
    have h4 := ceI14_at hi (k % 10) _ (List.getElem?_eq_getElem hm)
    rw [show k / 10 * 10 + k % 10 = k by omega] at h4
    rw [h4, hi]
    exact (List.getElem?_eq_getElem hm).symm
  · rw [List.getElem?_eq_none (by rw [ceI14_len]; omega), List.getElem?_eq_none (by omega)]
    rfl
theorem own_set {w : World} {base g c n j : Nat} {M : List Ins} (h : w.ownsRow base 35 10 (.slice (some ⟨g, 0, none⟩) n c) n (ceI14 M)) (hj : j < n) (i : Ins) : (w.setCells g (j * 10) (inC i)).ownsRow base 35 10 (.slice (some ⟨g, 0, none⟩) n c) n (ceI14 (M.set j i)) := by
  obtain ⟨hl, h | ⟨g', cap, cur, hv, hb, hh, hn, hm, hz, ht⟩⟩ := h
  · cases h.1
  · injection hv with e1 e2 e3
    injection e1 with e1
    injection e1 with e1
    subst e1 e3
    have hM : M.length = n := by rw [ceI14_len] at hl; omega
    refine ⟨by rw [ceI14_len, List.length_set, hM], .inr ⟨g, c, setA cur (j * 10) (inC i), rfl, hb, setA_heap _ _ _ _ hh, hn, hm, by rw [setA_size]; exact hz, ?_⟩⟩
    have hsz : j * 10 + (inC i).length ≤ cur.size := by rw [inC_len, hz]; omega
    apply List.ext_getElem?
    intro k
    by_cases hk : k < n * 10
    · rw [List.getElem?_take_of_lt hk, Array.getElem?_toList, setA_get _ _ _ _ hsz, ceI14_get, inC_len]
      by_cases hq : j * 10 ≤ k ∧ k < j * 10 + 10
      · rw [if_pos hq, show k / 10 = j by omega, List.getElem?_set_self (by omega), show k - j * 10 = k % 10 by omega]
        rfl
      · rw [if_neg hq, List.getElem?_set_ne (by omega), ← ceI14_get, ← ht, List.getElem?_take_of_lt hk, Array.getElem?_toList]
    · rw [List.getElem?_eq_none (by rw [List.length_take]; omega), List.getElem?_eq_none (by rw [ceI14_len, List.length_set, hM]; omega)]
theorem own_ten {w : World} {base g c n : Nat} {M : List Ins} (h : w.ownsRow base 35 10 (.slice (some ⟨g, 0, none⟩) n c) n (ceI14 M)) : g < w.heap.size ∧ base ≤ g ∧ (∀ k, w.frozen? ⟨g, k, none⟩ = false) ∧ ∀ j i, M[j]? = some i → ∀ m v, (inC i)[m]? = some v → w.cell? ⟨g, j * 10 + m, none⟩ = some v := by
  obtain ⟨h1, h2, cur, h3⟩ := ownsRow_at h (g := g) rfl
  refine ⟨h2, h1, fun k => frz_row h3 k, fun j i hi m v hm => ?_⟩
  obtain ⟨g', o', e, _, hr⟩ := LI.of_row h j i hi
  have e1 := Option.some.inj e
  injection e1 with e2 e3
  subst e2 e3
  have := hr m v hm
  rwa [Nat.zero_add] at this
theorem own_there {w : World} {base g c n j : Nat} {M : List Ins} (h : w.ownsRow base 35 10 (.slice (some ⟨g, 0, none⟩) n c) n (ceI14 M)) (hj : j < n) : w.there g (j * 10) 10 := fun k hk => by
  obtain ⟨_, _, hf, hc⟩ := own_ten h
  have hM : M.length = n := by have := h.1; rw [ceI14_len] at this; omega
  refine ⟨?_, hf _⟩
  have hm : k < (inC M[j]).length := by rw [inC_len]; exact hk
  rw [hc j _ (List.getElem?_eq_getElem (by omega)) k _ (List.getElem?_eq_getElem hm)]
  rfl
theorem at_sin {P : Program} {ops : Array Oper} {Q : Exit → Act → World → Prop} {d : Option Tmp} {xo yo : Operand} {ty : TypeId} {pos : String} {af : Array Edge} {gd : Option (Nat × Bool)} {rest : List Oper} {a : Act} {w : World} (h : wpList P ops Q (Oper.mk d (.store 35 xo yo) ty pos af gd :: rest) a w) : wpList P ops Q (Oper.mk d (.store 35 xo yo) ty pos af gd :: rest) a w := h
theorem wpList_sin {ops : Array Oper} {rest : List Oper} {op : Oper} {a : Act} {w : World} {Q : Exit → Act → World → Prop} (hgd : op.guard = none) (xo yo : Operand) (ho : op.op = .store 35 xo yo) {base g c n j : Nat} {M : List Ins} (i : Ins) (hown : w.ownsRow base 35 10 (.slice (some ⟨g, 0, none⟩) n c) n (ceI14 M)) (hj : j < n) (hx : a.eval xo = .pointer (some ⟨g, j * 10, none⟩)) (hy : a.eval yo = .agg #[.int .i64 i.op, .int .i64 i.x, .int .i64 i.y, .int .i64 i.n, .int .i64 i.mn, .int .i64 i.mx, .int .u64 (z1_wd i.s 0), .int .u64 (z1_wd i.s 1), .int .u64 (z1_wd i.s 2), .int .u64 (z1_wd i.s 3)])
    (h : ∀ w', w'.ownsRow base 35 10 (.slice (some ⟨g, 0, none⟩) n c) n (ceI14 (M.set j i)) → Fr (At1 g) w w' → wpList Tryz.prog ops Q rest (a.put op.dst undef) w') : wpList Tryz.prog ops Q (op :: rest) a w :=
  wpList_store_mid hgd 35 xo yo ho g (j * 10) #[.int .i64 i.op, .int .i64 i.x, .int .i64 i.y, .int .i64 i.n, .int .i64 i.mn, .int .i64 i.mx, .int .u64 (z1_wd i.s 0), .int .u64 (z1_wd i.s 1), .int .u64 (z1_wd i.s 2), .int .u64 (z1_wd i.s 3)] hx hy (own_there hown hj) siz_inst (all_oneCell_toArray (inC_one i)) (h _ (own_set hown hj i) (setA_fr g (inC i) (j * 10) w))
end Go.Proofs.YtbfhahhcacnckaaGreatDoor
