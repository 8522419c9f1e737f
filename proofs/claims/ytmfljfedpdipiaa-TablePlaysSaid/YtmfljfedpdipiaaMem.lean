/-
  How a table lies in memory.
-/
import Derived.Test.YtmfljfedpdipiaaHash
namespace Go.Proofs.Ytmfljfedpdipiaa
open Go Go.RowKit

/-- A key in a block of its own. -/
def KeyAt (w : World) (kv : Value) (key : List Int) : Prop :=
  ∃ g, kv = .slice (some ⟨g, 0, none⟩) key.length key.length ∧ w.heap[g]? = some (.cells (ints key).toArray 3 (0, 0))
theorem KeyAt.argI {w : World} {kv : Value} {key : List Int} (h : KeyAt w kv key) (hl : key.length ≤ maxLen) : ArgI w kv key := by
  obtain ⟨g, rfl, hg⟩ := h
  refine .inr ⟨g, 0, _, rfl, lt_of_heap hg, Nat.le_refl _, hl, fun i x hx => ?_⟩
  have := ints_get hx
  simp [World.cell?, hg, this]
theorem KeyAt.fr {w w' : World} {kv : Value} {key : List Int} {S : Nat → Prop} (h : KeyAt w kv key) (hf : Fr S w w') (hs : ∀ k cs, S k → w.heap[k]? ≠ some (.cells cs 3 (0, 0))) : KeyAt w' kv key := by
  obtain ⟨g, rfl, hg⟩ := h
  exact ⟨g, rfl, (hf.block g (lt_of_heap hg) (fun q => hs g _ q hg)).trans hg⟩
theorem KeyAt.kept {w w' : World} {kv : Value} {key : List Int} (h : KeyAt w kv key) (hb : Below w.heap.size w w') : KeyAt w' kv key := by
  obtain ⟨g, rfl, hg⟩ := h
  exact ⟨g, rfl, (hb.block g (lt_of_heap hg)).trans hg⟩

/-- A place's three cells. -/
def plC : Option Ent → List Value
  | none => [.slice none 0 0, .int .i64 0, .bool false]
  | some e => [e.kv, .int .i64 e.val, .bool true]
def cellsP : Pl → List Value
  | [] => []
  | x :: P => plC x ++ cellsP P
theorem plC_length (x : Option Ent) : (plC x).length = 3 := by cases x <;> rfl
theorem cellsP_length (P : Pl) : (cellsP P).length = 3 * P.length := by
  induction P with
  | nil => rfl
  | cons x P ih => simp [cellsP, plC_length, ih]; omega
theorem cellsP_append (P Q : Pl) : cellsP (P ++ Q) = cellsP P ++ cellsP Q := by
  induction P with
  | nil => rfl
  | cons x P ih => simp [cellsP, ih]
theorem cellsP_get : ∀ {P : Pl} {i : Nat} {x : Option Ent}, P[i]? = some x → ∀ j, j < 3 → (cellsP P)[i * 3 + j]? = (plC x)[j]? := by
  intro P
  induction P with
  | nil => intro i x h; simp at h
  | cons y P ih =>
    intro i x h j hj
    cases i with
    | zero =>
      simp at h
      subst h
      rw [cellsP, List.getElem?_append_left (by rw [plC_length]; omega)]
      simp
    | succ i =>
      simp at h
      rw [cellsP, List.getElem?_append_right (by rw [plC_length]; omega), plC_length, show (i + 1) * 3 + j - 3 = i * 3 + j by omega]
      exact ih h j hj
theorem set_three {α : Type} : ∀ (i : Nat) (l : List α) (a b c : α) (x y z : α) (p q : List α), l = p ++ [x, y, z] ++ q → p.length = i → ((l.set i a).set (i + 1) b).set (i + 2) c = p ++ [a, b, c] ++ q := by
  rintro i l a b c x y z p q rfl rfl
  simp
theorem cellsP_set {P : Pl} {i : Nat} (hi : i < P.length) (y : Option Ent) : cellsP (P.set i y) = (((cellsP P).set (i * 3) (plC y)[0]!).set (i * 3 + 1) (plC y)[1]!).set (i * 3 + 2) (plC y)[2]! := by
  have e : P = P.take i ++ P[i] :: P.drop (i + 1) := by simp
  have e1 : P.set i y = P.take i ++ y :: P.drop (i + 1) := by rw [List.set_eq_take_append_cons_drop, if_pos hi]
  have three : ∀ x : Option Ent, plC x = [(plC x)[0]!, (plC x)[1]!, (plC x)[2]!] := fun x => by cases x <;> rfl
  have hl : (cellsP (P.take i)).length = i * 3 := by rw [cellsP_length, List.length_take]; omega
  rw [e1, cellsP_append, cellsP]
  have hP : cellsP P = cellsP (P.take i) ++ [(plC P[i])[0]!, (plC P[i])[1]!, (plC P[i])[2]!] ++ cellsP (P.drop (i + 1)) := by
    conv => lhs; rw [e, cellsP_append, cellsP, three P[i]]
    simp
  rw [set_three (i * 3) (cellsP P) _ _ _ _ _ _ _ _ hP hl, ← three y]
  simp

/-- The list of places as a value. -/
def plV (pb n : Nat) : Value := if n = 0 then .slice none 0 0 else .slice (some ⟨pb, 0, none⟩) n n

/-- A table, its places laid out; c: how many it says there are. -/
structure TB (w : World) (b pb W M c : Nat) (P : Pl) : Prop where
  hb : w.heap[b]? = some (.cells #[.int .i64 W, .int .i64 M, .int .i64 c, plV pb P.length] 58 (0, 0))
  hp : P ≠ [] → w.heap[pb]? = some (.cells (cellsP P).toArray 62 (0, 0))
  hk : ∀ (i : Nat) (e : Ent), P[i]? = some (some e) → KeyAt w e.kv e.key ∧ e.key.length = W
  hn : P ≠ [] → Pow2 P.length
  hW : W ≤ 128
  hM : M ≤ 1000000

/-- What a table owns, but its keys. -/
def own2 (b pb : Nat) (k : Nat) : Prop := k = b ∨ k = pb

section
variable {w w' : World} {b pb W M c : Nat} {P : Pl}
theorem TB.ltb (h : TB w b pb W M c P) : b < w.heap.size := lt_of_heap h.hb
theorem TB.ltp (h : TB w b pb W M c P) (hP : P ≠ []) : pb < w.heap.size := lt_of_heap (h.hp hP)
theorem TB.bp (h : TB w b pb W M c P) (hP : P ≠ []) : b ≠ pb := ne_type h.hb (h.hp hP) (by decide)
theorem TB.c0 (h : TB w b pb W M c P) : w.cell? ⟨b, 0, none⟩ = some (.int .i64 W) := cell_row h.hb rfl
theorem TB.c1 (h : TB w b pb W M c P) : w.cell? ⟨b, 1, none⟩ = some (.int .i64 M) := cell_row h.hb rfl
theorem TB.c2 (h : TB w b pb W M c P) : w.cell? ⟨b, 2, none⟩ = some (.int .i64 c) := cell_row h.hb rfl
theorem TB.c3 (h : TB w b pb W M c P) : w.cell? ⟨b, 3, none⟩ = some (plV pb P.length) := cell_row h.hb rfl
theorem TB.frb (h : TB w b pb W M c P) (i : Nat) : w.frozen? ⟨b, i, none⟩ = false := frz_row h.hb i
theorem plV_pos {pb n : Nat} (h : n ≠ 0) : plV pb n = .slice (some ⟨pb, 0, none⟩) n n := if_neg h
theorem TB.c3p (h : TB w b pb W M c P) (hP : P ≠ []) : w.cell? ⟨b, 3, none⟩ = some (.slice (some ⟨pb, 0, none⟩) P.length P.length) := by
  rw [h.c3, plV_pos (by simpa using hP)]
theorem ne_nil_get {P : Pl} {i : Nat} {x : Option Ent} (h : P[i]? = some x) : P ≠ [] := fun e => by rw [e] at h; simp at h
theorem TB.pc (h : TB w b pb W M c P) {i : Nat} {x : Option Ent} (hi : P[i]? = some x) {j : Nat} (hj : j < 3) {v : Value} (hv : (plC x)[j]? = some v) : w.cell? ⟨pb, i * 3 + j, none⟩ = some v := by
  refine cell_row (h.hp (ne_nil_get hi)) ?_
  have := cellsP_get hi j hj
  rw [hv] at this
  simpa using this
theorem TB.pc0 (h : TB w b pb W M c P) {i : Nat} {e : Ent} (hi : P[i]? = some (some e)) : w.cell? ⟨pb, i * 3, none⟩ = some e.kv := h.pc hi (j := 0) (by decide) rfl
theorem TB.pc1 (h : TB w b pb W M c P) {i : Nat} {e : Ent} (hi : P[i]? = some (some e)) : w.cell? ⟨pb, i * 3 + 1, none⟩ = some (.int .i64 e.val) := h.pc hi (j := 1) (by decide) rfl
theorem TB.pc2 (h : TB w b pb W M c P) {i : Nat} {e : Ent} (hi : P[i]? = some (some e)) : w.cell? ⟨pb, i * 3 + 2, none⟩ = some (.bool true) := h.pc hi (j := 2) (by decide) rfl
theorem TB.pf0 (h : TB w b pb W M c P) {i : Nat} (hi : P[i]? = some none) : w.cell? ⟨pb, i * 3, none⟩ = some (.slice none 0 0) := h.pc hi (j := 0) (by decide) rfl
theorem TB.pf1 (h : TB w b pb W M c P) {i : Nat} (hi : P[i]? = some none) : w.cell? ⟨pb, i * 3 + 1, none⟩ = some (.int .i64 0) := h.pc hi (j := 1) (by decide) rfl
theorem TB.pf2 (h : TB w b pb W M c P) {i : Nat} (hi : P[i]? = some none) : w.cell? ⟨pb, i * 3 + 2, none⟩ = some (.bool false) := h.pc hi (j := 2) (by decide) rfl
theorem TB.frp (h : TB w b pb W M c P) (hP : P ≠ []) (i : Nat) : w.frozen? ⟨pb, i, none⟩ = false := frz_row (h.hp hP) i
theorem TB.key (h : TB w b pb W M c P) {i : Nat} {e : Ent} (hi : P[i]? = some (some e)) : ArgI w e.kv e.key := (h.hk i e hi).1.argI (by have := (h.hk i e hi).2; have := h.hW; unfold maxLen; omega)
theorem TB.kept (h : TB w b pb W M c P) (hb : Below w.heap.size w w') : TB w' b pb W M c P :=
  ⟨(hb.block b h.ltb).trans h.hb, fun hP => (hb.block pb (h.ltp hP)).trans (h.hp hP), fun i e hi => ⟨(h.hk i e hi).1.kept hb, (h.hk i e hi).2⟩, h.hn, h.hW, h.hM⟩
/-- What is written elsewhere does not show. -/
theorem TB.fr {S : Nat → Prop} (h : TB w b pb W M c P) (hf : Fr S w w') (h1 : ¬ S b) (h2 : P ≠ [] → ¬ S pb) (h3 : ∀ k, S k → ∀ (i : Nat) (e : Ent), P[i]? = some (some e) → ∀ q n m, e.kv = .slice (some ⟨k, q, none⟩) n m → False) : TB w' b pb W M c P := by
  refine ⟨(hf.block b h.ltb h1).trans h.hb, fun hP => (hf.block pb (h.ltp hP) (h2 hP)).trans (h.hp hP), fun i e hi => ⟨?_, (h.hk i e hi).2⟩, h.hn, h.hW, h.hM⟩
  obtain ⟨g, e1, hg⟩ := (h.hk i e hi).1
  exact ⟨g, e1, (hf.block g (lt_of_heap hg) (fun q => h3 g q i e hi _ _ _ e1)).trans hg⟩
theorem TB.pow (h : TB w b pb W M c P) (hP : P ≠ []) : 0 < P.length ∧ P.length ≤ 1099511627776 := by
  obtain ⟨p, hp, e⟩ := h.hn hP
  have := pow_small hp
  rw [e]
  omega
end
end Go.Proofs.Ytmfljfedpdipiaa
