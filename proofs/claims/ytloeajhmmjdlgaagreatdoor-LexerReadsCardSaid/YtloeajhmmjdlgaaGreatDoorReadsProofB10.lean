/-
  Brackets as the document reads them, as mathematics. The document's items of brackets, as a whole. The document's brackets: how the reader and its list stand.
-/
import Derived.Test.YtloeajhmmjdlgaaGreatDoorReadsProofB9
import Derived.Deep.DeepCutAuto
namespace Go.Proofs.YtloeajhmmjdlgaaGreatDoor
open Go

theorem nmd_fitS {t : ByteArray} (h : (nmd t).1 = true) : Fit (nmd t).2 ∧ 0 < (nmd t).2.length ∧ (nmd t).2.length ≤ 4 := ⟨(nmd_fit t).1, nmd_pos t h, (nmd_fit t).2⟩
theorem itmI_ok {m : Md} {s : ByteArray} {o p q : Nat} {ev : Bool} {c : Int} {L : List (Int × Int)} (ho : o ≤ s.size) (hp : p ≤ s.size) (h : itmI m s o p = .ok (ev, c, L, q)) :
    p < q ∧ q ≤ s.size ∧ Fit L ∧ 0 < L.length ∧ L.length ≤ 4 ∧ 0 ≤ c ∧ c ≤ 1114111 := by
  have hel : ∀ d, elmI m s o p d = .ok (ev, c, L, q) → p < q ∧ q ≤ s.size ∧ Fit L ∧ 0 < L.length ∧ L.length ≤ 4 ∧ 0 ≤ c ∧ c ≤ 1114111 := fun d hd => by
    unfold elmI at hd
    cases he : elem m s o p with
    | error e => rw [he] at hd; cases hd
    | ok x =>
      obtain ⟨c', q'⟩ := x
      have hr := elem_rng m s o p ho hp
      have hl := elem_le he
      rw [he] at hd hr
      cases hd
      exact ⟨hr.1, hr.2, fit_two hl hl, by simp, by simp, hl⟩
  unfold itmI at h
  split at h
  · unfold namI at h
    cases he : nam s o p with
    | error e => rw [he] at h; cases h
    | ok x =>
      obtain ⟨L', q'⟩ := x
      have hr := nam_rng s o p ho hp
      rw [he] at h hr
      cases h
      refine ⟨hr.1, hr.2, ?_⟩
      unfold nam at he
      split at he
      · cases he
      · split at he
        · rename_i hn
          cases he
          have := nmd_fitS hn
          exact ⟨this.1, this.2.1, this.2.2, by omega, by omega⟩
        · cases he
  split at h
  · exact hel _ h
  split at h
  · exact hel _ h
  · unfold chrI at h
    split at h
    · cases h
    · rename_i hs
      cases he : chr m s p with
      | error e => rw [he] at h; cases h
      | ok x =>
        obtain ⟨c', q'⟩ := x
        have hr := chr_rng m s p (by omega)
        have hl := chr_le he
        rw [he] at h hr
        cases h
        exact ⟨hr.1, hr.2, fit_two hl hl, by simp, by simp, hl⟩
/-- An item that is an end, as the document reads it. -/
theorem itmI_end {m : Md} {s : ByteArray} {o p : Nat} (hp : p ≤ s.size) (h1 : sees s p [91, 58] = false) (h2 : sees s p [91, 61] = false) : itmI m s o p = match endI m s o p with
    | .error e => .error e
    | .ok (c, q) => .ok (true, c, [(c, c)], q) := by
  unfold itmI endI
  rw [h1, h2]
  simp only [Bool.false_eq_true, if_false]
  by_cases hz : p = s.size
  · have h3 : sees s p [91, 46] = false := sees_off (by simp) (by simp only [List.length_cons, List.length_nil]; omega)
    rw [h3]
    simp only [Bool.false_eq_true, if_false, if_pos hz]
    unfold chrI
    rw [if_pos (by omega)]
  · rw [if_neg hz]
    cases h3 : sees s p [91, 46] with
    | true => simp only [if_true]; rfl
    | false =>
      simp only [Bool.false_eq_true, if_false]
      unfold chrI
      rw [if_neg (by omega)]
      cases chr m s p <;> rfl
theorem sgl_err {m : Md} {s : ByteArray} {o p : Nat} {e : Nat × Nat} (hp : p ≤ s.size) (h : itmI m s o p = .error e) : sgl m s o p = .error e := by
  unfold sgl
  cases h1 : sees s p [91, 58] with
  | true =>
    unfold itmI namI at h
    rw [h1] at h
    simp only [if_true] at h ⊢
    cases hn : nam s o p with
    | error x => rw [hn] at h; cases h; rfl
    | ok x => rw [hn] at h; cases h
  | false =>
    cases h2 : sees s p [91, 61] with
    | true =>
      unfold itmI elmI at h
      rw [h1, h2] at h
      simp only [Bool.false_eq_true, if_false, if_true] at h ⊢
      cases hn : elem m s o p with
      | error x => rw [hn] at h; cases h; rfl
      | ok x => rw [hn] at h; cases h
    | false =>
      rw [itmI_end hp h1 h2] at h
      simp only [Bool.false_eq_true, if_false]
      unfold spn
      cases hn : endI m s o p with
      | error x => rw [hn] at h; cases h; rfl
      | ok x => rw [hn] at h; cases h
/-- What comes behind a single item. -/
theorem sgl_one {m : Md} {s : ByteArray} {o p q : Nat} {ev : Bool} {c : Int} {L : List (Int × Int)} (hp : p ≤ s.size) (h : itmI m s o p = .ok (ev, c, L, q)) (hk : ev = false ∨ sees s q [45] = false ∨ sees s q [45, 93] = true) : sgl m s o p = .ok (L, q) := by
  unfold sgl
  cases h1 : sees s p [91, 58] with
  | true =>
    unfold itmI namI at h
    rw [h1] at h
    simp only [if_true] at h ⊢
    cases hn : nam s o p with
    | error x => rw [hn] at h; cases h
    | ok x => rw [hn] at h; cases h; rfl
  | false =>
    cases h2 : sees s p [91, 61] with
    | true =>
      unfold itmI elmI at h
      rw [h1, h2] at h
      simp only [Bool.false_eq_true, if_false, if_true] at h ⊢
      cases hn : elem m s o p with
      | error x => rw [hn] at h; cases h
      | ok x => rw [hn] at h; cases h; rfl
    | false =>
      rw [itmI_end hp h1 h2] at h
      simp only [Bool.false_eq_true, if_false]
      unfold spn
      cases hn : endI m s o p with
      | error x => rw [hn] at h; cases h
      | ok x =>
        rw [hn] at h
        cases h
        simp only
        rw [if_pos]
        rcases hk with hk | hk | hk
        · cases hk
        · rw [hk]; simp
        · rw [hk]; simp
/-- What a span may be: its first end and what is behind it. -/
structure Spn (m : Md) (s : ByteArray) (o p q : Nat) (c : Int) : Prop where
  fst : ∃ L, itmI m s o p = .ok (true, c, L, q)
  min : sees s q [45] = true
  not : sees s q [45, 93] = false
theorem Spn.is {m : Md} {s : ByteArray} {o p q : Nat} {c : Int} (hp : p ≤ s.size) (h : Spn m s o p q c) : sgl m s o p = if sees s (q + 1) [91, 58] || sees s (q + 1) [91, 61] then .error (34, p)
    else match endI m s o (q + 1) with
      | .error e => .error e
      | .ok (hi, r) => if hi < c then .error (34, p) else .ok ([(c, hi)], r) := by
  obtain ⟨L, hi⟩ := h.fst
  unfold sgl
  cases h1 : sees s p [91, 58] with
  | true =>
    unfold itmI namI at hi
    rw [h1] at hi
    simp only [if_true] at hi
    cases hn : nam s o p with
    | error x => rw [hn] at hi; cases hi
    | ok x => rw [hn] at hi; cases hi
  | false =>
    cases h2 : sees s p [91, 61] with
    | true =>
      unfold itmI elmI at hi
      rw [h1, h2] at hi
      simp only [Bool.false_eq_true, if_false, if_true] at hi
      cases hn : elem m s o p with
      | error x => rw [hn] at hi; cases hi
      | ok x => rw [hn] at hi; cases hi
    | false =>
      rw [itmI_end hp h1 h2] at hi
      simp only [Bool.false_eq_true, if_false]
      unfold spn
      cases hn : endI m s o p with
      | error x => rw [hn] at hi; cases hi
      | ok x =>
        rw [hn] at hi
        cases hi
        simp only
        rw [if_neg (by rw [h.min, h.not]; simp)]
        cases endI m s o (x.snd + 1) <;> rfl
section
variable {m : Md} {s : ByteArray} {o p q : Nat} {c : Int}
theorem Spn.cls (h : Spn m s o p q c) (hp : p ≤ s.size) (hk : sees s (q + 1) [91, 58] = true ∨ sees s (q + 1) [91, 61] = true) : sgl m s o p = .error (34, p) := by
  rw [h.is hp, if_pos]
  rcases hk with hk | hk <;> rw [hk] <;> simp
theorem Spn.err (h : Spn m s o p q c) (hp : p ≤ s.size) (hq : q + 1 ≤ s.size) (k1 : sees s (q + 1) [91, 58] = false) (k2 : sees s (q + 1) [91, 61] = false) {e : Nat × Nat} (he : itmI m s o (q + 1) = .error e) : sgl m s o p = .error e := by
  rw [h.is hp, k1, k2]
  rw [itmI_end hq k1 k2] at he
  simp only [Bool.or_false, Bool.false_eq_true, if_false]
  cases hn : endI m s o (q + 1) with
  | error x => rw [hn] at he; cases he; rfl
  | ok x => rw [hn] at he; cases he
theorem Spn.ok (h : Spn m s o p q c) (hp : p ≤ s.size) (hq : q + 1 ≤ s.size) (k1 : sees s (q + 1) [91, 58] = false) (k2 : sees s (q + 1) [91, 61] = false) {ev : Bool} {hi : Int} {L : List (Int × Int)} {r : Nat} (he : itmI m s o (q + 1) = .ok (ev, hi, L, r)) :
    sgl m s o p = if hi < c then .error (34, p) else .ok ([(c, hi)], r) := by
  rw [h.is hp, k1, k2]
  rw [itmI_end hq k1 k2] at he
  simp only [Bool.or_false, Bool.false_eq_true, if_false]
  cases hn : endI m s o (q + 1) with
  | error x => rw [hn] at he; cases he
  | ok x => rw [hn] at he; cases he; rfl
end
/-- The next item, as the loop of the document has it. -/
def nxt (m : Md) (s : ByteArray) (o p : Nat) (first : Bool) : Rs (List (Int × Int) × Nat) := if first then sgl m s o p else itm m s o p
def rest_ (m : Md) (s : ByteArray) (o p f : Nat) (first : Bool) (L : List (Int × Int)) : Rs (List (Int × Int) × Nat) :=
  if first then (match sgl m s o p with
    | .error e => .error e
    | .ok (l, r) => its m s o (s.size + 1) r l)
  else its m s o f p L
/-- How the document's loop stands. -/
structure BI (m : Md) (s : ByteArray) (o : Nat) (t first : Bool) (p : Nat) (L : List (Int × Int)) : Prop where
  lt : o < p
  le : p ≤ s.size
  fit : Fit L
  len : L.length ≤ 4 * p
  nil : first = true → L = []
  is : ∃ f, s.size < f + p ∧ brk m s o = brkR m t (rest_ m s o p f first L)
theorem nxt_ok {m : Md} {s : ByteArray} {o p q : Nat} {first : Bool} {l : List (Int × Int)} (ho : o ≤ s.size) (hp : p ≤ s.size) (h : nxt m s o p first = .ok (l, q)) : p < q ∧ q ≤ s.size := by
  unfold nxt at h
  split at h
  · have := sgl_rng m s o p ho hp
    rw [h] at this
    exact this
  · have := itm_rng m s o p ho hp
    rw [h] at this
    exact this
section
variable {m : Md} {s : ByteArray} {o p : Nat} {t first : Bool} {L : List (Int × Int)}
theorem BI.ends (h : BI m s o t false p L) (hk : sees s p [93] = true) : brk m s o = .ok (setT m L t, p + 1) := by
  obtain ⟨f, hf, e⟩ := h.is
  obtain ⟨f, rfl⟩ : ∃ g, f = g + 1 := ⟨f - 1, by have := h.le; omega⟩
  rw [e]
  unfold rest_ its
  rw [hk]
  rfl
theorem BI.err (h : BI m s o t first p L) (hk : first = true ∨ sees s p [93] = false) {e : Nat × Nat} (he : nxt m s o p first = .error e) : brk m s o = .error e := by
  obtain ⟨f, hf, eq⟩ := h.is
  obtain ⟨f, rfl⟩ : ∃ g, f = g + 1 := ⟨f - 1, by have := h.le; omega⟩
  rw [eq]
  unfold nxt at he
  unfold rest_
  cases first with
  | true =>
    simp only [if_true] at he ⊢
    rw [he]
    rfl
  | false =>
    simp only [Bool.false_eq_true, if_false] at he ⊢
    unfold its
    rcases hk with hk | hk
    · cases hk
    · rw [hk, he]
      rfl
theorem BI.next (h : BI m s o t first p L) (hk : first = true ∨ sees s p [93] = false) {l : List (Int × Int)} {q : Nat} (he : nxt m s o p first = .ok (l, q)) (hl : Fit l) (h4 : l.length ≤ 4) : BI m s o t false q (L ++ l) := by
  obtain ⟨f, hf, eq⟩ := h.is
  obtain ⟨f, rfl⟩ : ∃ g, f = g + 1 := ⟨f - 1, by have := h.le; omega⟩
  have hq := nxt_ok (by have := h.lt; have := h.le; omega) h.le he
  refine ⟨by have := h.lt; omega, hq.2, fun r hr => (List.mem_append.1 hr).elim (h.fit r) (hl r), by rw [List.length_append]; have := h.len; omega, fun k => (by cases k), ?_⟩
  unfold nxt at he
  unfold rest_ at eq
  cases first with
  | true =>
    simp only [if_true] at he eq
    rw [he] at eq
    rw [h.nil rfl, List.nil_append]
    exact ⟨s.size + 1, by omega, eq⟩
  | false =>
    simp only [Bool.false_eq_true, if_false] at he eq
    unfold its at eq
    rcases hk with hk | hk
    · cases hk
    · rw [hk, he] at eq
      exact ⟨f, by omega, eq⟩
end
theorem BI.start (m : Md) (s : ByteArray) (o : Nat) (h : o < s.size) : BI m s o (sees s (o + 1) [94]) true (if sees s (o + 1) [94] then o + 2 else o + 1) [] := by
  have hq : o < (if sees s (o + 1) [94] then o + 2 else o + 1) ∧ (if sees s (o + 1) [94] then o + 2 else o + 1) ≤ s.size := by
    split
    · rename_i h
      have := sees_len h (by simp)
      simp at this
      omega
    · omega
  refine ⟨hq.1, hq.2, fun r hr => by simp at hr, by simp, fun _ => rfl, s.size + 1, by omega, ?_⟩
  unfold brk rest_
  simp only [if_true]
  cases sgl m s o (if sees s (o + 1) [94] then o + 2 else o + 1) with
  | error e => rfl
  | ok x => rfl
/-- A minus that no span has. -/
theorem itm_min {m : Md} {s : ByteArray} {o p : Nat} (h1 : sees s p [45] = true) (h2 : sees s p [45, 93] = false) : itm m s o p = if p + 1 = s.size then .error (33, o) else .error (34, p) := by
  unfold itm
  rw [h1, h2]
  simp
theorem itm_sgl {m : Md} {s : ByteArray} {o p : Nat} (h : sees s p [45] = false ∨ sees s p [45, 93] = true) : itm m s o p = sgl m s o p := by
  unfold itm
  rcases h with h | h <;> rw [h] <;> simp
theorem nxt_sgl {m : Md} {s : ByteArray} {o p : Nat} {first : Bool} (h : first = true ∨ sees s p [45] = false ∨ sees s p [45, 93] = true) : nxt m s o p first = sgl m s o p := by
  unfold nxt
  cases first with
  | true => rfl
  | false =>
    simp only [Bool.false_eq_true, if_false]
    exact itm_sgl (h.resolve_left (by simp))
/- The class of what was read. -/
theorem set_norm {m : Md} {L C : List (Int × Int)} (h : IsC C fun c => In L c ∧ isChar m.c c) (hf : m.f = false) : IsC C (setQ m L false) := h.to fun c => by
  unfold setQ
  rw [hf]
  simp only [Bool.false_eq_true, if_false]
  exact and_comm
theorem fold_char {mc : Bool} {L C : List (Int × Int)} (h : IsC C fun c => In L c ∧ isChar mc c) (c : Int) : foldP C c ↔ isChar mc c ∧ foldQ (In L) c := by
  unfold foldP foldQ
  rw [h.mem, h.mem, h.mem]
  constructor
  · rintro (k | k | k)
    · exact ⟨k.2, .inl k.1⟩
    · exact ⟨char_letter _ _ (by omega) (by omega), .inr (.inl ⟨k.1.1, k.2⟩)⟩
    · exact ⟨char_letter _ _ (by omega) (by omega), .inr (.inr ⟨k.1.1, k.2⟩)⟩
  · rintro ⟨k0, k | k | k⟩
    · exact .inl ⟨k, k0⟩
    · exact .inr (.inl ⟨⟨k.1, char_letter _ _ (by omega) (by omega)⟩, k.2⟩)
    · exact .inr (.inr ⟨⟨k.1, char_letter _ _ (by omega) (by omega)⟩, k.2⟩)
theorem set_fold {m : Md} {L C E : List (Int × Int)} (h : IsC C fun c => In L c ∧ isChar m.c c) (hf : m.f = true) (k : IsC E (foldP C)) : IsC E (setQ m L false) := k.to fun c => by
  rw [fold_char h]
  unfold setQ
  rw [hf]
  simp only [Bool.false_eq_true, if_false, if_true]
theorem set_not {m : Md} {L C E : List (Int × Int)} (h : IsC C (setQ m L false)) (k : IsC E fun c => isChar m.c c ∧ ¬ In C c) : IsC E (setQ m L true) := k.to fun c => by
  rw [h.mem]
  unfold setQ
  simp only [Bool.false_eq_true, if_false, if_true]
  constructor
  · rintro ⟨k1, k2⟩
    exact ⟨k1, fun q => k2 ⟨k1, q⟩⟩
  · rintro ⟨k1, k2⟩
    exact ⟨k1, fun q => k2 q.2⟩
end Go.Proofs.YtloeajhmmjdlgaaGreatDoor
namespace Go.Proofs.YtloeajhmmjdlgaaGreatDoor
open Go Go.RowKit
attribute [local go_sem] ext_cell

/-- An item's answer, by its parts. -/
def ItV (w : World) (b : Nat) (s : ByteArray) (m : Md) (p : Nat) (v : Value) (r : Rs It) (ev : Bool) (cv : Int) (lv : Value) (tv : Int) (w' : World) : Prop :=
  Fr (At b) w w' ∧ match r with
  | .error (c, a) => SX w' b s m p v c a
  | .ok (e0, c0, L, q) => ev = e0 ∧ cv = c0 ∧ tv = (q : Int) ∧ RR w.heap.size w' lv L ∧ SX w' b s m p v 0 0
theorem ItIs.val {w : World} {b : Nat} {s : ByteArray} {m : Md} {p : Nat} {v : Value} {r : Rs It} {e : Ending} {w' : World} (h : ItIs w b s m p v r e w') :
    ∃ ev cv q n k tv, e = .returned (.agg #[.bool ev, .int .i64 cv, .slice q n k, .int .i64 tv]) ∧ ItV w b s m p v r ev cv (.slice q n k) tv w' := by
  obtain ⟨h1, h2⟩ := h
  cases r with
  | error x =>
    obtain ⟨c, a⟩ := x
    obtain ⟨ev, cv, q, n, k, tv, rfl, h3⟩ := h2
    exact ⟨ev, cv, q, n, k, tv, rfl, h1, h3⟩
  | ok x =>
    obtain ⟨e0, c0, L, q⟩ := x
    obtain ⟨lv, rfl, h3, h4⟩ := h2
    obtain ⟨q1, k1, rfl⟩ := h3.shape
    exact ⟨e0, c0, q1, _, k1, _, rfl, h1, rfl, rfl, rfl, h3, h4⟩
theorem ItV.put {w w7 w8 : World} {b : Nat} {s : ByteArray} {m : Md} {p : Nat} {v : Value} {r : Rs It} {ev : Bool} {cv tv : Int} {q : Option Addr} {n k g : Nat} (h : ItV w7 b s m p v r ev cv (.slice q n k) tv w8) (hB : Below w.heap.size w w7) (hz : IZ w8 g) (hg : w.heap.size ≤ g) (hb : b < w.heap.size) (x0 x1 x2 x3 : Value) :
    ItIs w b s m p v r (.returned (.agg #[.bool ev, .int .i64 cv, .slice q n k, .int .i64 tv])) (put4 w8 g x0 x1 x2 x3) := by
  obtain ⟨h1, h2⟩ := h
  have hbg : ¬ b = g := by omega
  refine ⟨fr4 ((Fr.of_below hB).trans h1) hg _ _ _ _, ?_⟩
  cases r with
  | error x =>
    obtain ⟨c, a⟩ := x
    exact ⟨ev, cv, q, n, k, tv, rfl, SX.fr h2 (fr4' _ _ _ _) hbg⟩
  | ok x =>
    obtain ⟨e0, c0, L, q0⟩ := x
    obtain ⟨rfl, rfl, rfl, h3, h4⟩ := h2
    exact ⟨_, rfl, (RR.mono h3 hB.size).fr (S := fun k => k = g) (fr4' _ _ _ _) (fun j hj e => ownsRow_not h3 hz (by decide) (by rw [hj, show j = g from e])), h4.fr (fr4' _ _ _ _) hbg⟩
set_option maxRecDepth 100000 in
set_option maxHeartbeats 4000000 in
theorem ritem_named {w : World} {b : Nat} {s : ByteArray} {m : Md} {p : Nat} {v : Value} (h : SX w b s m p v 0 0) (o k : Nat) {A B C : Bool} (hA : Hid (∀ W, SX W b s m p v 0 0 → Calls Tryz.prog 18 #[.pointer (some ⟨b, 0, none⟩), .int .i64 (k : Int), .string ⟨#[91, 58]⟩] W fun e w' => e = .returned (.bool A) ∧ Below W.heap.size W w'))
    (hB : Hid (∀ W, SX W b s m p v 0 0 → Calls Tryz.prog 18 #[.pointer (some ⟨b, 0, none⟩), .int .i64 (k : Int), .string ⟨#[91, 61]⟩] W fun e w' => e = .returned (.bool B) ∧ Below W.heap.size W w'))
    (hC : Hid (∀ W, SX W b s m p v 0 0 → Calls Tryz.prog 18 #[.pointer (some ⟨b, 0, none⟩), .int .i64 (k : Int), .string ⟨#[91, 46]⟩] W fun e w' => e = .returned (.bool C) ∧ Below W.heap.size W w'))
    (hor : A = true ∨ (A = false ∧ B = true) ∨ (A = false ∧ B = false ∧ C = true)) {r : Rs It} (hN : Hid (∀ W, SX W b s m p v 0 0 → Calls Tryz.prog 53 #[.pointer (some ⟨b, 0, none⟩), .int .i64 (k : Int), .int .i64 (o : Int)] W (ItIs W b s m p v r))) :
    Calls Tryz.prog 37 #[.pointer (some ⟨b, 0, none⟩), .int .i64 (k : Int), .int .i64 (o : Int)] w (ItIs w b s m p v r) := by
  have W1 : Below w.heap.size w (w.alloc itZ) := (Below.refl _ _).alloc (Nat.le_refl _) _
  have lb := h.lt
  have H : Hid (SX w b s m p v 0 0 ∧ Below w.heap.size w (w.alloc itZ)) := ⟨h, W1⟩
  clear h W1
  rcases hor with rfl | ⟨rfl, rfl⟩ | ⟨rfl, rfl, rfl⟩
  · skip
    go_enter Tryz.func37, Tryz.ntmps37
    go_wp2_with first
      | (go_at_call 18; (with_reducible refine (hA.out _ (H.out.1.kept H.out.2)).mono ?_); rintro e w5 ⟨rfl, h5⟩; have XA : Hid (SX w5 b s m p v 0 0 ∧ Below w.heap.size w w5 ∧ IZ w5 w.heap.size) := ⟨(H.out.1.kept H.out.2).kept h5, chain H.out.2 h5 (Nat.le_refl _), (IZ.new w).fr (Fr.of_below h5) (S := fun _ => False) (fun q => q)⟩; clear h5)
      | (go_at_call 18; (with_reducible refine (hB.out _ XA.out.1).mono ?_); rintro e w6 ⟨rfl, h5⟩; have XB : Hid (SX w6 b s m p v 0 0 ∧ Below w.heap.size w w6 ∧ IZ w6 w.heap.size) := ⟨XA.out.1.kept h5, chain XA.out.2.1 h5 (Nat.le_refl _), XA.out.2.2.fr (Fr.of_below h5) (S := fun _ => False) (fun q => q)⟩; clear h5)
      | (go_at_call 18; (with_reducible refine (hC.out _ XB.out.1).mono ?_); rintro e w7 ⟨rfl, h5⟩; have XC : Hid (SX w7 b s m p v 0 0 ∧ Below w.heap.size w w7 ∧ IZ w7 w.heap.size) := ⟨XB.out.1.kept h5, chain XB.out.2.1 h5 (Nat.le_refl _), XB.out.2.2.fr (Fr.of_below h5) (S := fun _ => False) (fun q => q)⟩; have q0 := XC.out.1.c0; have q1 := XC.out.1.c1; have ql := XC.out.1.lt; clear h5)
      | (go_at_call 53; (with_reducible refine (hN.out _ XC.out.1).mono ?_); rintro e w8 h8; obtain ⟨ev, cv, q8, n8, k8, tv, rfl, g8⟩ := h8.val; have X8 : Hid (ItV w7 b s m p v r ev cv (.slice q8 n8 k8) tv w8 ∧ IZ w8 w.heap.size) := ⟨g8, XC.out.2.2.fr g8.1 (by intro q; have : w.heap.size = b := q; omega)⟩; obtain ⟨z0, z1, z2, z3, y0, y1, y2, y3⟩ := X8.out.2.all; clear h8 g8)
    refine bodyPost_ret (v := .agg #[.bool ev, .int .i64 cv, .slice q8 n8 k8, .int .i64 tv]) (by obtain ⟨e0, e1, e2, e3⟩ := put4_cells X8.out.2 (.bool ev) (.int .i64 cv) (.slice q8 n8 k8) (.int .i64 tv); simp [results, Tryz.results37, go_sem, e0, e1, e2, e3]) rfl (X8.out.1.put XC.out.2.1 X8.out.2 (Nat.le_refl _) lb _ _ _ _)
  · skip
    go_enter Tryz.func37, Tryz.ntmps37
    go_wp2_with first
      | (go_at_call 18; (with_reducible refine (hA.out _ (H.out.1.kept H.out.2)).mono ?_); rintro e w5 ⟨rfl, h5⟩; have XA : Hid (SX w5 b s m p v 0 0 ∧ Below w.heap.size w w5 ∧ IZ w5 w.heap.size) := ⟨(H.out.1.kept H.out.2).kept h5, chain H.out.2 h5 (Nat.le_refl _), (IZ.new w).fr (Fr.of_below h5) (S := fun _ => False) (fun q => q)⟩; clear h5)
      | (go_at_call 18; (with_reducible refine (hB.out _ XA.out.1).mono ?_); rintro e w6 ⟨rfl, h5⟩; have XB : Hid (SX w6 b s m p v 0 0 ∧ Below w.heap.size w w6 ∧ IZ w6 w.heap.size) := ⟨XA.out.1.kept h5, chain XA.out.2.1 h5 (Nat.le_refl _), XA.out.2.2.fr (Fr.of_below h5) (S := fun _ => False) (fun q => q)⟩; clear h5)
      | (go_at_call 18; (with_reducible refine (hC.out _ XB.out.1).mono ?_); rintro e w7 ⟨rfl, h5⟩; have XC : Hid (SX w7 b s m p v 0 0 ∧ Below w.heap.size w w7 ∧ IZ w7 w.heap.size) := ⟨XB.out.1.kept h5, chain XB.out.2.1 h5 (Nat.le_refl _), XB.out.2.2.fr (Fr.of_below h5) (S := fun _ => False) (fun q => q)⟩; have q0 := XC.out.1.c0; have q1 := XC.out.1.c1; have ql := XC.out.1.lt; clear h5)
      | (go_at_call 53; (with_reducible refine (hN.out _ XC.out.1).mono ?_); rintro e w8 h8; obtain ⟨ev, cv, q8, n8, k8, tv, rfl, g8⟩ := h8.val; have X8 : Hid (ItV w7 b s m p v r ev cv (.slice q8 n8 k8) tv w8 ∧ IZ w8 w.heap.size) := ⟨g8, XC.out.2.2.fr g8.1 (by intro q; have : w.heap.size = b := q; omega)⟩; obtain ⟨z0, z1, z2, z3, y0, y1, y2, y3⟩ := X8.out.2.all; clear h8 g8)
    refine bodyPost_ret (v := .agg #[.bool ev, .int .i64 cv, .slice q8 n8 k8, .int .i64 tv]) (by obtain ⟨e0, e1, e2, e3⟩ := put4_cells X8.out.2 (.bool ev) (.int .i64 cv) (.slice q8 n8 k8) (.int .i64 tv); simp [results, Tryz.results37, go_sem, e0, e1, e2, e3]) rfl (X8.out.1.put XC.out.2.1 X8.out.2 (Nat.le_refl _) lb _ _ _ _)
  · skip
    go_enter Tryz.func37, Tryz.ntmps37
    go_wp2_with first
      | (go_at_call 18; (with_reducible refine (hA.out _ (H.out.1.kept H.out.2)).mono ?_); rintro e w5 ⟨rfl, h5⟩; have XA : Hid (SX w5 b s m p v 0 0 ∧ Below w.heap.size w w5 ∧ IZ w5 w.heap.size) := ⟨(H.out.1.kept H.out.2).kept h5, chain H.out.2 h5 (Nat.le_refl _), (IZ.new w).fr (Fr.of_below h5) (S := fun _ => False) (fun q => q)⟩; clear h5)
      | (go_at_call 18; (with_reducible refine (hB.out _ XA.out.1).mono ?_); rintro e w6 ⟨rfl, h5⟩; have XB : Hid (SX w6 b s m p v 0 0 ∧ Below w.heap.size w w6 ∧ IZ w6 w.heap.size) := ⟨XA.out.1.kept h5, chain XA.out.2.1 h5 (Nat.le_refl _), XA.out.2.2.fr (Fr.of_below h5) (S := fun _ => False) (fun q => q)⟩; clear h5)
      | (go_at_call 18; (with_reducible refine (hC.out _ XB.out.1).mono ?_); rintro e w7 ⟨rfl, h5⟩; have XC : Hid (SX w7 b s m p v 0 0 ∧ Below w.heap.size w w7 ∧ IZ w7 w.heap.size) := ⟨XB.out.1.kept h5, chain XB.out.2.1 h5 (Nat.le_refl _), XB.out.2.2.fr (Fr.of_below h5) (S := fun _ => False) (fun q => q)⟩; have q0 := XC.out.1.c0; have q1 := XC.out.1.c1; have ql := XC.out.1.lt; clear h5)
      | (go_at_call 53; (with_reducible refine (hN.out _ XC.out.1).mono ?_); rintro e w8 h8; obtain ⟨ev, cv, q8, n8, k8, tv, rfl, g8⟩ := h8.val; have X8 : Hid (ItV w7 b s m p v r ev cv (.slice q8 n8 k8) tv w8 ∧ IZ w8 w.heap.size) := ⟨g8, XC.out.2.2.fr g8.1 (by intro q; have : w.heap.size = b := q; omega)⟩; obtain ⟨z0, z1, z2, z3, y0, y1, y2, y3⟩ := X8.out.2.all; clear h8 g8)
    refine bodyPost_ret (v := .agg #[.bool ev, .int .i64 cv, .slice q8 n8 k8, .int .i64 tv]) (by obtain ⟨e0, e1, e2, e3⟩ := put4_cells X8.out.2 (.bool ev) (.int .i64 cv) (.slice q8 n8 k8) (.int .i64 tv); simp [results, Tryz.results37, go_sem, e0, e1, e2, e3]) rfl (X8.out.1.put XC.out.2.1 X8.out.2 (Nat.le_refl _) lb _ _ _ _)
set_option maxRecDepth 100000 in
set_option maxHeartbeats 4000000 in
theorem ritem_end {w : World} {b : Nat} {s : ByteArray} {m : Md} {p : Nat} {v : Value} (h : SX w b s m p v 0 0) (o k : Nat) (hA : Hid (∀ W, SX W b s m p v 0 0 → Calls Tryz.prog 18 #[.pointer (some ⟨b, 0, none⟩), .int .i64 (k : Int), .string ⟨#[91, 58]⟩] W fun e w' => e = .returned (.bool false) ∧ Below W.heap.size W w'))
    (hB : Hid (∀ W, SX W b s m p v 0 0 → Calls Tryz.prog 18 #[.pointer (some ⟨b, 0, none⟩), .int .i64 (k : Int), .string ⟨#[91, 61]⟩] W fun e w' => e = .returned (.bool false) ∧ Below W.heap.size W w'))
    (hC : Hid (∀ W, SX W b s m p v 0 0 → Calls Tryz.prog 18 #[.pointer (some ⟨b, 0, none⟩), .int .i64 (k : Int), .string ⟨#[91, 46]⟩] W fun e w' => e = .returned (.bool false) ∧ Below W.heap.size W w'))
    {c : Int} {n : Nat} (hU : ∀ W, Calls Tryz.prog 15 #[.string s, .int .i64 (k : Int), .bool m.c] W fun e w' => e = .returned (.tuple #[.int .i64 c, .int .i64 (n : Int)]) ∧ Below W.heap.size W w') (hn : n = 0) (T : Nat) (hT : T = k + n) (hT2 : T ≤ 10000) :
    Calls Tryz.prog 37 #[.pointer (some ⟨b, 0, none⟩), .int .i64 (k : Int), .int .i64 (o : Int)] w (ItIs w b s m p v (.error (33, o))) := by
  have W1 : Below w.heap.size w (w.alloc itZ) := (Below.refl _ _).alloc (Nat.le_refl _) _
  have lb := h.lt
  have H : Hid (SX w b s m p v 0 0 ∧ Below w.heap.size w (w.alloc itZ)) := ⟨h, W1⟩
  clear h W1
  have hw1 : IntKind.wrap .i64 ((k : Int) + (n : Int)) = (T : Int) := by rw [wrap_small _ (by omega) (by omega)]; omega
  have d0 : ((n : Int) == 0) = true := by simp [hn]
  clear hn
  clear hT
  go_enter Tryz.func37, Tryz.ntmps37
  go_upto_region 6 with first
    | (go_at_call 18; (with_reducible refine (hA.out _ (H.out.1.kept H.out.2)).mono ?_); rintro e w5 ⟨rfl, h5⟩; have XA : Hid (SX w5 b s m p v 0 0 ∧ Below w.heap.size w w5 ∧ IZ w5 w.heap.size) := ⟨(H.out.1.kept H.out.2).kept h5, chain H.out.2 h5 (Nat.le_refl _), (IZ.new w).fr (Fr.of_below h5) (S := fun _ => False) (fun q => q)⟩; clear h5)
    | (go_at_call 18; (with_reducible refine (hB.out _ XA.out.1).mono ?_); rintro e w6 ⟨rfl, h5⟩; have XB : Hid (SX w6 b s m p v 0 0 ∧ Below w.heap.size w w6 ∧ IZ w6 w.heap.size) := ⟨XA.out.1.kept h5, chain XA.out.2.1 h5 (Nat.le_refl _), XA.out.2.2.fr (Fr.of_below h5) (S := fun _ => False) (fun q => q)⟩; clear h5)
    | (go_at_call 18; (with_reducible refine (hC.out _ XB.out.1).mono ?_); rintro e w7 ⟨rfl, h5⟩; have XC : Hid (SX w7 b s m p v 0 0 ∧ Below w.heap.size w w7 ∧ IZ w7 w.heap.size) := ⟨XB.out.1.kept h5, chain XB.out.2.1 h5 (Nat.le_refl _), XB.out.2.2.fr (Fr.of_below h5) (S := fun _ => False) (fun q => q)⟩; have q0 := XC.out.1.c0; have q1 := XC.out.1.c1; have ql := XC.out.1.lt; clear h5)
  refine wp_region_ext (by kernel_rfl) (by kernel_rfl) ?_
  repeat (go_big_quiet_step (first | exact rfl | (go_at_call 15; exact ext_call (hU _))))
  refine wpQuiet_nil ?_
  intro w9 hw9
  have X9 : Hid (SX w9 b s m p v 0 0 ∧ Below w.heap.size w w9 ∧ IZ w9 w.heap.size) := ⟨XC.out.1.kept (ext_of hw9), chain XC.out.2.1 (ext_of hw9) (Nat.le_refl _), XC.out.2.2.fr (Fr.of_below (ext_of hw9)) (S := fun _ => False) (fun q => q)⟩
  have r9 := X9.out.1.lt
  clear hw9
  go_wp2_with (go_at_call 19; refine (rno_new X9.out.1 33 o).mono ?_; rintro e wn ⟨rfl, h6, g6⟩; have X6 : Hid (SX wn b s m p v 33 o ∧ Fr (At b) w wn ∧ IZ wn w.heap.size) := ⟨h6, (Fr.of_below X9.out.2.1).trans g6, X9.out.2.2.fr g6 (by intro q; have : w.heap.size = b := q; omega)⟩; have rl := X6.out.1.lt; have X8 : Hid (SX (wn.alloc (.cells #[.int .i64 c, .int .i64 c] 39)) b s m p v 33 o ∧ Fr (At b) w (wn.alloc (.cells #[.int .i64 c, .int .i64 c] 39)) ∧ IZ (wn.alloc (.cells #[.int .i64 c, .int .i64 c] 39)) w.heap.size) := ⟨X6.out.1.kept ((Below.refl _ _).alloc (Nat.le_refl _) _), X6.out.2.1.alloc _, X6.out.2.2.fr (S := fun _ => False) (Fr.of_below ((Below.refl _ _).alloc (Nat.le_refl _) _)) (fun q => q)⟩; obtain ⟨z0, z1, z2, z3, y0, y1, y2, y3⟩ := X8.out.2.2.all; clear h6 g6)
  refine bodyPost_ret (v := .agg #[.bool true, .int .i64 c, .slice (some ⟨wn.heap.size, 0, none⟩) 1 1, .int .i64 (T : Int)]) (by obtain ⟨e0, e1, e2, e3⟩ := put4_cells X8.out.2.2 (.bool true) (.int .i64 c) (.slice (some ⟨wn.heap.size, 0, none⟩) 1 1) (.int .i64 (T : Int)); simp [results, Tryz.results37, go_sem, e0, e1, e2, e3]) rfl ⟨fr4 X8.out.2.1 (Nat.le_refl _) _ _ _ _, _, _, _, _, _, _, rfl, X8.out.1.fr (fr4' _ _ _ _) (by intro q; have : b = w.heap.size := q; omega)⟩
set_option maxRecDepth 100000 in
set_option maxHeartbeats 4000000 in
theorem ritem_neg {w : World} {b : Nat} {s : ByteArray} {m : Md} {p : Nat} {v : Value} (h : SX w b s m p v 0 0) (o k : Nat) (hA : Hid (∀ W, SX W b s m p v 0 0 → Calls Tryz.prog 18 #[.pointer (some ⟨b, 0, none⟩), .int .i64 (k : Int), .string ⟨#[91, 58]⟩] W fun e w' => e = .returned (.bool false) ∧ Below W.heap.size W w'))
    (hB : Hid (∀ W, SX W b s m p v 0 0 → Calls Tryz.prog 18 #[.pointer (some ⟨b, 0, none⟩), .int .i64 (k : Int), .string ⟨#[91, 61]⟩] W fun e w' => e = .returned (.bool false) ∧ Below W.heap.size W w'))
    (hC : Hid (∀ W, SX W b s m p v 0 0 → Calls Tryz.prog 18 #[.pointer (some ⟨b, 0, none⟩), .int .i64 (k : Int), .string ⟨#[91, 46]⟩] W fun e w' => e = .returned (.bool false) ∧ Below W.heap.size W w'))
    {c : Int} {n : Nat} (hU : ∀ W, Calls Tryz.prog 15 #[.string s, .int .i64 (k : Int), .bool m.c] W fun e w' => e = .returned (.tuple #[.int .i64 c, .int .i64 (n : Int)]) ∧ Below W.heap.size W w') (hn : 0 < n) (hc : c < 0) (T : Nat) (hT : T = k + n) (hT2 : T ≤ 10000) :
    Calls Tryz.prog 37 #[.pointer (some ⟨b, 0, none⟩), .int .i64 (k : Int), .int .i64 (o : Int)] w (ItIs w b s m p v (.error (20, k))) := by
  have W1 : Below w.heap.size w (w.alloc itZ) := (Below.refl _ _).alloc (Nat.le_refl _) _
  have lb := h.lt
  have H : Hid (SX w b s m p v 0 0 ∧ Below w.heap.size w (w.alloc itZ)) := ⟨h, W1⟩
  clear h W1
  have hw1 : IntKind.wrap .i64 ((k : Int) + (n : Int)) = (T : Int) := by rw [wrap_small _ (by omega) (by omega)]; omega
  have d0 : ((n : Int) == 0) = false := by simp; omega
  clear hT
  go_enter Tryz.func37, Tryz.ntmps37
  go_upto_region 6 with first
    | (go_at_call 18; (with_reducible refine (hA.out _ (H.out.1.kept H.out.2)).mono ?_); rintro e w5 ⟨rfl, h5⟩; have XA : Hid (SX w5 b s m p v 0 0 ∧ Below w.heap.size w w5 ∧ IZ w5 w.heap.size) := ⟨(H.out.1.kept H.out.2).kept h5, chain H.out.2 h5 (Nat.le_refl _), (IZ.new w).fr (Fr.of_below h5) (S := fun _ => False) (fun q => q)⟩; clear h5)
    | (go_at_call 18; (with_reducible refine (hB.out _ XA.out.1).mono ?_); rintro e w6 ⟨rfl, h5⟩; have XB : Hid (SX w6 b s m p v 0 0 ∧ Below w.heap.size w w6 ∧ IZ w6 w.heap.size) := ⟨XA.out.1.kept h5, chain XA.out.2.1 h5 (Nat.le_refl _), XA.out.2.2.fr (Fr.of_below h5) (S := fun _ => False) (fun q => q)⟩; clear h5)
    | (go_at_call 18; (with_reducible refine (hC.out _ XB.out.1).mono ?_); rintro e w7 ⟨rfl, h5⟩; have XC : Hid (SX w7 b s m p v 0 0 ∧ Below w.heap.size w w7 ∧ IZ w7 w.heap.size) := ⟨XB.out.1.kept h5, chain XB.out.2.1 h5 (Nat.le_refl _), XB.out.2.2.fr (Fr.of_below h5) (S := fun _ => False) (fun q => q)⟩; have q0 := XC.out.1.c0; have q1 := XC.out.1.c1; have ql := XC.out.1.lt; clear h5)
  refine wp_region_ext (by kernel_rfl) (by kernel_rfl) ?_
  repeat (go_big_quiet_step (first | exact rfl | (go_at_call 15; exact ext_call (hU _))))
  refine wpQuiet_nil ?_
  intro w9 hw9
  have X9 : Hid (SX w9 b s m p v 0 0 ∧ Below w.heap.size w w9 ∧ IZ w9 w.heap.size) := ⟨XC.out.1.kept (ext_of hw9), chain XC.out.2.1 (ext_of hw9) (Nat.le_refl _), XC.out.2.2.fr (Fr.of_below (ext_of hw9)) (S := fun _ => False) (fun q => q)⟩
  have r9 := X9.out.1.lt
  clear hw9
  go_wp2_with (go_at_call 19; refine (rno_new X9.out.1 20 k).mono ?_; rintro e wn ⟨rfl, h6, g6⟩; have X6 : Hid (SX wn b s m p v 20 k ∧ Fr (At b) w wn ∧ IZ wn w.heap.size) := ⟨h6, (Fr.of_below X9.out.2.1).trans g6, X9.out.2.2.fr g6 (by intro q; have : w.heap.size = b := q; omega)⟩; have rl := X6.out.1.lt; have X8 : Hid (SX (wn.alloc (.cells #[.int .i64 c, .int .i64 c] 39)) b s m p v 20 k ∧ Fr (At b) w (wn.alloc (.cells #[.int .i64 c, .int .i64 c] 39)) ∧ IZ (wn.alloc (.cells #[.int .i64 c, .int .i64 c] 39)) w.heap.size) := ⟨X6.out.1.kept ((Below.refl _ _).alloc (Nat.le_refl _) _), X6.out.2.1.alloc _, X6.out.2.2.fr (S := fun _ => False) (Fr.of_below ((Below.refl _ _).alloc (Nat.le_refl _) _)) (fun q => q)⟩; obtain ⟨z0, z1, z2, z3, y0, y1, y2, y3⟩ := X8.out.2.2.all; clear h6 g6)
  refine bodyPost_ret (v := .agg #[.bool true, .int .i64 c, .slice (some ⟨wn.heap.size, 0, none⟩) 1 1, .int .i64 (T : Int)]) (by obtain ⟨e0, e1, e2, e3⟩ := put4_cells X8.out.2.2 (.bool true) (.int .i64 c) (.slice (some ⟨wn.heap.size, 0, none⟩) 1 1) (.int .i64 (T : Int)); simp [results, Tryz.results37, go_sem, e0, e1, e2, e3]) rfl ⟨fr4 X8.out.2.1 (Nat.le_refl _) _ _ _ _, _, _, _, _, _, _, rfl, X8.out.1.fr (fr4' _ _ _ _) (by intro q; have : b = w.heap.size := q; omega)⟩
set_option maxRecDepth 100000 in
set_option maxHeartbeats 4000000 in
theorem ritem_chr {w : World} {b : Nat} {s : ByteArray} {m : Md} {p : Nat} {v : Value} (h : SX w b s m p v 0 0) (o k : Nat) (hA : Hid (∀ W, SX W b s m p v 0 0 → Calls Tryz.prog 18 #[.pointer (some ⟨b, 0, none⟩), .int .i64 (k : Int), .string ⟨#[91, 58]⟩] W fun e w' => e = .returned (.bool false) ∧ Below W.heap.size W w'))
    (hB : Hid (∀ W, SX W b s m p v 0 0 → Calls Tryz.prog 18 #[.pointer (some ⟨b, 0, none⟩), .int .i64 (k : Int), .string ⟨#[91, 61]⟩] W fun e w' => e = .returned (.bool false) ∧ Below W.heap.size W w'))
    (hC : Hid (∀ W, SX W b s m p v 0 0 → Calls Tryz.prog 18 #[.pointer (some ⟨b, 0, none⟩), .int .i64 (k : Int), .string ⟨#[91, 46]⟩] W fun e w' => e = .returned (.bool false) ∧ Below W.heap.size W w'))
    {c : Int} {n : Nat} (hU : ∀ W, Calls Tryz.prog 15 #[.string s, .int .i64 (k : Int), .bool m.c] W fun e w' => e = .returned (.tuple #[.int .i64 c, .int .i64 (n : Int)]) ∧ Below W.heap.size W w') (hn : 0 < n) (hc : ¬ c < 0) (T : Nat) (hT : T = k + n) (hT2 : T ≤ 10000) :
    Calls Tryz.prog 37 #[.pointer (some ⟨b, 0, none⟩), .int .i64 (k : Int), .int .i64 (o : Int)] w (ItIs w b s m p v (.ok (true, c, [(c, c)], T))) := by
  have W1 : Below w.heap.size w (w.alloc itZ) := (Below.refl _ _).alloc (Nat.le_refl _) _
  have lb := h.lt
  have H : Hid (SX w b s m p v 0 0 ∧ Below w.heap.size w (w.alloc itZ)) := ⟨h, W1⟩
  clear h W1
  have hw1 : IntKind.wrap .i64 ((k : Int) + (n : Int)) = (T : Int) := by rw [wrap_small _ (by omega) (by omega)]; omega
  have d0 : ((n : Int) == 0) = false := by simp; omega
  clear hT
  go_enter Tryz.func37, Tryz.ntmps37
  go_upto_region 6 with first
    | (go_at_call 18; (with_reducible refine (hA.out _ (H.out.1.kept H.out.2)).mono ?_); rintro e w5 ⟨rfl, h5⟩; have XA : Hid (SX w5 b s m p v 0 0 ∧ Below w.heap.size w w5 ∧ IZ w5 w.heap.size) := ⟨(H.out.1.kept H.out.2).kept h5, chain H.out.2 h5 (Nat.le_refl _), (IZ.new w).fr (Fr.of_below h5) (S := fun _ => False) (fun q => q)⟩; clear h5)
    | (go_at_call 18; (with_reducible refine (hB.out _ XA.out.1).mono ?_); rintro e w6 ⟨rfl, h5⟩; have XB : Hid (SX w6 b s m p v 0 0 ∧ Below w.heap.size w w6 ∧ IZ w6 w.heap.size) := ⟨XA.out.1.kept h5, chain XA.out.2.1 h5 (Nat.le_refl _), XA.out.2.2.fr (Fr.of_below h5) (S := fun _ => False) (fun q => q)⟩; clear h5)
    | (go_at_call 18; (with_reducible refine (hC.out _ XB.out.1).mono ?_); rintro e w7 ⟨rfl, h5⟩; have XC : Hid (SX w7 b s m p v 0 0 ∧ Below w.heap.size w w7 ∧ IZ w7 w.heap.size) := ⟨XB.out.1.kept h5, chain XB.out.2.1 h5 (Nat.le_refl _), XB.out.2.2.fr (Fr.of_below h5) (S := fun _ => False) (fun q => q)⟩; have q0 := XC.out.1.c0; have q1 := XC.out.1.c1; have ql := XC.out.1.lt; clear h5)
  refine wp_region_ext (by kernel_rfl) (by kernel_rfl) ?_
  repeat (go_big_quiet_step (first | exact rfl | (go_at_call 15; exact ext_call (hU _))))
  refine wpQuiet_nil ?_
  intro w9 hw9
  have X9 : Hid (SX w9 b s m p v 0 0 ∧ Below w.heap.size w w9 ∧ IZ w9 w.heap.size) := ⟨XC.out.1.kept (ext_of hw9), chain XC.out.2.1 (ext_of hw9) (Nat.le_refl _), XC.out.2.2.fr (Fr.of_below (ext_of hw9)) (S := fun _ => False) (fun q => q)⟩
  have r9 := X9.out.1.lt
  clear hw9
  have X8 : Hid (SX (w9.alloc (.cells #[.int .i64 c, .int .i64 c] 39)) b s m p v 0 0 ∧ Below w.heap.size w (w9.alloc (.cells #[.int .i64 c, .int .i64 c] 39)) ∧ IZ (w9.alloc (.cells #[.int .i64 c, .int .i64 c] 39)) w.heap.size ∧ RR w.heap.size (w9.alloc (.cells #[.int .i64 c, .int .i64 c] 39)) (.slice (some ⟨w9.heap.size, 0, none⟩) 1 1) [(c, c)]) := ⟨X9.out.1.kept ((Below.refl _ _).alloc (Nat.le_refl _) _), X9.out.2.1.alloc X9.out.2.1.size _, X9.out.2.2.fr (S := fun _ => False) (Fr.of_below ((Below.refl _ _).alloc (Nat.le_refl _) _)) (fun q => q), RR.mono (World.ownsRow_lit w9 #[.int .i64 c, .int .i64 c] 1 (Nat.le_refl _) (by unfold maxLen; omega) rfl) X9.out.2.1.size⟩
  obtain ⟨z0, z1, z2, z3, y0, y1, y2, y3⟩ := X8.out.2.2.1.all
  go_wp2
  refine bodyPost_ret (v := .agg #[.bool true, .int .i64 c, .slice (some ⟨w9.heap.size, 0, none⟩) 1 1, .int .i64 (T : Int)]) (by obtain ⟨e0, e1, e2, e3⟩ := put4_cells X8.out.2.2.1 (.bool true) (.int .i64 c) (.slice (some ⟨w9.heap.size, 0, none⟩) 1 1) (.int .i64 (T : Int)); simp [results, Tryz.results37, go_sem, e0, e1, e2, e3]) rfl ⟨fr4 (Fr.of_below X8.out.2.1) (Nat.le_refl _) _ _ _ _, _, rfl, (X8.out.2.2.2.fr (S := fun k => k = w.heap.size) (fr4' _ _ _ _) (fun k hk e => ownsRow_not X8.out.2.2.2 X8.out.2.2.1 (by decide) (by rw [hk, show k = _ from e]))), X8.out.1.fr (fr4' _ _ _ _) (by intro q; have : b = w.heap.size := q; omega)⟩
theorem ritem_c {w : World} {b : Nat} {s : ByteArray} {m : Md} {p : Nat} {v : Value} (h : SX w b s m p v 0 0) (hs : s.size ≤ 2000) (o k : Nat) (hk : k ≤ 5000) :
    Calls Tryz.prog 37 #[.pointer (some ⟨b, 0, none⟩), .int .i64 (k : Int), .int .i64 (o : Int)] w (ItIs w b s m p v (itmI m s o k)) := by
  have HI : ∀ (x : UInt8) (t : ByteArray), t = ⟨#[91, x]⟩ → ∀ W, SX W b s m p v 0 0 → Calls Tryz.prog 18 #[.pointer (some ⟨b, 0, none⟩), .int .i64 (k : Int), .string t] W fun e w' => e = .returned (.bool (sees s k [91, x])) ∧ Below W.heap.size W w' := fun x t ht W hW => by
    have := ris_c hW hs k hk t (by rw [ht]; exact Nat.zero_lt_succ 1) (by rw [ht]; exact Nat.le_refl 2)
    rw [ht] at this ⊢
    exact this
  have hA := hide (HI 58 ⟨#[91, 58]⟩ rfl)
  have hB := hide (HI 61 ⟨#[91, 61]⟩ rfl)
  have hC := hide (HI 46 ⟨#[91, 46]⟩ rfl)
  unfold itmI
  cases h1 : sees s k [91, 58] with
  | true => exact ritem_named h o k hA hB hC (.inl h1) (hide fun W hW => rnam_c hW hs o k h1)
  | false =>
    simp only [Bool.false_eq_true, if_false]
    cases h2 : sees s k [91, 61] with
    | true => exact ritem_named h o k hA hB hC (.inr (.inl ⟨h1, h2⟩)) (hide fun W hW => relm61_c hW hs o k h2)
    | false =>
      simp only [Bool.false_eq_true, if_false]
      cases h3 : sees s k [91, 46] with
      | true => exact ritem_named h o k hA hB hC (.inr (.inr ⟨h1, h2, h3⟩)) (hide fun W hW => relm46_c hW hs o k h3)
      | false =>
        simp only [Bool.false_eq_true, if_false]
        rw [h1] at hA
        rw [h2] at hB
        rw [h3] at hC
        unfold chrI
        by_cases hz : s.size ≤ k
        · rw [if_pos hz]
          exact ritem_end h o k hA hB hC (c := 0) (n := 0) (fun W => runit_out s k m W hz hk) rfl k rfl (by omega)
        · rw [if_neg hz]
          have hu := un_wd m s k (by omega)
          have hU := fun W => runit_c s k m W (by omega) hs
          unfold chr
          by_cases hc : (un m s k).1 < 0
          · rw [if_pos hc]
            exact ritem_neg h o k hA hB hC hU (by omega) hc _ rfl (by omega)
          · rw [if_neg hc]
            exact ritem_chr h o k hA hB hC hU (by omega) hc _ rfl (by omega)
end Go.Proofs.YtloeajhmmjdlgaaGreatDoor
namespace Go.Proofs.YtloeajhmmjdlgaaGreatDoor
open Go Go.RowKit

/-- An item in memory. -/
def IA (w : World) (g : Nat) (ev : Bool) (c : Int) (lv : Value) (t : Int) : Prop := w.heap[g]? = some (.cells #[.bool ev, .int .i64 c, lv, .int .i64 t] 70 (0, 0))
section
variable {w w' : World} {g : Nat} {ev : Bool} {c : Int} {lv : Value} {t : Int}
theorem IA.lt (h : IA w g ev c lv t) : g < w.heap.size := lt_of_heap h
theorem IA.kept (h : IA w g ev c lv t) (hb : Below w.heap.size w w') : IA w' g ev c lv t := (hb.block g h.lt).trans h
theorem IA.fr {S : Nat → Prop} (h : IA w g ev c lv t) (hb : Fr S w w') (hn : ¬ S g) : IA w' g ev c lv t := (hb.block g h.lt hn).trans h
theorem IA.sx {b : Nat} {s : ByteArray} {m : Md} {p : Nat} {tv : Value} {e a : Nat} (h : IA w g ev c lv t) (hx : SX w b s m p tv e a) (hb : Fr (At b) w w') : IA w' g ev c lv t := h.fr hb fun q => by
  rw [show g = b from q] at h
  unfold SX at hx
  unfold IA at h
  rw [h] at hx
  simp at hx
theorem IA.all (h : IA w g ev c lv t) : w.cell? ⟨g, 0, none⟩ = some (.bool ev) ∧ w.cell? ⟨g, 1, none⟩ = some (.int .i64 c) ∧ w.cell? ⟨g, 2, none⟩ = some lv ∧ w.cell? ⟨g, 3, none⟩ = some (.int .i64 t) :=
  ⟨cell_row h (i := 0) rfl, cell_row h (i := 1) rfl, cell_row h (i := 2) rfl, cell_row h (i := 3) rfl⟩
end
/-- How the reader and the list stand. -/
structure St (w : World) (b : Nat) (s : ByteArray) (m : Md) (p : Nat) (v lv : Value) (L : List (Int × Int)) (e a : Nat) (W : World) : Prop where
  sx : SX W b s m p v e a
  fr : Fr (At b) w W
  rr : RR w.heap.size W lv L
section
variable {w : World} {b : Nat} {s : ByteArray} {m : Md} {p : Nat} {v lv : Value} {L : List (Int × Int)} {e a : Nat} {W W' : World}
theorem St.kept (h : St w b s m p v lv L e a W) (hb : Below W.heap.size W W') : St w b s m p v lv L e a W' := ⟨h.sx.kept hb, h.fr.trans (Fr.of_below hb), h.rr.kept hb⟩
theorem St.at (h : St w b s m p v lv L e a W) (hf : Fr (At b) W W') {e' a' : Nat} (hx : SX W' b s m p v e' a') : St w b s m p v lv L e' a' W' := ⟨hx, h.fr.trans hf, h.rr.sx h.sx hf⟩
theorem St.app (h : St w b s m p v lv L e a W) {V W6 : World} (hB : Below W.heap.size W V) (hg : V.grownBy W6 lv.ownBlock) {v' : Value} {L' : List (Int × Int)} (hr : RR w.heap.size W6 v' L') :
    St w b s m p v v' L' e a W6 ∧ ∀ g ev c l t, IA W g ev c l t → IA W6 g ev c l t := by
  have h1 := h.kept hB
  have hf : Fr (fun k => lv.ownBlock = some k) V W6 := Fr.grown (Fr.refl _ _) hg (fun k hk => hk)
  refine ⟨⟨h1.sx.fr hf (ownsRow_not h1.rr h1.sx (by decide)), h1.fr.comp hf (fun j hj => .inr (ownsRow_at h1.rr hj).1), hr⟩, fun g ev c l t hi => ?_⟩
  have h2 := hi.kept hB
  exact h2.fr hf (ownsRow_not h1.rr h2 (by decide))
theorem St.item (h : St w b s m p v lv L 0 0 W) {r : Rs It} {ev : Bool} {cv tv : Int} {lv1 : Value} {w4 : World} (hi : ItV W b s m p v r ev cv lv1 tv w4) :
    IA (w4.alloc (.cells #[.bool ev, .int .i64 cv, lv1, .int .i64 tv] 70)) w4.heap.size ev cv lv1 tv ∧ (∀ g e0 c0 l0 t0, IA W g e0 c0 l0 t0 → IA (w4.alloc (.cells #[.bool ev, .int .i64 cv, lv1, .int .i64 tv] 70)) g e0 c0 l0 t0) ∧ match r with
    | .error (c, a) => St w b s m p v lv L c a (w4.alloc (.cells #[.bool ev, .int .i64 cv, lv1, .int .i64 tv] 70))
    | .ok (e0, c0, L1, q) => ev = e0 ∧ cv = c0 ∧ tv = (q : Int) ∧ RR w.heap.size (w4.alloc (.cells #[.bool ev, .int .i64 cv, lv1, .int .i64 tv] 70)) lv1 L1 ∧ St w b s m p v lv L 0 0 (w4.alloc (.cells #[.bool ev, .int .i64 cv, lv1, .int .i64 tv] 70)) := by
  have hB : Below w4.heap.size w4 (w4.alloc (.cells #[.bool ev, .int .i64 cv, lv1, .int .i64 tv] 70)) := (Below.refl _ _).alloc (Nat.le_refl _) _
  have hI : IA (w4.alloc (.cells #[.bool ev, .int .i64 cv, lv1, .int .i64 tv] 70)) w4.heap.size ev cv lv1 tv := alloc_new _ _
  obtain ⟨h1, h2⟩ := hi
  refine ⟨hI, fun g e0 c0 l0 t0 hg => (hg.sx h.sx h1).kept hB, ?_⟩
  cases r with
  | error x =>
    obtain ⟨c, a⟩ := x
    exact (h.at h1 h2).kept hB
  | ok x =>
    obtain ⟨e0, c0, L1, q⟩ := x
    obtain ⟨rfl, rfl, rfl, h3, h4⟩ := h2
    exact ⟨rfl, rfl, rfl, RR.mono (h3.kept hB) h.fr.size, (h.at h1 h4).kept hB⟩
end
theorem ris1 {b : Nat} {s : ByteArray} {m : Md} {p : Nat} {v : Value} (hs : s.size ≤ 2000) (k : Nat) (hk : k ≤ 5000) (x : UInt8) {E : Bool} (hE : E = sees s k [x]) (W : World) (hW : SX W b s m p v 0 0) :
    Calls Tryz.prog 18 #[.pointer (some ⟨b, 0, none⟩), .int .i64 (k : Int), .string ⟨#[x]⟩] W fun e w' => e = .returned (.bool E) ∧ Below W.heap.size W w' := by
  rw [hE]
  exact ris_c hW hs k hk ⟨#[x]⟩ (Nat.zero_lt_succ 0) (Nat.le_succ 1)
theorem ris2 {b : Nat} {s : ByteArray} {m : Md} {p : Nat} {v : Value} (hs : s.size ≤ 2000) (k : Nat) (hk : k ≤ 5000) (x y : UInt8) {E : Bool} (hE : E = sees s k [x, y]) (W : World) (hW : SX W b s m p v 0 0) :
    Calls Tryz.prog 18 #[.pointer (some ⟨b, 0, none⟩), .int .i64 (k : Int), .string ⟨#[x, y]⟩] W fun e w' => e = .returned (.bool E) ∧ Below W.heap.size W w' := by
  rw [hE]
  exact ris_c hW hs k hk ⟨#[x, y]⟩ (Nat.zero_lt_succ 1) (Nat.le_refl 2)
theorem puts_err {base : Nat} {w : World} {b : Nat} {s : ByteArray} {m : Md} {p : Nat} {v lv : Value} {L : List (Int × Int)} {D : List Dt} {c a : Nat} {W : World} {RB : Rs (Tk × Nat)} (H : Room base w b s m p v D) (h : St w b s m p v lv L c a W) (hr : RB = .error (c, a)) : Puts base w b s m p D RB (.returned (.tuple #[])) W := by
  rw [hr]
  exact ⟨rfl, h.fr.below H.size (fun k hk => by have := H.low; have : k = b := hk; omega), v, h.sx⟩
theorem St.room {base : Nat} {w : World} {b : Nat} {s : ByteArray} {m : Md} {p : Nat} {v lv : Value} {L : List (Int × Int)} {D : List Dt} {W : World} (H : Room base w b s m p v D) (h : St w b s m p v lv L 0 0 W) : Room base W b s m p v D ∧ Below base w W :=
  ⟨⟨h.sx, H.tl.sx H.sx h.fr, H.low, H.few, H.len, H.at_⟩, h.fr.below H.size (fun k hk => by have := H.low; have : k = b := hk; omega)⟩
/-- Is something wrong? -/
def erM (w : World) (b : Nat) : Nat := match w.cell? ⟨b, 5, none⟩ with
  | some (.int _ x) => x.toNat
  | _ => 0
theorem SX.er {w : World} {b : Nat} {s : ByteArray} {m : Md} {p : Nat} {tv : Value} {e a : Nat} (h : SX w b s m p tv e a) : erM w b = e := by
  unfold erM
  rw [h.c5]
  exact Int.toNat_natCast e
theorem itm_code {m : Md} {s : ByteArray} {o p c a : Nat} (ho : o ≤ s.size) (hp : p ≤ s.size) (h : itmI m s o p = .error (c, a)) : c ≠ 0 := by
  have h1 := sgl_err hp h
  have h2 := sgl_rng m s o p ho hp
  rw [h1] at h2
  have := h2.1
  omega
def BR (w : World) (b : Nat) (s : ByteArray) (m : Md) (p : Nat) (v : Value) (T : Bool) (RB : Rs (Tk × Nat)) (u l f : Value) (wr : World) : Prop :=
  (∃ first K L, u = .int .i64 ((K : Nat) : Int) ∧ f = .bool first ∧ St w b s m p v l L 0 0 wr ∧ BI m s p T first K L) ∨
  (∃ c a x L fb, u = .int .i64 x ∧ f = .bool fb ∧ St w b s m p v l L c a wr ∧ c ≠ 0 ∧ RB = .error (c, a))
def bkM (s : ByteArray) (b : Nat) (u : Value) (wr : World) : Nat := if erM wr b = 0 then s.size + 2 - (intOf u).toNat else 0
end Go.Proofs.YtloeajhmmjdlgaaGreatDoor
