/-
  The document's entries and the table's own map: the same, step by step.
-/
import Derived.Test.YtmfljfedpdipiaaRefD
import Derived.Test.YtmfljfedpdipiaaAll5
namespace Go.Proofs.Ytmfljfedpdipiaa
open Go Go.RowKit

/-- Entries of one width, rising. -/
def Lex (W : Nat) (E : List Ent) : Prop := (∀ e ∈ E, e.key.length = W) ∧ E.Pairwise (fun a c => lexC a.key c.key = -1)
/-- The map is what the entries say. -/
def Same (m : List Int → Option Int) (E : List Ent) : Prop := ∀ (k : List Int) (v : Int), m k = some v ↔ ∃ e ∈ E, e.key = k ∧ e.val = v

theorem lexC_irrefl {a : List Int} (h : lexC a a = -1) : False := by rw [lexC_self] at h; cases h
theorem lexC_asym {a c : List Int} (hl : a.length = c.length) (h : lexC a c = -1) (h' : lexC c a = -1) : False := by
  rw [lexC_anti a c hl, h] at h'; cases h'

theorem Lex.tail {W : Nat} {e : Ent} {E : List Ent} (h : Lex W (e :: E)) : Lex W E := ⟨fun x hx => h.1 x (List.mem_cons_of_mem _ hx), (List.pairwise_cons.1 h.2).2⟩
theorem Lex.head {W : Nat} {e : Ent} {E : List Ent} (h : Lex W (e :: E)) : ∀ x ∈ E, lexC e.key x.key = -1 := (List.pairwise_cons.1 h.2).1

/-- Where a key stands: all ahead of it are below; the first that is not below is it, or above. -/
theorem atI_split {W : Nat} {k : List Int} (hk : k.length = W) : ∀ {E : List Ent}, Lex W E → (∀ e ∈ E.take (atI k E).1, lexC e.key k = -1) ∧ ((atI k E).2 = false → ∀ e ∈ E.drop (atI k E).1, lexC k e.key = -1) ∧ ((atI k E).2 = true → ∃ e, E[(atI k E).1]? = some e ∧ e.key = k)
  | [], _ => ⟨fun e he => by simp at he, fun _ e he => by simp at he, fun h => by cases h⟩
  | e :: r, h => by
    obtain ⟨i1, i2, i3⟩ := atI_split hk h.tail
    have hl : e.key.length = k.length := (h.1 e (by simp)).trans hk.symm
    by_cases hlt : lexC e.key k < 0
    · rw [atI_lt hlt]
      refine ⟨fun x hx => ?_, fun hf x hx => i2 hf x (by simpa using hx), fun ht => by simpa using i3 ht⟩
      rw [List.take_succ_cons] at hx
      rcases List.mem_cons.1 hx with rfl | hx
      · exact (lexC_lt _ _).1 hlt
      · exact i1 x hx
    · rw [atI_ge (by omega)]
      refine ⟨fun x hx => by simp at hx, fun hf x hx => ?_, fun ht => ⟨e, rfl, lexC_zero _ _ hl (by simpa using ht)⟩⟩
      have h1 : lexC e.key k = 1 := by
        rcases lexC_range e.key k with q | q | q
        · omega
        · simp [q] at hf
        · exact q
      have h2 : lexC k e.key = -1 := by rw [lexC_anti _ _ hl, h1]
      simp only [List.drop_zero] at hx
      rcases List.mem_cons.1 hx with rfl | hx
      · exact h2
      · exact lexC_trans _ _ _ hl.symm ((h.1 e (by simp)).trans (h.1 x (by simp [hx])).symm) h2 (h.head x hx)
theorem atI_there {W : Nat} {k : List Int} (hk : k.length = W) {E : List Ent} (h : Lex W E) : (atI k E).2 = true ↔ ∃ e ∈ E, e.key = k := by
  obtain ⟨i1, i2, i3⟩ := atI_split hk h
  constructor
  · intro ht
    obtain ⟨e, he, hek⟩ := i3 ht
    exact ⟨e, List.mem_of_getElem? he, hek⟩
  · rintro ⟨e, he, rfl⟩
    cases hb : (atI e.key E).2 with
    | true => rfl
    | false =>
      rw [← List.take_append_drop (atI e.key E).1 E] at he
      rcases List.mem_append.1 he with q | q
      · exact (lexC_irrefl (i1 e q)).elim
      · exact (lexC_irrefl (i2 hb e q)).elim
theorem same_none {W : Nat} {m : List Int → Option Int} {E : List Ent} (hs : Same m E) (hl : Lex W E) {k : List Int} (hk : k.length = W) : m k = none ↔ (atI k E).2 = false := by
  have := atI_there hk hl
  cases hm : m k with
  | none =>
    simp only [true_iff]
    cases hb : (atI k E).2 with
    | false => rfl
    | true =>
      obtain ⟨e, he, hek⟩ := this.1 hb
      have := (hs k e.val).2 ⟨e, he, hek, rfl⟩
      rw [hm] at this; cases this
  | some v =>
    obtain ⟨e, he, hek, _⟩ := (hs k v).1 hm
    rw [this.2 ⟨e, he, hek⟩]
    simp
theorem same_wide {W : Nat} {m : List Int → Option Int} {E : List Ent} (hs : Same m E) (hl : Lex W E) {k : List Int} (hk : k.length ≠ W) : m k = none := by
  cases hm : m k with
  | none => rfl
  | some v =>
    obtain ⟨e, he, hek, _⟩ := (hs k v).1 hm
    exact absurd (hek ▸ hl.1 e he) hk
theorem same_get {W : Nat} {m : List Int → Option Int} {E : List Ent} (hs : Same m E) (hl : Lex W E) (k : List Int) : rgetV W k E = m k := by
  unfold rgetV
  by_cases hk : k.length = W
  · cases hb : (atI k E).2 with
    | false => rw [if_neg (by simp), (same_none hs hl hk).2 hb]
    | true =>
      rw [if_pos ⟨hk, rfl⟩]
      obtain ⟨e, he, hek⟩ := (atI_split hk hl).2.2 hb
      rw [he]
      exact ((hs k e.val).2 ⟨e, List.mem_of_getElem? he, hek, rfl⟩).symm
  · rw [if_neg (fun q => hk q.1), same_wide hs hl hk]

section
variable {W : Nat} {m : List Int → Option Int} {E : List Ent} {k : List Int}
theorem Lex.ins (hl : Lex W E) (hk : k.length = W) (hb : (atI k E).2 = false) (kv : Value) (x : Int) : Lex W (E.take (atI k E).1 ++ ⟨kv, k, x⟩ :: E.drop (atI k E).1) := by
  obtain ⟨i1, i2, _⟩ := atI_split hk hl
  have i2 := i2 hb
  have h2 := hl.2
  rw [← List.take_append_drop (atI k E).1 E, List.pairwise_append] at h2
  refine ⟨fun e he => ?_, ?_⟩
  · rcases List.mem_append.1 he with q | q
    · exact hl.1 e (List.mem_of_mem_take q)
    · rcases List.mem_cons.1 q with rfl | q
      · exact hk
      · exact hl.1 e (List.mem_of_mem_drop q)
  · rw [List.pairwise_append, List.pairwise_cons]
    refine ⟨h2.1, ⟨i2, h2.2.1⟩, fun a ha c hc => ?_⟩
    rcases List.mem_cons.1 hc with rfl | hc
    · exact i1 a ha
    · exact h2.2.2 a ha c hc
theorem Same.ins (hs : Same m E) (hl : Lex W E) (hk : k.length = W) (hb : (atI k E).2 = false) (kv : Value) (x : Int) : Same (upd m k (some x)) (E.take (atI k E).1 ++ ⟨kv, k, x⟩ :: E.drop (atI k E).1) := fun k' v => by
  have hno : ∀ e ∈ E, e.key ≠ k := fun e he q => by have := (atI_there hk hl).2 ⟨e, he, q⟩; rw [hb] at this; cases this
  have hmem : ∀ e, e ∈ E.take (atI k E).1 ++ (⟨kv, k, x⟩ : Ent) :: E.drop (atI k E).1 ↔ e = ⟨kv, k, x⟩ ∨ e ∈ E := fun e => by
    conv => rhs; rhs; rw [← List.take_append_drop (atI k E).1 E]
    simp only [List.mem_append, List.mem_cons]
    constructor
    · rintro (q | q | q)
      · exact .inr (.inl q)
      · exact .inl q
      · exact .inr (.inr q)
    · rintro (q | q | q)
      · exact .inr (.inl q)
      · exact .inl q
      · exact .inr (.inr q)
  unfold upd
  by_cases hkk : k' = k
  · subst hkk
    rw [if_pos rfl]
    constructor
    · intro q; cases q; exact ⟨_, (hmem _).2 (.inl rfl), rfl, rfl⟩
    · rintro ⟨e, he, q1, q2⟩
      rcases (hmem e).1 he with rfl | he
      · exact congrArg some q2
      · exact absurd q1 (hno e he)
  · rw [if_neg hkk, hs k' v]
    constructor
    · rintro ⟨e, he, q⟩; exact ⟨e, (hmem e).2 (.inr he), q⟩
    · rintro ⟨e, he, q1, q2⟩
      rcases (hmem e).1 he with rfl | he
      · exact absurd q1.symm hkk
      · exact ⟨e, he, q1, q2⟩
theorem Lex.one (hl : Lex W E) {i j : Nat} {a c : Ent} (ha : E[i]? = some a) (hc : E[j]? = some c) (h : a.key = c.key) : i = j := by
  have hp := List.pairwise_iff_getElem.1 hl.2
  obtain ⟨hi, rfl⟩ := List.getElem?_eq_some_iff.1 ha
  obtain ⟨hj, rfl⟩ := List.getElem?_eq_some_iff.1 hc
  rcases Nat.lt_trichotomy i j with q | q | q
  · have := hp i j hi hj q
    rw [h] at this
    exact (lexC_irrefl this).elim
  · exact q
  · have := hp j i hj hi q
    rw [h] at this
    exact (lexC_irrefl this).elim
theorem Lex.set (hl : Lex W E) {j : Nat} {e0 : Ent} (he : E[j]? = some e0) (x : Int) : Lex W (E.set j ⟨e0.kv, e0.key, x⟩) := by
  have hj := (List.getElem?_eq_some_iff.1 he).1
  have key : ∀ (i : Nat) (e : Ent), (E.set j ⟨e0.kv, e0.key, x⟩)[i]? = some e → ∃ e' : Ent, E[i]? = some e' ∧ e'.key = e.key := fun i e hi => by
    by_cases hij : j = i
    · subst hij
      rw [List.getElem?_set_self hj] at hi
      cases hi
      exact ⟨e0, he, rfl⟩
    · rw [List.getElem?_set_ne hij] at hi
      exact ⟨e, hi, rfl⟩
  refine ⟨fun e hm => ?_, List.pairwise_iff_getElem.2 fun i i' hi hi' hlt => ?_⟩
  · obtain ⟨i, hi⟩ := List.getElem?_of_mem hm
    obtain ⟨e', h1, h2⟩ := key i e hi
    rw [← h2]
    exact hl.1 e' (List.mem_of_getElem? h1)
  · obtain ⟨a, h1, h2⟩ := key i _ (List.getElem?_eq_getElem hi)
    obtain ⟨c, h3, h4⟩ := key i' _ (List.getElem?_eq_getElem hi')
    rw [← h2, ← h4]
    obtain ⟨q1, rfl⟩ := List.getElem?_eq_some_iff.1 h1
    obtain ⟨q2, rfl⟩ := List.getElem?_eq_some_iff.1 h3
    exact List.pairwise_iff_getElem.1 hl.2 i i' q1 q2 hlt
theorem Same.set (hs : Same m E) (hl : Lex W E) {j : Nat} {e0 : Ent} (he : E[j]? = some e0) (x : Int) : Same (upd m e0.key (some x)) (E.set j ⟨e0.kv, e0.key, x⟩) := fun k' v => by
  have hj := (List.getElem?_eq_some_iff.1 he).1
  unfold upd
  by_cases hkk : k' = e0.key
  · subst hkk
    rw [if_pos rfl]
    constructor
    · intro q; cases q; exact ⟨_, List.mem_of_getElem? (List.getElem?_set_self hj), rfl, rfl⟩
    · rintro ⟨e, hm, q1, q2⟩
      obtain ⟨i, hi⟩ := List.getElem?_of_mem hm
      by_cases hij : j = i
      · subst hij
        rw [List.getElem?_set_self hj] at hi
        cases hi
        exact congrArg some q2
      · rw [List.getElem?_set_ne hij] at hi
        exact absurd (hl.one he hi q1.symm) hij
  · rw [if_neg hkk, hs k' v]
    constructor
    · rintro ⟨e, hm, q1, q2⟩
      obtain ⟨i, hi⟩ := List.getElem?_of_mem hm
      have hij : j ≠ i := fun q => by subst q; rw [he] at hi; cases hi; exact hkk q1.symm
      exact ⟨e, List.mem_of_getElem? (by rw [List.getElem?_set_ne hij]; exact hi), q1, q2⟩
    · rintro ⟨e, hm, q1, q2⟩
      obtain ⟨i, hi⟩ := List.getElem?_of_mem hm
      by_cases hij : j = i
      · subst hij
        rw [List.getElem?_set_self hj] at hi
        cases hi
        exact absurd q1.symm hkk
      · rw [List.getElem?_set_ne hij] at hi
        exact ⟨e, List.mem_of_getElem? hi, q1, q2⟩
theorem mem_cut {j : Nat} {e0 : Ent} (he : E[j]? = some e0) (e : Ent) : e ∈ E.take j ++ E.drop (j + 1) ↔ ∃ i, i ≠ j ∧ E[i]? = some e := by
  have hj := (List.getElem?_eq_some_iff.1 he).1
  rw [← List.eraseIdx_eq_take_drop_succ, List.mem_eraseIdx_iff_getElem?]
theorem Lex.cut (hl : Lex W E) {j : Nat} : Lex W (E.take j ++ E.drop (j + 1)) := by
  rw [← List.eraseIdx_eq_take_drop_succ]
  exact ⟨fun e he => hl.1 e (List.mem_of_mem_eraseIdx he), hl.2.sublist (List.eraseIdx_sublist ..)⟩
theorem Same.cut (hs : Same m E) (hl : Lex W E) {j : Nat} {e0 : Ent} (he : E[j]? = some e0) : Same (upd m e0.key none) (E.take j ++ E.drop (j + 1)) := fun k' v => by
  unfold upd
  by_cases hkk : k' = e0.key
  · subst hkk
    rw [if_pos rfl]
    constructor
    · intro q; cases q
    · rintro ⟨e, hm, q1, q2⟩
      obtain ⟨i, hi, hie⟩ := (mem_cut he e).1 hm
      exact absurd (hl.one hie he q1) hi
  · rw [if_neg hkk, hs k' v]
    constructor
    · rintro ⟨e, hm, q1, q2⟩
      obtain ⟨i, hi⟩ := List.getElem?_of_mem hm
      exact ⟨e, (mem_cut he e).2 ⟨i, fun q => by subst q; rw [he] at hi; cases hi; exact hkk q1.symm, hi⟩, q1, q2⟩
    · rintro ⟨e, hm, q1, q2⟩
      obtain ⟨i, _, hie⟩ := (mem_cut he e).1 hm
      exact ⟨e, List.mem_of_getElem? hie, q1, q2⟩
end
theorem Same.gone {m : List Int → Option Int} {E : List Ent} (hs : Same m E) {k : List Int} (hm : m k = none) : Same (upd m k none) E := fun k' v => by
  unfold upd
  by_cases hkk : k' = k
  · subst hkk; rw [if_pos rfl, ← hs k' v, hm]
  · rw [if_neg hkk, hs k' v]

/-- A beginning in order is a beginning of the entries. -/
theorem pre_take {W : Nat} : ∀ (E : List Ent) (L : List (List Int × Int)), Lex W E → RisingK L → (∀ x ∈ L, x ∈ kvs E) → (∀ y ∈ kvs E, y ∈ L ∨ ∀ x ∈ L, lexC x.1 y.1 = -1) → L = (kvs E).take L.length
  | _, [], _, _, _, _ => rfl
  | [], x :: L, _, _, h, _ => by have := h x (by simp); simp [kvs] at this
  | e :: E, x :: L, hl, hr, h, h' => by
    have hlk : ∀ y ∈ kvs (e :: E), y.1.length = W := fun y hy => by
      obtain ⟨e', he', rfl⟩ := List.mem_map.1 hy
      exact hl.1 e' he'
    have hx := h x (by simp)
    have hkv : kvs (e :: E) = (e.key, e.val) :: kvs E := rfl
    have hhead : ∀ y ∈ kvs E, lexC e.key y.1 = -1 := fun y hy => by
      obtain ⟨e', he', rfl⟩ := List.mem_map.1 hy
      exact hl.head e' he'
    have hrc := List.pairwise_cons.1 hr
    have hxe : x = (e.key, e.val) := by
      rcases h' (e.key, e.val) (by rw [hkv]; simp) with q | q
      · rcases List.mem_cons.1 q with q | q
        · exact q.symm
        · have h1 := hrc.1 _ q
          rw [hkv] at hx
          rcases List.mem_cons.1 hx with hx | hx
          · exact hx
          · exact (lexC_asym ((hl.1 e (by simp)).trans (hlk x (by rw [hkv]; simp [hx])).symm) (hhead x hx) h1).elim
      · have h1 := q x (by simp)
        rw [hkv] at hx
        rcases List.mem_cons.1 hx with hx | hx
        · exact hx
        · exact (lexC_asym ((hl.1 e (by simp)).trans (hlk x (by rw [hkv]; simp [hx])).symm) (hhead x hx) h1).elim
    subst hxe
    rw [hkv, List.length_cons, List.take_succ_cons]
    congr 1
    refine pre_take E L hl.tail hrc.2 (fun z hz => ?_) (fun y hy => ?_)
    · have h1 := h z (by simp [hz])
      rw [hkv] at h1
      rcases List.mem_cons.1 h1 with rfl | h1
      · exact (lexC_irrefl (hrc.1 _ hz)).elim
      · exact h1
    · rcases h' y (by rw [hkv]; simp [hy]) with q | q
      · rcases List.mem_cons.1 q with rfl | q
        · exact (lexC_irrefl (hhead _ hy)).elim
        · exact .inl q
      · exact .inr fun z hz => q z (by simp [hz])
theorem mem_kvs {E : List Ent} {k : List Int} {v : Int} : (k, v) ∈ kvs E ↔ ∃ e ∈ E, e.key = k ∧ e.val = v := by
  unfold kvs
  rw [List.mem_map]
  constructor
  · rintro ⟨e, he, q⟩; cases q; exact ⟨e, he, rfl, rfl⟩
  · rintro ⟨e, he, rfl, rfl⟩; exact ⟨e, he, rfl⟩
theorem isPre_take {W : Nat} {m : List Int → Option Int} {E : List Ent} (hs : Same m E) (hl : Lex W E) {L : List (List Int × Int)} (h : IsPre m L) : L = (kvs E).take L.length :=
  pre_take E L hl h.rise (fun x hx => mem_kvs.2 ((hs _ _).1 (h.there x hx))) (fun y hy => h.rest y.1 y.2 ((hs _ _).2 (mem_kvs.1 hy)))
end Go.Proofs.Ytmfljfedpdipiaa
