/-
  Open addressing, without a machine: places in a ring, an entry stands behind its home with no free place between.
-/
import Derived.WalkKit
namespace Go.Proofs.Ytmfljfedpdipiaa
open Go

/-- A place's entry: the key as it lies, its numbers, the value under it. -/
structure Ent where
  kv : Value
  key : List Int
  val : Int
abbrev Pl := List (Option Ent)

def nxt (n a : Nat) : Nat := if a + 1 < n then a + 1 else 0
def pos (n h d : Nat) : Nat := if h + d < n then h + d else h + d - n
def dist (n a b : Nat) : Nat := if a ≤ b then b - a else b + n - a
theorem nxt_is (n a : Nat) : (a + 1 < n ∧ nxt n a = a + 1) ∨ (n ≤ a + 1 ∧ nxt n a = 0) := by unfold nxt; split <;> omega
theorem pos_is (n h d : Nat) : (h + d < n ∧ pos n h d = h + d) ∨ (n ≤ h + d ∧ pos n h d = h + d - n) := by unfold pos; split <;> omega
theorem dist_is (n a b : Nat) : (a ≤ b ∧ dist n a b = b - a) ∨ (b < a ∧ dist n a b = b + n - a) := by unfold dist; split <;> omega
theorem pos_lt {n h d : Nat} (hh : h < n) (hd : d < n) : pos n h d < n := by have := pos_is n h d; omega
theorem dist_lt {n a b : Nat} (ha : a < n) (hb : b < n) : dist n a b < n := by have := dist_is n a b; omega
theorem pos_dist {n a b : Nat} (ha : a < n) (hb : b < n) : pos n a (dist n a b) = b := by have := dist_is n a b; have := pos_is n a (dist n a b); omega
theorem dist_pos {n a d : Nat} (ha : a < n) (hd : d < n) : dist n a (pos n a d) = d := by have := pos_is n a d; have := dist_is n a (pos n a d); omega
theorem nxt_pos {n a d : Nat} (ha : a < n) (hd : d + 1 ≤ n) : nxt n (pos n a d) = pos n a (d + 1) := by have := pos_is n a d; have := pos_is n a (d + 1); have := nxt_is n (pos n a d); omega
theorem nxt_lt {n a : Nat} (ha : a < n) : nxt n a < n := by have := nxt_is n a; omega
theorem pos_zero {n a : Nat} (ha : a < n) : pos n a 0 = a := by have := pos_is n a 0; omega
theorem dist_self {n a : Nat} : dist n a a = 0 := by have := dist_is n a a; omega
theorem dist_pos_of_ne {n a b : Nat} (ha : a < n) (h : a ≠ b) : 0 < dist n a b := by have := dist_is n a b; omega
/-- One on: one nearer to what lies ahead. -/
theorem dist_nxt {n a z : Nat} (ha : a < n) (hz : z < n) (h : a ≠ z) : dist n (nxt n a) z + 1 = dist n a z := by have := nxt_is n a; have := dist_is n a z; have := dist_is n (nxt n a) z; omega
theorem dist_to_nxt {n a g : Nat} (ha : a < n) (hg : g < n) (h : nxt n a ≠ g) : dist n g (nxt n a) = dist n g a + 1 := by have := nxt_is n a; have := dist_is n g a; have := dist_is n g (nxt n a); omega
theorem pos_add {n a d x : Nat} (ha : a < n) (hx : d + x < n) : pos n (pos n a d) x = pos n a (d + x) := by have := pos_is n a d; have := pos_is n a (d + x); have := pos_is n (pos n a d) x; omega
/-- The way by a place is the way to it and from it. -/
theorem dist_by {n h g i d : Nat} (hg : g < n) (hi : i < n) (hd : d < dist n h i) (hp : pos n h d = g) : dist n h i = d + dist n g i := by have := pos_is n h d; have := dist_is n h i; have := dist_is n g i; omega

/-- As many places as are taken. -/
def cnt (P : Pl) : Nat := P.countP (·.isSome)

structure Probe (hm : List Int → Nat) (P : Pl) : Prop where
  lt : ∀ k, hm k < P.length
  way : ∀ (i : Nat) (e : Ent), P[i]? = some (some e) → ∀ d, d < dist P.length (hm e.key) i → ∃ e', P[pos P.length (hm e.key) d]? = some (some e')
  one : ∀ (i j : Nat) (e e' : Ent), P[i]? = some (some e) → P[j]? = some (some e') → e.key = e'.key → i = j
  few : 2 * cnt P ≤ P.length

theorem cnt_full {P : Pl} (h : ∀ i, i < P.length → ∃ e, P[i]? = some (some e)) : cnt P = P.length := by
  unfold cnt
  rw [List.countP_eq_length]
  intro a ha
  obtain ⟨i, hi⟩ := List.getElem?_of_mem ha
  obtain ⟨e, he⟩ := h i (List.getElem?_eq_some_iff.1 hi).1
  rw [he] at hi
  cases hi
  rfl
theorem get_cases {P : Pl} {i : Nat} (hi : i < P.length) : P[i]? = some none ∨ ∃ e, P[i]? = some (some e) := by
  rw [List.getElem?_eq_getElem hi]
  cases h : P[i] with
  | none => exact .inl rfl
  | some e => exact .inr ⟨e, rfl⟩
theorem get_lt {P : Pl} {i : Nat} {x : Option Ent} (h : P[i]? = some x) : i < P.length := (List.getElem?_eq_some_iff.1 h).1
/-- There is a free place. -/
theorem Probe.free {hm : List Int → Nat} {P : Pl} (h : Probe hm P) : ∃ i : Nat, P[i]? = some none := by
  have h0 := h.lt []
  by_cases q : ∃ i : Nat, P[i]? = some none
  · exact q
  · exfalso
    have := cnt_full (P := P) (fun i hi => (get_cases hi).resolve_left (fun e => q ⟨i, e⟩))
    have := h.few
    omega
/-- A search comes to an end. -/
theorem Probe.stops {hm : List Int → Nat} {P : Pl} (h : Probe hm P) {h0 d : Nat} (hh : h0 < P.length) (hd : ∀ x, x < d → ∃ e, P[pos P.length h0 x]? = some (some e)) : d < P.length := by
  obtain ⟨i, hi⟩ := h.free
  have hil := get_lt hi
  have hlt := dist_lt hh hil
  by_cases q : dist P.length h0 i < d
  · obtain ⟨e, he⟩ := hd _ q
    rw [pos_dist hh hil, hi] at he
    cases he
  · omega
/-- A key that was not met ahead of a free place is not there. -/
theorem Probe.absent {hm : List Int → Nat} {P : Pl} (h : Probe hm P) {k : List Int} {d : Nat} (hd : ∀ x, x < d → ∃ e, P[pos P.length (hm k) x]? = some (some e) ∧ e.key ≠ k) (hf : P[pos P.length (hm k) d]? = some none) :
    ∀ (i : Nat) (e : Ent), P[i]? = some (some e) → e.key ≠ k := by
  intro i e hi hk
  subst hk
  have hil := get_lt hi
  have e1 := pos_dist (h.lt e.key) hil
  rcases Nat.lt_trichotomy (dist P.length (hm e.key) i) d with q | q | q
  · obtain ⟨e', he, hne⟩ := hd _ q
    rw [e1, hi] at he
    cases he
    exact hne rfl
  · rw [← q, e1, hi] at hf
    cases hf
  · obtain ⟨e', he⟩ := h.way i e hi d q
    rw [hf] at he
    cases he

theorem cnt_set {P : Pl} {i : Nat} {x y : Option Ent} (h : P[i]? = some x) : cnt (P.set i y) + (if x.isSome then 1 else 0) = cnt P + (if y.isSome then 1 else 0) := by
  unfold cnt
  have hil := get_lt h
  have e : P[i] = x := by rw [List.getElem?_eq_getElem hil] at h; exact Option.some.inj h
  have hc := List.countP_set (p := fun q : Option Ent => q.isSome) (l := P) (i := i) (a := y) hil
  rw [e] at hc
  have hle : (if x.isSome then 1 else 0) ≤ P.countP (fun q => q.isSome) := by
    split
    · rename_i hx
      exact List.countP_pos_iff.2 ⟨x, List.mem_of_getElem? h, hx⟩
    · omega
  rw [hc]
  omega
theorem set_get {P : Pl} {i j : Nat} {y : Option Ent} (hi : i < P.length) : (P.set i y)[j]? = if i = j then some y else P[j]? := by
  rw [List.getElem?_set]
  by_cases h : i = j
  · simp [h]; omega
  · simp [h]

/-- A new key is laid where its search ended. -/
theorem Probe.lay {hm : List Int → Nat} {P : Pl} (h : Probe hm P) {k : List Int} {d : Nat} (hd : ∀ x, x < d → ∃ e, P[pos P.length (hm k) x]? = some (some e)) (hdl : d < P.length) (hf : P[pos P.length (hm k) d]? = some none) (hn : ∀ (i : Nat) (e : Ent), P[i]? = some (some e) → e.key ≠ k)
    (hc : 2 * (cnt P + 1) ≤ P.length) (kv : Value) (v : Int) : Probe hm (P.set (pos P.length (hm k) d) (some ⟨kv, k, v⟩)) := by
  have hil := get_lt hf
  have hcs := cnt_set (y := some ⟨kv, k, v⟩) hf
  simp at hcs
  refine ⟨fun k' => by simpa using h.lt k', fun i e hi x hx => ?_, fun i j e e' hi hj hk => ?_, by simp; omega⟩
  · rw [List.length_set] at hx ⊢
    rw [set_get hil] at hi
    rw [set_get hil]
    by_cases q : pos P.length (hm k) d = pos P.length (hm e.key) x
    · rw [if_pos q]; exact ⟨_, rfl⟩
    · rw [if_neg q]
      by_cases qi : pos P.length (hm k) d = i
      · rw [if_pos qi] at hi
        cases hi
        simp only at hx q ⊢
        rw [← qi, dist_pos (h.lt k) hdl] at hx
        exact hd x hx
      · rw [if_neg qi] at hi
        exact h.way i e hi x hx
  · rw [set_get hil] at hi hj
    by_cases qi : pos P.length (hm k) d = i
    · by_cases qj : pos P.length (hm k) d = j
      · omega
      · rw [if_neg qj] at hj
        rw [if_pos qi] at hi
        cases hi
        exact absurd hk.symm (hn j e' hj)
    · rw [if_neg qi] at hi
      by_cases qj : pos P.length (hm k) d = j
      · rw [if_pos qj] at hj
        cases hj
        exact absurd hk (hn i e hi)
      · rw [if_neg qj] at hj
        exact h.one i j e e' hi hj hk
/-- The value under a key that is there is another one. -/
theorem Probe.over {hm : List Int → Nat} {P : Pl} (h : Probe hm P) {a : Nat} {e0 : Ent} (ha : P[a]? = some (some e0)) (v : Int) : Probe hm (P.set a (some { e0 with val := v })) := by
  have hil := get_lt ha
  have hcs := cnt_set (y := some { e0 with val := v }) ha
  simp at hcs
  have back : ∀ (i : Nat) (e : Ent), (P.set a (some { e0 with val := v }))[i]? = some (some e) → ∃ e', P[i]? = some (some e') ∧ e'.key = e.key := fun i e hi => by
    rw [set_get hil] at hi
    by_cases q : a = i
    · rw [if_pos q] at hi
      cases hi
      subst q
      exact ⟨e0, ha, rfl⟩
    · rw [if_neg q] at hi
      exact ⟨e, hi, rfl⟩
  refine ⟨fun k' => by simpa using h.lt k', fun i e hi x hx => ?_, fun i j e e' hi hj hk => ?_, by simp; have := h.few; omega⟩
  · rw [List.length_set] at hx ⊢
    obtain ⟨e', he', hk⟩ := back i e hi
    rw [← hk] at hx ⊢
    obtain ⟨e2, h2⟩ := h.way i e' he' x hx
    rw [set_get hil]
    by_cases q : a = pos P.length (hm e'.key) x
    · rw [if_pos q]; exact ⟨_, rfl⟩
    · rw [if_neg q]; exact ⟨e2, h2⟩
  · obtain ⟨e1, he1, hk1⟩ := back i e hi
    obtain ⟨e2, he2, hk2⟩ := back j e' hj
    exact h.one i j e1 e2 he1 he2 (by rw [hk1, hk2, hk])

/-- A place is being freed: those behind it move up. z: a free place further on. -/
structure Hole (hm : List Int → Nat) (Q : Pl) (gap at' z : Nat) : Prop where
  lt : ∀ k, hm k < Q.length
  alt : at' < Q.length
  ne : gap ≠ at'
  free : Q[gap]? = some none
  zf : Q[z]? = some none
  zg : z ≠ gap
  btw : ∀ d, 0 < d → d < dist Q.length gap at' → ∃ e, Q[pos Q.length gap d]? = some (some e)
  way : ∀ (i : Nat) (e : Ent), Q[i]? = some (some e) → ∀ d, d < dist Q.length (hm e.key) i → (∃ e', Q[pos Q.length (hm e.key) d]? = some (some e')) ∨ (pos Q.length (hm e.key) d = gap ∧ dist Q.length gap at' ≤ dist Q.length gap i)
  one : ∀ (i j : Nat) (e e' : Ent), Q[i]? = some (some e) → Q[j]? = some (some e') → e.key = e'.key → i = j

theorem Probe.hole {hm : List Int → Nat} {P : Pl} (h : Probe hm P) {gap : Nat} {e0 : Ent} (hg : P[gap]? = some (some e0)) : ∃ z, Hole hm (P.set gap none) gap (nxt P.length gap) z := by
  have hgl := get_lt hg
  obtain ⟨z, hz⟩ := h.free
  have hzl := get_lt hz
  have hzg : gap ≠ z := fun e => by rw [e, hz] at hg; cases hg
  have hne : nxt P.length gap ≠ gap := by unfold nxt; split <;> omega
  have hd1 : dist P.length gap (nxt P.length gap) = 1 := by have := dist_to_nxt hgl hgl hne; rw [dist_self] at this; omega
  refine ⟨z, fun k => by simpa using h.lt k, by simpa using nxt_lt hgl, Ne.symm hne, ?_, ?_, Ne.symm hzg, fun d h0 h1 => ?_, fun i e hi d hd => ?_, fun i j e e' hi hj hk => ?_⟩
  · rw [set_get hgl, if_pos rfl]
  · rw [set_get hgl, if_neg hzg, hz]
  · rw [List.length_set] at h1; omega
  · rw [List.length_set] at hd ⊢
    rw [set_get hgl] at hi
    by_cases q : gap = i
    · rw [if_pos q] at hi; cases hi
    · rw [if_neg q] at hi
      obtain ⟨e', he'⟩ := h.way i e hi d hd
      by_cases q2 : gap = pos P.length (hm e.key) d
      · refine .inr ⟨q2.symm, ?_⟩
        rw [hd1]
        exact dist_pos_of_ne hgl q
      · refine .inl ⟨e', ?_⟩
        rw [set_get hgl, if_neg q2, he']
  · rw [set_get hgl] at hi hj
    split at hi
    · cases hi
    · split at hj
      · cases hj
      · exact h.one i j e e' hi hj hk

/-- The end: the next place is free. -/
theorem Hole.done {hm : List Int → Nat} {Q : Pl} {gap at' z : Nat} (h : Hole hm Q gap at' z) (hf : Q[at']? = some none) (hc : 2 * cnt Q ≤ Q.length) : Probe hm Q := by
  refine ⟨h.lt, fun i e hi d hd => ?_, h.one, hc⟩
  rcases h.way i e hi d hd with q | ⟨q1, q2⟩
  · exact q
  · exfalso
    have hil := get_lt hi
    have hgl := get_lt h.free
    have hia : i ≠ at' := fun e' => by rw [e', hf] at hi; cases hi
    -- the way from home to i goes by gap, then by the free place
    have e1 : dist Q.length (hm e.key) i = d + dist Q.length gap i := dist_by hgl hil hd q1
    have hlt2 : dist Q.length gap at' < dist Q.length gap i := by
      rcases Nat.lt_or_eq_of_le q2 with q | q
      · exact q
      · exfalso
        have := pos_dist hgl h.alt
        rw [q, pos_dist hgl hil] at this
        exact hia this
    have hx : d + dist Q.length gap at' < dist Q.length (hm e.key) i := by omega
    have hpos : pos Q.length (hm e.key) (d + dist Q.length gap at') = at' := by
      rw [← pos_add (h.lt e.key) (Nat.lt_trans hx (dist_lt (h.lt e.key) hil)), q1, pos_dist hgl h.alt]
    rcases h.way i e hi _ hx with ⟨e', he'⟩ | ⟨q3, _⟩
    · rw [hpos, hf] at he'; cases he'
    · rw [hpos] at q3; exact h.ne q3.symm

/-- The entry at the next place may stay. -/
theorem Hole.skip {hm : List Int → Nat} {Q : Pl} {gap at' z : Nat} (h : Hole hm Q gap at' z) {e0 : Ent} (ha : Q[at']? = some (some e0)) (hw : dist Q.length (hm e0.key) at' < dist Q.length gap at') : Hole hm Q gap (nxt Q.length at') z := by
  have hgl := get_lt h.free
  have hzl := get_lt h.zf
  have haz : at' ≠ z := fun e => by rw [e, h.zf] at ha; cases ha
  have hlt : dist Q.length gap at' < dist Q.length gap z := by
    rcases Nat.lt_trichotomy (dist Q.length gap at') (dist Q.length gap z) with q | q | q
    · exact q
    · exact absurd (by have a := pos_dist hgl h.alt; have b := pos_dist hgl hzl; rw [q] at a; omega) haz
    · obtain ⟨e, he⟩ := h.btw _ (dist_pos_of_ne hgl (Ne.symm h.zg)) q
      rw [pos_dist hgl hzl, h.zf] at he
      cases he
  have hne : nxt Q.length at' ≠ gap := by
    have := nxt_is Q.length at'
    have := dist_is Q.length gap at'
    have := dist_is Q.length gap z
    have := h.alt
    omega
  have hd := dist_to_nxt h.alt hgl hne
  refine ⟨h.lt, nxt_lt h.alt, Ne.symm hne, h.free, h.zf, h.zg, fun d h0 h1 => ?_, fun i e hi d hdd => ?_, h.one⟩
  · by_cases q : d = dist Q.length gap at'
    · subst q
      rw [pos_dist hgl h.alt]
      exact ⟨e0, ha⟩
    · exact h.btw d h0 (by omega)
  · rcases h.way i e hi d hdd with q | ⟨q1, q2⟩
    · exact .inl q
    · refine .inr ⟨q1, ?_⟩
      have hil := get_lt hi
      rw [hd]
      rcases Nat.lt_or_eq_of_le q2 with q | q
      · exact q
      · exfalso
        have e1 : at' = i := by have a := pos_dist hgl h.alt; have b := pos_dist hgl hil; rw [q] at a; omega
        subst e1
        rw [ha] at hi
        cases hi
        have := dist_by hgl hil hdd q1
        omega

/-- The entry at the next place moves up. -/
theorem Hole.move {hm : List Int → Nat} {Q : Pl} {gap at' z : Nat} (h : Hole hm Q gap at' z) {e0 : Ent} (ha : Q[at']? = some (some e0)) (hw : dist Q.length gap at' ≤ dist Q.length (hm e0.key) at') : Hole hm ((Q.set gap (some e0)).set at' none) at' (nxt Q.length at') z := by
  have hgl := get_lt h.free
  have hzl := get_lt h.zf
  have hal := h.alt
  have haz : at' ≠ z := fun e => by rw [e, h.zf] at ha; cases ha
  have hal' : at' < (Q.set gap (some e0)).length := by simpa using hal
  have hne : nxt Q.length at' ≠ at' := by have := nxt_is Q.length at'; omega
  have hd1 : dist Q.length at' (nxt Q.length at') = 1 := by have := dist_to_nxt hal hal hne; rw [dist_self] at this; omega
  have get : ∀ j : Nat, ((Q.set gap (some e0)).set at' none)[j]? = if at' = j then some none else if gap = j then some (some e0) else Q[j]? := fun j => by rw [set_get hal', set_get hgl]
  have hon : ∀ (i : Nat) (e : Ent), ((Q.set gap (some e0)).set at' none)[i]? = some (some e) → (i = gap ∧ e = e0) ∨ (i ≠ gap ∧ i ≠ at' ∧ Q[i]? = some (some e)) := fun i e hi => by
    rw [get] at hi
    split at hi
    · cases hi
    · split at hi
      · cases hi; rename_i h1 h2; exact .inl ⟨h2.symm, rfl⟩
      · rename_i h1 h2; exact .inr ⟨Ne.symm h2, Ne.symm h1, hi⟩
  refine ⟨fun k => by simpa using h.lt k, by simpa using nxt_lt hal, Ne.symm hne, by rw [get, if_pos rfl], by rw [get, if_neg haz, if_neg (Ne.symm h.zg), h.zf], Ne.symm haz, fun d h0 h1 => ?_, fun i e hi d hdd => ?_, fun i j e e' hi hj hk => ?_⟩
  · simp only [List.length_set] at h1; omega
  · simp only [List.length_set] at hdd ⊢
    rcases hon i e hi with ⟨rfl, rfl⟩ | ⟨h1, h2, hi⟩
    · -- the moved one: all ahead of the gap were taken
      have hk := h.lt e.key
      have hg2 : dist Q.length (hm e.key) at' = dist Q.length (hm e.key) i + dist Q.length i at' := by
        have := dist_is Q.length (hm e.key) at'
        have := dist_is Q.length (hm e.key) i
        have := dist_is Q.length i at'
        omega
      have hpd : pos Q.length (hm e.key) d ≠ i := fun q => by have a := dist_pos hk (Nat.lt_trans hdd (dist_lt hk hgl)); rw [q] at a; omega
      have hpa : at' ≠ pos Q.length (hm e.key) d := fun q => by have a := dist_pos hk (Nat.lt_trans hdd (dist_lt hk hgl)); rw [← q] at a; omega
      rcases h.way at' e ha d (by omega) with ⟨e', he'⟩ | ⟨q1, _⟩
      · exact .inl ⟨e', by rw [get, if_neg hpa, if_neg (Ne.symm hpd), he']⟩
      · exact absurd q1 hpd
    · by_cases hpa : at' = pos Q.length (hm e.key) d
      · refine .inr ⟨hpa.symm, ?_⟩
        rw [hd1]
        exact dist_pos_of_ne hal (Ne.symm h2)
      · rcases h.way i e hi d hdd with ⟨e', he'⟩ | ⟨q1, _⟩
        · by_cases hpg : gap = pos Q.length (hm e.key) d
          · exact .inl ⟨e0, by rw [get, if_neg hpa, if_pos hpg]⟩
          · exact .inl ⟨e', by rw [get, if_neg hpa, if_neg hpg, he']⟩
        · exact .inl ⟨e0, by rw [get, if_neg hpa, if_pos q1.symm]⟩
  · rcases hon i e hi with ⟨rfl, rfl⟩ | ⟨h1, h2, hi'⟩
    · rcases hon j e' hj with ⟨rfl, rfl⟩ | ⟨h3, h4, hj'⟩
      · rfl
      · exact absurd (h.one at' j e e' ha hj' hk).symm h4
    · rcases hon j e' hj with ⟨rfl, rfl⟩ | ⟨h3, h4, hj'⟩
      · exact absurd (h.one i at' e e' hi' ha hk) h2
      · exact h.one i j e e' hi' hj' hk

/-- What the places hold: a value for each key. -/
def Maps (P : Pl) (m : List Int → Option Int) : Prop := ∀ (k : List Int) (v : Int), m k = some v ↔ ∃ (i : Nat) (e : Ent), P[i]? = some (some e) ∧ e.key = k ∧ e.val = v
def upd (m : List Int → Option Int) (k : List Int) (x : Option Int) : List Int → Option Int := fun k' => if k' = k then x else m k'

theorem Maps.there {P : Pl} {m : List Int → Option Int} (h : Maps P m) {i : Nat} {e : Ent} (hi : P[i]? = some (some e)) : m e.key = some e.val := (h _ _).2 ⟨i, e, hi, rfl, rfl⟩
theorem Maps.gone {P : Pl} {m : List Int → Option Int} (h : Maps P m) {k : List Int} (hn : ∀ (i : Nat) (e : Ent), P[i]? = some (some e) → e.key ≠ k) : m k = none := by
  cases hm : m k with
  | none => rfl
  | some v => obtain ⟨i, e, hi, hk, _⟩ := (h k v).1 hm; exact absurd hk (hn i e hi)
theorem Maps.lay {P : Pl} {m : List Int → Option Int} (h : Maps P m) {a : Nat} (ha : P[a]? = some none) {k : List Int} (hn : m k = none) (kv : Value) (v : Int) : Maps (P.set a (some ⟨kv, k, v⟩)) (upd m k (some v)) := by
  have hal := get_lt ha
  intro k' v'
  unfold upd
  constructor
  · intro q
    split at q
    · rename_i e
      cases q
      exact ⟨a, _, by rw [set_get hal, if_pos rfl], e.symm, rfl⟩
    · obtain ⟨i, e, hi, h1, h2⟩ := (h _ _).1 q
      have : a ≠ i := fun q => by rw [← q, ha] at hi; cases hi
      exact ⟨i, e, by rw [set_get hal, if_neg this, hi], h1, h2⟩
  · rintro ⟨i, e, hi, rfl, rfl⟩
    rw [set_get hal] at hi
    split at hi
    · cases hi; simp
    · have hh := h.there hi
      rw [if_neg (fun q => by rw [q, hn] at hh; cases hh)]
      exact hh
theorem Maps.over {hm : List Int → Nat} {P : Pl} {m : List Int → Option Int} (h : Maps P m) (hp : Probe hm P) {a : Nat} {e0 : Ent} (ha : P[a]? = some (some e0)) (v : Int) : Maps (P.set a (some { e0 with val := v })) (upd m e0.key (some v)) := by
  have hal := get_lt ha
  intro k' v'
  unfold upd
  constructor
  · intro q
    split at q
    · rename_i e
      cases q
      exact ⟨a, { e0 with val := v }, by rw [set_get hal, if_pos rfl], e.symm, rfl⟩
    · rename_i hk
      obtain ⟨i, e, hi, h1, h2⟩ := (h _ _).1 q
      have : a ≠ i := fun q => by rw [← q, ha] at hi; cases hi; exact hk h1.symm
      exact ⟨i, e, by rw [set_get hal, if_neg this, hi], h1, h2⟩
  · rintro ⟨i, e, hi, rfl, rfl⟩
    rw [set_get hal] at hi
    split at hi
    · cases hi; simp
    · rename_i hai
      rw [if_neg (fun q => hai (hp.one a i e0 e ha hi q.symm))]
      exact h.there hi
theorem Maps.drop {hm : List Int → Nat} {P : Pl} {m : List Int → Option Int} (h : Maps P m) (hp : Probe hm P) {a : Nat} {e0 : Ent} (ha : P[a]? = some (some e0)) : Maps (P.set a none) (upd m e0.key none) := by
  have hal := get_lt ha
  intro k' v'
  unfold upd
  constructor
  · intro q
    split at q
    · cases q
    · rename_i hk
      obtain ⟨i, e, hi, h1, h2⟩ := (h _ _).1 q
      have : a ≠ i := fun q => by rw [← q, ha] at hi; cases hi; exact hk h1.symm
      exact ⟨i, e, by rw [set_get hal, if_neg this, hi], h1, h2⟩
  · rintro ⟨i, e, hi, rfl, rfl⟩
    rw [set_get hal] at hi
    split at hi
    · cases hi
    · rename_i hai
      rw [if_neg (fun q => hai (hp.one a i e0 e ha hi q.symm))]
      exact h.there hi
theorem Maps.move {Q : Pl} {m : List Int → Option Int} (h : Maps Q m) {g a : Nat} {e0 : Ent} (hg : Q[g]? = some none) (ha : Q[a]? = some (some e0)) : Maps ((Q.set g (some e0)).set a none) m := by
  have hgl := get_lt hg
  have hal := get_lt ha
  have hal' : a < (Q.set g (some e0)).length := by simpa using hal
  have hga : a ≠ g := fun q => by rw [q, hg] at ha; cases ha
  intro k v
  rw [h k v]
  constructor
  · rintro ⟨i, e, hi, h1, h2⟩
    by_cases q : a = i
    · subst q
      rw [ha] at hi
      cases hi
      exact ⟨g, e0, by rw [set_get hal', if_neg hga, set_get hgl, if_pos rfl], h1, h2⟩
    · have : g ≠ i := fun q => by rw [← q, hg] at hi; cases hi
      exact ⟨i, e, by rw [set_get hal', if_neg q, set_get hgl, if_neg this, hi], h1, h2⟩
  · rintro ⟨i, e, hi, h1, h2⟩
    rw [set_get hal', set_get hgl] at hi
    split at hi
    · cases hi
    · split at hi
      · cases hi; exact ⟨a, _, ha, h1, h2⟩
      · exact ⟨i, e, hi, h1, h2⟩
theorem cnt_move {Q : Pl} {g a : Nat} {e0 : Ent} (hg : Q[g]? = some none) (ha : Q[a]? = some (some e0)) : cnt ((Q.set g (some e0)).set a none) = cnt Q := by
  have hgl := get_lt hg
  have hga : g ≠ a := fun q => by rw [← q, hg] at ha; cases ha
  have h1 := cnt_set (y := some e0) hg
  have h2 := cnt_set (P := Q.set g (some e0)) (i := a) (x := some e0) (y := none) (by rw [set_get hgl, if_neg hga, ha])
  simp at h1 h2
  omega
end Go.Proofs.Ytmfljfedpdipiaa
