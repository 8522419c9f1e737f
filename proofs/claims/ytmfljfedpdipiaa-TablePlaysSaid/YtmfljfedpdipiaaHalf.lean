/-
  A call on the table behind the document's own: both are again the same.
-/
import Derived.Test.YtmfljfedpdipiaaRefA3
namespace Go.Proofs.Ytmfljfedpdipiaa
open Go Go.RowKit Go.Shelf

/-- What has become of a table: the same, or in new memory. -/
structure Next (n : Nat) (s s' : Sd) : Prop where
  b : s'.b = s.b
  W : s'.W = s.W
  M : s'.M = s.M
  rb : s'.rb = s.rb
  ab : s'.ab = s.ab
  foot : ∀ k, s'.foot k → s.foot k ∨ n ≤ k
  keys : ∀ k, s'.keys k → s.keys k ∨ n ≤ k
theorem Next.refl (n : Nat) (s : Sd) : Next n s s := ⟨rfl, rfl, rfl, rfl, rfl, fun _ h => .inl h, fun _ h => .inl h⟩
theorem Next.mono {n n' : Nat} {s s' : Sd} (h : Next n s s') (hn : n' ≤ n) : Next n' s s' := ⟨h.b, h.W, h.M, h.rb, h.ab, fun k hk => (h.foot k hk).imp id (fun q => Nat.le_trans hn q), fun k hk => (h.keys k hk).imp id (fun q => Nat.le_trans hn q)⟩
theorem Next.trans {n n' : Nat} {s s' s'' : Sd} (h : Next n s s') (h' : Next n' s' s'') (hn : n ≤ n') : Next n s s'' :=
  ⟨h'.b.trans h.b, h'.W.trans h.W, h'.M.trans h.M, h'.rb.trans h.rb, h'.ab.trans h.ab, fun k hk => (h'.foot k hk).elim (h.foot k) (fun q => .inr (Nat.le_trans hn q)), fun k hk => (h'.keys k hk).elim (h.keys k) (fun q => .inr (Nat.le_trans hn q))⟩

theorem tm_norm {w : World} {b pb W M : Nat} {P : Pl} {m : List Int → Option Int} (h : TM w b pb W M P m) : ∃ pb', TM w b pb' W M P m ∧ (P = [] → pb' = b) ∧ (pb' = pb ∨ pb' = b) := by
  by_cases hP : P = []
  · subst hP
    exact ⟨b, ⟨⟨h.t.hb, fun q => absurd rfl q, h.t.hk, h.t.hn, h.t.hW, h.t.hM⟩, h.p, h.m, h.few⟩, fun _ => rfl, .inr rfl⟩
  · exact ⟨pb, h, fun q => absurd q hP, .inl rfl⟩
section
variable {w w' : World} {b pb W M : Nat} {P : Pl} {m : List Int → Option Int} {base rb W' M' : Nat} {q : Option Addr} {cap : Nat} {E : List Ent} {top : Nat}
theorem tm_rfr (h : TM w b pb W M P m) (hr : RT base w rb W' M' q cap E top) (hf : Fr (rfoot rb q) w w') : TM w' b pb W M P m := by
  refine h.fr hf (fun hk => ?_) (fun hP hk => ?_) (fun k hk hq => ?_)
  · obtain ⟨cur, t, h1, h2⟩ := hr.ftype hk
    have := heap_type h.t.hb h1
    rcases h2 with rfl | rfl <;> cases this
  · obtain ⟨cur, t, h1, h2⟩ := hr.ftype hk
    have := heap_type (h.t.hp hP) h1
    rcases h2 with rfl | rfl <;> cases this
  · obtain ⟨cur, t, h1, h2⟩ := hr.ftype hk
    obtain ⟨cur', h3⟩ := h.ktype hq
    have := heap_type h3 h1
    rcases h2 with rfl | rfl <;> cases this
theorem rt_ofr (hr : RT base w rb W' M' q cap E top) (h : TM w b pb W M P m) (he : P = [] → pb = b) (hf : Fr (own2 b pb) w w') : RT base w' rb W' M' q cap E top := by
  refine hr.fr hf (fun hk => ?_) (fun k hq hk => ?_) (fun k hq hk => ?_)
  · obtain ⟨cur, t, h1, h2⟩ := h.otype he hk
    have := heap_type hr.hb h1
    rcases h2 with rfl | rfl <;> cases this
  · obtain ⟨cur, t, h1, h2⟩ := h.otype he hk
    obtain ⟨cur', h3⟩ := hr.qtype hq
    have := heap_type h3 h1
    rcases h2 with rfl | rfl <;> cases this
  · obtain ⟨cur, t, h1, h2⟩ := h.otype he hk
    obtain ⟨cur', h3⟩ := hr.ktype hq
    have := heap_type h3 h1
    rcases h2 with rfl | rfl <;> cases this
theorem lent_rfr {n g cg : Nat} {k : List Int} (hl : LentAt w n g cg k) (hr : RT base w rb W' M' q cap E top) (hf : Fr (rfoot rb q) w w') : LentAt w' n g cg k :=
  lent_fr hl hf (fun z cs hz hc => by
    obtain ⟨cur, t, h1, h2⟩ := hr.ftype hz
    have := heap_type hc h1
    rcases h2 with rfl | rfl <;> cases this)
theorem lent_ofr {n g cg : Nat} {k : List Int} (hl : LentAt w n g cg k) (h : TM w b pb W M P m) (he : P = [] → pb = b) (hf : Fr (own2 b pb) w w') : LentAt w' n g cg k :=
  lent_fr hl hf (fun z cs hz hc => by
    obtain ⟨cur, t, h1, h2⟩ := h.otype he hz
    have := heap_type hc h1
    rcases h2 with rfl | rfl <;> cases this)
theorem lent_apart {n g cg l : Nat} {k : List Int} (hl : LentAt w n g cg k) (h : TM w b pb W M P m) : Apart (.slice (some ⟨g, 0, none⟩) l cg) b := fun p l' c e _ => by
  cases e
  obtain ⟨_, cur, h1, _⟩ := lent_heap hl
  exact ne_type h1 h.t.hb (by decide)
end
section
variable {w w1 w2 : World} {s : Sd} {n g cg : Nat} {k : List Int}
theorem box_foot {t : TypeId} {v : Value} {B : Nat} (h : PW w s) (hB : Boxed w B t v) (h1 : t ≠ 58) (h2 : t ≠ 62) (h3 : t ≠ 41) (h4 : t ≠ 71) : ¬ s.foot B := fun hk => by
  obtain ⟨cur, t', h5, h6⟩ := h.ftype hk
  have := heap_type hB h5
  subst this
  rcases h6 with q | q | q | q
  · exact h1 q
  · exact h2 q
  · exact h3 q
  · exact h4 q
/-- Put. -/
theorem put_half (h : PW w1 s) (hl : LentAt w1 n g cg k) (x : Int) {q' : Option Addr} {cap' : Nat} {E' : List Ent} {top' : Nat} (hR : RPut w1 w2 s.rb s.W s.M s.q s.E s.top s.m k x q' cap' E' top') :
    Calls Try.prog 11 #[.pointer (some ⟨s.b, 0, none⟩), .slice (some ⟨g, 0, none⟩) k.length cg, .int .i64 x] w2 fun e w3 => e = .returned (.int .i64 (putE s.W s.M s.E.length s.m k)) ∧ ∃ s', PW w3 s' ∧ LentAt w3 n g cg k ∧ Next w1.heap.size s s' ∧ Fr s.foot w1 w3 := by
  have T2 := tm_rfr h.t h.r hR.fr
  have L2 := lent_rfr hl h.r hR.fr
  refine (put_c T2 (lent_arg L2) (lent_apart L2 T2) x).mono ?_
  rintro e w3 ⟨rfl, pb3, P3, hT, hC, hN, hS, hF⟩
  rw [h.cnt] at hC hN hT
  obtain ⟨pb4, hT4, he4, hp4⟩ := tm_norm hT
  have sz := hR.fr.size
  have FF : Fr s.foot w1 w3 := (hR.fr.weak (fun i hi => .inr hi) : Fr s.foot w1 w2).seq hF (fun i _ hi => .inl hi)
  refine ⟨by rw [h.cnt], ⟨s.b, pb4, s.W, s.M, P3, putM s.W s.M s.E.length s.m k x, s.rb, q', cap', E', top', s.ab⟩, ⟨hT4, he4, rt_ofr hR.r T2 h.pe hF, hR.qe, (FF.block _ h.a.lt (box_foot h h.a (by decide) (by decide) (by decide) (by decide))).trans h.a, hR.lex, hR.same, hC.trans hR.len.symm, ?_, ?_, hR.top2⟩, lent_ofr L2 T2 h.pe hF, ⟨rfl, rfl, rfl, rfl, rfl, fun j hj => ?_, fun j hj => ?_⟩, FF⟩
  · show 2 * E'.length ≤ P3.length
    rw [hR.len, hN]
    have h2 := h.two
    unfold putC putN
    by_cases hq : putE s.W s.M s.E.length s.m k = 0 ∧ s.m k = none
    · rw [if_pos hq]
      by_cases hlt : s.P.length < 2 * (s.E.length + 1)
      · rw [if_pos ⟨hq.1, hq.2, hlt⟩]; omega
      · rw [if_neg (fun z => hlt z.2.2)]; omega
    · rw [if_neg hq, if_neg (fun z => hq ⟨z.1, z.2.1⟩)]; exact h2
  · show P3.length ≤ 16 + 8 * top'
    rw [hN]
    have h2 := h.up
    have h3 := hR.top1
    unfold putN
    by_cases hq : putE s.W s.M s.E.length s.m k = 0 ∧ s.m k = none ∧ s.P.length < 2 * (s.E.length + 1)
    · rw [if_pos hq]
      have := hR.top3 hq.1 hq.2.1
      omega
    · rw [if_neg hq]; omega
  · rcases hj with (rfl | hj) | (rfl | hj)
    · exact .inl (.inl (.inl rfl))
    · change j = pb4 at hj
      rcases hp4 with q | q
      · rcases hS.pb with z | z
        · exact .inl (.inl (.inr (by rw [hj, q, z])))
        · exact .inr (by omega)
      · exact .inl (.inl (.inl (by rw [hj, q])))
    · exact .inl (.inr (.inl rfl))
    · change qAt q' j at hj
      rcases hR.qs with z | z
      · obtain ⟨a, e1, rfl⟩ := hj
        exact .inr (z a e1)
      · rw [z] at hj; exact .inl (.inr (.inr hj))
  · rcases hj with hj | hj
    · rcases hS.k j hj with z | z
      · exact .inl (.inl z)
      · exact .inr (by omega)
    · rcases hR.ks j hj with z | z
      · exact .inl (.inr z)
      · exact .inr z
/-- Drop. -/
theorem drop_half (h : PW w1 s) (hl : LentAt w1 n g cg k) {q' : Option Addr} {cap' : Nat} {E' : List Ent} (hR : RDrop w1 w2 s.rb s.W s.M s.q s.E s.top s.m k q' cap' E') :
    Calls Try.prog 14 #[.pointer (some ⟨s.b, 0, none⟩), .slice (some ⟨g, 0, none⟩) k.length cg] w2 fun e w3 => e = .returned (.bool (s.m k).isSome) ∧ ∃ s', PW w3 s' ∧ LentAt w3 n g cg k ∧ Next w1.heap.size s s' ∧ Fr s.foot w1 w3 := by
  have T2 := tm_rfr h.t h.r hR.fr
  have L2 := lent_rfr hl h.r hR.fr
  refine (drop_c T2 (lent_arg L2)).mono ?_
  rintro e w3 ⟨rfl, P3, hT, hC, hN, hS, hF⟩
  rw [h.cnt] at hC
  obtain ⟨pb4, hT4, he4, hp4⟩ := tm_norm hT
  have sz := hR.fr.size
  have FF : Fr s.foot w1 w3 := (hR.fr.weak (fun i hi => .inr hi) : Fr s.foot w1 w2).seq hF (fun i _ hi => .inl hi)
  have hle : E'.length ≤ s.E.length := by rw [hR.len]; unfold dropC; split <;> omega
  refine ⟨rfl, ⟨s.b, pb4, s.W, s.M, P3, upd s.m k none, s.rb, q', cap', E', s.top, s.ab⟩, ⟨hT4, he4, rt_ofr hR.r T2 h.pe hF, hR.qe, (FF.block _ h.a.lt (box_foot h h.a (by decide) (by decide) (by decide) (by decide))).trans h.a, hR.lex, hR.same, hC.trans hR.len.symm, ?_, ?_, h.topb⟩, lent_ofr L2 T2 h.pe hF, ⟨rfl, rfl, rfl, rfl, rfl, fun j hj => ?_, fun j hj => ?_⟩, FF⟩
  · show 2 * E'.length ≤ P3.length
    rw [hN]; have := h.two; omega
  · show P3.length ≤ 16 + 8 * s.top
    rw [hN]; exact h.up
  · rcases hj with (rfl | hj) | (rfl | hj)
    · exact .inl (.inl (.inl rfl))
    · change j = pb4 at hj
      rcases hp4 with q | q
      · exact .inl (.inl (.inr (by rw [hj, q])))
      · exact .inl (.inl (.inl (by rw [hj, q])))
    · exact .inl (.inr (.inl rfl))
    · change qAt q' j at hj
      rcases hR.qs with z | z
      · obtain ⟨a, e1, rfl⟩ := hj
        exact .inr (z a e1)
      · rw [z] at hj; exact .inl (.inr (.inr hj))
  · rcases hj with hj | hj
    · rcases hS.k j hj with z | z
      · exact .inl (.inl z)
      · exact .inr (by omega)
    · exact .inl (.inr (hR.ks j hj))
/-- Clear of the table; then the document's. -/
structure HalfC (w1 w2 : World) (s : Sd) (n g cg : Nat) (k : List Int) : Prop where
  t : TM w2 s.b s.pb s.W s.M (List.replicate (clrN s.P.length) none) (fun _ => none)
  r : RT 0 w2 s.rb s.W s.M s.q s.cap s.E s.top
  l : LentAt w2 n g cg k
  fr : Fr (own2 s.b s.pb) w1 w2
theorem clear_one (h : PW w1 s) (hl : LentAt w1 n g cg k) : Calls Try.prog 32 #[.pointer (some ⟨s.b, 0, none⟩)] w1 fun e w2 => e = .returned (.tuple #[]) ∧ HalfC w1 w2 s n g cg k :=
  (clear_c h.t).mono fun _ _ ⟨h1, h2, h3⟩ => ⟨h1, h2, rt_ofr h.r h.t h.pe h3, lent_ofr hl h.t h.pe h3, h3⟩
theorem clear_two (h : PW w1 s) (hh : HalfC w1 w2 s n g cg k) : Calls Try.prog 33 #[.pointer (some ⟨s.rb, 0, none⟩)] w2 fun e w3 => e = .returned (.tuple #[]) ∧ ∃ s', PW w3 s' ∧ LentAt w3 n g cg k ∧ Next w1.heap.size s s' ∧ Fr s.foot w1 w3 := by
  refine (rclear_c hh.r).mono ?_
  rintro e w3 ⟨rfl, hR, hF⟩
  have hF' : Fr (rfoot s.rb s.q) w2 w3 := hF.weak (fun j hj => .inl hj)
  obtain ⟨pb4, hT4, he4, hp4⟩ := tm_norm hh.t
  have FF : Fr s.foot w1 w3 := (hh.fr.weak (fun i hi => .inl hi) : Fr s.foot w1 w2).seq hF' (fun i _ hi => .inr hi)
  refine ⟨rfl, ⟨s.b, pb4, s.W, s.M, List.replicate (clrN s.P.length) none, fun _ => none, s.rb, none, 0, [], 0, s.ab⟩, ⟨tm_rfr hT4 hh.r hF', he4, hR, fun _ => ⟨rfl, rfl⟩, (FF.block _ h.a.lt (box_foot h h.a (by decide) (by decide) (by decide) (by decide))).trans h.a, ⟨fun e he => by simp at he, List.Pairwise.nil⟩, fun k v => ⟨(fun q => by cases q), (fun ⟨e, he, _⟩ => by simp at he)⟩, cnt_bare _, Nat.zero_le _, ?_, Nat.zero_le _⟩, lent_rfr hh.l hh.r hF', ⟨rfl, rfl, rfl, rfl, rfl, fun j hj => ?_, fun j hj => ?_⟩, FF⟩
  · show (List.replicate (clrN s.P.length) (none : Option Ent)).length ≤ 16 + 8 * 0
    rw [List.length_replicate]
    unfold clrN
    split <;> omega
  · rcases hj with (rfl | hj) | (rfl | hj)
    · exact .inl (.inl (.inl rfl))
    · change j = pb4 at hj
      rcases hp4 with q | q
      · exact .inl (.inl (.inr (by rw [hj, q])))
      · exact .inl (.inl (.inl (by rw [hj, q])))
    · exact .inl (.inr (.inl rfl))
    · obtain ⟨a, e1, _⟩ := hj
      cases e1
  · rcases hj with ⟨i, e, o, n', mm, hi, _⟩ | ⟨e, he, _⟩
    · have := List.getElem?_eq_some_iff.1 hi
      obtain ⟨_, this⟩ := this
      simp at this
    · simp at he
/-- The end of a call: what was lent is written over. -/
theorem half_end {w w3 w4 : World} {s' : Sd} (h : PW w s) (hb : Below w.heap.size w w1) (hl : LentAt w1 w.heap.size g cg k) (h' : PW w3 s') (hl' : LentAt w3 w.heap.size g cg k) (hn : Next w1.heap.size s s') (hf : Fr s.foot w1 w3) (hg : Fr (fun z => z = g) w3 w4) :
    PW w4 s' ∧ Next w.heap.size s s' ∧ Fr s.foot w w4 := by
  obtain ⟨hbase, cur, h1, _⟩ := lent_heap hl
  obtain ⟨_, cur', h1', _⟩ := lent_heap hl'
  have hg1 := lt_of_heap h1
  refine ⟨h'.fr hg (fun j hj e => ?_) (fun j hj e => ?_) (fun e => ?_), hn.mono hb.size, ((Fr.of_below hb : Fr s.foot w w1).seq hf (fun i _ hi => hi)).seq hg (fun i hi e => by omega)⟩
  · obtain ⟨c, t, h2, h3⟩ := h'.ftype hj
    subst e
    have := heap_type h1' h2
    subst this
    rcases h3 with q | q | q | q <;> cases q
  · subst e
    rcases hn.keys j hj with q | q
    · have := h.klt q; omega
    · omega
  · have h2 := h'.a
    unfold Boxed at h2
    rw [e] at h2
    have := heap_type h1' h2
    cases this
end
end Go.Proofs.Ytmfljfedpdipiaa
