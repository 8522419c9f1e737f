/-
  A table and the document's beside it.
-/
import Derived.Test.YtmfljfedpdipiaaLent3
namespace Go.Proofs.Ytmfljfedpdipiaa
open Go Go.RowKit Go.Shelf

/-- The blocks of the document's keys. -/
def rkblk (E : List Ent) (k : Nat) : Prop := ∃ e ∈ E, ∃ a l c, e.kv = .slice (some a) l c ∧ a.block = k
def qAt (q : Option Addr) (k : Nat) : Prop := ∃ a, q = some a ∧ a.block = k
/-- What the document's calls may write. -/
def rfoot (rb : Nat) (q : Option Addr) (k : Nat) : Prop := k = rb ∨ qAt q k
theorem Fr.seq {S T : Nat → Prop} {a b c : World} (h : Fr S a b) (k : Fr T b c) (hst : ∀ i, i < a.heap.size → T i → S i) : Fr S a c :=
  ⟨k.os.trans h.os, k.tape.trans h.tape, k.output.trans h.output, Nat.le_trans h.size k.size, fun i hi hs => (k.block i (Nat.lt_of_lt_of_le hi h.size) (fun q => hs (hst i hi q))).trans (h.block i hi hs)⟩
theorem Fr.weak {S T : Nat → Prop} {a b : World} (h : Fr S a b) (hst : ∀ i, S i → T i) : Fr T a b := ⟨h.os, h.tape, h.output, h.size, fun i hi hs => h.block i hi (fun q => hs (hst i q))⟩
theorem row_fr {S : Nat → Prop} {w w' : World} {base : Nat} {t : TypeId} {size n : Nat} {v : Value} {xs : List Value} (h : w.ownsRow base t size v n xs) (hf : Fr S w w') (hs : ∀ a l c, v = .slice (some a) l c → ¬ S a.block) : w'.ownsRow base t size v n xs := by
  obtain ⟨h1, ⟨q1, q2⟩ | ⟨g', cap', cur, q1, q2, q3, q4⟩⟩ := h
  · exact ⟨h1, .inl ⟨q1, q2⟩⟩
  · exact ⟨h1, .inr ⟨g', cap', cur, q1, q2, (hf.block g' (lt_of_heap q3) (hs _ _ _ q1)).trans q3, q4⟩⟩
theorem row_type {w : World} {base : Nat} {t : TypeId} {size n : Nat} {v : Value} {xs : List Value} (h : w.ownsRow base t size v n xs) {a : Addr} {l c : Nat} (e : v = .slice (some a) l c) : base ≤ a.block ∧ ∃ cur, w.heap[a.block]? = some (.cells cur t (0, 0)) := by
  obtain ⟨h1, ⟨q1, q2⟩ | ⟨g', cap', cur, q1, q2, q3, q4⟩⟩ := h
  · rw [q1] at e; cases e
  · rw [q1] at e; cases e; exact ⟨q2, cur, q3⟩

section
variable {w w' : World} {S : Nat → Prop} {base rb W M : Nat} {q : Option Addr} {cap : Nat} {E : List Ent} {top : Nat}
theorem RT.fr (h : RT base w rb W M q cap E top) (hf : Fr S w w') (h1 : ¬ S rb) (h2 : ∀ k, qAt q k → ¬ S k) (h3 : ∀ k, rkblk E k → ¬ S k) : RT base w' rb W M q cap E top :=
  ⟨(hf.block _ (lt_of_heap h.hb) h1).trans h.hb, row_fr h.own hf (fun a l c e => h2 _ ⟨a, by injection e, rfl⟩), fun e he => ⟨row_fr (h.keys e he).1 hf (fun a l c e' => h3 _ ⟨e, he, a, l, c, e', rfl⟩), (h.keys e he).2⟩, h.few⟩
theorem RT.qtype (h : RT base w rb W M q cap E top) {k : Nat} (hk : qAt q k) : ∃ cur, w.heap[k]? = some (.cells cur 71 (0, 0)) := by
  obtain ⟨a, rfl, rfl⟩ := hk
  exact (row_type h.own rfl).2
theorem RT.ktype (h : RT base w rb W M q cap E top) {k : Nat} (hk : rkblk E k) : ∃ cur, w.heap[k]? = some (.cells cur 3 (0, 0)) := by
  obtain ⟨e, he, a, l, c, e1, rfl⟩ := hk
  exact (row_type (h.keys e he).1 e1).2
theorem RT.ftype (h : RT base w rb W M q cap E top) {k : Nat} (hk : rfoot rb q k) : ∃ cur t, w.heap[k]? = some (.cells cur t (0, 0)) ∧ (t = 41 ∨ t = 71) := by
  rcases hk with rfl | hk
  · exact ⟨_, _, h.hb, .inl rfl⟩
  · obtain ⟨cur, hc⟩ := h.qtype hk
    exact ⟨cur, _, hc, .inr rfl⟩
end
section
variable {w w' : World} {S : Nat → Prop} {b pb W M : Nat} {P : Pl} {m : List Int → Option Int}
theorem TM.ktype (h : TM w b pb W M P m) {k : Nat} (hk : kblk P k) : ∃ cur, w.heap[k]? = some (.cells cur 3 (0, 0)) := by
  obtain ⟨i, e, o, n, mm, hi, hkv⟩ := hk
  obtain ⟨g, e1, hg⟩ := (h.t.hk i e hi).1
  rw [e1] at hkv
  cases hkv
  exact ⟨_, hg⟩
theorem TM.otype (h : TM w b pb W M P m) (he : P = [] → pb = b) {k : Nat} (hk : own2 b pb k) : ∃ cur t, w.heap[k]? = some (.cells cur t (0, 0)) ∧ (t = 58 ∨ t = 62) := by
  rcases hk with rfl | rfl
  · exact ⟨_, _, h.t.hb, .inl rfl⟩
  · by_cases hP : P = []
    · rw [he hP]; exact ⟨_, _, h.t.hb, .inl rfl⟩
    · exact ⟨_, _, h.t.hp hP, .inr rfl⟩
end
theorem heap_type {w : World} {k : Nat} {c c' : Array Value} {t t' : TypeId} {f f' : Nat × Nat} (h : w.heap[k]? = some (.cells c t f)) (h' : w.heap[k]? = some (.cells c' t' f')) : t = t' := by
  rw [h] at h'; injection h' with h'; injection h'

/-- One of the two tables, and the document's beside it. -/
structure Sd where
  b : Nat
  pb : Nat
  W : Nat
  M : Nat
  P : Pl
  m : List Int → Option Int
  rb : Nat
  q : Option Addr
  cap : Nat
  E : List Ent
  top : Nat
  ab : Nat
structure PW (w : World) (s : Sd) : Prop where
  t : TM w s.b s.pb s.W s.M s.P s.m
  pe : s.P = [] → s.pb = s.b
  r : RT 0 w s.rb s.W s.M s.q s.cap s.E s.top
  qe : s.E = [] → s.q = none ∧ s.cap = 0
  a : Boxed w s.ab 25 (.pointer (some ⟨s.b, 0, none⟩))
  lex : Lex s.W s.E
  same : Same s.m s.E
  cnt : cnt s.P = s.E.length
  two : 2 * s.E.length ≤ s.P.length
  up : s.P.length ≤ 16 + 8 * s.top
  topb : s.top ≤ 1000000
/-- What the calls on it may write. -/
def Sd.foot (s : Sd) (k : Nat) : Prop := own2 s.b s.pb k ∨ rfoot s.rb s.q k
/-- The blocks of its keys. -/
def Sd.keys (s : Sd) (k : Nat) : Prop := kblk s.P k ∨ rkblk s.E k
section
variable {w w' : World} {s : Sd} {S : Nat → Prop}
theorem PW.ftype (h : PW w s) {k : Nat} (hk : s.foot k) : ∃ cur t, w.heap[k]? = some (.cells cur t (0, 0)) ∧ (t = 58 ∨ t = 62 ∨ t = 41 ∨ t = 71) := by
  rcases hk with hk | hk
  · obtain ⟨cur, t, h1, h2⟩ := h.t.otype h.pe hk
    exact ⟨cur, t, h1, h2.elim .inl (fun q => .inr (.inl q))⟩
  · obtain ⟨cur, t, h1, h2⟩ := h.r.ftype hk
    exact ⟨cur, t, h1, .inr (.inr h2)⟩
theorem PW.ktype (h : PW w s) {k : Nat} (hk : s.keys k) : ∃ cur, w.heap[k]? = some (.cells cur 3 (0, 0)) := hk.elim h.t.ktype h.r.ktype
theorem PW.flt (h : PW w s) {k : Nat} (hk : s.foot k) : k < w.heap.size := by
  obtain ⟨cur, t, h1, _⟩ := h.ftype hk
  exact lt_of_heap h1
theorem PW.klt (h : PW w s) {k : Nat} (hk : s.keys k) : k < w.heap.size := by
  obtain ⟨cur, h1⟩ := h.ktype hk
  exact lt_of_heap h1
theorem PW.fr (h : PW w s) (hf : Fr S w w') (h1 : ∀ k, s.foot k → ¬ S k) (h2 : ∀ k, s.keys k → ¬ S k) (h3 : ¬ S s.ab) : PW w' s :=
  ⟨h.t.fr hf (h1 _ (.inl (.inl rfl))) (fun _ => h1 _ (.inl (.inr rfl))) (fun k hk hq => h2 k (.inl hq) hk), h.pe, h.r.fr hf (h1 _ (.inr (.inl rfl))) (fun k hk => h1 k (.inr (.inr hk))) (fun k hk => h2 k (.inr hk)), h.qe, (hf.block _ h.a.lt h3).trans h.a, h.lex, h.same, h.cnt, h.two, h.up, h.topb⟩
theorem PW.kept (h : PW w s) (hb : Below w.heap.size w w') : PW w' s := h.fr (S := fun _ => False) (Fr.of_below hb) (fun _ _ q => q) (fun _ _ q => q) (fun q => q)
theorem PW.grown {row : Option Nat} {B : Nat} (h : PW w s) (hg : w.grownBy w' row) (hr : ∀ r, row = some r → B ≤ r ∧ ∃ o : Obj, w.heap[r]? = some o ∧ o.isCells = false) : PW w' s := by
  have hf : Fr (fun k => some k = row) w w' := ⟨hg.os, hg.tape, hg.output, hg.size, fun k hk hs => hg.block k hk hs⟩
  have no : ∀ k cur t, w.heap[k]? = some (.cells cur t (0, 0)) → ¬ some k = row := fun k cur t hc e => by
    obtain ⟨_, o, ho, hq⟩ := hr k e.symm
    rw [hc] at ho; cases ho; cases hq
  refine h.fr hf (fun k hk => ?_) (fun k hk => ?_) (no _ _ _ h.a)
  · obtain ⟨cur, t, h1, _⟩ := h.ftype hk; exact no _ _ _ h1
  · obtain ⟨cur, h1⟩ := h.ktype hk; exact no _ _ _ h1
end
end Go.Proofs.Ytmfljfedpdipiaa
