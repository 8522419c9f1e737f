/-
  A table that a law owns: its width, its most, how many entries and places there are, its values; its calls.
-/
import Derived.Test.YtmfljfedpdipiaaClear
namespace Go.Proofs.Ytmfljfedpdipiaa
open Go Go.RowKit

/-- Blocks that are no table's stay. -/
def KI (w w' : World) : Prop := ∀ (g : Nat) (cs : Array Value) (t : TypeId), t ≠ 58 → t ≠ 62 → w.heap[g]? = some (.cells cs t (0, 0)) → w'.heap[g]? = some (.cells cs t (0, 0))
theorem KI.refl (w : World) : KI w w := fun _ _ _ _ _ h => h
theorem KI.trans {a b c : World} (h : KI a b) (k : KI b c) : KI a c := fun g cs t h1 h2 h3 => k g cs t h1 h2 (h g cs t h1 h2 h3)
theorem KI.of_below {a b : World} (h : Below a.heap.size a b) : KI a b := fun g _ _ _ _ h3 => (h.block g (lt_of_heap h3)).trans h3

/-- A table from block base on. -/
structure TS (base : Nat) (w : World) (b W M c n : Nat) (m : List Int → Option Int) : Prop where
  ex : ∃ pb P, TM w b pb W M P m ∧ cnt P = c ∧ P.length = n ∧ base ≤ pb ∧ (P = [] → pb = b)
  hb : base ≤ b
/-- What a call on it leaves of the rest. -/
structure Out (base : Nat) (w w' : World) : Prop where
  below : Below base w w'
  ki : KI w w'
theorem Out.refl (base : Nat) (w : World) : Out base w w := ⟨Below.refl _ _, KI.refl _⟩
theorem Out.trans {base : Nat} {a b c : World} (h : Out base a b) (k : Out base b c) : Out base a c := ⟨h.below.trans k.below, h.ki.trans k.ki⟩
theorem Out.of_below {base : Nat} {a b : World} (h : Below a.heap.size a b) (hb : base ≤ a.heap.size) : Out base a b := ⟨h.mono hb, KI.of_below h⟩
theorem Out.size {base : Nat} {a b : World} (h : Out base a b) : a.heap.size ≤ b.heap.size := h.below.size

section
variable {base : Nat} {w w' : World} {b W M c n : Nat} {m : List Int → Option Int}
theorem TS.kept (h : TS base w b W M c n m) (hb : Below w.heap.size w w') : TS base w' b W M c n m := by
  obtain ⟨pb, P, h1, h2, h3, h4, h5⟩ := h.ex
  exact ⟨⟨pb, P, h1.kept hb, h2, h3, h4, h5⟩, h.hb⟩
theorem TS.lt (h : TS base w b W M c n m) : b < w.heap.size := by
  obtain ⟨pb, P, h1, _⟩ := h.ex
  exact h1.t.ltb
theorem TS.few (h : TS base w b W M c n m) : c ≤ M := by
  obtain ⟨pb, P, h1, rfl, _⟩ := h.ex
  exact h1.few
theorem TS.two (h : TS base w b W M c n m) : 2 * c ≤ n := by
  obtain ⟨pb, P, h1, rfl, rfl, _⟩ := h.ex
  by_cases hP : P = []
  · subst hP; simp [cnt]
  · exact (h1.p hP).few
theorem TS.pow (h : TS base w b W M c n m) : n = 0 ∨ Pow2 n := by
  obtain ⟨pb, P, h1, rfl, rfl, _⟩ := h.ex
  by_cases hP : P = []
  · subst hP; exact .inl rfl
  · exact .inr (h1.t.hn hP)
theorem TS.le_M (h : TS base w b W M c n m) : M ≤ 1000000 := by
  obtain ⟨pb, P, h1, _⟩ := h.ex
  exact h1.t.hM
theorem TS.len (h : TS base w b W M c n m) {k : List Int} {v : Int} (hk : m k = some v) : k.length = W := by
  obtain ⟨pb, P, h1, _⟩ := h.ex
  obtain ⟨i, e, hi, rfl, _⟩ := (h1.m k v).1 hk
  exact (h1.t.hk i e hi).2
/-- No block that a table does not own is changed. -/
theorem own_out {pb : Nat} {P : Pl} (h : TM w b pb W M P m) (hp : P = [] → pb = b) (hb : base ≤ b) (hpb : base ≤ pb) (hf : Fr (own2 b pb) w w') : Out base w w' := by
  refine ⟨⟨hf.os, hf.tape, hf.output, hf.size, fun k hk => hf.block k ?_ ?_⟩, fun g cs t h1 h2 h3 => (hf.block g (lt_of_heap h3) ?_).trans h3⟩
  · have := h.t.ltb; omega
  · rintro (rfl | rfl) <;> omega
  · rintro (rfl | rfl)
    · rw [h.t.hb] at h3
      injection h3 with h3
      injection h3 with _ h3 _
      exact h1 h3.symm
    · by_cases hP : P = []
      · rw [hp hP, h.t.hb] at h3
        injection h3 with h3
        injection h3 with _ h3 _
        exact h1 h3.symm
      · rw [h.t.hp hP] at h3
        injection h3 with h3
        injection h3 with _ h3 _
        exact h2 h3.symm
/-- Where there are no places no block is theirs. -/
theorem TM.next {pb : Nat} {P : Pl} (h : TM w b pb W M P m) (h4 : base ≤ pb) (hb : base ≤ b) : ∃ pb', TM w b pb' W M P m ∧ base ≤ pb' ∧ (P = [] → pb' = b) := by
  by_cases hP : P = []
  · subst hP
    exact ⟨b, ⟨⟨h.t.hb, fun q => absurd rfl q, h.t.hk, h.t.hn, h.t.hW, h.t.hM⟩, h.p, h.m, h.few⟩, hb, fun _ => rfl⟩
  · exact ⟨pb, h, h4, fun q => absurd q hP⟩
theorem len_s (h : TS base w b W M c n m) : Calls Try.prog 12 #[.pointer (some ⟨b, 0, none⟩)] w fun e w' => e = .returned (.int .i64 c) ∧ w' = w := by
  obtain ⟨pb, P, h1, rfl, _⟩ := h.ex
  exact len_c h1.t
theorem slots_s (h : TS base w b W M c n m) : Calls Try.prog 36 #[.pointer (some ⟨b, 0, none⟩)] w fun e w' => e = .returned (.int .i64 n) ∧ w' = w := by
  obtain ⟨pb, P, h1, _, rfl, _⟩ := h.ex
  exact slots_c h1.t
theorem get_s (h : TS base w b W M c n m) {v : Value} {k : List Int} (hz : ArgI w v k) :
    Calls Try.prog 13 #[.pointer (some ⟨b, 0, none⟩), v] w fun e w' => e = .returned (.tuple #[.int .i64 (getV (m k)), .bool (m k).isSome]) ∧ Below w.heap.size w w' := by
  obtain ⟨pb, P, h1, _⟩ := h.ex
  exact get_p h1.t h1.p h1.m hz
theorem put_s (h : TS base w b W M c n m) {v : Value} {k : List Int} (hz : ArgI w v k) (hap : Apart v b) (x : Int) :
    Calls Try.prog 11 #[.pointer (some ⟨b, 0, none⟩), v, .int .i64 x] w fun e w' => e = .returned (.int .i64 (putE W M c m k)) ∧ TS base w' b W M (putC W M c m k) (putN W M c n m k) (putM W M c m k x) ∧ Out base w w' := by
  obtain ⟨pb, P, h1, rfl, rfl, h4, h5⟩ := h.ex
  refine (put_c h1 hz hap x).mono ?_
  rintro e w' ⟨rfl, pb', P', hT, hC, hN, hS, hF⟩
  have hpb : base ≤ pb' := by
    rcases hS.pb with q | q
    · omega
    · exact Nat.le_trans (Nat.le_trans h.hb (Nat.le_of_lt h1.t.ltb)) q
  obtain ⟨pb2, q1, q2, q3⟩ := hT.next hpb h.hb
  exact ⟨rfl, ⟨⟨pb2, P', q1, hC, hN, q2, q3⟩, h.hb⟩, own_out h1 h5 h.hb h4 hF⟩
theorem drop_s (h : TS base w b W M c n m) {v : Value} {k : List Int} (hz : ArgI w v k) :
    Calls Try.prog 14 #[.pointer (some ⟨b, 0, none⟩), v] w fun e w' => e = .returned (.bool (m k).isSome) ∧ TS base w' b W M (dropC c (m k)) n (upd m k none) ∧ Out base w w' := by
  obtain ⟨pb, P, h1, rfl, rfl, h4, h5⟩ := h.ex
  refine (drop_c h1 hz).mono ?_
  rintro e w' ⟨rfl, P', hT, hC, hN, hS, hF⟩
  obtain ⟨pb2, q1, q2, q3⟩ := hT.next h4 h.hb
  exact ⟨rfl, ⟨⟨pb2, P', q1, hC, hN, q2, q3⟩, h.hb⟩, own_out h1 h5 h.hb h4 hF⟩
theorem clear_s (h : TS base w b W M c n m) :
    Calls Try.prog 32 #[.pointer (some ⟨b, 0, none⟩)] w fun e w' => e = .returned (.tuple #[]) ∧ TS base w' b W M 0 (clrN n) (fun _ => none) ∧ Out base w w' := by
  obtain ⟨pb, P, h1, rfl, rfl, h4, h5⟩ := h.ex
  refine (clear_c h1).mono ?_
  rintro e w' ⟨rfl, hT, hF⟩
  obtain ⟨pb2, q1, q2, q3⟩ := hT.next h4 h.hb
  exact ⟨rfl, ⟨⟨pb2, _, q1, cnt_bare _, List.length_replicate, q2, q3⟩, h.hb⟩, own_out h1 h5 h.hb h4 hF⟩
end
theorem new_s (W M : Int) (hW : 0 ≤ W ∧ W ≤ 128) (hM : 0 ≤ M ∧ M ≤ 1000000) (w : World) :
    Calls Try.prog 7 #[.int .i64 W, .int .i64 M] w fun e w' => ∃ b, e = .returned (.tuple #[.pointer (some ⟨b, 0, none⟩), .int .i64 0]) ∧ TS w.heap.size w' b W.toNat M.toNat 0 0 (fun _ => none) ∧ Below w.heap.size w w' := by
  obtain ⟨W, rfl⟩ : ∃ n : Nat, W = n := ⟨W.toNat, by omega⟩
  obtain ⟨M, rfl⟩ : ∃ n : Nat, M = n := ⟨M.toNat, by omega⟩
  refine (new_c W M (by omega) (by omega) w).mono ?_
  rintro e w' ⟨rfl, hT, hB⟩
  exact ⟨_, rfl, ⟨⟨w.heap.size, [], ⟨hT, fun q => absurd rfl q, maps_bare 0, Nat.zero_le _⟩, rfl, rfl, Nat.le_refl _, fun _ => rfl⟩, Nat.le_refl _⟩, hB⟩

/-- A list that was laid just now. -/
theorem argI_new (w : World) (l : List Int) (hl : l.length ≤ maxLen) : ArgI (w.alloc (.cells (ints l).toArray 3)) (.slice (some ⟨w.heap.size, 0, none⟩) l.length l.length) l :=
  KeyAt.argI ⟨_, rfl, World.alloc_heap_new w _⟩ hl
theorem apart_new {w : World} {b n c o : Nat} (h : b < w.heap.size) : Apart (.slice (some ⟨w.heap.size, o, none⟩) n c) b := fun p _ _ e _ => by
  cases e
  exact Nat.ne_of_gt h
end Go.Proofs.Ytmfljfedpdipiaa
