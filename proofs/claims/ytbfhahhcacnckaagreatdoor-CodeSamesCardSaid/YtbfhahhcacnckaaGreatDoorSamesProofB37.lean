/-
  Parts of the proof.
-/
import Derived.Test.YtbfhahhcacnckaaGreatDoorSamesProofB0
set_option linter.unusedSimpArgs false
namespace Go.Proofs.YtbfhahhcacnckaaGreatDoor
open Go Go.RowKit
structure MAt (w : World) (b o p room : Nat) (L : List Int) : Prop where
  hb : w.heap[b]? = some (.cells #[.slice (some ⟨o, 0, none⟩) L.length room, .slice (some ⟨p, 0, none⟩) room room] 99 (0, 0))
  ho : ∃ cur, w.heap[o]? = some (.cells cur 3 (0, 0)) ∧ cur.size = room ∧ cur.toList.take L.length = ints L
  hp : ∃ pl : List Int, w.heap[p]? = some (.cells (ints pl).toArray 3 (0, 0)) ∧ pl.length = room ∧ ∀ (i : Nat) (x : Int), L[i]? = some x → 0 ≤ x ∧ pl[x.toNat]? = some (i : Int)
  hne : o ≠ p
  hr : room ≤ 100000
theorem MAt.ltb {w : World} {b o p room : Nat} {L : List Int} (h : MAt w b o p room L) : b < w.heap.size := lt_of_heap h.hb
theorem MAt.lto {w : World} {b o p room : Nat} {L : List Int} (h : MAt w b o p room L) : o < w.heap.size := by obtain ⟨_, h, _⟩ := h.ho; exact lt_of_heap h
theorem MAt.ltp {w : World} {b o p room : Nat} {L : List Int} (h : MAt w b o p room L) : p < w.heap.size := by obtain ⟨_, h, _⟩ := h.hp; exact lt_of_heap h
theorem MAt.bo {w : World} {b o p room : Nat} {L : List Int} (h : MAt w b o p room L) : b ≠ o := fun e => by
  obtain ⟨_, h2, _⟩ := h.ho
  rw [← e, h.hb] at h2
  injection h2 with h2
  injection h2 with _ h2 _
  exact absurd h2 (by decide)
theorem MAt.bp {w : World} {b o p room : Nat} {L : List Int} (h : MAt w b o p room L) : b ≠ p := fun e => by
  obtain ⟨_, h2, _⟩ := h.hp
  rw [← e, h.hb] at h2
  injection h2 with h2
  injection h2 with _ h2 _
  exact absurd h2 (by decide)
theorem MAt.same {w w' : World} {b o p room : Nat} {L : List Int} (h : MAt w b o p room L) (e1 : w'.heap[b]? = w.heap[b]?) (e2 : w'.heap[o]? = w.heap[o]?) (e3 : w'.heap[p]? = w.heap[p]?) : MAt w' b o p room L :=
  ⟨e1.trans h.hb, by rw [e2]; exact h.ho, by rw [e3]; exact h.hp, h.hne, h.hr⟩
theorem MAt.below {w w' : World} {b o p room n : Nat} {L : List Int} (h : MAt w b o p room L) (hb : Below n w w') (h1 : b < n) (h2 : o < n) (h3 : p < n) : MAt w' b o p room L :=
  h.same (hb.block _ h1) (hb.block _ h2) (hb.block _ h3)
theorem MAt.kept {w w' : World} {b o p room : Nat} {L : List Int} (h : MAt w b o p room L) (hb : Below w.heap.size w w') : MAt w' b o p room L := h.below hb h.ltb h.lto h.ltp
theorem MAt.fr {S : Nat → Prop} {w w' : World} {b o p room : Nat} {L : List Int} (h : MAt w b o p room L) (hf : Fr S w w') (h1 : ¬ S b) (h2 : ¬ S o) (h3 : ¬ S p) : MAt w' b o p room L :=
  h.same (hf.block _ h.ltb h1) (hf.block _ h.lto h2) (hf.block _ h.ltp h3)
theorem MAt.len {w : World} {b o p room : Nat} {L : List Int} (h : MAt w b o p room L) : L.length ≤ room := by
  obtain ⟨cur, _, h2, h3⟩ := h.ho
  have := congrArg List.length h3
  simp [ints_length, h2] at this
  omega
theorem MAt.inr {w : World} {b o p room : Nat} {L : List Int} (h : MAt w b o p room L) {x : Int} (hx : x ∈ L) : 0 ≤ x ∧ x < room := by
  obtain ⟨pl, _, h2, h3⟩ := h.hp
  obtain ⟨i, hi⟩ := List.getElem?_of_mem hx
  obtain ⟨h0, h4⟩ := h3 i x hi
  have := (List.getElem?_eq_some_iff.1 h4).1
  omega
theorem MAt.nodup {w : World} {b o p room : Nat} {L : List Int} (h : MAt w b o p room L) : L.Nodup := by
  obtain ⟨pl, _, _, h3⟩ := h.hp
  rw [List.nodup_iff_pairwise_ne, List.pairwise_iff_getElem]
  intro i j hi hj hij e
  have q1 := (h3 i _ (List.getElem?_eq_getElem hi)).2
  have q2 := (h3 j _ (List.getElem?_eq_getElem hj)).2
  rw [e, q2] at q1
  have := Option.some.inj q1
  omega
theorem MAt.cellb0 {w : World} {b o p room : Nat} {L : List Int} (h : MAt w b o p room L) : w.cell? ⟨b, 0, none⟩ = some (.slice (some ⟨o, 0, none⟩) L.length room) := by simp [World.cell?, h.hb]
theorem MAt.cellb1 {w : World} {b o p room : Nat} {L : List Int} (h : MAt w b o p room L) : w.cell? ⟨b, 1, none⟩ = some (.slice (some ⟨p, 0, none⟩) room room) := by simp [World.cell?, h.hb]
theorem MAt.frb {w : World} {b o p room : Nat} {L : List Int} (h : MAt w b o p room L) (j : Nat) : w.frozen? ⟨b, j, none⟩ = false := by simp [World.frozen?, h.hb]
theorem MAt.cello {w : World} {b o p room : Nat} {L : List Int} (h : MAt w b o p room L) {i : Nat} {x : Int} (hx : L[i]? = some x) : w.cell? ⟨o, i, none⟩ = some (.int .i64 x) := by
  obtain ⟨cur, h1, h2, h3⟩ := h.ho
  have hi : i < L.length := (List.getElem?_eq_some_iff.1 hx).1
  have e := ints_get hx
  rw [← h3, List.getElem?_take_of_lt hi] at e
  have : cur[i]? = some (.int .i64 x) := by simpa using e
  simp [World.cell?, h1, this]
theorem pig : ∀ (r : Nat) (l : List Nat), l.Nodup → (∀ x ∈ l, x < r) → l.length ≤ r
  | 0, l, _, h => by
    cases l with
    | nil => simp
    | cons x l => exact absurd (h x (by simp)) (by omega)
  | r + 1, l, hn, h => by
    by_cases hr : r ∈ l
    · have h1 := pig r (l.erase r) (hn.erase r) (fun x hx => by
        have h2 := (hn.mem_erase_iff).1 hx
        have := h x h2.2
        omega)
      rw [List.length_erase_of_mem hr] at h1
      omega
    · have := pig r l hn (fun x hx => by
        have h1 := h x hx
        have : x ≠ r := fun e => hr (e ▸ hx)
        omega)
      omega
theorem MAt.room {w : World} {b o p room : Nat} {L : List Int} (h : MAt w b o p room L) {n : Int} (h0 : 0 ≤ n) (h1 : n < room) (hn : n ∉ L) : L.length < room := by
  have hnd : (n :: L).Nodup := List.nodup_cons.2 ⟨hn, h.nodup⟩
  have := pig room ((n :: L).map Int.toNat) ?_ ?_
  · simp at this; omega
  · rw [List.nodup_iff_pairwise_ne, List.pairwise_map]
    refine List.Pairwise.imp_of_mem ?_ (List.nodup_iff_pairwise_ne.1 hnd)
    intro a c ha hc hac e
    have q : ∀ y ∈ n :: L, 0 ≤ y := fun y hy => by
      rcases List.mem_cons.1 hy with rfl | hy
      · exact h0
      · exact (h.inr hy).1
    have := q a ha
    have := q c hc
    omega
  · intro x hx
    obtain ⟨y, hy, rfl⟩ := List.mem_map.1 hx
    rcases List.mem_cons.1 hy with rfl | hy
    · omega
    · have := h.inr hy
      omega
def own3 (b o p : Nat) (k : Nat) : Prop := k = b ∨ k = o ∨ k = p
def putB (room : Nat) (L : List Int) (n : Int) : Bool := decide (0 ≤ n ∧ n < room ∧ n ∉ L)
def putL (room : Nat) (L : List Int) (n : Int) : List Int := if 0 ≤ n ∧ n < room ∧ n ∉ L then L ++ [n] else L
def atV (L : List Int) (k : Int) : Int := if 0 ≤ k ∧ k < L.length then L[k.toNat]?.getD 0 else 0
def atB (L : List Int) (k : Int) : Bool := decide (0 ≤ k ∧ k < L.length)
end Go.Proofs.YtbfhahhcacnckaaGreatDoor
