/-
  Parts of the proof.
-/
import Derived.Test.YtbghleihgcenmaaC0
set_option linter.unusedSimpArgs false
namespace Go.Proofs.Ytbghleihgcenmaa
open Go Go.RowKit
structure MAt (w : World) (b o p room : Nat) (L : List Int) : Prop where
  hb : w.heap[b]? = some (.cells #[.slice (some ⟨o, 0, none⟩) L.length room, .slice (some ⟨p, 0, none⟩) room room] 68 (0, 0))
  ho : ∃ cur, w.heap[o]? = some (.cells cur 3 (0, 0)) ∧ cur.size = room ∧ cur.toList.take L.length = ints L
  hp : ∃ pl : List Int, w.heap[p]? = some (.cells (ints pl).toArray 3 (0, 0)) ∧ pl.length = room ∧ ∀ (i : Nat) (x : Int), L[i]? = some x → 0 ≤ x ∧ pl[x.toNat]? = some (i : Int)
  hne : o ≠ p
  hr : room ≤ 100000
theorem MAt.ltb {w : World} {b o p room : Nat} {L : List Int} (h : MAt w b o p room L) : b < w.heap.size := lt_of_heap h.hb
theorem MAt.lto {w : World} {b o p room : Nat} {L : List Int} (h : MAt w b o p room L) : o < w.heap.size := by obtain ⟨_, h, _⟩ := h.ho; exact lt_of_heap h
theorem MAt.ltp {w : World} {b o p room : Nat} {L : List Int} (h : MAt w b o p room L) : p < w.heap.size := by obtain ⟨_, h, _⟩ := h.hp; exact lt_of_heap h
theorem MAt.bo {w : World} {b o p room : Nat} {L : List Int} (h : MAt w b o p room L) : b ≠ o := fun e => by
  obtain ⟨_, h2, _⟩ := h.ho
  rw [← e, h.hb] at h2
  injection h2 with h2
  injection h2 with _ h2 _
  exact absurd h2 (by decide)
theorem MAt.bp {w : World} {b o p room : Nat} {L : List Int} (h : MAt w b o p room L) : b ≠ p := fun e => by
  obtain ⟨_, h2, _⟩ := h.hp
  rw [← e, h.hb] at h2
  injection h2 with h2
  injection h2 with _ h2 _
  exact absurd h2 (by decide)
theorem MAt.same {w w' : World} {b o p room : Nat} {L : List Int} (h : MAt w b o p room L) (e1 : w'.heap[b]? = w.heap[b]?) (e2 : w'.heap[o]? = w.heap[o]?) (e3 : w'.heap[p]? = w.heap[p]?) : MAt w' b o p room L :=
  ⟨e1.trans h.hb, by rw [e2]; exact h.ho, by rw [e3]; exact h.hp, h.hne, h.hr⟩
theorem MAt.below {w w' : World} {b o p room n : Nat} {L : List Int} (h : MAt w b o p room L) (hb : Below n w w') (h1 : b < n) (h2 : o < n) (h3 : p < n) : MAt w' b o p room L :=
  h.same (hb.block _ h1) (hb.block _ h2) (hb.block _ h3)
theorem MAt.kept {w w' : World} {b o p room : Nat} {L : List Int} (h : MAt w b o p room L) (hb : Below w.heap.size w w') : MAt w' b o p room L := h.below hb h.ltb h.lto h.ltp
theorem MAt.fr {S : Nat → Prop} {w w' : World} {b o p room : Nat} {L : List Int} (h : MAt w b o p room L) (hf : Fr S w w') (h1 : ¬ S b) (h2 : ¬ S o) (h3 : ¬ S p) : MAt w' b o p room L :=
  h.same (hf.block _ h.ltb h1) (hf.block _ h.lto h2) (hf.block _ h.ltp h3)
theorem MAt.len {w : World} {b o p room : Nat} {L : List Int} (h : MAt w b o p room L) : L.length ≤ room := by
  obtain ⟨cur, _, h2, h3⟩ := h.ho
  have := congrArg List.length h3
  simp [ints_length, h2] at this
  omega
theorem MAt.inr {w : World} {b o p room : Nat} {L : List Int} (h : MAt w b o p room L) {x : Int} (hx : x ∈ L) : 0 ≤ x ∧ x < room := by
  obtain ⟨pl, _, h2, h3⟩ := h.hp
  obtain ⟨i, hi⟩ := List.getElem?_of_mem hx
  obtain ⟨h0, h4⟩ := h3 i x hi
  have := (List.getElem?_eq_some_iff.1 h4).1
  omega
theorem MAt.nodup {w : World} {b o p room : Nat} {L : List Int} (h : MAt w b o p room L) : L.Nodup := by
  obtain ⟨pl, _, _, h3⟩ := h.hp
  rw [List.nodup_iff_pairwise_ne, List.pairwise_iff_getElem]
  intro i j hi hj hij e
  have q1 := (h3 i _ (List.getElem?_eq_getElem hi)).2
  have q2 := (h3 j _ (List.getElem?_eq_getElem hj)).2
  rw [e, q2] at q1
  have := Option.some.inj q1
  omega
theorem MAt.cellb0 {w : World} {b o p room : Nat} {L : List Int} (h : MAt w b o p room L) : w.cell? ⟨b, 0, none⟩ = some (.slice (some ⟨o, 0, none⟩) L.length room) := by simp [World.cell?, h.hb]
theorem MAt.cellb1 {w : World} {b o p room : Nat} {L : List Int} (h : MAt w b o p room L) : w.cell? ⟨b, 1, none⟩ = some (.slice (some ⟨p, 0, none⟩) room room) := by simp [World.cell?, h.hb]
theorem MAt.frb {w : World} {b o p room : Nat} {L : List Int} (h : MAt w b o p room L) (j : Nat) : w.frozen? ⟨b, j, none⟩ = false := by simp [World.frozen?, h.hb]
theorem MAt.cello {w : World} {b o p room : Nat} {L : List Int} (h : MAt w b o p room L) {i : Nat} {x : Int} (hx : L[i]? = some x) : w.cell? ⟨o, i, none⟩ = some (.int .i64 x) := by
  obtain ⟨cur, h1, h2, h3⟩ := h.ho
  have hi : i < L.length := (List.getElem?_eq_some_iff.1 hx).1
  have e := ints_get hx
  rw [← h3, List.getElem?_take_of_lt hi] at e
  have : cur[i]? = some (.int .i64 x) := by simpa using e
  simp [World.cell?, h1, this]
theorem pig : ∀ (r : Nat) (l : List Nat), l.Nodup → (∀ x ∈ l, x < r) → l.length ≤ r
  | 0, l, _, h => by
    cases l with
    | nil => simp
    | cons x l => exact absurd (h x (by simp)) (by omega)
  | r + 1, l, hn, h => by
    by_cases hr : r ∈ l
    · have h1 := pig r (l.erase r) (hn.erase r) (fun x hx => by
        have h2 := (hn.mem_erase_iff).1 hx
        have := h x h2.2
        omega)
      rw [List.length_erase_of_mem hr] at h1
      omega
    · have := pig r l hn (fun x hx => by
        have h1 := h x hx
        have : x ≠ r := fun e => hr (e ▸ hx)
        omega)
      omega
theorem MAt.room {w : World} {b o p room : Nat} {L : List Int} (h : MAt w b o p room L) {n : Int} (h0 : 0 ≤ n) (h1 : n < room) (hn : n ∉ L) : L.length < room := by
  have hnd : (n :: L).Nodup := List.nodup_cons.2 ⟨hn, h.nodup⟩
  have := pig room ((n :: L).map Int.toNat) ?_ ?_
  · simp at this; omega
  · rw [List.nodup_iff_pairwise_ne, List.pairwise_map]
    refine List.Pairwise.imp_of_mem ?_ (List.nodup_iff_pairwise_ne.1 hnd)
    intro a c ha hc hac e
    have q : ∀ y ∈ n :: L, 0 ≤ y := fun y hy => by
      rcases List.mem_cons.1 hy with rfl | hy
      · exact h0
      · exact (h.inr hy).1
    have := q a ha
    have := q c hc
    omega
  · intro x hx
    obtain ⟨y, hy, rfl⟩ := List.mem_map.1 hx
    rcases List.mem_cons.1 hy with rfl | hy
    · omega
    · have := h.inr hy
      omega
def own3 (b o p : Nat) (k : Nat) : Prop := k = b ∨ k = o ∨ k = p
def putB (room : Nat) (L : List Int) (n : Int) : Bool := decide (0 ≤ n ∧ n < room ∧ n ∉ L)
def putL (room : Nat) (L : List Int) (n : Int) : List Int := if 0 ≤ n ∧ n < room ∧ n ∉ L then L ++ [n] else L
def atV (L : List Int) (k : Int) : Int := if 0 ≤ k ∧ k < L.length then L[k.toNat]?.getD 0 else 0
def atB (L : List Int) (k : Int) : Bool := decide (0 ≤ k ∧ k < L.length)
end Go.Proofs.Ytbghleihgcenmaa
namespace Go.Proofs.Ytbghleihgcenmaa
open Go Go.RowKit
set_option maxHeartbeats 1000000 in
theorem room_c {w : World} {b o p room : Nat} {L : List Int} (h : MAt w b o p room L) :
    Calls Try.prog 36 #[.pointer (some ⟨b, 0, none⟩)] w fun e w' => e = .returned (.int .i64 room) ∧ w' = w := by
  have c1 := h.cellb1
  clear h
  go_enter Try.func36, Try.ntmps36
  go_wp2
  go_ret
  exact ⟨rfl, rfl⟩
set_option maxHeartbeats 1000000 in
theorem len_c {w : World} {b o p room : Nat} {L : List Int} (h : MAt w b o p room L) :
    Calls Try.prog 20 #[.pointer (some ⟨b, 0, none⟩)] w fun e w' => e = .returned (.int .i64 L.length) ∧ w' = w := by
  have c1 := h.cellb0
  clear h
  go_enter Try.func20, Try.ntmps20
  go_wp2
  go_ret
  exact ⟨rfl, rfl⟩
set_option maxRecDepth 100000 in
set_option maxHeartbeats 2000000 in
theorem at_c {w : World} {b o p room : Nat} {L : List Int} (h : MAt w b o p room L) (k : Int) :
    Calls Try.prog 21 #[.pointer (some ⟨b, 0, none⟩), .int .i64 k] w fun e w' => e = .returned (.tuple #[.int .i64 (atV L k), .bool (atB L k)]) ∧ w' = w := by
  have H : Hid (MAt w b o p room L) := h
  have c0 := h.cellb0
  clear h
  by_cases h0 : k < 0
  · go_enter Try.func21, Try.ntmps21
    go_wp2
    go_ret2
    exact ⟨by rw [show atV L k = 0 from if_neg (by omega), show atB L k = false from decide_eq_false (by omega)]; rfl, rfl⟩
  · by_cases h1 : (L.length : Int) ≤ k
    · go_enter Try.func21, Try.ntmps21
      go_wp2_with (go_at_call 20; refine (len_c H.out).mono ?_; rintro e w1 ⟨rfl, rfl⟩)
      go_ret2
      exact ⟨by rw [show atV L k = 0 from if_neg (by omega), show atB L k = false from decide_eq_false (by omega)]; rfl, rfl⟩
    · obtain ⟨n, rfl⟩ : ∃ n : Nat, k = n := ⟨k.toNat, by omega⟩
      have hn : n < L.length := by omega
      have i0 : (0 : Int) ≤ (n : Int) := by omega
      have i1 : (n : Int) < (L.length : Int) := by omega
      have c1 := H.out.cello (List.getElem?_eq_getElem hn)
      have HV : Hid (atV L n = L[n]) := (show atV L n = L[n] by unfold atV; rw [if_pos ⟨i0, i1⟩]; simp [hn])
      have HB : Hid (atB L n = true) := decide_eq_true ⟨i0, i1⟩
      have hl := H.out.len
      have hr := H.out.hr
      go_enter Try.func21, Try.ntmps21
      go_wp2_with (go_at_call 20; refine (len_c H.out).mono ?_; rintro e w1 ⟨rfl, rfl⟩)
      go_ret2
      exact ⟨by rw [HV.out, HB.out]; rfl, rfl⟩
theorem MAt.place {w : World} {b o p room : Nat} {L : List Int} (h : MAt w b o p room L) {n : Nat} (hn : n < room) :
    ∃ q : Int, w.cell? ⟨p, n, none⟩ = some (.int .i64 q) ∧ (atB L q && (atV L q == (n : Int))) = decide ((n : Int) ∈ L) := by
  obtain ⟨pl, h1, h2, h3⟩ := h.hp
  have hl : n < pl.length := by omega
  refine ⟨pl[n], ?_, ?_⟩
  · have e := ints_get (List.getElem?_eq_getElem hl)
    simp [World.cell?, h1, e]
  · by_cases hm : (n : Int) ∈ L
    · obtain ⟨i, hi⟩ := List.getElem?_of_mem hm
      have hil : i < L.length := (List.getElem?_eq_some_iff.1 hi).1
      have h4 := (h3 i _ hi).2
      rw [Int.toNat_natCast, List.getElem?_eq_getElem hl] at h4
      rw [Option.some.inj h4, decide_eq_true hm]
      have hb : atB L i = true := decide_eq_true ⟨by omega, by omega⟩
      have hv : atV L i = n := by unfold atV; rw [if_pos ⟨by omega, by omega⟩]; simp [hi]
      rw [hb, hv]; simp
    · rw [decide_eq_false hm]
      by_cases hq : 0 ≤ pl[n] ∧ pl[n] < L.length
      · have hb : atB L pl[n] = true := decide_eq_true hq
        rw [hb]
        have hv : atV L pl[n] ≠ n := fun e => by
          unfold atV at e
          rw [if_pos hq] at e
          have hlt : pl[n].toNat < L.length := by omega
          rw [List.getElem?_eq_getElem hlt] at e
          simp at e
          exact hm (e ▸ List.getElem_mem hlt)
        simp [hv]
      · have hb : atB L pl[n] = false := decide_eq_false hq
        rw [hb]; rfl
set_option maxRecDepth 100000 in
set_option maxHeartbeats 2000000 in
theorem has_c {w : World} {b o p room : Nat} {L : List Int} (h : MAt w b o p room L) (n : Int) :
    Calls Try.prog 37 #[.pointer (some ⟨b, 0, none⟩), .int .i64 n] w fun e w' => e = .returned (.bool (decide (n ∈ L))) ∧ w' = w := by
  have H : Hid (MAt w b o p room L) := h
  have c1 := h.cellb1
  clear h
  by_cases h0 : n < 0
  · have HN : Hid (decide (n ∈ L) = false) := decide_eq_false (fun q => by have := H.out.inr q; omega)
    go_enter Try.func37, Try.ntmps37
    go_wp2
    go_ret
    exact ⟨by rw [HN.out]; rfl, rfl⟩
  · by_cases h1 : (room : Int) ≤ n
    · have HN : Hid (decide (n ∈ L) = false) := decide_eq_false (fun q => by have := H.out.inr q; omega)
      go_enter Try.func37, Try.ntmps37
      go_wp2_with (go_at_call 36; refine (room_c H.out).mono ?_; rintro e w1 ⟨rfl, rfl⟩)
      go_ret
      exact ⟨by rw [HN.out]; rfl, rfl⟩
    · obtain ⟨m, rfl⟩ : ∃ m : Nat, n = m := ⟨n.toNat, by omega⟩
      have hm : m < room := by omega
      have i0 : (0 : Int) ≤ (m : Int) := by omega
      have i1 : (m : Int) < (room : Int) := by omega
      obtain ⟨q, cq, hq⟩ := H.out.place hm
      have HQ : Hid _ := hq
      clear hq
      have hr := H.out.hr
      go_enter Try.func37, Try.ntmps37
      go_wp2_with first | (go_at_call 36; refine (room_c H.out).mono ?_; rintro e w1 ⟨rfl, rfl⟩) | (go_at_call 21; refine (at_c H.out q).mono ?_; rintro e w1 ⟨rfl, rfl⟩)
      all_goals go_ret
      all_goals
        refine ⟨?_, rfl⟩
        first
        | (have hh : atB L q = true := (by assumption); rw [← HQ.out, hh, Bool.true_and]; rfl)
        | (have hh : atB L q = false := Bool.eq_false_iff.2 (by assumption); rw [← HQ.out, hh, Bool.false_and]; rfl)
end Go.Proofs.Ytbghleihgcenmaa
