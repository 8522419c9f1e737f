/-
  Parts of the proof.
-/
import Derived.Test.YtbfhahhcacnckaaGreatDoorSamesProofB37
set_option linter.unusedSimpArgs false
namespace Go.Proofs.YtbfhahhcacnckaaGreatDoor
open Go Go.RowKit
set_option maxHeartbeats 1000000 in
theorem room_c {w : World} {b o p room : Nat} {L : List Int} (h : MAt w b o p room L) :
    Calls Tryz.prog 48 #[.pointer (some ⟨b, 0, none⟩)] w fun e w' => e = .returned (.int .i64 room) ∧ w' = w := by
  have c1 := h.cellb1
  clear h
  go_enter Tryz.func48, Tryz.ntmps48
  go_wp2
  go_ret
  exact ⟨rfl, rfl⟩
set_option maxHeartbeats 1000000 in
theorem len_c {w : World} {b o p room : Nat} {L : List Int} (h : MAt w b o p room L) :
    Calls Tryz.prog 30 #[.pointer (some ⟨b, 0, none⟩)] w fun e w' => e = .returned (.int .i64 L.length) ∧ w' = w := by
  have c1 := h.cellb0
  clear h
  go_enter Tryz.func30, Tryz.ntmps30
  go_wp2
  go_ret
  exact ⟨rfl, rfl⟩
set_option maxRecDepth 100000 in
set_option maxHeartbeats 2000000 in
theorem at_c {w : World} {b o p room : Nat} {L : List Int} (h : MAt w b o p room L) (k : Int) :
    Calls Tryz.prog 31 #[.pointer (some ⟨b, 0, none⟩), .int .i64 k] w fun e w' => e = .returned (.tuple #[.int .i64 (atV L k), .bool (atB L k)]) ∧ w' = w := by
  have H : Hid (MAt w b o p room L) := h
  have c0 := h.cellb0
  clear h
  by_cases h0 : k < 0
  · go_enter Tryz.func31, Tryz.ntmps31
    go_wp2
    go_ret2
    exact ⟨by rw [show atV L k = 0 from if_neg (by omega), show atB L k = false from decide_eq_false (by omega)]; rfl, rfl⟩
  · by_cases h1 : (L.length : Int) ≤ k
    · go_enter Tryz.func31, Tryz.ntmps31
      go_wp2_with (go_at_call 30; refine (len_c H.out).mono ?_; rintro e w1 ⟨rfl, rfl⟩)
      go_ret2
      exact ⟨by rw [show atV L k = 0 from if_neg (by omega), show atB L k = false from decide_eq_false (by omega)]; rfl, rfl⟩
    · obtain ⟨n, rfl⟩ : ∃ n : Nat, k = n := ⟨k.toNat, by omega⟩
      have hn : n < L.length := by omega
      have i0 : (0 : Int) ≤ (n : Int) := by omega
      have i1 : (n : Int) < (L.length : Int) := by omega
      have c1 := H.out.cello (List.getElem?_eq_getElem hn)
      have HV : Hid (atV L n = L[n]) := (show atV L n = L[n] by unfold atV; rw [if_pos ⟨i0, i1⟩]; simp [hn])
      have HB : Hid (atB L n = true) := decide_eq_true ⟨i0, i1⟩
      have hl := H.out.len
      have hr := H.out.hr
      go_enter Tryz.func31, Tryz.ntmps31
      go_wp2_with (go_at_call 30; refine (len_c H.out).mono ?_; rintro e w1 ⟨rfl, rfl⟩)
      go_ret2
      exact ⟨by rw [HV.out, HB.out]; rfl, rfl⟩
theorem MAt.place {w : World} {b o p room : Nat} {L : List Int} (h : MAt w b o p room L) {n : Nat} (hn : n < room) :
    ∃ q : Int, w.cell? ⟨p, n, none⟩ = some (.int .i64 q) ∧ (atB L q && (atV L q == (n : Int))) = decide ((n : Int) ∈ L) := by
  obtain ⟨pl, h1, h2, h3⟩ := h.hp
  have hl : n < pl.length := by omega
  refine ⟨pl[n], ?_, ?_⟩
  · have e := ints_get (List.getElem?_eq_getElem hl)
    simp [World.cell?, h1, e]
  · by_cases hm : (n : Int) ∈ L
    · obtain ⟨i, hi⟩ := List.getElem?_of_mem hm
      have hil : i < L.length := (List.getElem?_eq_some_iff.1 hi).1
      have h4 := (h3 i _ hi).2
      rw [Int.toNat_natCast, List.getElem?_eq_getElem hl] at h4
      rw [Option.some.inj h4, decide_eq_true hm]
      have hb : atB L i = true := decide_eq_true ⟨by omega, by omega⟩
      have hv : atV L i = n := by unfold atV; rw [if_pos ⟨by omega, by omega⟩]; simp [hi]
      rw [hb, hv]; simp
    · rw [decide_eq_false hm]
      by_cases hq : 0 ≤ pl[n] ∧ pl[n] < L.length
      · have hb : atB L pl[n] = true := decide_eq_true hq
        rw [hb]
        have hv : atV L pl[n] ≠ n := fun e => by
          unfold atV at e
          rw [if_pos hq] at e
          have hlt : pl[n].toNat < L.length := by omega
          rw [List.getElem?_eq_getElem hlt] at e
          simp at e
          exact hm (e ▸ List.getElem_mem hlt)
        simp [hv]
      · have hb : atB L pl[n] = false := decide_eq_false hq
        rw [hb]; rfl
set_option maxRecDepth 100000 in
set_option maxHeartbeats 2000000 in
theorem has_c {w : World} {b o p room : Nat} {L : List Int} (h : MAt w b o p room L) (n : Int) :
    Calls Tryz.prog 49 #[.pointer (some ⟨b, 0, none⟩), .int .i64 n] w fun e w' => e = .returned (.bool (decide (n ∈ L))) ∧ w' = w := by
  have H : Hid (MAt w b o p room L) := h
  have c1 := h.cellb1
  clear h
  by_cases h0 : n < 0
  · have HN : Hid (decide (n ∈ L) = false) := decide_eq_false (fun q => by have := H.out.inr q; omega)
    go_enter Tryz.func49, Tryz.ntmps49
    go_wp2
    go_ret
    exact ⟨by rw [HN.out]; rfl, rfl⟩
  · by_cases h1 : (room : Int) ≤ n
    · have HN : Hid (decide (n ∈ L) = false) := decide_eq_false (fun q => by have := H.out.inr q; omega)
      go_enter Tryz.func49, Tryz.ntmps49
      go_wp2_with (go_at_call 48; refine (room_c H.out).mono ?_; rintro e w1 ⟨rfl, rfl⟩)
      go_ret
      exact ⟨by rw [HN.out]; rfl, rfl⟩
    · obtain ⟨m, rfl⟩ : ∃ m : Nat, n = m := ⟨n.toNat, by omega⟩
      have hm : m < room := by omega
      have i0 : (0 : Int) ≤ (m : Int) := by omega
      have i1 : (m : Int) < (room : Int) := by omega
      obtain ⟨q, cq, hq⟩ := H.out.place hm
      have HQ : Hid _ := hq
      clear hq
      have hr := H.out.hr
      go_enter Tryz.func49, Tryz.ntmps49
      go_wp2_with first | (go_at_call 48; refine (room_c H.out).mono ?_; rintro e w1 ⟨rfl, rfl⟩) | (go_at_call 31; refine (at_c H.out q).mono ?_; rintro e w1 ⟨rfl, rfl⟩)
      all_goals go_ret
      all_goals
        refine ⟨?_, rfl⟩
        first
        | (have hh : atB L q = true := (by assumption); rw [← HQ.out, hh, Bool.true_and]; rfl)
        | (have hh : atB L q = false := Bool.eq_false_iff.2 (by assumption); rw [← HQ.out, hh, Bool.false_and]; rfl)
end Go.Proofs.YtbfhahhcacnckaaGreatDoor
