/-
  One call on a set and on the document's: does, Has, At, Clear, Clear and Put, and what is no call.
-/
import Derived.Test.YtofiidfnjgoenaaDoes
namespace Go.Proofs.Ytofiidfnjgoenaa
open Go Go.RowKit
attribute [local go_sem] ext_cell

set_option maxRecDepth 100000 in
set_option maxHeartbeats 1600000 in
theorem does_has {w : World} {wb : Nat} {s : St} (h : WS w wb s) (heq : s.R = s.L) (k : Bool) (n : Int) :
    Calls Try.prog 31 #[.pointer (some ⟨wb, 0, none⟩), .int .i64 (kN k : Int), .int .i64 2, .int .i64 n] w fun e w' => e = .returned (.bool true) ∧ ∃ s', WS w' wb s' ∧ s'.R = s'.L ∧ Nx w.heap.size s s' ∧ Fr (s.foot wb) w w' := by
  have H : Hid (WS w wb s) := h
  have HE : Hid (s.R = s.L) := heq
  have cm := h.cm k
  have cr := h.cr k
  have kl := kN_lt k
  have i0 : (0 : Int) ≤ (kN k : Int) := by omega
  have i1 : (kN k : Int) < 2 := by omega
  have HPT : Hid (s.R k = s.L k) := (show s.R k = s.L k from by rw [heq])
  clear h heq
  go_enter Try.func31, Try.ntmps31
  go_wp2_with first | (go_at_call 33; (with_reducible refine (rhas_c (H.out.r k) n).mono ?_); rw [HPT.out]; rintro e w5 ⟨rfl, h5⟩; subst w5) | (go_at_call 18; (with_reducible refine (has_c (H.out.m k) n).mono ?_); rintro e w5 ⟨rfl, h5⟩; subst w5)
  all_goals go_ret
  all_goals exact ⟨by first | rfl | simp, s, H.out, HE.out, Nx.refl _ s, Fr.refl _ _⟩

set_option maxRecDepth 100000 in
set_option maxHeartbeats 1600000 in
theorem does_at {w : World} {wb : Nat} {s : St} (h : WS w wb s) (heq : s.R = s.L) (k : Bool) (n : Int) :
    Calls Try.prog 31 #[.pointer (some ⟨wb, 0, none⟩), .int .i64 (kN k : Int), .int .i64 3, .int .i64 n] w fun e w' => e = .returned (.bool true) ∧ ∃ s', WS w' wb s' ∧ s'.R = s'.L ∧ Nx w.heap.size s s' ∧ Fr (s.foot wb) w w' := by
  have H : Hid (WS w wb s) := h
  have HE : Hid (s.R = s.L) := heq
  have cm := h.cm k
  have cr := h.cr k
  have kl := kN_lt k
  have i0 : (0 : Int) ≤ (kN k : Int) := by omega
  have i1 : (kN k : Int) < 2 := by omega
  have HPT : Hid (s.R k = s.L k) := (show s.R k = s.L k from by rw [heq])
  obtain ⟨q, cap, hv⟩ := (h.r k).ho.slice
  have c1 := (h.r k).cell1
  rw [hv, HPT.out] at c1
  have hll := (h.m k).len
  have hrr := (h.m k).hr
  by_cases hin : 0 ≤ n ∧ n < (s.L k).length
  · obtain ⟨j, rfl⟩ : ∃ j : Nat, n = j := ⟨n.toNat, by omega⟩
    have hj : j < (s.L k).length := by omega
    obtain ⟨x, hx⟩ : ∃ x, (s.L k)[j]? = some x := ⟨_, List.getElem?_eq_getElem hj⟩
    have hV : atV (s.L k) j = x ∧ atB (s.L k) j = true := ⟨by unfold atV; rw [if_pos ⟨by omega, by omega⟩]; simp [hx], decide_eq_true ⟨by omega, by omega⟩⟩
    have HV : Hid (atV (s.L k) j = x ∧ atB (s.L k) j = true) := hV
    obtain ⟨g, cg, eg, _, _, cx⟩ := (h.r k).ho.cell (i := j) (x := x) (by rw [HPT.out]; exact hx)
    rw [hv] at eg
    have eq1 : q = some ⟨g, 0, none⟩ := by injection eg
    subst eq1
    have j0 : (0 : Int) ≤ (j : Int) := by omega
    have j1 : (j : Int) < ((s.L k).length : Int) := by omega
    clear h heq hV hv eg hx hin
    go_enter Try.func31, Try.ntmps31
    go_wp2_with (go_at_call 19; (with_reducible refine (at_c (H.out.m k) _).mono ?_); rw [HV.out.1, HV.out.2]; rintro e w5 ⟨rfl, h5⟩; subst w5)
    all_goals go_ret
    all_goals exact ⟨by first | rfl | simp, s, H.out, HE.out, Nx.refl _ s, Fr.refl _ _⟩
  · have HV : Hid (atV (s.L k) n = 0 ∧ atB (s.L k) n = false) := ⟨if_neg hin, decide_eq_false hin⟩
    have hc : n < 0 ∨ (0 ≤ n ∧ ((s.L k).length : Int) ≤ n) := by omega
    clear h heq hin
    rcases hc with h0 | ⟨h0, h1⟩
    all_goals
      go_enter Try.func31, Try.ntmps31
      go_wp2_with (go_at_call 19; (with_reducible refine (at_c (H.out.m k) n).mono ?_); rw [HV.out.1, HV.out.2]; rintro e w5 ⟨rfl, h5⟩; subst w5)
    all_goals go_ret
    all_goals exact ⟨by first | rfl | simp, s, H.out, HE.out, Nx.refl _ s, Fr.refl _ _⟩

/-- The document's list is given up. -/
theorem RAt.drop {w : World} {rb room : Nat} {v : Value} {L : List Int} (h : RAt w rb room v L) : RAt (w.setCell ⟨rb, 1, none⟩ (.slice none 0 0)) rb room (.slice none 0 0) [] :=
  ⟨by rw [heap_set_in h.hb]; simp, OwnI.nil _ _, h.hr, by simp⟩

set_option maxRecDepth 100000 in
set_option maxHeartbeats 1600000 in
theorem does_clear {w : World} {wb : Nat} {s : St} (h : WS w wb s) (heq : s.R = s.L) (k : Bool) (n : Int) :
    Calls Try.prog 31 #[.pointer (some ⟨wb, 0, none⟩), .int .i64 (kN k : Int), .int .i64 4, .int .i64 n] w fun e w' => e = .returned (.bool true) ∧ ∃ s', WS w' wb s' ∧ s'.R = s'.L ∧ Nx w.heap.size s s' ∧ Fr (s.foot wb) w w' := by
  have H : Hid (WS w wb s) := h
  have HE : Hid (s.R = s.L) := heq
  have cm := h.cm k
  have cr := h.cr k
  have kl := kN_lt k
  have i0 : (0 : Int) ≤ (kN k : Int) := by omega
  have i1 : (kN k : Int) < 2 := by omega
  have HPT : Hid (s.R k = s.L k) := (show s.R k = s.L k from by rw [heq])
  clear h heq
  go_enter Try.func31, Try.ntmps31
  go_wp2_with first | (go_at_call 21; (with_reducible refine (clear_c (H.out.m k)).mono ?_); rintro e w1 ⟨rfl, hm, hf⟩; have HS1 : Hid (WS w1 wb { s with L := fun j => if j = k then [] else s.L j }) := H.out.setM k hm hf; have HF1 : Hid (Fr (own3 (s.b k) (s.o k) (s.p k)) w w1) := hf; clear hm hf; have r1 := (HS1.out.r k).cell1; have f1 := (HS1.out.r k).frz 1; have HS2 : Hid (WS (w1.setCell ⟨s.rb k, 1, none⟩ (.slice none 0 0)) wb { s with L := fun j => if j = k then [] else s.L j, R := fun j => if j = k then [] else s.R j, v := fun j => if j = k then .slice none 0 0 else s.v j }) := HS1.out.setR k (HS1.out.r k).drop (.inr (.inl rfl)) (Fr.setCell (S := fun z => z = s.rb k ∨ (s.v k).ownBlock = some z) (p := ⟨s.rb k, 1, none⟩) (Fr.refl _ _) (.inl rfl) _); have M2 : Hid (MAt (w1.setCell ⟨s.rb k, 1, none⟩ (.slice none 0 0)) (s.b k) (s.o k) (s.p k) (s.room k) []) := (show MAt (w1.setCell ⟨s.rb k, 1, none⟩ (.slice none 0 0)) (s.b k) (s.o k) (s.p k) (s.room k) [] from by simpa using HS2.out.m k)) | (go_at_call 12; (with_reducible refine (len_c M2.out).mono ?_); rintro e w5 ⟨rfl, h5⟩; subst w5)
  all_goals go_ret
  all_goals exact ⟨by first | rfl | simp, _, HS2.out, both HE.out k _, ⟨rfl, rfl, rfl, rfl, rfl, rfl, by simp, moved_upd (.inr (.inl rfl)), .inl rfl⟩, Fr.setCell (S := s.foot wb) (p := ⟨s.rb k, 1, none⟩) (HF1.out.mono (fun z hz => .inr (.inl ⟨k, hz⟩))) (.inr (.inr (.inl ⟨k, rfl⟩))) _⟩

set_option maxRecDepth 100000 in
set_option maxHeartbeats 1600000 in
theorem does_anew {w : World} {wb : Nat} {s : St} (h : WS w wb s) (heq : s.R = s.L) (k : Bool) (n : Int) :
    Calls Try.prog 31 #[.pointer (some ⟨wb, 0, none⟩), .int .i64 (kN k : Int), .int .i64 10, .int .i64 n] w fun e w' => e = .returned (.bool true) ∧ ∃ s', WS w' wb s' ∧ s'.R = s'.L ∧ Nx w.heap.size s s' ∧ Fr (s.foot wb) w w' := by
  have H : Hid (WS w wb s) := h
  have HE : Hid (s.R = s.L) := heq
  have cm := h.cm k
  have cr := h.cr k
  have kl := kN_lt k
  have i0 : (0 : Int) ≤ (kN k : Int) := by omega
  have i1 : (kN k : Int) < 2 := by omega
  clear h heq
  go_enter Try.func31, Try.ntmps31
  go_wp2_with first | (go_at_call 13; (with_reducible refine (put_c M3.out n).mono ?_); rintro e w4 ⟨rfl, hm, hf⟩; have HS4 : Hid _ := HS3.out.setM k hm hf; have HF4 : Hid (Fr (own3 (s.b k) (s.o k) (s.p k)) w3 w4) := hf; clear hm hf) | (go_at_call 21; (with_reducible refine (clear_c (H.out.m k)).mono ?_); rintro e w1 ⟨rfl, hm, hf⟩; have HS1 : Hid (WS w1 wb { s with L := fun j => if j = k then [] else s.L j }) := H.out.setM k hm hf; have HF1 : Hid (Fr (own3 (s.b k) (s.o k) (s.p k)) w w1) := hf; clear hm hf; have r1 := (HS1.out.r k).cell1; have f1 := (HS1.out.r k).frz 1; have HS2 : Hid (WS (w1.setCell ⟨s.rb k, 1, none⟩ (.slice none 0 0)) wb { s with L := fun j => if j = k then [] else s.L j, R := fun j => if j = k then [] else s.R j, v := fun j => if j = k then .slice none 0 0 else s.v j }) := HS1.out.setR k (HS1.out.r k).drop (.inr (.inl rfl)) (Fr.setCell (S := fun z => z = s.rb k ∨ (s.v k).ownBlock = some z) (p := ⟨s.rb k, 1, none⟩) (Fr.refl _ _) (.inl rfl) _); have HF2 : Hid (Fr (s.foot wb) w (w1.setCell ⟨s.rb k, 1, none⟩ (.slice none 0 0))) := Fr.setCell (S := s.foot wb) (p := ⟨s.rb k, 1, none⟩) (HF1.out.mono (fun z hz => .inr (.inl ⟨k, hz⟩))) (.inr (.inr (.inl ⟨k, rfl⟩))) _; have Q2 : Hid (RAt (w1.setCell ⟨s.rb k, 1, none⟩ (.slice none 0 0)) (s.rb k) (s.room k) (.slice none 0 0) []) := (HS1.out.r k).drop) | (go_at_call 34; (with_reducible refine (rput_c Q2.out (by simp) List.nodup_nil n).mono ?_); rintro e w3 ⟨v', rfl, hr1, hmv, hf1⟩; have HS3 : Hid (WS w3 wb { s with L := fun j => if j = k then [] else s.L j, R := fun j => if j = k then putL (s.room k) [] n else (if j = k then [] else s.R j), v := fun j => if j = k then v' else (if j = k then .slice none 0 0 else s.v j) }) := HS2.out.setR k hr1 (by simpa using hmv) (hf1.mono (fun z hz => by simpa using hz)); have HF3 : Hid (Fr (fun z => z = s.rb k ∨ (Value.slice none 0 0).ownBlock = some z) (w1.setCell ⟨s.rb k, 1, none⟩ (.slice none 0 0)) w3) := hf1; have M3 : Hid (MAt w3 (s.b k) (s.o k) (s.p k) (s.room k) []) := (show MAt w3 (s.b k) (s.o k) (s.p k) (s.room k) [] from by simpa using HS3.out.m k); have HMV : Hid (moved (.slice none 0 0) v' (w1.setCell ⟨s.rb k, 1, none⟩ (.slice none 0 0)).heap.size) := hmv; clear hr1 hmv hf1)
  all_goals go_ret
  all_goals exact ⟨by first | rfl | simp, _, HS4.out, by
      funext j
      by_cases hj : j = k
      · simp [hj]
      · simp [hj, HE.out], ⟨rfl, rfl, rfl, rfl, rfl, rfl, by simp, fun j => by
      by_cases hj : j = k
      · subst hj
        simp only [if_true]
        rcases HMV.out with e | e | ⟨g, hg, e⟩
        · exact .inr (.inl e)
        · exact .inr (.inl e)
        · exact .inr (.inr ⟨g, Nat.le_trans HF2.out.size hg, e⟩)
      · simp only [if_neg hj]; exact .inl rfl, .inl rfl⟩, (HF2.out.then HF3.out (fun z _ hz => by
      rcases hz with hz | hz
      · exact .inr (.inr (.inl ⟨k, hz⟩))
      · simp [Value.ownBlock] at hz)).trans (HF4.out.mono (fun z hz => .inr (.inl ⟨k, hz⟩)))⟩

set_option maxRecDepth 100000 in
set_option maxHeartbeats 1600000 in
theorem does_none {w : World} {wb : Nat} {s : St} (h : WS w wb s) (heq : s.R = s.L) (k : Bool) (kind n : Int) (h1 : (kind == 1) = false) (h2 : (kind == 2) = false) (h3 : (kind == 3) = false) (h4 : (kind == 4) = false) (h7 : (kind == 7) = false) (h10 : (kind == 10) = false) :
    Calls Try.prog 31 #[.pointer (some ⟨wb, 0, none⟩), .int .i64 (kN k : Int), .int .i64 kind, .int .i64 n] w fun e w' => e = .returned (.bool true) ∧ ∃ s', WS w' wb s' ∧ s'.R = s'.L ∧ Nx w.heap.size s s' ∧ Fr (s.foot wb) w w' := by
  have H : Hid (WS w wb s) := h
  have HE : Hid (s.R = s.L) := heq
  have cm := h.cm k
  have cr := h.cr k
  have kl := kN_lt k
  have i0 : (0 : Int) ≤ (kN k : Int) := by omega
  have i1 : (kN k : Int) < 2 := by omega
  clear h heq
  go_enter Try.func31, Try.ntmps31
  go_wp2
  go_ret
  exact ⟨rfl, s, H.out, HE.out, Nx.refl _ s, Fr.refl _ _⟩
end Go.Proofs.Ytofiidfnjgoenaa
