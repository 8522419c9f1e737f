/-
  One call on a set and on the document's: does.
-/
import Derived.Test.YtofiidfnjgoenaaState2
import Derived.Deep.RegionWith
namespace Go.Proofs.Ytofiidfnjgoenaa
open Go Go.RowKit
attribute [local go_sem] ext_cell

def kN (k : Bool) : Nat := if k then 1 else 0
theorem kN_lt (k : Bool) : kN k < 2 := by cases k <;> decide
theorem WS.cm {W : World} {wb : Nat} {s : St} (h : WS W wb s) (k : Bool) : W.cell? ⟨wb, kN k, none⟩ = some (.pointer (some ⟨s.b k, 0, none⟩)) := by cases k <;> simp [World.cell?, h.hb, kN, St.mv]
theorem WS.cr {W : World} {wb : Nat} {s : St} (h : WS W wb s) (k : Bool) : W.cell? ⟨wb, 2 + kN k, none⟩ = some (.pointer (some ⟨s.rb k, 0, none⟩)) := by cases k <;> simp [World.cell?, h.hb, kN, St.rv]
/-- What a call may change. -/
def St.foot (s : St) (wb z : Nat) : Prop := z = wb ∨ (∃ k, own3 (s.b k) (s.o k) (s.p k) z) ∨ (∃ k, z = s.rb k) ∨ (∃ k, (s.v k).ownBlock = some z) ∨ s.ov.ownBlock = some z
/-- The sets lie where they lay; lists that moved lie in new blocks, from n on. -/
structure Nx (n : Nat) (s s' : St) : Prop where
  b : s'.b = s.b
  o : s'.o = s.o
  p : s'.p = s.p
  rb : s'.rb = s.rb
  ab : s'.ab = s.ab
  room : s'.room = s.room
  vs : s'.vs.length ≤ s.vs.length + 2
  v : ∀ k, moved (s.v k) (s'.v k) n
  ov : moved s.ov s'.ov n
theorem Nx.refl (n : Nat) (s : St) : Nx n s s := ⟨rfl, rfl, rfl, rfl, rfl, rfl, by omega, fun _ => .inl rfl, .inl rfl⟩
/-- One list may have moved. -/
theorem moved_upd {n : Nat} {s : St} {k : Bool} {v' : Value} (h : moved (s.v k) v' n) : ∀ j, moved (s.v j) (if j = k then v' else s.v j) n := fun j => by
  by_cases hj : j = k
  · subst hj; rw [if_pos rfl]; exact h
  · rw [if_neg hj]; exact .inl rfl
theorem upd_same {α : Type} (f : Bool → α) (k : Bool) (x : α) : (if k = k then x else f k) = x := if_pos rfl

/-- One and the other have changed, in step. -/
theorem both {s : St} (h : s.R = s.L) (k : Bool) (X : List Int) : (fun j => if j = k then X else s.R j) = (fun j => if j = k then X else s.L j) := by rw [h]

set_option maxRecDepth 100000 in
set_option maxHeartbeats 1600000 in
theorem does_put {w : World} {wb : Nat} {s : St} (h : WS w wb s) (heq : s.R = s.L) (k : Bool) (n : Int) :
    Calls Try.prog 31 #[.pointer (some ⟨wb, 0, none⟩), .int .i64 (kN k : Int), .int .i64 1, .int .i64 n] w fun e w' => e = .returned (.bool true) ∧ ∃ s', WS w' wb s' ∧ s'.R = s'.L ∧ Nx w.heap.size s s' ∧ Fr (s.foot wb) w w' := by
  have H : Hid (WS w wb s) := h
  have HE : Hid (s.R = s.L) := heq
  have cm := h.cm k
  have cr := h.cr k
  have kl := kN_lt k
  have i0 : (0 : Int) ≤ (kN k : Int) := by omega
  have i1 : (kN k : Int) < 2 := by omega
  have HIN : Hid (∀ x ∈ s.R k, 0 ≤ x ∧ x < s.room k) := fun x hx => (h.m k).inr (by rw [← heq]; exact hx)
  have HND : Hid (s.R k).Nodup := (show (s.R k).Nodup from by rw [heq]; exact (h.m k).nodup)
  have HPT : Hid (s.R k = s.L k) := (show s.R k = s.L k from by rw [heq])
  clear h heq
  go_enter Try.func31, Try.ntmps31
  go_wp2_with (go_at_call 34; (with_reducible refine (rput_c (H.out.r k) HIN.out HND.out n).mono ?_); rw [HPT.out]; rintro e w1 ⟨v', rfl, hr1, hmv, hf1⟩; obtain ⟨q', cap', rfl⟩ := hr1.ho.slice; have HS1 : Hid (WS w1 wb { s with R := fun j => if j = k then putL (s.room k) (s.L k) n else s.R j, v := fun j => if j = k then .slice q' (putL (s.room k) (s.L k) n).length cap' else s.v j }) := H.out.setR k hr1 hmv hf1; have HF1 : Hid (Fr (fun z => z = s.rb k ∨ (s.v k).ownBlock = some z) w w1) := hf1; have HMV : Hid (moved (s.v k) (.slice q' (putL (s.room k) (s.L k) n).length cap') w.heap.size) := hmv; clear hr1 hmv hf1)
  have M1 : Hid (MAt w1.drew (s.b k) (s.o k) (s.p k) (s.room k) (s.L k)) := (HS1.out.m k).kept (Below.refl _ _).drew
  go_region_with first | (go_at_call 13; (with_reducible refine (put_c M1.out n).mono ?_); rintro e w2 ⟨rfl, hm, hf⟩; have HS2 : Hid (WS w2 wb { s with L := fun j => if j = k then putL (s.room k) (s.L k) n else s.L j, R := fun j => if j = k then putL (s.room k) (s.L k) n else s.R j, v := fun j => if j = k then .slice q' (putL (s.room k) (s.L k) n).length cap' else s.v j }) := HS1.out.setM k hm (((Fr.refl _ w1).drew).trans hf); have HF2 : Hid (Fr (own3 (s.b k) (s.o k) (s.p k)) w1 w2) := ((Fr.refl _ w1).drew).trans hf; have M2 : Hid (MAt w2 (s.b k) (s.o k) (s.p k) (s.room k) (putL (s.room k) (s.L k) n)) := hm; clear hm hf; have c2 : w2.cell? ⟨s.rb k, 1, none⟩ = some (.slice q' (putL (s.room k) (s.L k) n).length cap') := (by simpa using (HS2.out.r k).cell1)) | (go_at_call 12; (with_reducible refine (len_c M2.out).mono ?_); rintro e w5 ⟨rfl, h5⟩; subst w5)
  all_goals go_wp2
  all_goals go_ret
  all_goals exact ⟨rfl, _, HS2.out, both HE.out k _, ⟨rfl, rfl, rfl, rfl, rfl, rfl, by simp, moved_upd HMV.out, .inl rfl⟩, (HF1.out.mono (fun z hz => by
      rcases hz with hz | hz
      · exact .inr (.inr (.inl ⟨k, hz⟩))
      · exact .inr (.inr (.inr (.inl ⟨k, hz⟩))))).trans (HF2.out.mono (fun z hz => .inr (.inl ⟨k, hz⟩)))⟩
end Go.Proofs.Ytofiidfnjgoenaa
