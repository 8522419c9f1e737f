/-
  Parts of the proof.
-/
import Derived.Test.YtbghleihgcenmaaC6
import Derived.Test.YtbghleihgcenmaaC8
set_option linter.unusedSimpArgs false
namespace Go.Proofs.Ytbghleihgcenmaa
open Go Go.RowKit
attribute [local go_sem] Oper.semAt_some
structure Cr4 where
  mb : Nat
  mo : Nat
  mp : Nat
  gb : Nat
structure CrB (w : World) (C : Cr4) (room : Nat) (X l : List Int) : Prop where
  m : MAt w C.mb C.mo C.mp room X
  g : w.heap[C.gb]? = some (.cells (ints l).toArray 3 (0, 0))
  len : l.length = room
  no : C.gb ≠ C.mo ∧ C.gb ≠ C.mp
def ownC (C : Cr4) (k : Nat) : Prop := own3 C.mb C.mo C.mp k ∨ k = C.gb
theorem CrB.lt {w : World} {C : Cr4} {room : Nat} {X l : List Int} (h : CrB w C room X l) : ∀ k, ownC C k → k < w.heap.size := fun k hk => by
  rcases hk with (rfl | rfl | rfl) | rfl
  · exact h.m.ltb
  · exact h.m.lto
  · exact h.m.ltp
  · exact lt_of_heap h.g
theorem CrB.fr {S : Nat → Prop} {w w' : World} {C : Cr4} {room : Nat} {X l : List Int} (h : CrB w C room X l) (hf : Fr S w w') (hn : ∀ k, ownC C k → ¬ S k) : CrB w' C room X l :=
  ⟨h.m.fr hf (hn _ (.inl (.inl rfl))) (hn _ (.inl (.inr (.inl rfl)))) (hn _ (.inl (.inr (.inr rfl)))), (hf.block _ (lt_of_heap h.g) (hn _ (.inr rfl))).trans h.g, h.len, h.no⟩
theorem CrB.kept {w w' : World} {C : Cr4} {room : Nat} {X l : List Int} (h : CrB w C room X l) (hb : Below w.heap.size w w') : CrB w' C room X l := h.fr (Fr.of_below (S := fun _ => False) hb) (fun _ _ q => q)
theorem CrB.bg {w : World} {C : Cr4} {room : Nat} {X l : List Int} (h : CrB w C room X l) : C.mb ≠ C.gb := fun e => by
  have h1 := h.m.hb
  rw [e, h.g] at h1
  injection h1 with h1
  injection h1 with _ h1 _
  exact absurd h1 (by decide)
theorem MAt.clear {w : World} {b o p room : Nat} {L : List Int} (h : MAt w b o p room L) : MAt (w.setCell ⟨b, 0, none⟩ (.slice (some ⟨o, 0, none⟩) 0 room)) b o p room [] := by
  have hbo := h.bo
  have hbp := h.bp
  obtain ⟨cur, hc, h2, h3⟩ := h.ho
  obtain ⟨pl, q1, q2, q3⟩ := h.hp
  refine ⟨?_, ⟨cur, ?_, h2, by simp [ints]⟩, ⟨pl, ?_, q2, fun i x hx => by simp at hx⟩, h.hne, h.hr⟩
  · rw [heap_set_in h.hb]; simp
  · rw [Below.heap_setCell _ _ _ _ (Ne.symm hbo)]; exact hc
  · rw [Below.heap_setCell _ _ _ _ (Ne.symm hbp)]; exact q1
set_option maxRecDepth 100000 in
set_option maxHeartbeats 2000000 in
theorem clear_c {w : World} {b o p room : Nat} {L : List Int} (h : MAt w b o p room L) :
    Calls Try.prog 18 #[.pointer (some ⟨b, 0, none⟩)] w fun e w' => e = .returned (.tuple #[]) ∧ MAt w' b o p room [] ∧ Fr (own3 b o p) w w' := by
  have H : Hid (MAt w b o p room L) := h
  have c0 := h.cellb0
  have fb := h.frb 0
  clear h
  go_enter Try.func18, Try.ntmps18
  go_wp2
  go_end0
  exact ⟨rfl, H.out.clear, (Fr.refl _ _).setCell (.inl rfl) _⟩
theorem CrB.clear {w w' : World} {C : Cr4} {room : Nat} {X l : List Int} (h : CrB w C room X l) (hm : MAt w' C.mb C.mo C.mp room []) (hf : Fr (own3 C.mb C.mo C.mp) w w') : CrB w' C room [] l :=
  ⟨hm, (hf.block _ (lt_of_heap h.g) (fun q => by
    rcases q with q | q | q
    · exact h.bg q.symm
    · exact h.no.1 q
    · exact h.no.2 q)).trans h.g, h.len, h.no⟩
abbrev crV (C : Cr4) (room : Nat) : Value := .agg #[.pointer (some ⟨C.mb, 0, none⟩), .slice (some ⟨C.gb, 0, none⟩) room room]
theorem made_ints (c : Nat) : madeCells #[.int .i64 0] c = (ints (List.replicate c 0)).toArray := by
  apply Array.ext (by simp [size_madeCells, ints])
  intro i h1 h2
  simp [madeCells, ints, Nat.mod_one]
set_option maxRecDepth 100000 in
set_option maxHeartbeats 2000000 in
theorem newCrowd_c (room : Nat) (hr : room ≤ 40000) (w : World) : Calls Try.prog 17 #[.int .i64 (room : Int)] w fun e w' => ∃ C l, e = .returned (crV C room) ∧ CrB w' C room [] l ∧ (∀ k, ownC C k → w.heap.size ≤ k) ∧ Below w.heap.size w w' := by
  have m1 := make_ints room room (Nat.le_refl _) (by omega)
  have B1 : Hid (Below w.heap.size w (w.alloc (.cells #[.pointer none, .slice none 0 0] 51))) := (Below.refl _ _).alloc (Nat.le_refl _) _
  have X1 : Hid ((w.alloc (.cells #[.pointer none, .slice none 0 0] 51)).heap[w.heap.size]? = some (.cells #[.pointer none, .slice none 0 0] 51 (0, 0))) := alloc_new w _
  go_enter Try.func17, Try.ntmps17
  go_upto_region 1 with fail
  generalize (w.alloc (.cells #[.pointer none, .slice none 0 0] 51)) = w1 at B1 X1 ⊢
  have l1 := lt_of_heap X1.out
  go_upto_region 2 with (go_at_call 27; (with_reducible refine (new_c room (by omega) _).mono ?_); rintro e w3 ⟨mb, mo, mp, rfl, h1, h2, h3⟩; have M3 := hide h1; have N3 := hide h2; have B3 := hide (chain B1.out h3 (Nat.le_refl _)); have X3 := hide ((h3.block _ l1).trans X1.out); clear h1 h2 h3)
  have l3 := lt_of_heap X3.out
  have g0 := cell_row X3.out (i := 0) rfl
  have g1 := cell_row X3.out (i := 1) rfl
  have f0 := frz_row X3.out 0
  have f1 := frz_row X3.out 1
  go_wp2
  clear g0 g1 f0 f1
  have hz := heap_set_in (heap_set_in X3.out 0 (.pointer (some ⟨mb, 0, none⟩))) 1 (.slice (some ⟨w3.heap.size, 0, none⟩) room room)
  have FZ : Fr (fun k => k = w.heap.size) w3 ((w3.setCell ⟨w.heap.size, 0, none⟩ (.pointer (some ⟨mb, 0, none⟩))).setCell ⟨w.heap.size, 1, none⟩ (.slice (some ⟨w3.heap.size, 0, none⟩) room room)) := ((Fr.refl (fun k => k = w.heap.size) _).setCell (p := ⟨w.heap.size, 0, none⟩) rfl _).setCell (p := ⟨w.heap.size, 1, none⟩) rfl _
  have BZ : Below w.heap.size w ((w3.setCell ⟨w.heap.size, 0, none⟩ (.pointer (some ⟨mb, 0, none⟩))).setCell ⟨w.heap.size, 1, none⟩ (.slice (some ⟨w3.heap.size, 0, none⟩) room room)) := (B3.out.setCell (p := ⟨w.heap.size, 0, none⟩) (Nat.le_refl _) _).setCell (p := ⟨w.heap.size, 1, none⟩) (Nat.le_refl _) _
  have sV : ((w3.setCell ⟨w.heap.size, 0, none⟩ (.pointer (some ⟨mb, 0, none⟩))).setCell ⟨w.heap.size, 1, none⟩ (.slice (some ⟨w3.heap.size, 0, none⟩) room room)).heap.size = w3.heap.size := by simp [World.setCell]
  generalize ((w3.setCell ⟨w.heap.size, 0, none⟩ (.pointer (some ⟨mb, 0, none⟩))).setCell ⟨w.heap.size, 1, none⟩ (.slice (some ⟨w3.heap.size, 0, none⟩) room room)) = V at hz FZ BZ sV ⊢
  have bA : Below V.heap.size V (V.alloc (.cells (madeCells #[.int .i64 0] room) 3)) := (Below.refl _ _).alloc (Nat.le_refl _) _
  have M5 : MAt V mb mo mp room [] := M3.out.fr FZ (fun q => by have := N3.out.b; have q : mb = _ := q; omega) (fun q => by have := N3.out.o; have q : mo = _ := q; omega) (fun q => by have := N3.out.p; have q : mp = _ := q; omega)
  have G4 : (V.alloc (.cells (madeCells #[.int .i64 0] room) 3)).heap[w3.heap.size]? = some (.cells (ints (List.replicate room 0)).toArray 3 (0, 0)) := by rw [← made_ints, ← sV]; exact alloc_new V _
  have hy := (bA.block _ (lt_of_heap hz)).trans hz
  have k0 := cell_row hy (i := 0) rfl
  have k1 := cell_row hy (i := 1) rfl
  refine bodyPost_ret (v := crV ⟨mb, mo, mp, w3.heap.size⟩ room) (by simp [results, Try.results17, go_sem, k0, k1]) rfl ?_
  refine ⟨⟨mb, mo, mp, w3.heap.size⟩, List.replicate room 0, rfl, ⟨M5.kept bA, G4, by simp, by have := M3.out.lto; show w3.heap.size ≠ mo; omega, by have := M3.out.ltp; show w3.heap.size ≠ mp; omega⟩, fun k hk => ?_, chain BZ bA (Nat.le_refl _)⟩
  rcases hk with (hk | hk | hk) | hk
  · have := N3.out.b; have : k = mb := hk; omega
  · have := N3.out.o; have : k = mo := hk; omega
  · have := N3.out.p; have : k = mp := hk; omega
  · have : k = w3.heap.size := hk
    omega
end Go.Proofs.Ytbghleihgcenmaa
