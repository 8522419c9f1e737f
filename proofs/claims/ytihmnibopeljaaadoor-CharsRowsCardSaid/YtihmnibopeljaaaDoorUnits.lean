/-
  Units of a text: what the program's own calls tell.
-/
import Derived.Test.YtihmnibopeljaaaDoorRows4
import Derived.Test.YtihmnibopeljaaaDoorShelf
import Derived.Test.YtihmnibopeljaaaDoorDec
import Derived.Lib.OthersKept
namespace Go.Proofs.YtihmnibopeljaaaDoor
open Go Go.RowKit

abbrev Tabs (w : World) : Prop := Lib.Utf8Tabs 1 2 w
theorem cell_block {w : World} {b o : Nat} {v : Value} (h : w.cell? ⟨b, o, none⟩ = some v) : b < w.heap.size := by
  rcases Nat.lt_or_ge b w.heap.size with g | g
  · exact g
  · have : w.heap[b]? = none := Array.getElem?_eq_none g
    simp [World.cell?, this] at h
theorem Tabs.blocks {w : World} (h : Tabs w) : 1 < w.heap.size ∧ 2 < w.heap.size := ⟨cell_block (h.1 0 (by omega)), cell_block (h.2 0 (by omega)).1⟩
theorem Tabs.to {w w' : World} (h : Tabs w) (h1 : w'.heap[1]? = w.heap[1]?) (h2 : w'.heap[2]? = w.heap[2]?) : Tabs w' := by
  refine ⟨fun c hc => ?_, fun i hi => ?_⟩
  · have := h.1 c hc
    simpa [World.cell?, h1] using this
  · have := h.2 i hi
    simpa [World.cell?, h2] using this
theorem Tabs.below {n : Nat} {w w' : World} (h : Tabs w) (hb : Below n w w') (hn : 2 < n) : Tabs w' := h.to (hb.block 1 (by omega)) (hb.block 2 hn)
theorem Tabs.fr {S : Nat → Prop} {w w' : World} (h : Tabs w) (hb : Fr S w w') (hn : ∀ k, S k → 2 < k) : Tabs w' :=
  h.to (hb.block 1 h.blocks.1 fun q => by have := hn 1 q; omega) (hb.block 2 h.blocks.2 fun q => by have := hn 2 q; omega)

set_option maxHeartbeats 4000000 in
set_option maxRecDepth 1000000 in
theorem broken_c (s : ByteArray) (p : Nat) (w : World) (hp : p < s.size) :
    Calls Tryd.prog 34 #[.string s, .int .i64 (p : Int), .int .i32 ((Utf8.decode s p).1 : Int)] w fun e w' => e = .returned (.bool (bad s p)) ∧ w' = w := by
  obtain ⟨r, hr⟩ : ∃ r, (Utf8.decode s p).1 = r := ⟨_, rfl⟩
  rw [hr]
  have h0 : (0 : Int) ≤ (p : Int) := by omega
  have h1 : (p : Int) ≤ (s.size : Int) := by omega
  have h2 : ¬ s.size < p := by omega
  by_cases h : r = 65533
  · subst h
    have hb := bad_iff s p hp hr
    rw [← ext_list] at hb
    clear hr
    go_enter Tryd.func34, Tryd.ntmps34
    go_wp2_with (go_at_call 46; refine (Tryd.strings_HasPrefix _ _ _).mono ?_; rintro e w' ⟨rfl, rfl⟩)
    all_goals (go_ret; refine ⟨?_, rfl⟩)
    all_goals simp_all
  · have hb : bad s p = false := by simp [bad]; intro q; rw [q] at hr; exact h hr.symm
    have hz : ((r : Int) == 65533) = false := by simp; omega
    clear hr
    go_enter Tryd.func34, Tryd.ntmps34
    go_wp2
    go_ret
    exact ⟨by rw [hb]; rfl, rfl⟩
end Go.Proofs.YtihmnibopeljaaaDoor
