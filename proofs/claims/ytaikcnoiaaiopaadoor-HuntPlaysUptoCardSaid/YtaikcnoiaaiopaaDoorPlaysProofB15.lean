/-
  Parts of the proof.
-/
import Derived.Test.YtaikcnoiaaiopaaDoorPlaysProofB13
import Derived.Test.YtaikcnoiaaiopaaDoorPlaysProofB14
import Derived.Test.YtaikcnoiaaiopaaDoorCards
import Derived.Test.YtaikcnoiaaiopaaDoorTie
import Derived.Test.YtaikcnoiaaiopaaDoorPlaysProofB1
import Derived.ProofKit
import Derived.LaidMore
import Derived.OpenShut
import Derived.Stop.Joined
import Derived.Laws.IdiomArrays
import Derived.Lib.LaidU8
import Derived.Lib.LaidTab
import Derived.ChangeOld
import Derived.Deep.Slices
import Derived.SliceStrings
import Derived.ChangeSame
import Derived.SizedLaws
import Derived.SevenTiedAt
import Derived.Deep.DeepHandedRow
import Derived.PinnedBridge
set_option linter.unusedSimpArgs false
namespace Go.Proofs.YtaikcnoiaaiopaaDoor
open Go Go.ChangeShapes Go.WideShapes Go.ChangeAt Go.RowKit
theorem cell_blk {w : World} {g o : Nat} {v : Value} (h : w.cell? ⟨g, o, none⟩ = some v) : g < w.heap.size := by
  rcases Nat.lt_or_ge g w.heap.size with h' | h'
  · exact h'
  · have : w.heap[g]? = none := Array.getElem?_eq_none h'
    simp [World.cell?, this] at h
def laidL : List (String × DataW Unit) := [("math/bits.deBruijn64tab", Rows.laid_math_bits_deBruijn64tab)]
theorem door_met (os : Os) (args : Array Value) : laidMetH Tryd.prog laidL ((World.doorLaid Tryd.prog 400 os).forCall (fun _ _ => 0) ⟨#[], args, []⟩).memory :=
  laidMetH_of_parts3 (fuel := 8) (laidMet_of_run' 8 (by kernel_rfl) (by kernel_rfl)) (by kernel_rfl) (by kernel_rfl)
theorem gTab : Tryd.prog.globalNamed "math/bits.deBruijn64tab" = some 0 := by kernel_rfl
theorem tTab : (Tryd.prog.globals[0]?).map (·.type) = some 119 := by kernel_rfl
theorem und_tab : Tryd.prog.underlying 119 = some (.array 64 5) := by kernel_rfl
theorem und_u8 : Tryd.prog.underlying 5 = some (.int .u8) := by kernel_rfl
theorem cells_u8 : Tryd.prog.cellsOf 5 = 1 := by kernel_rfl
theorem cells_tab : Tryd.prog.cellsOf 119 = 64 := by kernel_rfl
def tabI : List Int := Lib.deBruijn64tab.map fun (n : Nat) => (n : Int)
theorem datum_eq : (Rows.laid_math_bits_deBruijn64tab : DataW Unit) = Lib.tabData .u8 tabI := by rfl
theorem tab_of {W : World} (h : laidMetH Tryd.prog laidL W) : z1_Tab W := by
  rw [MakeChecks.laidMetH_plain _ _ _ (by kernel_rfl)] at h
  unfold laidL at h
  rw [datum_eq] at h
  have ht := Lib.tabIs_of_head gTab tTab und_tab und_u8 cells_u8 cells_tab h
  have hc : ∀ j, j < 64 → W.cell? ⟨0, j, none⟩ = some (.int .u8 (Lib.deBruijn64tab.getD j 0)) := fun j hj => by
    have hl : tabI.length = 64 := by decide
    have := ht.cell gTab j (by omega)
    rw [this]
    have e : tabI.getD j 0 = ((Lib.deBruijn64tab.getD j 0 : Nat) : Int) := by
      unfold tabI
      have hl2 : j < Lib.deBruijn64tab.length := by have : Lib.deBruijn64tab.length = 64 := by decide
                                                    omega
      simp [List.getD, hl2]
    rw [e]
  exact ⟨cell_blk (hc 0 (by decide)), hc⟩
theorem und_strs : Tryd.prog.underlying 22 = some (.slice 9) := by kernel_rfl
theorem und_str : Tryd.prog.underlying 9 = some .string := by kernel_rfl
theorem cells_str : Tryd.prog.cellsOf 9 = 1 := by kernel_rfl
set_option maxRecDepth 100000 in
theorem open_words {H : Type} {enc : TypeId × Value → H} {W : World} {base : Nat} {v : Value} {d : DataW H} {p : List MemPlace} (hok : Value.okWide Tryd.prog W .any base 22 v)
    (h : DataW.Trod enc Tryd.prog W 0 (fun _ => true) true 22 v d p) : ∃ ws : List ByteArray, ArgW W v ws := by
  obtain ⟨a', len', cap', rfl⟩ := okWide_slice und_strs hok
  obtain ⟨fuel, hf⟩ := h
  rcases open_strings und_strs und_str cells_str hf with ⟨h1, h2⟩ | ⟨a, len, cap, ss, h1, _, hlc, hcap, hm, h2, hx, _⟩
  · have h1' : Value.slice a' len' cap' = .slice none 0 0 := by simpa [Value.cells] using h1
    cases h1'
    exact ⟨[], .inl ⟨none, 0, rfl, rfl⟩⟩
  · have h1' : Value.slice a' len' cap' = .slice (some a) len cap := by simpa [Value.cells] using h1
    cases h1'
    rw [if_pos rfl] at hm
    by_cases hl : len' = 0
    · subst hl
      exact ⟨[], .inl ⟨some a, cap', rfl, rfl⟩⟩
    · obtain ⟨b, off, spot⟩ := a
      have c0 := hx 0 (by omega)
      have hs : spot = none := by
        cases spot with
        | none => rfl
        | some k =>
          exfalso
          unfold Addr.add World.cell? at c0
          simp at c0
          split at c0 <;> simp_all
      subst hs
      have hadd : ∀ j, (⟨b, off, none⟩ : Addr).add j = ⟨b, off + j, none⟩ := fun j => by unfold Addr.add; split <;> simp_all
      have hb : b < W.heap.size := by
        rw [hadd] at c0
        exact cell_blk c0
      have hll : (ss.take len').length = len' := by rw [List.length_take]; omega
      refine ⟨ss.take len', .inr ⟨b, off, cap', by rw [hll], hb, by rw [hll]; omega, hcap, fun i x hi => ?_⟩⟩
      have hil : i < len' := by have := (List.getElem?_eq_some_iff.1 hi).1; omega
      have := hx i (by omega)
      rw [hadd] at this
      rw [this]
      rw [List.getElem?_take_of_lt hil] at hi
      simp [List.getD, hi]
end Go.Proofs.YtaikcnoiaaiopaaDoor
namespace Go.Proofs.YtaikcnoiaaiopaaDoor
open Go Go.ChangeShapes Go.WideShapes Go.ChangeAt Go.RowKit
theorem laid_met (os : Os) (args : Array Value) : laidMet Tryd.prog laidL ((World.doorLaid Tryd.prog 400 os).forCall (fun _ _ => 0) ⟨#[], args, []⟩).memory :=
  laidMet_of_run' 8 (by kernel_rfl) (by kernel_rfl)
theorem bulk_one8 {H : Type} (d : DataW H) : 1 ≤ Rows.uptoBulk d := by
  cases d with
  | lit l => cases l <;> simp [Rows.uptoBulk]
  | nil => simp [Rows.uptoBulk]
  | ptr d => simp [Rows.uptoBulk]
  | slice elems spare => simp [Rows.uptoBulk]
  | agg parts => simp [Rows.uptoBulk]
  | iface t d => simp [Rows.uptoBulk]
  | map entries => simp [Rows.uptoBulk]
  | held h => simp [Rows.uptoBulk]
theorem bulk_part8 {H : Type} {d : DataW H} {l : List (DataW H)} (h : d ∈ l) : Rows.uptoBulk d ≤ Rows.uptoBulkAll l := by
  induction l with
  | nil => cases h
  | cons x r ih =>
    simp only [Rows.uptoBulkAll]
    cases List.mem_cons.1 h with
    | inl e => subst e; omega
    | inr e => have := ih e; omega
theorem bulk_len8 {H : Type} (l : List (DataW H)) : l.length ≤ Rows.uptoBulkAll l := by
  induction l with
  | nil => simp [Rows.uptoBulkAll]
  | cons x r ih => have := bulk_one8 x; simp only [Rows.uptoBulkAll, List.length_cons]; omega
theorem bulk_of8 {H : Type} {d : DataW H} {l : List (DataW H)} (hk : Rows.uptoSmall H l = true) (h : d ∈ l) : Rows.uptoBulk d ≤ 1048576 := Nat.le_trans (bulk_part8 h) (of_decide_eq_true hk)
set_option maxRecDepth 100000 in
theorem open_wordsU {H : Type} {enc : TypeId × Value → H} {W : World} {base : Nat} {v : Value} {d : DataW H} {p : List MemPlace} (hok : Value.okWide Tryd.prog W .any base 22 v)
    (h : DataW.Trod enc Tryd.prog W 0 (fun _ => true) true 22 v d p) (hb : Rows.uptoBulk d ≤ 1048576) : ∃ ws : List ByteArray, ArgW W v ws ∧ (v = .slice none 0 0 ∨ ∃ ad l c, v = .slice (some ad) l c) ∧ ws.length ≤ 1048576 := by
  obtain ⟨ws, hv⟩ := open_words hok h
  obtain ⟨a', len', cap', rfl⟩ := okWide_slice und_strs hok
  obtain ⟨fuel, hf⟩ := h
  rcases open_strings und_strs und_str cells_str hf with ⟨h1, h2⟩ | ⟨a, len, cap, ss, h1, _, hlc, hcap, hm, h2, hx, _⟩
  · have h1' : Value.slice a' len' cap' = .slice none 0 0 := by simpa [Value.cells] using h1
    cases h1'
    refine ⟨ws, hv, .inl rfl, ?_⟩
    obtain ⟨q, c, e, _⟩ := hv.slice
    injection e with _ e _
    omega
  · have h1' : Value.slice a' len' cap' = .slice (some a) len cap := by simpa [Value.cells] using h1
    cases h1'
    refine ⟨ws, hv, .inr ⟨_, _, _, rfl⟩, ?_⟩
    obtain ⟨q, c, e, _⟩ := hv.slice
    injection e with _ e _
    rw [if_pos rfl] at hm
    have hde : d = .slice (strs (ss.take len')) (strs (ss.drop len')) := (Prod.mk.inj h2).1
    rw [hde] at hb
    have hb2 := bulk_len8 (strs (H := H) (ss.take len'))
    have hb3 : (strs (H := H) (ss.take len')).length = len' := by
      unfold strs
      rw [List.length_map, List.length_take]
      omega
    simp only [Rows.uptoBulk] at hb
    omega
theorem u8_of {x : Int} (h : (Lit.int .u8 x).wf = true) : ∃ b : UInt8, x = (b.toNat : Int) := by
  simp [Lit.wf, IntKind.min, IntKind.max, IntKind.signed, IntKind.bits] at h
  refine ⟨UInt8.ofNat x.toNat, ?_⟩
  rw [UInt8.toNat_ofNat']
  omega
end Go.Proofs.YtaikcnoiaaiopaaDoor
