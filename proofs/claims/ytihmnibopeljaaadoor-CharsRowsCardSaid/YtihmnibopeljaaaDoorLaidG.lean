/-
  What each law's row leans on: the package variables as the rows list them; a start that fits.
-/
import Derived.Test.YtihmnibopeljaaaDoorExamples
import Derived.Test.YtihmnibopeljaaaDoorCards
import Derived.Test.YtihmnibopeljaaaDoorTie
import Derived.ProofKit
import Derived.OpenShut
import Derived.LaidMore
import Derived.PinnedBridge
import Derived.Lib.LaidU8
import Derived.Deep.DeepHandedRow
import Derived.ChangeMaps5
namespace Go.Proofs.YtihmnibopeljaaaDoor
open Go Go.ChangeShapes Go.WideShapes Go.ChangeAt Go.RowKit

def laidL : List (String × DataW Unit) := [("unicode/utf8.acceptRanges", Rows.laid_unicode_utf8_acceptRanges), ("dredge/chars.spans", Rows.laid_dredge_chars_spans), ("unicode/utf8.first", Rows.laid_unicode_utf8_first)]
theorem accept_eq : (Rows.laid_unicode_utf8_acceptRanges : DataW Unit) = Lib.acceptData := by kernel_rfl
theorem first_eq : Rows.laid_unicode_utf8_first = Lib.firstData := Pinned.utf8First_eq
theorem extra : U8Extra Tryd.prog Tryd.lays260_ren := ⟨by kernel_rfl, by kernel_rfl, by kernel_rfl, by kernel_rfl, by kernel_rfl, by kernel_rfl, by kernel_rfl⟩
theorem gSpan : Tryd.prog.globalNamed "dredge/chars.spans" = some 0 := by kernel_rfl
theorem ySpan : (Tryd.prog.globals[0]?).map (·.type) = some 58 := by kernel_rfl
theorem cells_range2 : Tryd.prog.cellsOf 37 = 2 := by kernel_rfl

theorem spans_of_reads {w : World} (h : Lib.VarReads Tryd.prog w "dredge/chars.spans" Rows.laid_dredge_chars_spans) : Spans w := by
  obtain ⟨g, t, cs, fuel, p, hg, hty, hvar, hd⟩ := h
  obtain rfl := Option.some.inj (gSpan.symm.trans hg)
  obtain rfl := Option.some.inj (ySpan.symm.trans hty)
  have key : ∀ (i : Nat) (a b : Int), i < 5 → (([(0, 127), (128, 2047), (2048, 55295), (57344, 65535), (65536, 1114111)] : List (Int × Int))[i]? = some (a, b)) → cs[2 * i]? = some (.int .i64 a) ∧ cs[2 * i + 1]? = some (.int .i64 b) := fun i a b hi hab => by
    obtain ⟨fuel', d, q, hdi, he⟩ := Lib.array_elem Tryd.underlying58 hd i hi
    have hdd : d = .agg ([a, b].map fun z => .lit (.int .i64 z)) := by
      match i, hi, hdi, hab with
      | 0, _, hdi, hab => simp at hab; obtain ⟨rfl, rfl⟩ := hab; exact (Option.some.inj hdi).symm
      | 1, _, hdi, hab => simp at hab; obtain ⟨rfl, rfl⟩ := hab; exact (Option.some.inj hdi).symm
      | 2, _, hdi, hab => simp at hab; obtain ⟨rfl, rfl⟩ := hab; exact (Option.some.inj hdi).symm
      | 3, _, hdi, hab => simp at hab; obtain ⟨rfl, rfl⟩ := hab; exact (Option.some.inj hdi).symm
      | 4, _, hdi, hab => simp at hab; obtain ⟨rfl, rfl⟩ := hab; exact (Option.some.inj hdi).symm
    subst hdd
    rw [cells_range2] at he
    have hcs := Lib.ints_of_struct Tryd.underlying37 (fun j f hj => by
      match j, hj with
      | 0, hj => simp at hj; subst hj; exact ⟨Tryd.underlying3, rfl, cells_int⟩
      | 1, hj => simp at hj; subst hj; exact ⟨Tryd.underlying3, rfl, cells_int⟩
      | j + 2, hj => simp at hj) (by rw [cells_range2]; rfl) he
    have e0 := congrArg (·[0]?) hcs
    have e1 := congrArg (·[1]?) hcs
    simp only [List.getElem?_take, List.getElem?_drop] at e0 e1
    exact ⟨by simpa [Nat.mul_comm] using e0, by simpa [Nat.mul_comm] using e1⟩
  intro i v hv
  rw [World.var?_cell hg hvar i]
  have hi : i < 10 := (Array.getElem?_eq_some_iff.1 hv).1
  have k0 := key 0 0 127 (by decide) rfl
  have k1 := key 1 128 2047 (by decide) rfl
  have k2 := key 2 2048 55295 (by decide) rfl
  have k3 := key 3 57344 65535 (by decide) rfl
  have k4 := key 4 65536 1114111 (by decide) rfl
  match i, hi, hv with
  | 0, _, hv => rw [← hv]; exact k0.1
  | 1, _, hv => rw [← hv]; exact k0.2
  | 2, _, hv => rw [← hv]; exact k1.1
  | 3, _, hv => rw [← hv]; exact k1.2
  | 4, _, hv => rw [← hv]; exact k2.1
  | 5, _, hv => rw [← hv]; exact k2.2
  | 6, _, hv => rw [← hv]; exact k3.1
  | 7, _, hv => rw [← hv]; exact k3.2
  | 8, _, hv => rw [← hv]; exact k4.1
  | 9, _, hv => rw [← hv]; exact k4.2

theorem glob_of {W : World} (h : laidMetH Tryd.prog laidL W) : Glob W := by
  rw [MakeChecks.laidMetH_plain _ _ _ (by kernel_rfl)] at h
  refine ⟨?_, spans_of_reads (Lib.laidMet.reads h (by simp [laidL]))⟩
  have h3 : Lib.VarReads Tryd.prog W "unicode/utf8.first" Lib.firstData := by rw [← first_eq]; exact Lib.laidMet.reads h (by simp [laidL])
  have h4 : Lib.VarReads Tryd.prog W "unicode/utf8.acceptRanges" Lib.acceptData := by rw [← accept_eq]; exact Lib.laidMet.reads h (by simp [laidL])
  exact utf8Tabs_of_reads Tryd.lays260 extra h3 h4

/-- A world for the witness: the settled one, the three variables holding what their text lays. -/
def lay (cs : Array Value) : Obj → Obj
  | .cells _ t frozen => .cells cs t frozen
  | o => o
def firstC : Array Value := ((List.range 256).map fun c => Value.int .u8 (Lib.firstT c)).toArray
def acceptC : Array Value := ((List.range 16).flatMap fun i => [Value.int .u8 (Lib.accLo i), Value.int .u8 (Lib.accHi i)]).toArray
noncomputable def laidWorld (os : Os) : World :=
  { World.holding Tryd.prog os ⟨#[], #[], []⟩ with heap := (((World.holding Tryd.prog os ⟨#[], #[], []⟩).heap.modify 0 (lay spanC)).modify 1 (lay firstC)).modify 2 (lay acceptC) }
set_option maxRecDepth 1000000 in
theorem laid_met (os : Os) (args : Array Value) : laidMet Tryd.prog laidL ((laidWorld os).forCall (fun _ _ => 0) ⟨#[], args, []⟩).memory :=
  laidMet_of_run' 8 (by kernel_rfl) (by kernel_rfl)
end Go.Proofs.YtihmnibopeljaaaDoor
