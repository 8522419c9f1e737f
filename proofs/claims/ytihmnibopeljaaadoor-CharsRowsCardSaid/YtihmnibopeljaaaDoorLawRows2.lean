/-
  CharsRows: whatever the numbers.
-/
import Derived.Test.YtihmnibopeljaaaDoorLawRows
import Derived.Test.YtihmnibopeljaaaDoorLaidG
namespace Go.Proofs.YtihmnibopeljaaaDoor
open Go Go.RowKit

theorem law_rows_any {w : World} {lo hi : Int} {v : Value} {zs : List Int} (hG : Glob w) (h : ArgI w v zs) (hwf : ∀ x ∈ zs, (Lit.int .i64 x).wf = true) :
    Calls Tryd.prog 3 #[.int .i64 lo, .int .i64 hi, v] w fun e w' => e = .returned (.bool true) ∧ Below w.heap.size w w' := by
  by_cases hb : lo < 0 ∨ 1114111 < hi ∨ hi < lo
  · exact law_rows_bad hG hb
  · exact law_rows hG h hwf (by omega) (by omega) (by omega)
end Go.Proofs.YtihmnibopeljaaaDoor
