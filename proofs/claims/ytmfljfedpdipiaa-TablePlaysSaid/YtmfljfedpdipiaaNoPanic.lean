/-
  A way out that no panic takes.
-/
import Derived.WalkKit
namespace Go.Proofs.Ytmfljfedpdipiaa
open Go Go.RowKit

def noPanicF (Q : Exit → Act → World → Prop) : Exit → Act → World → Prop
  | .panic _, _, _ => False
  | .normal, a, w => Q .normal a w
  | .ret, a, w => Q .ret a w
  | .exit i, a, w => Q (.exit i) a w
  | .goto t, a, w => Q (.goto t) a w
  | .outgrown, a, w => Q .outgrown a w
theorem noPanicF_imp {Q : Exit → Act → World → Prop} : ∀ e a w, noPanicF Q e a w → Q e a w
  | .panic _, _, _, h => h.elim
  | .normal, _, _, h => h
  | .ret, _, _, h => h
  | .exit _, _, _, h => h
  | .goto _, _, _, h => h
  | .outgrown, _, _, h => h
end Go.Proofs.Ytmfljfedpdipiaa
