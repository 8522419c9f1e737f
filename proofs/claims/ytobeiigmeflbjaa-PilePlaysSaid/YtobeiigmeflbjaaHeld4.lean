/-
  Regions that draw their order, inside a round: loads of cells that hold what they hold are taken first.
-/
import Derived.Test.YtobeiigmeflbjaaRnd4
import Derived.Deep.RegionHeld
namespace Go.Proofs.Ytobeiigmeflbjaa
open Go Go.RowKit Go.Shelf

theorem wpIn_region_held {P : Program} {id l n : Nat} {S : World → Prop} {Q : Exit → Act → World → Prop} {a : Act} {w : World} {ops : List Oper} (hm : P.follows .mixedOrders = true) (hd : noDefer ops = true) (hL : ¬ LetsOut Q) (hS : S w.drew)
    (h : S w.drew → wpAnyH P .any ops.toArray Q S ops.toArray.size (Array.replicate ops.toArray.size false) a w.drew) : (Code.region id ops.toArray true).wpIn (Fence.wide.inRound l) n P Q a w :=
  wpIn_region_any hm (any_round (noDefer_spec hd) hL _ _ _ _ (wpAny_of_held _ _ _ _ (h hS)))
end Go.Proofs.Ytobeiigmeflbjaa
