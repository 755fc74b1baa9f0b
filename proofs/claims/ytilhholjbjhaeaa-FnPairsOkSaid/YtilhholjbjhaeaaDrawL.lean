/-
  A drawn case and drawn awards: at most five claims and five small numbers, in new memory; nothing that was there is written. No condition.
-/
import Derived.Test.YtilhholjbjhaeaaDrawA
import Derived.Deep.RegionLaw
namespace Go.Proofs.Ytilhholjbjhaeaa
open Go.RowKit

def DrawnAwards (w : World) (e : Ending) (w' : World) : Prop :=
  ∃ E A1 c1 A2 c2, ∃ xs ys : List Int, xs.length ≤ 5 ∧ ys.length ≤ 5 ∧ (∀ y ∈ ys, -1 ≤ y ∧ y ≤ 1000) ∧ e = .returned (.tuple #[.agg #[.int .i64 E, .slice A1 xs.length c1], .slice A2 ys.length c2]) ∧ Own w' w.heap.size w'.heap.size A1 xs ∧ Own w' w.heap.size w'.heap.size A2 ys ∧ Below w.heap.size w w'

end Go.Proofs.Ytilhholjbjhaeaa
