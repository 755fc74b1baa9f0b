/-
  The drawn cases: at most five claims, in new memory; nothing that was there is written. No condition.
-/
import Derived.Test.YtilhholjbjhaeaaDraw3
namespace Go.Proofs.Ytilhholjbjhaeaa
open Go.RowKit

/-- What a function leaves that draws a case. -/
def DrawnCase (w : World) (e : Ending) (w' : World) : Prop :=
  ∃ E A' c', ∃ xs : List Int, xs.length ≤ 5 ∧ e = .returned (.agg #[.int .i64 E, .slice A' xs.length c']) ∧ Own w' w.heap.size w'.heap.size A' xs ∧ Below w.heap.size w w'

end Go.Proofs.Ytilhholjbjhaeaa
