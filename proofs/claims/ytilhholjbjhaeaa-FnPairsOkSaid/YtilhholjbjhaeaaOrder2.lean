/-
  The program's test of an order returns the same as the model's. No condition but lengths that fit.
-/
import Derived.Test.YtilhholjbjhaeaaOrder
namespace Go.Proofs.Ytilhholjbjhaeaa
open Go.RowKit

theorem info_bool : (Try.prog.info? 4).map (fun i => (i.zero, i.size, i.bytes)) = some (some (.bool false), 1, 1) := by kernel_rfl
def bools (l : List Bool) : List Value := l.map Value.bool
theorem bools_set (l : List Bool) (k : Nat) (b : Bool) : bools (l.set k b) = (bools l).set k (.bool b) := by simp [bools, List.map_set]
theorem bools_at (l : List Bool) (k : Nat) (h : k < l.length) : (bools l)[k]? = some (.bool (l.getD k false)) := by simp [bools, h]

end Go.Proofs.Ytilhholjbjhaeaa
