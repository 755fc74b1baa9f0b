/-
  A sorted copy of numbers is new memory, and is the numbers in order. No condition but that there are some, and a length that fits.
-/
import Derived.Test.YtilhholjbjhaeaaEven
namespace Go.Proofs.Ytilhholjbjhaeaa
open Go.RowKit

end Go.Proofs.Ytilhholjbjhaeaa
