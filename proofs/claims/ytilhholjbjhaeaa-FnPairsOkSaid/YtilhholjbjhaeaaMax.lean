/-
  The greatest of some numbers, as the library returns it; of even awards it is the level. No condition but that there are some.
-/
import Derived.Test.YtilhholjbjhaeaaEven
namespace Go.Proofs.Ytilhholjbjhaeaa
open Go.RowKit

end Go.Proofs.Ytilhholjbjhaeaa
