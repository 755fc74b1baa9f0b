/-
  Both functions RightsOf return the rights, and make new memory only.
-/
import Derived.Test.YtpoafafoncgenabCaseOk
import Derived.Test.YtpoafafoncgenabLeast
import Derived.Deep.RegionHeld3
import Derived.Deep.AppendLies
namespace Go.Proofs.Ytpoafafoncgenab
open Go.RowKit

end Go.Proofs.Ytpoafafoncgenab
