/-
  Both functions RightsOf return the rights, and make new memory only.
-/
import Derived.Test.YtdhbeodgebdjjaaCaseOk
import Derived.Test.YtdhbeodgebdjjaaLeast
import Derived.Deep.RegionHeld3
import Derived.Deep.AppendLies
namespace Go.Proofs.Ytdhbeodgebdjjaa
open Go.RowKit

end Go.Proofs.Ytdhbeodgebdjjaa
