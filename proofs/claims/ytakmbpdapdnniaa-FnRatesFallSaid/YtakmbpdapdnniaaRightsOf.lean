/-
  Both functions RightsOf return the rights, and make new memory only.
-/
import Derived.Test.YtakmbpdapdnniaaCaseOk
import Derived.Test.YtakmbpdapdnniaaLeast
import Derived.Deep.RegionHeld3
import Derived.Deep.AppendLies
namespace Go.Proofs.Ytakmbpdapdnniaa
open Go.RowKit

end Go.Proofs.Ytakmbpdapdnniaa
