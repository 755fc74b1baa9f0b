/-
  The function MidOk of the given package reports whether awards hold the middle; it makes new memory only.
-/
import Derived.Test.YthhcjomfpjopdaaHalf
import Derived.BigQuiet
namespace Go.Proofs.Ythhcjomfpjopdaa
open Go.RowKit

end Go.Proofs.Ythhcjomfpjopdaa
