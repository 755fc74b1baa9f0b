/-
  slices.Sort and slices.Reverse over a row of the call's own, and slices.Min, as the library has them. No condition but lengths that fit.
-/
import Derived.Test.YtdbohnaohinieaaGro
import Derived.Test.YtdbohnaohinieaaGE
namespace Go.Proofs.Ytdbohnaohinieaa
open Go.RowKit

end Go.Proofs.Ytdbohnaohinieaa
