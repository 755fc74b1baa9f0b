/-
  The function MidOk of the given package reports whether awards hold the middle; it makes new memory only.
-/
import Derived.Test.YtaeidjhndkpkfaaHalf
import Derived.BigQuiet
namespace Go.Proofs.Ytaeidjhndkpkfaa
open Go.RowKit

end Go.Proofs.Ytaeidjhndkpkfaa
