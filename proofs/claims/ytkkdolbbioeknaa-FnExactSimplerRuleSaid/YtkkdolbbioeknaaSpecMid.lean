/-
  The function MidOk of the given package reports whether awards hold the middle; it makes new memory only.
-/
import Derived.Test.YtkkdolbbioeknaaHalf
import Derived.BigQuiet
namespace Go.Proofs.Ytkkdolbbioeknaa
open Go.RowKit

end Go.Proofs.Ytkkdolbbioeknaa
