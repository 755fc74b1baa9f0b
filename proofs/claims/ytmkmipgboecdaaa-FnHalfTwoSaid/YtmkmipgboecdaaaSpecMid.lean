/-
  The function MidOk of the given package reports whether awards hold the middle; it makes new memory only.
-/
import Derived.Test.YtmkmipgboecdaaaHalf
import Derived.BigQuiet
namespace Go.Proofs.Ytmkmipgboecdaaa
open Go.RowKit

end Go.Proofs.Ytmkmipgboecdaaa
