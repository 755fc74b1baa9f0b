/-
  The program's functions of chapter 7, together. No condition but lengths that fit.
-/
import Derived.Test.YtmkmipgboecdaaaGame7J
import Derived.Test.YtmkmipgboecdaaaGame7W
namespace Go.Proofs.Ytmkmipgboecdaaa

end Go.Proofs.Ytmkmipgboecdaaa
