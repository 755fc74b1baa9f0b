/-
  Cut claims cut again stay as they are. No condition but that it is a case.
-/
import Derived.Test.YtipcmpcoeeipoaaCutCase
import Derived.Test.YtipcmpcoeeipoaaPure2
namespace Go.Proofs.Ytipcmpcoeeipoaa
open Go.RowKit

theorem implCutCase_idem (E : Int) (A : Option Addr) (c : Nat) (xs : List Int) (w : World) (lo hi : Nat) (h : Ints w lo hi A (cutRow E xs)) (hh : hi ≤ w.heap.size) (hok : caseOkB E (cutRow E xs) = true) :
    Calls Try.prog 25 #[.agg #[.int .i64 E, .slice A (cutRow E xs).length c]] w (RetCaseB w E (cutRow E xs) true) := by
  have e := implCutCase_yes E A c (cutRow E xs) w lo hi h hh hok
  rw [cut_idem] at e
  exact e

end Go.Proofs.Ytipcmpcoeeipoaa
