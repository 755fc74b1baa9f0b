/-
  Half awards of the given package, and even awards of the program, under a name for the row that comes out. No condition but that of a case.
-/
import Derived.Test.YtkkdolbbioeknaaSpecHalf
import Derived.Test.YtkkdolbbioeknaaSpecMid
namespace Go.Proofs.Ytkkdolbbioeknaa
open Go.RowKit

theorem specHalf_is (E : Int) (A : Option Addr) (c : Nat) (xs H : List Int) (w : World) (lo hi : Nat) (h : Ints w lo hi A xs) (hh : hi ≤ w.heap.size) (hok : caseOkB E xs = true) (hH : halfAw E xs = H) :
    Calls Try.prog 68 #[.agg #[.int .i64 E, .slice A xs.length c]] w (RetInts w H) := by
  subst hH; exact specHalfAwards_yes E A c xs w lo hi h hh hok
theorem implEven_is (E : Int) (A : Option Addr) (c : Nat) (xs H : List Int) (w : World) (lo hi : Nat) (h : Ints w lo hi A xs) (hh : hi ≤ w.heap.size) (hok : caseOkB E xs = true) (hH : evenAw E xs = H) :
    Calls Try.prog 35 #[.agg #[.int .i64 E, .slice A xs.length c]] w (RetInts w H) := by
  subst hH; exact implEvenAwards_yes E A c xs w lo hi h hh hok

end Go.Proofs.Ytkkdolbbioeknaa
