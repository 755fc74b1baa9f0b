/-
  Whole shares and whole awards by the names that the laws use. No condition but those of a case and of awards.
-/
import Derived.Test.YtdhbeodgebdjjaaUnitsAny
import Derived.Test.YtdhbeodgebdjjaaWholeLaw
namespace Go.Proofs.Ytdhbeodgebdjjaa
open Go.RowKit

theorem implWholeShares_is (E : Int) (A : Option Addr) (c : Nat) (xs : List Int) (w : World) (lo hi : Nat) (h : Ints w lo hi A xs) (hh : hi ≤ w.heap.size) (hl : xs.length ≤ 1152921504606846976) (hok : caseOkB E xs = true) :
    Calls Try.prog 33 #[.agg #[.int .i64 E, .slice A xs.length c]] w (RetInts w (shW E xs)) := by
  have e := implWholeShares_any E A c xs w lo hi h hh hl
  have e2 : wholeSh E xs = shW E xs := if_pos hok
  rw [e2] at e; exact e
theorem specWholeShares_is (E : Int) (A : Option Addr) (c : Nat) (xs : List Int) (w : World) (lo hi : Nat) (h : Ints w lo hi A xs) (hh : hi ≤ w.heap.size) (hl : xs.length ≤ 1152921504606846976) (hok : caseOkB E xs = true) :
    Calls Try.prog 34 #[.agg #[.int .i64 E, .slice A xs.length c]] w (RetInts w (shW E xs)) := by
  have e := specWholeShares_any E A c xs w lo hi h hh hl
  have e2 : wholeSh E xs = shW E xs := if_pos hok
  rw [e2] at e; exact e
theorem implWholeShares_none (E : Int) (A : Option Addr) (c : Nat) (xs : List Int) (w : World) (lo hi : Nat) (h : Ints w lo hi A xs) (hh : hi ≤ w.heap.size) (hl : xs.length ≤ 1152921504606846976) (hok : caseOkB E xs = false) :
    Calls Try.prog 33 #[.agg #[.int .i64 E, .slice A xs.length c]] w (RetInts w []) := by
  have e := implWholeShares_any E A c xs w lo hi h hh hl
  have e2 : wholeSh E xs = [] := if_neg (by simp [hok])
  rw [e2] at e; exact e

end Go.Proofs.Ytdhbeodgebdjjaa
