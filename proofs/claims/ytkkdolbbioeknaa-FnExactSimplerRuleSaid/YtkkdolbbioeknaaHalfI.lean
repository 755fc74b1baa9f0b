/-
  The program's function MidOk, and forms of the contracts of chapter 5; they make new memory only. No condition but a length that fits.
-/
import Derived.Test.YtkkdolbbioeknaaHalfJ
import Derived.BigQuiet
import Derived.Deep.Cut
namespace Go.Proofs.Ytkkdolbbioeknaa
open Go.RowKit

theorem implHalf_is (E : Int) (A : Option Addr) (c : Nat) (xs H : List Int) (w : World) (lo hi : Nat) (h : Ints w lo hi A xs) (hh : hi ≤ w.heap.size) (hok : caseOkB E xs = true) (hH : halfAw E xs = H) :
    Calls Try.prog 37 #[.agg #[.int .i64 E, .slice A xs.length c]] w (RetInts w H) := by
  subst hH; exact implHalfAwards_yes E A c xs w lo hi h hh hok
theorem implHalfAwards_any (E : Int) (A : Option Addr) (c : Nat) (xs : List Int) (w : World) (lo hi : Nat) (h : Ints w lo hi A xs) (hh : hi ≤ w.heap.size) (hl : xs.length ≤ 1152921504606846976) :
    Calls Try.prog 37 #[.agg #[.int .i64 E, .slice A xs.length c]] w (RetInts w (halfAws E xs)) := by
  by_cases hok : caseOkB E xs = true
  · have e := implHalfAwards_yes E A c xs w lo hi h hh hok
    simpa [halfAws, hok] using e
  · have hok' : caseOkB E xs = false := by simpa using hok
    have e := implHalfAwards_no E A c xs w lo hi h hh hl hok'
    simpa [halfAws, hok'] using e
end Go.Proofs.Ytkkdolbbioeknaa
