/-
  The program's PassShares, at a row written out in two parts. No condition but lengths that fit.
-/
import Derived.Test.YtdbohnaohinieaaPassL
import Derived.Test.YtdbohnaohinieaaGame11I
namespace Go.Proofs.Ytdbohnaohinieaa
open Go.RowKit

theorem implPassShares_wide {n : Nat} (N : Int) (A : Option Addr) (c : Nat) (vs : List Int) (p : Int) (hn : (([] ++ vs) ++ [(0 : Int)]).length = n) (w : World) (lo hi : Nat) (h : Ints w lo hi A (([] ++ vs) ++ [0])) (hh : hi ≤ w.heap.size) (hl : n ≤ 1000000) :
    Calls Try.prog 17 #[.int .i64 N, .slice A n c, .int .i64 p] w (RetInts w (passRow N (vs ++ [0]) p)) := by
  subst hn; exact implPassShares_any N A c (([] ++ vs) ++ [0]) p w lo hi h hh (by omega)

end Go.Proofs.Ytdbohnaohinieaa
