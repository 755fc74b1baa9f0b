/-
  Two of the program's functions of chapter 10, at a row whose length is told by another number. No condition but lengths that fit.
-/
import Derived.Test.YtbegdcnljafloaaRunL
import Derived.Test.YtbegdcnljafloaaGame10I
namespace Go.Proofs.Ytbegdcnljafloaa
open Go.RowKit

theorem implRunwayShares_len {n : Nat} (A : Option Addr) (c : Nat) (xs : List Int) (hn : xs.length = n) (w : World) (lo hi : Nat) (h : Ints w lo hi A xs) (hh : hi ≤ w.heap.size) (hl : n ≤ 1000000) :
    Calls Try.prog 23 #[.slice A n c] w (RetInts w (sharesRow xs)) := by
  subst hn; exact implRunwayShares_any A c xs w lo hi h hh (by omega)
theorem implNeedsOk_len {n : Nat} (A : Option Addr) (c : Nat) (xs : List Int) (hn : xs.length = n) (w : World) (lo hi : Nat) (h : Ints w lo hi A xs) (hh : hi ≤ w.heap.size) (hl : n ≤ 1000000) :
    Calls Try.prog 26 #[.slice A n c] w (fun e w' => e = .returned (.bool (needB xs)) ∧ Below w.heap.size w w') := by
  subst hn; exact implNeedsOk_any A c xs w lo hi h hh (by omega)
theorem implRunwayOrders_wide {n : Nat} (A : Option Addr) (c : Nat) (xs : List Int) (hn : (([] ++ xs) ++ [(0 : Int)]).length = n) (w : World) (lo hi : Nat) (h : Ints w lo hi A (([] ++ xs) ++ [0])) (hh : hi ≤ w.heap.size) (hl : n ≤ 1000000) :
    Calls Try.prog 28 #[.slice A n c] w (RetInts w (sharesRow (xs ++ [0]))) := by
  subst hn; exact implRunwayOrders_any A c (([] ++ xs) ++ [0]) w lo hi h hh (by omega)

end Go.Proofs.Ytbegdcnljafloaa
