/-
  PairTwice of what two people claim. No condition but that it may be.
-/
import Derived.Test.YtmkmipgboecdaaaArr7
import Derived.Test.YtmkmipgboecdaaaPairI
namespace Go.Proofs.Ytmkmipgboecdaaa
open Go.RowKit

theorem pair_in (x y z : Int) (w : World) (h : pairIn x y z = true) : Calls Try.prog 49 #[.int .i64 x, .int .i64 y, .int .i64 z] w fun e w' =>
    ∃ PA PB : Int, PA = pairA x y z ∧ PB = pairB x y z ∧ e = .returned (.tuple #[.int .i64 PA, .int .i64 PB, .bool true]) ∧ Below w.heap.size w w' :=
  (implPairTwice_any x y z w).mono fun _ _ ⟨e, b⟩ => ⟨_, _, rfl, rfl, by rw [e, twiceA, twiceB, if_pos h, if_pos h, h], b⟩

end Go.Proofs.Ytmkmipgboecdaaa
