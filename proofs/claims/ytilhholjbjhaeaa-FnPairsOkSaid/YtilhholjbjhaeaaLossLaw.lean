/-
  What the promise on losses uses: whether a row is of awards, and losses of losses. No condition.
-/
import Derived.Test.YtilhholjbjhaeaaEven
namespace Go.Proofs.Ytilhholjbjhaeaa
open Go.RowKit

theorem implAwardsOk_is (E : Int) (A : Option Addr) (c : Nat) (xs : List Int) (D : Option Addr) (d : Nat) (ys : List Int) (w : World) (lo hi : Nat) (h : Ints w lo hi A xs) (hh : hi ≤ w.heap.size) (hl : xs.length ≤ 1152921504606846976)
    (lo' hi' : Nat) (h' : Ints w lo' hi' D ys) (hh' : hi' ≤ w.heap.size) (hl' : ys.length ≤ 1152921504606846976) {b : Bool} (hb : awardsB E xs ys = b) :
    Calls Try.prog 34 #[.agg #[.int .i64 E, .slice A xs.length c], .slice D ys.length d] w fun e w' => e = .returned (.bool b) ∧ Below w.heap.size w w' := by
  rw [← hb]
  exact implAwardsOk_any E A c xs D d ys w lo hi h hh hl lo' hi' h' hh' hl'
theorem implLossesOf_back (E : Int) (A : Option Addr) (c : Nat) (xs : List Int) (D : Option Addr) (d : Nat) (ys : List Int) (w : World) (lo hi : Nat) (h : Ints w lo hi A xs) (hh : hi ≤ w.heap.size) (hl : xs.length ≤ 1152921504606846976)
    (lo' hi' : Nat) (h' : Ints w lo' hi' D (lossesRow xs ys)) (hh' : hi' ≤ w.heap.size) (hl' : (lossesRow xs ys).length ≤ 1152921504606846976) (hok : awardsB E xs (lossesRow xs ys) = true) (hy : ys.length = xs.length) :
    Calls Try.prog 17 #[.agg #[.int .i64 E, .slice A xs.length c], .slice D (lossesRow xs ys).length d] w (RetInts w ys) := by
  have e := implLossesOf_yes E A c xs D d (lossesRow xs ys) w lo hi h hh hl lo' hi' h' hh' hl' hok
  rw [loss_twice xs ys hy] at e
  exact e
theorem aw_loss {E : Int} {xs ys : List Int} (h : awardsB E xs ys = true) : awardsB (xs.sum - E) xs (lossesRow xs ys) = true := (awardsB_iff _ _ _).2 (loss_aw ((awardsB_iff _ _ _).1 h))

end Go.Proofs.Ytilhholjbjhaeaa
