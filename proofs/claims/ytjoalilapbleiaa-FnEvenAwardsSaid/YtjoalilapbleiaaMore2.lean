/-
  A row that is as even as another one is told so; awards are small numbers. No condition.
-/
import Derived.Test.YtjoalilapbleiaaMoreImpl
import Derived.Test.YtjoalilapbleiaaAwardsOk
namespace Go.Proofs.Ytjoalilapbleiaa
open Go.RowKit

theorem aw_small' {E : Int} {xs ys : List Int} (h : Aw E xs ys) : Small ys := aw_small h.1 h.2.1 h.2.2.1
theorem drawn_small {ys : List Int} (h5 : ys.length ≤ 5) (hb : ∀ y ∈ ys, -1 ≤ y ∧ y ≤ 1000) : Small ys := ⟨by omega, fun y hy => by have := hb y hy; omega⟩
theorem implMoreEven_yes (A : Option Addr) (c : Nat) (a : List Int) (D : Option Addr) (d : Nat) (b : List Int) (w : World) (lo hi : Nat) (h : Ints w lo hi A a) (hh : hi ≤ w.heap.size) (lo' hi' : Nat) (h' : Ints w lo' hi' D b) (hh' : hi' ≤ w.heap.size) (ha : Small a) (hb : Small b) (hm : More a b) :
    Calls Try.prog 22 #[.slice A a.length c, .slice D b.length d] w fun e w' => e = .returned (.bool true) ∧ Below w.heap.size w w' := by
  have e := implMoreEven_any A c a D d b w lo hi h hh lo' hi' h' hh' ha hb
  rwa [(moreB_iff a b).2 hm] at e

end Go.Proofs.Ytjoalilapbleiaa
