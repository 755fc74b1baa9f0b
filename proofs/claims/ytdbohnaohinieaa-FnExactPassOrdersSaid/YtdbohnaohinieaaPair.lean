/-
  Both functions PairTwice return twice what each of two people gets; they make no memory.
-/
import Derived.Test.YtdbohnaohinieaaGA
namespace Go.Proofs.Ytdbohnaohinieaa
open Go.RowKit

/-- Twice what the first one of two gets, and twice what the second one gets. -/
def pairA (x y z : Int) : Int := z + max 0 (z - y) - max 0 (z - x)
def pairB (x y z : Int) : Int := z + max 0 (z - x) - max 0 (z - y)
def pairIn (x y z : Int) : Bool := decide ((0 ≤ x ∧ x ≤ 576) ∧ (0 ≤ y ∧ y ≤ 576) ∧ 0 ≤ z ∧ z ≤ x + y)
theorem pairIn_iff (x y z : Int) : pairIn x y z = true ↔ ((0 ≤ x ∧ x ≤ 576) ∧ (0 ≤ y ∧ y ≤ 576) ∧ 0 ≤ z ∧ z ≤ x + y) := by simp [pairIn]
theorem pairIn_no {x y z : Int} (h : ¬ ((0 ≤ x ∧ x ≤ 576) ∧ (0 ≤ y ∧ y ≤ 576) ∧ 0 ≤ z ∧ z ≤ x + y)) : pairIn x y z = false := by simp only [pairIn, decide_eq_false_iff_not]; exact h
def twiceA (x y z : Int) : Int := if pairIn x y z = true then pairA x y z else 0
def twiceB (x y z : Int) : Int := if pairIn x y z = true then pairB x y z else 0
/-- What PairTwice hands back. -/
def RetPair (x y z : Int) (w : World) (e : Ending) (w' : World) : Prop :=
  e = .returned (.tuple #[.int .i64 (twiceA x y z), .int .i64 (twiceB x y z), .bool (pairIn x y z)]) ∧ w = w'
theorem retPair_no {x y z : Int} {w : World} (h : pairIn x y z = false) : RetPair x y z w (.returned (.tuple #[.int .i64 0, .int .i64 0, .bool false])) w := by
  refine ⟨?_, rfl⟩
  rw [h, twiceA, twiceB, h]; rfl
theorem retPair_yes {x y z a b : Int} {w : World} (h : pairIn x y z = true) (ha : a = pairA x y z) (hb : b = pairB x y z) : RetPair x y z w (.returned (.tuple #[.int .i64 a, .int .i64 b, .bool true])) w := by
  refine ⟨?_, rfl⟩
  rw [h, twiceA, twiceB, h, ha, hb]; rfl

theorem ret_two {a b c d : Int} (h1 : a = c) (h2 : b = d) : Ending.returned (.tuple #[.int .i64 a, .int .i64 b]) = .returned (.tuple #[.int .i64 c, .int .i64 d]) := by rw [h1, h2]

end Go.Proofs.Ytdbohnaohinieaa
