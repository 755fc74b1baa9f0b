/-
  Both functions PairTwice, as the laws take them. No condition but whole numbers of 64 bits.
-/
import Derived.Test.YtbegdcnljafloaaPairI
namespace Go.Proofs.Ytbegdcnljafloaa
open Go.RowKit

theorem specPair_yes (x y z a b : Int) (w : World) (h : pairIn x y z = true) (ha : pairA x y z = a) (hb : pairB x y z = b) :
    Calls Try.prog 13 #[.int .i64 x, .int .i64 y, .int .i64 z] w fun e w' => e = .returned (.tuple #[.int .i64 a, .int .i64 b, .bool true]) ∧ w = w' :=
  (specPairTwice_any x y z w).mono fun _ _ ⟨e1, e2⟩ => ⟨by rw [e1, h, twiceA, twiceB, h, ← ha, ← hb]; rfl, e2⟩
theorem specPair_no (x y z : Int) (w : World) (h : pairIn x y z = false) :
    Calls Try.prog 13 #[.int .i64 x, .int .i64 y, .int .i64 z] w fun e w' => e = .returned (.tuple #[.int .i64 0, .int .i64 0, .bool false]) ∧ w = w' :=
  (specPairTwice_any x y z w).mono fun _ _ ⟨e1, e2⟩ => ⟨by rw [e1, h, twiceA, twiceB, h]; rfl, e2⟩
theorem implPair_yes (x y z a b : Int) (w : World) (h : pairIn x y z = true) (ha : pairA x y z = a) (hb : pairB x y z = b) :
    Calls Try.prog 12 #[.int .i64 x, .int .i64 y, .int .i64 z] w fun e w' => e = .returned (.tuple #[.int .i64 a, .int .i64 b, .bool true]) ∧ Below w.heap.size w w' :=
  (implPairTwice_any x y z w).mono fun _ _ ⟨e1, e2⟩ => ⟨by rw [e1, h, twiceA, twiceB, h, ← ha, ← hb]; rfl, e2⟩
theorem implPair_no (x y z : Int) (w : World) (h : pairIn x y z = false) :
    Calls Try.prog 12 #[.int .i64 x, .int .i64 y, .int .i64 z] w fun e w' => e = .returned (.tuple #[.int .i64 0, .int .i64 0, .bool false]) ∧ Below w.heap.size w w' :=
  (implPairTwice_any x y z w).mono fun _ _ ⟨e1, e2⟩ => ⟨by rw [e1, h, twiceA, twiceB, h]; rfl, e2⟩
theorem implPair_cases (x y z : Int) : ∃ (p q : Int) (b : Bool), ∀ w : World,
    Calls Try.prog 12 #[.int .i64 x, .int .i64 y, .int .i64 z] w fun e w' => e = .returned (.tuple #[.int .i64 p, .int .i64 q, .bool b]) ∧ Below w.heap.size w w' :=
  ⟨_, _, _, fun w => implPairTwice_any x y z w⟩

end Go.Proofs.Ytbegdcnljafloaa
