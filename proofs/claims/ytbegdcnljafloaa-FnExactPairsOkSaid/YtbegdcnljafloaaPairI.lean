/-
  The program's function PairTwice returns twice what each of two people gets; it makes new memory only. No condition.
-/
import Derived.Test.YtbegdcnljafloaaPair
import Derived.Test.YtbegdcnljafloaaGA
namespace Go.Proofs.Ytbegdcnljafloaa
open Go.RowKit

theorem lit_ints (w : World) (x y : Int) (t : TypeId) : Ints (w.alloc (.cells #[.int .i64 x, .int .i64 y] t)) 0 (w.heap.size + 1) (some ⟨w.heap.size, 0, none⟩) [x, y] := fun _ => ⟨w.heap.size, 0, rfl, Nat.zero_le _, by omega, fun j hj => by
  have e := new2 w (.int .i64 x) (.int .i64 y) t
  rcases j with _ | _ | j
  · exact e.1
  · exact e.2
  · simp at hj; omega⟩
def bothIn (x y : Int) : Bool := decide ((0 ≤ x ∧ x ≤ 576) ∧ (0 ≤ y ∧ y ≤ 576))
theorem part_two (x y : Int) : allB 576 [x, y] = bothIn x y := by simp [allB, bothIn]
theorem partTwo_is (A : Option Addr) (c : Nat) (x y : Int) (w : World) (hi : Nat) (h : Ints w 0 hi A [x, y]) {b : Bool} (hb : bothIn x y = b) :
    Calls Try.prog 42 #[.int .i64 576, .slice A 2 c] w fun e w' => e = .returned (.bool b) ∧ w = w' := by
  have e := allUpTo_any 576 A c [x, y] w 0 hi h (by simp)
  rwa [(part_two x y).trans hb] at e

set_option maxRecDepth 10000 in
set_option maxHeartbeats 1000000 in
theorem implPairTwice_any (x y z : Int) (w : World) :
    Calls Try.prog 12 #[.int .i64 x, .int .i64 y, .int .i64 z] w fun e w' => e = .returned (.tuple #[.int .i64 (twiceA x y z), .int .i64 (twiceB x y z), .bool (pairIn x y z)]) ∧ Below w.heap.size w w' := by
  have B0 := (Below.refl w.heap.size w).alloc (Nat.le_refl _) (.cells #[.int .i64 x, .int .i64 y] 3)
  have K0 := lit_ints w x y 3
  by_cases h1 : (0 ≤ x ∧ x ≤ 576) ∧ (0 ≤ y ∧ y ≤ 576)
  · have H1 : Hid (bothIn x y = true) := by show _ = _; simpa [bothIn] using h1
    obtain ⟨⟨x0, x1⟩, y0, y1⟩ := h1
    by_cases h3 : 0 ≤ z
    · by_cases h4 : z ≤ x + y
      · have HR := Lib.hid ((pairIn_iff x y z).2 ⟨⟨x0, x1⟩, ⟨y0, y1⟩, h3, h4⟩)
        go_enter Try.func12, Try.ntmps12
        go_wp2_with fail
        refine (partTwo_is _ _ x y _ _ K0 H1.out).mono ?_
        rintro e w' ⟨rfl, rfl⟩
        go_wp2
        all_goals
          go_ret3
          exact ⟨(retPair_yes (w := w) HR.out (by unfold pairA; omega) (by unfold pairB; omega)).1, B0⟩
      · have HR : Hid (pairIn x y z = false) := pairIn_no fun h => h4 h.2.2.2
        go_enter Try.func12, Try.ntmps12
        go_wp2_with fail
        refine (partTwo_is _ _ x y _ _ K0 H1.out).mono ?_
        rintro e w' ⟨rfl, rfl⟩
        go_wp2
        go_ret3
        exact ⟨(retPair_no (w := w) HR.out).1, B0⟩
    · have HR : Hid (pairIn x y z = false) := pairIn_no fun h => h3 h.2.2.1
      go_enter Try.func12, Try.ntmps12
      go_wp2_with fail
      refine (partTwo_is _ _ x y _ _ K0 H1.out).mono ?_
      rintro e w' ⟨rfl, rfl⟩
      go_wp2
      go_ret3
      exact ⟨(retPair_no (w := w) HR.out).1, B0⟩
  · have H1 : Hid (bothIn x y = false) := by show _ = _; simp only [bothIn, decide_eq_false_iff_not]; exact h1
    have HR : Hid (pairIn x y z = false) := pairIn_no fun h => h1 ⟨h.1, h.2.1⟩
    clear h1
    go_enter Try.func12, Try.ntmps12
    go_wp2_with fail
    refine (partTwo_is _ _ x y _ _ K0 H1.out).mono ?_
    rintro e w' ⟨rfl, rfl⟩
    go_wp2
    go_ret3
    exact ⟨(retPair_no (w := w) HR.out).1, B0⟩

end Go.Proofs.Ytbegdcnljafloaa
