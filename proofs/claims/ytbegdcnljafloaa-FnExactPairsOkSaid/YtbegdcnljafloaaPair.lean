/-
  Both functions PairTwice return twice what each of two people gets; they make no memory.
-/
import Derived.Test.YtbegdcnljafloaaGA
namespace Go.Proofs.Ytbegdcnljafloaa
open Go.RowKit

/-- Twice what the first one of two gets, and twice what the second one gets. -/
def pairA (x y z : Int) : Int := z + max 0 (z - y) - max 0 (z - x)
def pairB (x y z : Int) : Int := z + max 0 (z - x) - max 0 (z - y)
def pairIn (x y z : Int) : Bool := decide ((0 ≤ x ∧ x ≤ 576) ∧ (0 ≤ y ∧ y ≤ 576) ∧ 0 ≤ z ∧ z ≤ x + y)
theorem pairIn_iff (x y z : Int) : pairIn x y z = true ↔ ((0 ≤ x ∧ x ≤ 576) ∧ (0 ≤ y ∧ y ≤ 576) ∧ 0 ≤ z ∧ z ≤ x + y) := by simp [pairIn]
theorem pairIn_no {x y z : Int} (h : ¬ ((0 ≤ x ∧ x ≤ 576) ∧ (0 ≤ y ∧ y ≤ 576) ∧ 0 ≤ z ∧ z ≤ x + y)) : pairIn x y z = false := by simp only [pairIn, decide_eq_false_iff_not]; exact h
def twiceA (x y z : Int) : Int := if pairIn x y z = true then pairA x y z else 0
def twiceB (x y z : Int) : Int := if pairIn x y z = true then pairB x y z else 0
/-- What PairTwice hands back. -/
def RetPair (x y z : Int) (w : World) (e : Ending) (w' : World) : Prop :=
  e = .returned (.tuple #[.int .i64 (twiceA x y z), .int .i64 (twiceB x y z), .bool (pairIn x y z)]) ∧ w = w'
theorem retPair_no {x y z : Int} {w : World} (h : pairIn x y z = false) : RetPair x y z w (.returned (.tuple #[.int .i64 0, .int .i64 0, .bool false])) w := by
  refine ⟨?_, rfl⟩
  rw [h, twiceA, twiceB, h]; rfl
theorem retPair_yes {x y z a b : Int} {w : World} (h : pairIn x y z = true) (ha : a = pairA x y z) (hb : b = pairB x y z) : RetPair x y z w (.returned (.tuple #[.int .i64 a, .int .i64 b, .bool true])) w := by
  refine ⟨?_, rfl⟩
  rw [h, twiceA, twiceB, h, ha, hb]; rfl

theorem ret_two {a b c d : Int} (h1 : a = c) (h2 : b = d) : Ending.returned (.tuple #[.int .i64 a, .int .i64 b]) = .returned (.tuple #[.int .i64 c, .int .i64 d]) := by rw [h1, h2]

set_option maxRecDepth 10000 in
set_option maxHeartbeats 400000 in
theorem specTwice_any (x y z : Int) (w : World) (hx : -100000 ≤ x ∧ x ≤ 100000) (hy : -100000 ≤ y ∧ y ≤ 100000) (hz : -100000 ≤ z ∧ z ≤ 100000) :
    Calls Try.prog 44 #[.int .i64 x, .int .i64 y, .int .i64 z] w fun e w' => e = .returned (.tuple #[.int .i64 (pairA x y z), .int .i64 (pairB x y z)]) ∧ w = w' := by
  by_cases h1 : z - y < 0
  · by_cases h2 : z - x < 0
    all_goals
      go_enter Try.func44, Try.ntmps44
      go_wp2
      go_ret2
      exact ⟨ret_two (by unfold pairA; omega) (by unfold pairB; omega), rfl⟩
  · by_cases h2 : z - x < 0
    all_goals
      go_enter Try.func44, Try.ntmps44
      go_wp2
      go_ret2
      exact ⟨ret_two (by unfold pairA; omega) (by unfold pairB; omega), rfl⟩

set_option maxRecDepth 10000 in
set_option maxHeartbeats 1000000 in
theorem specPairTwice_any (x y z : Int) (w : World) :
    Calls Try.prog 13 #[.int .i64 x, .int .i64 y, .int .i64 z] w (RetPair x y z w) := by
  by_cases h1 : 0 ≤ x ∧ x ≤ 576
  · have H1 := Lib.hid h1
    by_cases h2 : 0 ≤ y ∧ y ≤ 576
    · have H2 := Lib.hid h2
      by_cases h3 : 0 ≤ z ∧ z ≤ x + y
      · have H3 := Lib.hid h3
        have HR := Lib.hid ((pairIn_iff x y z).2 ⟨h1, h2, h3⟩)
        have HX : Hid (-100000 ≤ x ∧ x ≤ 100000) := ⟨by omega, by omega⟩
        have HY : Hid (-100000 ≤ y ∧ y ≤ 100000) := ⟨by omega, by omega⟩
        have HZ : Hid (-100000 ≤ z ∧ z ≤ 100000) := ⟨by omega, by omega⟩
        go_enter Try.func13, Try.ntmps13
        go_wp2_with fail
        refine (l1In_yes _ _ _ _ H1.out).mono ?_
        rintro e w' ⟨rfl, rfl⟩
        go_wp2_with fail
        refine (l1In_yes _ _ _ _ H2.out).mono ?_
        rintro e w' ⟨rfl, rfl⟩
        go_wp2_with fail
        refine (l1In_yes _ _ _ _ H3.out).mono ?_
        rintro e w' ⟨rfl, rfl⟩
        go_wp2_with fail
        refine (specTwice_any x y z _ HX.out HY.out HZ.out).mono ?_
        rintro e w' ⟨rfl, rfl⟩
        go_wp2
        go_ret3
        exact retPair_yes HR.out rfl rfl
      · have H3 := Lib.hid h3
        have HR : Hid (pairIn x y z = false) := pairIn_no fun h => h3 h.2.2
        go_enter Try.func13, Try.ntmps13
        go_wp2_with fail
        refine (l1In_yes _ _ _ _ H1.out).mono ?_
        rintro e w' ⟨rfl, rfl⟩
        go_wp2_with fail
        refine (l1In_yes _ _ _ _ H2.out).mono ?_
        rintro e w' ⟨rfl, rfl⟩
        go_wp2_with fail
        refine (l1In_no _ _ _ _ H3.out).mono ?_
        rintro e w' ⟨rfl, rfl⟩
        go_wp2
        go_ret3
        exact retPair_no HR.out
    · have H2 := Lib.hid h2
      have HR : Hid (pairIn x y z = false) := pairIn_no fun h => h2 h.2.1
      go_enter Try.func13, Try.ntmps13
      go_wp2_with fail
      refine (l1In_yes _ _ _ _ H1.out).mono ?_
      rintro e w' ⟨rfl, rfl⟩
      go_wp2_with fail
      refine (l1In_no _ _ _ _ H2.out).mono ?_
      rintro e w' ⟨rfl, rfl⟩
      go_wp2
      go_ret3
      exact retPair_no HR.out
  · have H1 := Lib.hid h1
    have HR : Hid (pairIn x y z = false) := pairIn_no fun h => h1 h.1
    go_enter Try.func13, Try.ntmps13
    go_wp2_with fail
    refine (l1In_no _ _ _ _ H1.out).mono ?_
    rintro e w' ⟨rfl, rfl⟩
    go_wp2
    go_ret3
    exact retPair_no HR.out

end Go.Proofs.Ytbegdcnljafloaa
