/-
  EvenAwards, EvenLevel, EvenLosses and LossLevel of the program: what they return of each case, and of what is none; they make new memory only. No condition but a length that fits.
-/
import Derived.Test.YtilhholjbjhaeaaEvenRow
import Derived.Test.YtilhholjbjhaeaaOtherCase
import Derived.Test.YtilhholjbjhaeaaMax
import Derived.Deep.RegionHeld3
namespace Go.Proofs.Ytilhholjbjhaeaa
open Go.RowKit

theorem even_part {E : Int} {xs : List Int} (h : caseOkB E xs = true) : partB (inP xs) = true := by
  have h1 := (caseOk_iff E xs).1 h
  exact (partB_iff _).2 ⟨by rw [inP_length]; exact h1.1, by rw [inP_length]; exact h1.2.1, inP_rg h⟩
theorem even_is {E : Int} {xs : List Int} (h : caseOkB E xs = true) : evenB (inP xs) (48 * E) = true := by
  have h1 := (caseOk_iff E xs).1 h
  exact (evenB_iff _ _).2 ⟨even_part h, ⟨by omega, by rw [inP_sum]; omega⟩, even_whole h⟩
def evenAws (E : Int) (xs : List Int) : List Int := if caseOkB E xs = true then evenAw E xs else []
def evenLvl (E : Int) (xs : List Int) : Int := if caseOkB E xs = true then evenLv E xs else -1
def evenLos (E : Int) (xs : List Int) : List Int := if caseOkB E xs = true then evenLo E xs else []
def lossLvl (E : Int) (xs : List Int) : Int := if caseOkB E xs = true then evenLv (xs.sum - E) xs else -1
theorem evenAws_len (E : Int) (xs : List Int) : (evenAws E xs).length ≤ xs.length := by unfold evenAws; split <;> simp [evenAw_length]
theorem evenLos_len (E : Int) (xs : List Int) : (evenLos E xs).length ≤ xs.length := by unfold evenLos; split <;> simp [evenLo_length]

end Go.Proofs.Ytilhholjbjhaeaa
