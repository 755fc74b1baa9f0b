/-
  With one unit more each right is as great, or one more; of all claims for the estate rights are the claims. No condition but that it is a case.
-/
import Derived.Test.YtilhholjbjhaeaaRightsOf
import Derived.Test.YtilhholjbjhaeaaPure2
namespace Go.Proofs.Ytilhholjbjhaeaa
open Go.RowKit

theorem more_ok {E : Int} {xs : List Int} (h : caseOkB E xs = true) (hE : E < xs.sum) : caseOkB (E + 1) xs = true := by
  have h1 := (caseOk_iff E xs).1 h
  exact (caseOk_iff (E + 1) xs).2 ⟨h1.1, h1.2.1, h1.2.2.1, by omega, by omega⟩
theorem more_no {E : Int} {xs : List Int} (hE : ¬ E < xs.sum) : caseOkB (E + 1) xs = false := by
  have h : ¬ caseOkB (E + 1) xs = true := fun h => by have := ((caseOk_iff (E + 1) xs).1 h).2.2.2.2; omega
  simpa using h
theorem all_ok {E : Int} {xs : List Int} (h : caseOkB E xs = true) : caseOkB xs.sum xs = true := by
  have h1 := (caseOk_iff E xs).1 h
  exact (caseOk_iff xs.sum xs).2 ⟨h1.1, h1.2.1, h1.2.2.1, by omega, by omega⟩
theorem rights_all_eq {E : Int} {xs : List Int} (h : caseOkB E xs = true) : rightsRow xs.sum xs = xs := by
  have h1 := (caseOk_iff E xs).1 h
  unfold rightsRow
  conv => rhs; rw [← List.map_id xs]
  apply List.map_congr_left
  intro x hx
  have := (h1.2.2.1 x hx).1
  simp only [id]
  omega
theorem more_at (E : Int) (xs : List Int) (k : Nat) (h : k < xs.length) : (rightsRow (E + 1) xs)[k]'(by rw [rightsRow_length]; exact h) = (rightsRow E xs)[k]'(by rw [rightsRow_length]; exact h) ∨ (rightsRow (E + 1) xs)[k]'(by rw [rightsRow_length]; exact h) = (rightsRow E xs)[k]'(by rw [rightsRow_length]; exact h) + 1 := by
  rw [rightsRow_at (E + 1) xs k h, rightsRow_at E xs k h]
  omega
end Go.Proofs.Ytilhholjbjhaeaa
