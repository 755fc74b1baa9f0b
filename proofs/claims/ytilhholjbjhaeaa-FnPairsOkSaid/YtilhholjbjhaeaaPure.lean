/-
  Plain facts on cases. No condition.
-/
import Derived.Test.YtilhholjbjhaeaaBase
namespace Go.Proofs.Ytilhholjbjhaeaa
open Go.RowKit

theorem case_of_zero {E : Int} {xs : List Int} (h : caseOkB E xs = true) : caseOkB 0 xs = true := by
  have h1 := (caseOk_iff E xs).1 h
  exact (caseOk_iff 0 xs).2 ⟨h1.1, h1.2.1, h1.2.2.1, by omega, by omega⟩
theorem other_ok {E : Int} {xs : List Int} (h : caseOkB E xs = true) : caseOkB (xs.sum - E) xs = true := by
  have h1 := (caseOk_iff E xs).1 h
  exact (caseOk_iff (xs.sum - E) xs).2 ⟨h1.1, h1.2.1, h1.2.2.1, by omega, by omega⟩

end Go.Proofs.Ytilhholjbjhaeaa
