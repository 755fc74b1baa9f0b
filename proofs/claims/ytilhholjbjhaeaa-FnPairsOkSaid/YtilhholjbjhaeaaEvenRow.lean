/-
  Even rows, as the program finds them: the row and true, or none and false. No condition but a length that fits.
-/
import Derived.Test.YtilhholjbjhaeaaLevel
namespace Go.Proofs.Ytilhholjbjhaeaa
open Go.RowKit

/-- What a function that hands a new slice of numbers and a bool back leaves. -/
def RetIntsB (w : World) (xs : List Int) (b : Bool) (e : Ending) (w' : World) : Prop :=
  ∃ A c, e = .returned (.tuple #[.slice A xs.length c, .bool b]) ∧ Own w' w.heap.size w'.heap.size A xs ∧ Below w.heap.size w w'
noncomputable def evenB (xs : List Int) (e : Int) : Bool := partB xs && (decide (0 ≤ e ∧ e ≤ xs.sum) && evenOk xs e)
noncomputable def evenXs (xs : List Int) (e : Int) : List Int := if evenB xs e = true then evenOf xs e else []
theorem evenB_iff (xs : List Int) (e : Int) : evenB xs e = true ↔ partB xs = true ∧ (0 ≤ e ∧ e ≤ xs.sum) ∧ evenOk xs e = true := by simp [evenB]
theorem evenOf_min (xs : List Int) (e : Int) (k : Nat) (h : k < xs.length) : (evenOf xs e)[k]'(by rw [evenOf_length]; exact h) = min xs[k] (evenLev xs e) := by simp [evenOf]
end Go.Proofs.Ytilhholjbjhaeaa
