/-
  What is left behind the rights is the other case cut, turned again. No condition but that it is a case.
-/
import Derived.Test.YtilhholjbjhaeaaRestCase
import Derived.Test.YtilhholjbjhaeaaOtherCase
import Derived.Test.YtilhholjbjhaeaaPure2
namespace Go.Proofs.Ytilhholjbjhaeaa
open Go.RowKit

theorem rest_is_cut (E : Int) (xs : List Int) : restRow E xs = cutRow (xs.sum - E) xs := by
  simp only [restRow, cutRow]
  apply List.map_congr_left
  intro x _
  omega
theorem rest_sum (E : Int) (xs : List Int) : (rightsRow E xs).sum + (cutRow (xs.sum - E) xs).sum = xs.sum :=
  sum_parts (fun x => max 0 (E - (xs.sum - x))) (fun x => min x (xs.sum - E)) (fun x => by omega) xs
theorem rest_back (E : Int) (xs : List Int) : (cutRow (xs.sum - E) xs).sum - (E - (rightsRow E xs).sum) = xs.sum - E := by
  have := rest_sum E xs; omega
theorem rest_ok {E : Int} {xs : List Int} (h : caseOkB E xs = true) : caseOkB (E - (rightsRow E xs).sum) (cutRow (xs.sum - E) xs) = true := by
  have h1 := other_ok (cut_ok (other_ok h))
  have h2 := rest_sum E xs
  rw [show (cutRow (xs.sum - E) xs).sum - (xs.sum - E) = E - (rightsRow E xs).sum by omega] at h1
  exact h1
theorem sum_zero : ∀ xs : List Int, (∀ x ∈ xs, x = 0) → xs.sum = 0
  | [], _ => by simp
  | x :: xs, h => by
    have h1 := h x (by simp)
    have h2 := sum_zero xs fun y hy => h y (by simp [hy])
    simp only [List.sum_cons]
    omega
theorem rest_none (E : Int) (xs : List Int) : (rightsRow (E - (rightsRow E xs).sum) (cutRow (xs.sum - E) xs)).sum = 0 := by
  have h2 := rest_sum E xs
  apply sum_zero
  intro y hy
  obtain ⟨z, hz, rfl⟩ := List.mem_map.1 hy
  obtain ⟨x, hx, rfl⟩ := List.mem_map.1 hz
  omega

theorem otherOfRest (E : Int) (A : Option Addr) (c : Nat) (xs : List Int) (w : World) (lo hi : Nat) (h : Ints w lo hi A (cutRow (xs.sum - E) xs)) (hh : hi ≤ w.heap.size) (hok : caseOkB (E - (rightsRow E xs).sum) (cutRow (xs.sum - E) xs) = true) :
    Calls Try.prog 16 #[.agg #[.int .i64 (E - (rightsRow E xs).sum), .slice A (cutRow (xs.sum - E) xs).length c]] w (RetCaseB w (xs.sum - E) (cutRow (xs.sum - E) xs) true) := by
  have e := implOtherCase_yes (E - (rightsRow E xs).sum) A c (cutRow (xs.sum - E) xs) w lo hi h hh hok
  rw [rest_back] at e
  exact e

end Go.Proofs.Ytilhholjbjhaeaa
