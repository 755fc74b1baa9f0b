/-
  The greatest of some numbers, as the library returns it; of even awards it is the level. No condition but that there are some.
-/
import Derived.Test.YtakmbpdapdnniaaEven
import Derived.Test.YtakmbpdapdnniaaShelf
namespace Go.Proofs.Ytakmbpdapdnniaa
open Go.RowKit

theorem maxOf_take (xs : List Int) : ∀ k, 0 < k → k ≤ xs.length → (∀ j, j < k → xs.getD j 0 ≤ Lib.maxOf (xs.take k)) ∧ ∃ j, j < k ∧ Lib.maxOf (xs.take k) = xs.getD j 0
  | 0, h, _ => absurd h (by omega)
  | 1, _, _ => by
    rw [Lib.maxOf_one]
    exact ⟨fun j hj => by obtain rfl : j = 0 := by omega
                          exact Int.le_refl _, 0, by omega, rfl⟩
  | k + 2, _, h => by
    obtain ⟨h1, j, hj, h2⟩ := maxOf_take xs (k + 1) (by omega) (by omega)
    rw [Lib.maxOf_step xs (k + 1) (by omega) (by omega)]
    refine ⟨fun i hi => ?_, ?_⟩
    · rcases Nat.lt_or_ge i (k + 1) with h3 | h3
      · have := h1 i h3; omega
      · obtain rfl : i = k + 1 := by omega
        omega
    · by_cases hm : xs.getD (k + 1) 0 ≤ Lib.maxOf (xs.take (k + 1))
      · exact ⟨j, by omega, by omega⟩
      · exact ⟨k + 1, by omega, by omega⟩
theorem maxOf_is {xs : List Int} {M : Int} (h1 : ∀ x ∈ xs, x ≤ M) (h2 : M ∈ xs) : Lib.maxOf xs = M := by
  have hn : 0 < xs.length := by
    cases xs with
    | nil => cases h2
    | cons x xs => simp
  obtain ⟨p, j, hj, q⟩ := maxOf_take xs xs.length hn (Nat.le_refl _)
  rw [List.take_length] at p q
  obtain ⟨i, hi, rfl⟩ := List.mem_iff_getElem.1 h2
  have e1 := p i hi
  rw [getD_of_lt xs i hi] at e1
  rw [getD_of_lt xs j hj] at q
  have e2 := h1 _ (List.getElem_mem hj)
  omega
theorem even_max {E : Int} {xs : List Int} (h : caseOkB E xs = true) : Lib.maxOf (evenAw E xs) = evenLv E xs :=
  maxOf_is (fun x hx => evenLev_ge x hx) (evenLev_in (by rw [inP_length]; exact ((caseOk_iff E xs).1 h).1))

end Go.Proofs.Ytakmbpdapdnniaa
