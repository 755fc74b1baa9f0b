/-
  Plain facts on cut claims and rights. No condition.
-/
import Derived.Test.YtilhholjbjhaeaaLeast
import Derived.Test.YtilhholjbjhaeaaPure
namespace Go.Proofs.Ytilhholjbjhaeaa
open Go.RowKit

theorem cut_sum_aux (E : Int) (hE : 0 ≤ E) : ∀ xs : List Int, (∀ x ∈ xs, 0 ≤ x) → 0 ≤ (cutRow E xs).sum ∧ min E xs.sum ≤ (cutRow E xs).sum ∧ (cutRow E xs).sum ≤ xs.sum
  | [], _ => by simp [cutRow]; omega
  | x :: xs, h => by
    have h1 := h x (by simp)
    have h2 := cut_sum_aux E hE xs fun y hy => h y (by simp [hy])
    simp only [cutRow, List.map_cons, List.sum_cons] at h2 ⊢
    omega
theorem cut_ok {E : Int} {xs : List Int} (h : caseOkB E xs = true) : caseOkB E (cutRow E xs) = true := by
  have h1 := (caseOk_iff E xs).1 h
  have h2 := cut_sum_aux E h1.2.2.2.1 xs fun x hx => (h1.2.2.1 x hx).1
  refine (caseOk_iff E _).2 ⟨by rw [cutRow_length]; exact h1.1, by rw [cutRow_length]; exact h1.2.1, fun y hy => ?_, h1.2.2.2.1, by omega⟩
  obtain ⟨x, hx, rfl⟩ := List.mem_map.1 hy
  have := h1.2.2.1 x hx
  omega
theorem cut_idem (E : Int) (xs : List Int) : cutRow E (cutRow E xs) = cutRow E xs := by
  simp only [cutRow, List.map_map]
  apply List.map_congr_left
  intro x _
  simp only [Function.comp]
  omega
theorem cut_at_le (E : Int) (xs : List Int) (k : Nat) (h : k < xs.length) : (cutRow E xs)[k]'(by rw [cutRow_length]; exact h) ≤ xs[k] ∧ (cutRow E xs)[k]'(by rw [cutRow_length]; exact h) ≤ E := by
  rw [cutRow_at E xs k h]
  split <;> omega
theorem sum_parts (f g : Int → Int) (h : ∀ x, f x + g x = x) : ∀ xs : List Int, (xs.map f).sum + (xs.map g).sum = xs.sum
  | [] => by simp
  | x :: xs => by
    have h1 := sum_parts f g h xs
    have h2 := h x
    simp only [List.map_cons, List.sum_cons]
    omega
theorem rights_sum_le {E : Int} {xs : List Int} (h : caseOkB E xs = true) : (rightsRow E xs).sum ≤ E := by
  have h1 := (caseOk_iff E xs).1 h
  have h2 := cut_sum_aux (xs.sum - E) (by omega) xs fun x hx => (h1.2.2.1 x hx).1
  have h3 := sum_parts (fun x => max 0 (E - (xs.sum - x))) (fun x => min x (xs.sum - E)) (fun x => by omega) xs
  simp only [rightsRow, cutRow] at h2 h3 ⊢
  omega
theorem rights_cut_at (E : Int) (xs : List Int) (k : Nat) (h : k < xs.length) : (rightsRow E xs)[k]'(by rw [rightsRow_length]; exact h) = xs[k] - (cutRow (xs.sum - E) xs)[k]'(by rw [cutRow_length]; exact h) := by
  rw [rightsRow_at E xs k h, cutRow_at (xs.sum - E) xs k h]
  split <;> omega

theorem case_at' {E : Int} {xs : List Int} (h : caseOkB E xs = true) (k : Nat) (hk : k < xs.length) : 0 ≤ xs[k] ∧ xs[k] ≤ 12 := ((caseOk_iff E xs).1 h).2.2.1 _ (List.getElem_mem hk)
theorem cut_at_ge (E : Int) (xs : List Int) (k : Nat) (h : k < xs.length) (hE : 0 ≤ E) (hx : 0 ≤ xs[k]) : 0 ≤ (cutRow E xs)[k]'(by rw [cutRow_length]; exact h) := by
  rw [cutRow_at E xs k h]
  split <;> omega

end Go.Proofs.Ytilhholjbjhaeaa
