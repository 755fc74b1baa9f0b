/-
  The model's row of cut numbers is a new row. No condition but a length that fits.
-/
import Derived.Test.YtilhholjbjhaeaaClone
namespace Go.Proofs.Ytilhholjbjhaeaa
open Go.RowKit

theorem rightsRow_if (E : Int) (xs : List Int) (k : Nat) (h : k < xs.length) : (rightsRow E xs)[k]'(by rw [rightsRow_length]; exact h) = if xs.sum - xs[k] < E then E - (xs.sum - xs[k]) else 0 := by
  rw [rightsRow_at E xs k h]
  split <;> omega
theorem rights_at_bd {E : Int} {xs : List Int} (h : caseOkB E xs = true) (k : Nat) (hk : k < xs.length) : 0 ≤ (rightsRow E xs)[k]'(by rw [rightsRow_length]; exact hk) ∧ (rightsRow E xs)[k]'(by rw [rightsRow_length]; exact hk) ≤ 12 := by
  rw [rightsRow_at E xs k hk]
  have h1 := (caseOk_iff E xs).1 h
  have h2 := h1.2.2.1 _ (List.getElem_mem hk)
  omega
theorem rights_all {E : Int} {xs : List Int} (h : caseOkB E xs = true) : ∀ x ∈ rightsRow E xs, 0 ≤ x ∧ x ≤ 12 := fun x hx => by
  obtain ⟨j, hj, rfl⟩ := List.getElem_of_mem hx
  exact rights_at_bd h j (by rwa [rightsRow_length] at hj)
theorem rights_small {E : Int} {xs : List Int} (h : caseOkB E xs = true) : Small (rightsRow E xs) :=
  small_of (by rw [rightsRow_length]; exact (caseOk_bd h).2.1) (rights_all h)
theorem rights_sum {E : Int} {xs : List Int} (h : caseOkB E xs = true) : -48 ≤ (rightsRow E xs).sum ∧ (rightsRow E xs).sum ≤ 48 := by
  have h1 := sum_bd_aux 12 (by omega) (rightsRow E xs) fun x hx => by have := rights_all h x hx; omega
  have h2 := (caseOk_bd h).2.1
  rw [rightsRow_length] at h1
  omega
/-- One number more at the end of a row of the call's own. -/
theorem append_one {w1 : World} {B : Nat} {e : TypeId} {v1 : Value} {R : List Int} {k : Nat} (hk : k < R.length) (V : Int) (hV : R[k] = V) {n : Nat} (hn : n = k + 1)
    (h : w1.ownsRow B e 1 v1 n (ints (R.take k) ++ [.int .i64 V])) : w1.ownsRow B e 1 v1 (R.take (k + 1)).length (ints (R.take (k + 1))) := by
  have e1 : ints (R.take (k + 1)) = ints (R.take k) ++ [.int .i64 V] := by
    unfold ints
    rw [List.take_succ_eq_append_getElem hk, ← hV, List.map_append]; rfl
  have e2 : (R.take (k + 1)).length = n := by rw [List.length_take]; omega
  rw [e1, e2]; exact h

theorem news_one (w : World) (x : Int) (t : TypeId) : ∀ j u, [Value.int .i64 x][j]? = some u → (w.alloc (.cells #[.int .i64 x] t)).cell? ((⟨w.heap.size, 0, none⟩ : Addr).add j) = some u := by
  intro j u hj
  match j, hj with
  | 0, hj => simp at hj; subst hj; simp [Addr.add, go_sem]
theorem one_cell (x : Int) : ∀ u ∈ [Value.int .i64 x], u.oneCell' = true := by
  intro u hu; simp at hu; subst hu; rfl

end Go.Proofs.Ytilhholjbjhaeaa
