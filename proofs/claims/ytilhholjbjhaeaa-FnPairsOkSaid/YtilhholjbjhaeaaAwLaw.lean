/-
  What the promise on awards uses: each is at least the right, and at most the estate, in parts; all claims are awards. No condition but that they are awards, or that it is a case.
-/
import Derived.Test.YtilhholjbjhaeaaLossLaw
import Derived.Test.YtilhholjbjhaeaaMore
namespace Go.Proofs.Ytilhholjbjhaeaa
open Go.RowKit

theorem specAwardsOk_is (E : Int) (A : Option Addr) (c : Nat) (xs : List Int) (D : Option Addr) (d : Nat) (ys : List Int) (w : World) (lo hi : Nat) (h : Ints w lo hi A xs) (hh : hi ≤ w.heap.size) (hl : xs.length ≤ 1152921504606846976)
    (lo' hi' : Nat) (h' : Ints w lo' hi' D ys) (hh' : hi' ≤ w.heap.size) (hl' : ys.length ≤ 1152921504606846976) {b : Bool} (hb : awardsB E xs ys = b) :
    Calls Try.prog 15 #[.agg #[.int .i64 E, .slice A xs.length c], .slice D ys.length d] w fun e w' => e = .returned (.bool b) ∧ Below w.heap.size w w' := by
  rw [← hb]
  exact specAwardsOk_any E A c xs D d ys w lo hi h hh hl lo' hi' h' hh' hl'
theorem losses_nonneg {E : Int} {xs ys : List Int} (h : Aw E xs ys) : ∀ x ∈ lossesRow xs ys, 0 ≤ x := fun x hx => by
  obtain ⟨j, hj, rfl⟩ := List.mem_iff_getElem.1 hx
  have h2 : j < ys.length := by rw [lossesRow_length h.2.1] at hj; exact hj
  have h1 : j < xs.length := by rw [← h.2.1]; exact h2
  rw [lossesRow_at j h1 h2]
  have := h.2.2.1 j h2 h1
  omega
theorem aw_right {E : Int} {xs ys : List Int} (h : Aw E xs ys) (k : Nat) (h1 : k < xs.length) (h2 : k < ys.length) : 48 * (rightsRow E xs)[k]'(by rw [rightsRow_length]; exact h1) ≤ ys[k] ∧ ys[k] ≤ 48 * E ∧ 0 ≤ ys[k] := by
  have h3 := h.2.2.1 k h2 h1
  have hl : k < (lossesRow xs ys).length := by rw [lossesRow_length h.2.1]; exact h2
  have h4 := le_of_sum_nonneg _ (losses_nonneg h) _ (List.getElem_mem hl)
  rw [loss_sum xs ys h.2.1, h.2.2.2, lossesRow_at k h1 h2] at h4
  have h5 := le_of_sum_nonneg ys (fun y hy => by
    obtain ⟨j, hj, rfl⟩ := List.mem_iff_getElem.1 hy
    exact (h.2.2.1 j hj (by rw [← h.2.1]; exact hj)).1) _ (List.getElem_mem h2)
  rw [h.2.2.2] at h5
  rw [rightsRow_at E xs k h1]
  omega
theorem all_aw {E : Int} {xs : List Int} (h : caseOkB E xs = true) : awardsB xs.sum xs (inP xs) = true := by
  refine (awardsB_iff _ _ _).2 (aw_of (all_ok h) (inP_length xs) (fun k h1 h2 => ?_) (inP_sum xs))
  rw [inP_at xs k h2]
  have := ((caseOk_iff E xs).1 h).2.2.1 _ (List.getElem_mem h2)
  omega

end Go.Proofs.Ytilhholjbjhaeaa
