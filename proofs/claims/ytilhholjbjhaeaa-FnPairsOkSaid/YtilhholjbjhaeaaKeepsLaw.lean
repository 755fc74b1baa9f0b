/-
  The order of claims is kept by the losses as by the awards, and always by even awards and even losses; in plain mathematics. No condition but that of a case.
-/
import Derived.Test.YtilhholjbjhaeaaKeeps
import Derived.Test.YtilhholjbjhaeaaEven
namespace Go.Proofs.Ytilhholjbjhaeaa
open Go.RowKit

theorem loss_getD {xs ys : List Int} (hl : ys.length = xs.length) (k : Nat) (h : k < xs.length) : (lossesRow xs ys).getD k 0 = 48 * xs.getD k 0 - ys.getD k 0 := by
  rw [getD_of_lt _ k (by rw [lossesRow_length hl, hl]; exact h), getD_of_lt xs k h, getD_of_lt ys k (by rw [hl]; exact h)]
  exact lossesRow_at k h (by rw [hl]; exact h)
theorem keeps_loss {E : Int} {xs ys : List Int} (h : awardsB E xs ys = true) : keepsB (xs.sum - E) xs (lossesRow xs ys) = keepsB E xs ys := by
  have hA := (awardsB_iff E xs ys).1 h
  have h2 : awardsB (xs.sum - E) xs (lossesRow xs ys) = true := (awardsB_iff _ _ _).2 (loss_aw hA)
  have hl := hA.2.1
  have e2 := loss_twice xs ys hl
  have hk : Keeps xs (lossesRow xs ys) ↔ Keeps xs ys := by
    constructor
    · intro k i j hi hj hx
      have e := k i j hi hj hx
      rw [e2] at e
      exact ⟨e.2, e.1⟩
    · intro k i j hi hj hx
      have e := k i j hi hj hx
      rw [e2]
      exact ⟨e.2, e.1⟩
  have e : keepsB (xs.sum - E) xs (lossesRow xs ys) = true ↔ keepsB E xs ys = true := by
    rw [keepsB_iff, keepsB_iff, hk]; simp [h, h2]
  exact Bool.eq_iff_iff.2 e
theorem keeps_aw {E : Int} {xs : List Int} (h : caseOkB E xs = true) : keepsB E xs (evenAw E xs) = true := by
  have hA := evenAw_aw h
  refine (keepsB_iff _ _ _).2 ⟨(awardsB_iff _ _ _).2 hA, fun i j hi hj hx => ?_⟩
  have e : ∀ k, k < xs.length → (evenAw E xs).getD k 0 = min (48 * xs.getD k 0) (evenLv E xs) := fun k hk => by
    rw [getD_of_lt _ k (by rw [evenAw_length]; exact hk), getD_of_lt xs k hk]; exact evenAw_at E xs k hk
  rw [loss_getD hA.2.1 i hi, loss_getD hA.2.1 j hj, e i hi, e j hj]
  omega
theorem keeps_lo {E : Int} {xs : List Int} (h : caseOkB E xs = true) : keepsB E xs (evenLo E xs) = true := by
  have h2 := keeps_aw (other_ok h)
  have h3 := (awardsB_iff _ _ _).2 (evenAw_aw (other_ok h))
  have e := keeps_loss h3
  rw [h2] at e
  have e3 : xs.sum - (xs.sum - E) = E := by omega
  rw [e3] at e
  exact e

theorem implKeeps_is (E : Int) (A : Option Addr) (c : Nat) (xs : List Int) (D : Option Addr) (d : Nat) (ys : List Int) (K : Bool) (w : World) (lo hi : Nat) (h : Ints w lo hi A xs) (hh : hi ≤ w.heap.size) (hl : xs.length ≤ 1152921504606846976)
    (lo' hi' : Nat) (h' : Ints w lo' hi' D ys) (hh' : hi' ≤ w.heap.size) (hl' : ys.length ≤ 1152921504606846976) (hK : keepsB E xs ys = K) :
    Calls Try.prog 18 #[.agg #[.int .i64 E, .slice A xs.length c], .slice D ys.length d] w fun e w' => e = .returned (.bool K) ∧ Below w.heap.size w w' := by
  have e := implKeepsOrder_any E A c xs D d ys w lo hi h hh hl lo' hi' h' hh' hl'
  rw [hK] at e
  exact e
end Go.Proofs.Ytilhholjbjhaeaa
