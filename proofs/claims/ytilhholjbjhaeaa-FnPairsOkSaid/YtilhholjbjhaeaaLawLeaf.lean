/-
  What the helpers of the laws return: two lists that are the same, two cases that are the same, the sum of a row, the fixed answer. No condition but lengths that fit.
-/
import Derived.Test.YtilhholjbjhaeaaCaseOk
namespace Go.Proofs.Ytilhholjbjhaeaa
open Go.RowKit

theorem row_one (w : World) (x : Int) (t : TypeId) : Ints (w.alloc (.cells #[.int .i64 x] t)) w.heap.size (w.heap.size + 1) (some ⟨w.heap.size, 0, none⟩) [x] := fun _ =>
  ⟨w.heap.size, 0, rfl, Nat.le_refl _, Nat.lt_succ_self _, fun j hj => by
    have e : j = 0 := by simp at hj; exact hj
    subst e
    simp [go_sem]⟩

theorem case_one_one : caseOkB 1 [1] = true := (caseOk_iff 1 [1]).2 ⟨by simp, by simp, by simp, by omega, by simp⟩
theorem case_two_one : caseOkB 2 [1] = false := by
  have h : ¬ caseOkB 2 [1] = true := fun h => by have := ((caseOk_iff 2 [1]).1 h).2.2.2.2; simp at this
  simpa using h
theorem case_zero_zero : caseOkB 0 [0] = true := (caseOk_iff 0 [0]).2 ⟨by simp, by simp, by simp, by omega, by simp⟩
theorem case_nil (E : Int) : caseOkB E [] = false := caseOk_len E [] (by simp)

set_option maxRecDepth 10000 in
set_option maxHeartbeats 400000 in
theorem alive_any (w : World) : Calls Try.prog 11 #[] w fun e w' => e = .returned (.bool true) ∧ Below w.heap.size w w' := by
  have k0 := row_one w 1 3
  have B0 := (Below.refl w.heap.size w).alloc (Nat.le_refl _) (.cells #[.int .i64 1] 3)
  go_enter Try.func11, Try.ntmps11
  go_wp2_with fail
  refine (implCaseOk_yes 1 (some ⟨w.heap.size, 0, none⟩) 1 [1] _ _ _ k0 (by rw [hsz]; omega) (by simp) case_one_one).mono ?_
  rintro e w1 ⟨rfl, hb1⟩
  have z1 := hb1.size
  rw [hsz] at hb1 z1
  have B1 := B0.trans (hb1.mono (by omega))
  have k1 := row_one w1 1 3
  have B2 := B1.alloc (by omega) (.cells #[.int .i64 1] 3)
  clear hb1 k0 B0
  go_wp2_with fail
  refine (implCaseOk_no 2 (some ⟨w1.heap.size, 0, none⟩) 1 [1] _ _ _ k1 (by rw [hsz]; omega) (by simp) case_two_one).mono ?_
  rintro e w2 ⟨rfl, hb2⟩
  have B3 := B2.trans (hb2.mono (by rw [hsz]; omega))
  clear hb2 k1
  go_wp2
  go_ret
  exact ⟨rfl, B3⟩

end Go.Proofs.Ytilhholjbjhaeaa
