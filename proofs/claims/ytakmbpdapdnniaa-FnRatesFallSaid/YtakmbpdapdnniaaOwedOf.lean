/-
  Both functions OwedOf return what is owed, and make new memory only.
-/
import Derived.Test.YtakmbpdapdnniaaCaseOk
namespace Go.Proofs.Ytakmbpdapdnniaa
open Go.RowKit

set_option maxRecDepth 10000 in
set_option maxHeartbeats 400000 in
theorem implOwedOf_any (E : Int) (A : Option Addr) (c : Nat) (xs : List Int) (w : World) (lo hi : Nat) (h : Ints w lo hi A xs) (hh : hi ≤ w.heap.size) (hl : xs.length ≤ 1152921504606846976) :
    Calls Try.prog 20 #[.agg #[.int .i64 E, .slice A xs.length c]] w fun e w' => e = .returned (.int .i64 (owedOf E xs)) ∧ Below w.heap.size w w' := by
  have k1 := h.alloc hh (.cells #[.int .i64 E, .slice A xs.length c] 25)
  have a0 := new2 w (.int .i64 E) (.slice A xs.length c) 25
  have B0 := (Below.refl w.heap.size w).alloc (Nat.le_refl _) (.cells #[.int .i64 E, .slice A xs.length c] 25)
  by_cases hok : caseOkB E xs = true
  · have hs := caseOk_small hok
    have hv : Hid (xs.sum = owedOf E xs) := by show _ = _; simp [owedOf, hok]
    have HO := Lib.hid hok
    clear hok
    go_enter Try.func20, Try.ntmps20
    go_wp2_with fail
    refine (implCaseOk_yes E A c xs _ _ _ k1 (by simp; omega) hl HO.out).mono ?_
    rintro e w1 ⟨rfl, hb1⟩
    obtain ⟨a1, a1'⟩ := keep2 hb1 a0 (by simp)
    have k2 := k1.below hb1 (by simp; omega)
    have B1 := B0.trans (hb1.mono (by simp))
    clear hb1 a0
    go_wp2_with fail
    refine (sumOf_any _ _ _ _ _ _ k2 hs).mono ?_
    rintro e w2 ⟨rfl, rfl⟩
    go_wp2
    go_ret
    exact ⟨ret_int hv.out, B1⟩
  · have hv : Hid (-1 = owedOf E xs) := by show _ = _; simp [owedOf, hok]
    have HO : Hid (caseOkB E xs = false) := by show _ = _; simpa using hok
    clear hok
    go_enter Try.func20, Try.ntmps20
    go_wp2_with fail
    refine (implCaseOk_no E A c xs _ _ _ k1 (by simp; omega) hl HO.out).mono ?_
    rintro e w1 ⟨rfl, hb1⟩
    have B1 := B0.trans (hb1.mono (by simp))
    clear hb1 a0
    go_wp2
    go_ret
    exact ⟨ret_int hv.out, B1⟩

end Go.Proofs.Ytakmbpdapdnniaa
