/-
  What the promise says of whole awards, in plain mathematics, and the two functions by the names that the law uses. No condition but that of awards.
-/
import Derived.Test.YtdhbeodgebdjjaaUnitsIs
import Derived.Test.YtdhbeodgebdjjaaEven
namespace Go.Proofs.Ytdhbeodgebdjjaa
open Go.RowKit

theorem whole_aw_at {E : Int} {xs ys : List Int} (h : Aw E xs ys) (k : Nat) (hx : k < xs.length) (hy : k < ys.length) (hw : k < (wholeRow 48 E ys).length) :
    0 ≤ (wholeRow 48 E ys)[k] ∧ (wholeRow 48 E ys)[k] ≤ xs[k] ∧ 48 * (wholeRow 48 E ys)[k] - ys[k] < 48 ∧ -48 < 48 * (wholeRow 48 E ys)[k] - ys[k] := by
  have hv := h.2.2.1 k hy hx
  have h1 := whole_bd 48 E ys k hy
  have h2 := whole_le (b := 48) (by omega) h.2.2.2 k hy xs[k] (by rw [getD_of_lt ys k hy]; exact hv.2)
  have h3 := whole_zero (b := 48) (by omega) h.2.2.2 k hy
  rw [getD_of_lt ys k hy] at h1 h3
  rw [getD_of_lt _ k hw] at h1 h2 h3
  refine ⟨by omega, h2, ?_, by omega⟩
  rcases Int.lt_or_le (48 * (wholeRow 48 E ys)[k] - ys[k]) 48 with h4 | h4
  · exact h4
  · have h5 := h3 (by omega)
    omega
theorem inP_all (ws : List Int) : (inP ws).sum = 48 * ws.sum := by
  rw [inP]
  induction ws with
  | nil => simp
  | cons z r ih => simp only [List.map_cons, List.sum_cons, ih, Int.mul_add]
theorem whole_again {E : Int} {xs ys : List Int} (h : Aw E xs ys) : awardsB E xs (inP (wholeRow 48 E ys)) = true := by
  have hl : (wholeRow 48 E ys).length = ys.length := wholeRow_length 48 E ys
  refine (awardsB_iff _ _ _).2 ⟨h.1, by rw [inP_length, hl]; exact h.2.1, fun k h1 h2 => ?_, ?_⟩
  · have hk : k < (wholeRow 48 E ys).length := by rw [inP_length] at h1; exact h1
    have e := whole_aw_at h k h2 (by rw [← hl]; exact hk) hk
    have e2 : (inP (wholeRow 48 E ys))[k] = 48 * (wholeRow 48 E ys)[k] := by simp [inP]
    rw [e2]; omega
  · rw [inP_all, whole_sum (by omega) h.2.2.2]
theorem whole_stays {E : Int} {xs ys : List Int} (h : Aw E xs ys) : wholeAw E xs (inP (wholeRow 48 E ys)) = wholeRow 48 E ys := by
  have e : wholeAw E xs (inP (wholeRow 48 E ys)) = wholeRow 48 E (inP (wholeRow 48 E ys)) := if_pos (whole_again h)
  rw [e, inP]
  exact whole_same (by omega) (whole_sum (by omega) h.2.2.2)
theorem whole_small {E : Int} {xs ys : List Int} (h : Aw E xs ys) : Small (wholeRow 48 E ys) := by
  have hb := caseOk_bd h.1
  have hl := wholeRow_length 48 E ys
  refine ⟨by rw [hl, h.2.1]; omega, fun y hy => ?_⟩
  obtain ⟨k, hk, rfl⟩ := List.mem_iff_getElem.1 hy
  have hk' : k < ys.length := by rw [← hl]; exact hk
  have hx : k < xs.length := by rw [← h.2.1]; exact hk'
  have e := whole_aw_at h k hx hk' hk
  have hv : 0 ≤ xs[k] ∧ xs[k] ≤ 12 := ((caseOk_iff E xs).1 h.1).2.2.1 _ (List.getElem_mem hx)
  omega

theorem implWholeAw_is (E : Int) (A : Option Addr) (c : Nat) (xs : List Int) (D : Option Addr) (d : Nat) (ys R : List Int) (w : World) (lo hi : Nat) (h : Ints w lo hi A xs) (hh : hi ≤ w.heap.size) (hl : xs.length ≤ 1152921504606846976)
    (lo' hi' : Nat) (h' : Ints w lo' hi' D ys) (hh' : hi' ≤ w.heap.size) (hl' : ys.length ≤ 1152921504606846976) (hR : wholeAw E xs ys = R) :
    Calls Try.prog 29 #[.agg #[.int .i64 E, .slice A xs.length c], .slice D ys.length d] w (RetInts w R) := by
  have e := implWholeAwards_any E A c xs D d ys w lo hi h hh hl lo' hi' h' hh' hl'
  rw [hR] at e; exact e
theorem specWholeAw_is (E : Int) (A : Option Addr) (c : Nat) (xs : List Int) (D : Option Addr) (d : Nat) (ys R : List Int) (w : World) (lo hi : Nat) (h : Ints w lo hi A xs) (hh : hi ≤ w.heap.size) (hl : xs.length ≤ 1152921504606846976)
    (lo' hi' : Nat) (h' : Ints w lo' hi' D ys) (hh' : hi' ≤ w.heap.size) (hl' : ys.length ≤ 1152921504606846976) (hR : wholeAw E xs ys = R) :
    Calls Try.prog 30 #[.agg #[.int .i64 E, .slice A xs.length c], .slice D ys.length d] w (RetInts w R) := by
  have e := specWholeAwards_any E A c xs D d ys w lo hi h hh hl lo' hi' h' hh' hl'
  rw [hR] at e; exact e

end Go.Proofs.Ytdhbeodgebdjjaa
