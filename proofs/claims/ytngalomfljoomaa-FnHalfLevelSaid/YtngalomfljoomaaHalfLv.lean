/-
  Half awards of cut claims and of the rest, place by place, and their level beside the greatest claim; in plain mathematics. No condition but that of a case.
-/
import Derived.Test.YtngalomfljoomaaHalf
import Derived.Test.YtngalomfljoomaaEvenLaw
namespace Go.Proofs.Ytngalomfljoomaa
open Go.RowKit

theorem half_at_bd {E : Int} {xs : List Int} (h : caseOkB E xs = true) (k : Nat) (hk : k < xs.length) : 0 ≤ (halfAw E xs)[k]'(by rw [halfAw_length]; exact hk) ∧ (halfAw E xs)[k]'(by rw [halfAw_length]; exact hk) ≤ 576 :=
  aw_range h (half_aw h).2.1 (half_aw h).2.2.1 _ (List.getElem_mem _)
theorem half_rest_at {E : Int} {xs : List Int} (h : caseOkB E xs = true) (k : Nat) (hk : k < xs.length) :
    (halfAw (E - (rightsRow E xs).sum) (cutRow (xs.sum - E) xs))[k]'(by rw [halfAw_length, cutRow_length]; exact hk) + 48 * (rightsRow E xs)[k]'(by rw [rightsRow_length]; exact hk) = (halfAw E xs)[k]'(by rw [halfAw_length]; exact hk) := by
  have e := half_rest h k hk
  rw [getD_of_lt _ k (by rw [halfAw_length, cutRow_length]; exact hk), getD_of_lt _ k (by rw [rightsRow_length]; exact hk), getD_of_lt (halfAw E xs) k (by rw [halfAw_length]; exact hk)] at e
  exact e
theorem half_rights_bd {E : Int} {xs : List Int} (h : caseOkB E xs = true) (k : Nat) (hk : k < xs.length) : 0 ≤ (rightsRow E xs)[k]'(by rw [rightsRow_length]; exact hk) ∧ (rightsRow E xs)[k]'(by rw [rightsRow_length]; exact hk) ≤ 12 := by
  have e1 := case_at h k hk
  have e2 := ((caseOk_iff E xs).1 h).2.2.2
  rw [rightsRow_at E xs k hk]
  omega
theorem half_most {E : Int} {xs : List Int} (h : caseOkB E xs = true) : 2 * halfLv E xs ≤ 48 * mostTo xs xs.length ∧ (2 * E = xs.sum → 2 * halfLv E xs = 48 * mostTo xs xs.length) := by
  have hl := half_low h
  have hn := ((caseOk_iff E xs).1 h)
  have e1 := evenLev_in (xs := halfP xs) (e := 48 * min E (xs.sum - E)) (by rw [halfP_length]; exact hn.1)
  obtain ⟨k, hk, hk2⟩ := List.getElem_of_mem e1
  have hk' : k < xs.length := by rw [evenOf_length, halfP_length] at hk; exact hk
  have e2 : (lowAw (min E (xs.sum - E)) xs)[k]'(by rw [lowAw_length]; exact hk') = min (24 * xs[k]) (lowLv (min E (xs.sum - E)) xs) := lowAw_at _ xs k hk'
  have e3 : halfLv E xs = min (24 * xs[k]) (halfLv E xs) := hk2.symm.trans e2
  have e4 := mostTo_ge xs xs.length k hk'
  rw [getD_of_lt xs k hk'] at e4
  refine ⟨by omega, fun hE => ?_⟩
  have hm : min E (xs.sum - E) = E := by omega
  have hf := low_full h hE
  have hall : ∀ x ∈ xs, 0 ≤ x ∧ x ≤ halfLv E xs / 24 := fun x hx => by
    obtain ⟨j, hj, rfl⟩ := List.getElem_of_mem hx
    have e5 := lowAw_at E xs j hj
    have e6 : (lowAw E xs)[j]'(by rw [lowAw_length]; exact hj) = 24 * xs[j] := by
      have e7 := congrArg (fun l : List Int => l.getD j 0) hf
      rw [getD_of_lt _ j (by rw [lowAw_length]; exact hj), getD_of_lt _ j (by rw [halfP_length]; exact hj), halfP_at xs j hj] at e7
      exact e7
    have e8 : halfLv E xs = lowLv E xs := by rw [halfLv, hm]
    have e9 := case_at h j hj
    rw [e8]
    omega
  have hb := halfLv_bd h
  have e10 := mostTo_bd xs (halfLv E xs / 24) hall (by omega) xs.length
  omega

end Go.Proofs.Ytngalomfljoomaa
