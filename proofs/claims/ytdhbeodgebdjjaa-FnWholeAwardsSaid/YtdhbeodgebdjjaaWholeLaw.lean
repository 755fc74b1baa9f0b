/-
  What the promises say of whole units and of shares, in plain mathematics: they are together the estate, each the quotient or one more, and no more than what it is of. No condition but those of a case.
-/
import Derived.Test.YtdhbeodgebdjjaaWhole
import Derived.Test.YtdhbeodgebdjjaaShareRow
import Derived.Test.YtdhbeodgebdjjaaUnitsSpec
namespace Go.Proofs.Ytdhbeodgebdjjaa
open Go.RowKit

theorem ahead_tr (zs : List Int) (a b c : Nat) (h1 : (!ahead zs b a) = true) (h2 : (!ahead zs c b) = true) : (!ahead zs c a) = true := by
  simp only [ahead, Bool.not_eq_true', decide_eq_false_iff_not] at *; omega
theorem ahead_tot (zs : List Int) (a b : Nat) : ((!ahead zs b a) || (!ahead zs a b)) = true := by
  simp only [ahead, Bool.or_eq_true, Bool.not_eq_true', decide_eq_false_iff_not]; omega
theorem places_are (zs : List Int) : ∃ ps : List Nat, SortTo zs ps zs.length := by
  have hp := List.mergeSort_perm (List.range zs.length) (fun a b => !ahead zs b a)
  have hs := List.pairwise_mergeSort (le := fun a b => !ahead zs b a) (ahead_tr zs) (ahead_tot zs) (List.range zs.length)
  have hn : (List.mergeSort (List.range zs.length) (fun a b => !ahead zs b a)).Nodup := hp.nodup_iff.2 List.nodup_range
  have hst : (List.mergeSort (List.range zs.length) (fun a b => !ahead zs b a)).Pairwise fun p q => zs.getD p 0 < zs.getD q 0 ∨ (zs.getD p 0 = zs.getD q 0 ∧ p < q) :=
    (hs.and hn).imp fun {p q} ⟨h1, h2⟩ => by
      simp only [ahead, Bool.not_eq_true', decide_eq_false_iff_not] at h1
      have h3 : p ≠ q := h2
      omega
  refine ⟨_, hp, ?_, hst⟩
  rw [valsAt, List.pairwise_map]
  exact hst.imp fun h => by omega

theorem whole_sum {b E : Int} {ys : List Int} (hb : 1 ≤ b) (hs : ys.sum = b * E) : (wholeRow b E ys).sum = E := by
  obtain ⟨ps, hps⟩ := places_are (negs b ys)
  have hl := left_len hb hs
  obtain ⟨left, hleft⟩ := Int.eq_ofNat_of_zero_le hl.1
  have h1 := bump_whole (b := b) (E := E) (ys := ys) (ps := ps) (by rw [negs_length] at hps; exact hps) left hleft.symm (by omega)
  have h2 := bump_sum (qs := quos b ys) hps (by rw [quos_length, negs_length]) left (by rw [negs_length]; omega)
  rw [h1] at h2
  omega
theorem whole_bd (b E : Int) (ys : List Int) (i : Nat) (h : i < ys.length) : ys.getD i 0 / b ≤ (wholeRow b E ys).getD i 0 ∧ (wholeRow b E ys).getD i 0 ≤ ys.getD i 0 / b + 1 := by
  rw [wholeRow_getD b E ys i h]; split <;> omega
theorem countP_range (ys : List Int) (f : Int → Bool) : (List.range ys.length).countP (fun i => f (ys.getD i 0)) = ys.countP f := by
  have e : ys = (List.range ys.length).map fun i => ys.getD i 0 := by
    apply List.ext_getElem
    · simp
    · intro i h1 h2; simp [List.getD, h1]
  conv => rhs; rw [e]
  rw [List.countP_map]; rfl
theorem whole_zero {b E : Int} {ys : List Int} (hb : 1 ≤ b) (hs : ys.sum = b * E) (i : Nat) (h : i < ys.length) (hz : ys.getD i 0 % b = 0) : (wholeRow b E ys).getD i 0 = ys.getD i 0 / b := by
  rw [wholeRow_getD b E ys i h]
  have hl := left_bd hb hs
  have hc : (ys.countP fun y => decide (0 < y % b)) ≤ rankOf (negs b ys) i := by
    rw [← countP_range ys fun y => decide (0 < y % b), rankOf, negs_length]
    refine List.countP_mono_left fun p hp hpos => ?_
    have hp' : p < ys.length := List.mem_range.1 hp
    simp only [decide_eq_true_eq] at hpos
    simp only [ahead, decide_eq_true_eq]
    rw [negs_getD b ys p hp', negs_getD b ys i h, hz]
    omega
  rw [if_neg (by omega)]; omega
theorem whole_le {b E : Int} {ys : List Int} (hb : 1 ≤ b) (hs : ys.sum = b * E) (i : Nat) (h : i < ys.length) (x : Int) (hx : ys.getD i 0 ≤ b * x) : (wholeRow b E ys).getD i 0 ≤ x := by
  have h1 := whole_bd b E ys i h
  have h2 : ys.getD i 0 / b ≤ x := by
    have e := Int.ediv_le_ediv (show (0 : Int) < b by omega) hx
    rw [Int.mul_ediv_cancel_left x (show b ≠ 0 by omega)] at e
    exact e
  rcases Int.lt_or_eq_of_le h2 with h3 | h3
  · omega
  · have e := Int.mul_ediv_add_emod (ys.getD i 0) b
    have hm := Int.emod_nonneg (ys.getD i 0) (show b ≠ 0 by omega)
    rw [h3] at e
    rw [whole_zero hb hs i h (by omega)]
    exact h2
theorem whole_same {b E : Int} {ws : List Int} (hb : 1 ≤ b) (hs : ws.sum = E) : wholeRow b E (ws.map fun x => b * x) = ws := by
  have hS : (ws.map fun x => b * x).sum = b * E := by
    rw [← hs]
    clear hs
    induction ws with
    | nil => simp
    | cons z r ih => simp only [List.map_cons, List.sum_cons, ih, Int.mul_add]
  apply List.ext_getElem
  · rw [wholeRow_length]; simp
  · intro i h1 h2
    have h3 : i < (ws.map fun x => b * x).length := by simpa using h2
    have e : (ws.map fun x => b * x).getD i 0 = b * ws[i] := by simp [List.getD, h2]
    have e2 := whole_zero hb hS i h3 (by rw [e]; exact Int.mul_emod_right b _)
    rw [e, Int.mul_ediv_cancel_left _ (show b ≠ 0 by omega), getD_of_lt _ i h1] at e2
    exact e2

/-- The whole shares of a case. -/
def shW (E : Int) (xs : List Int) : List Int := wholeRow (max 1 xs.sum) E (shareRow E xs)
theorem shW_length (E : Int) (xs : List Int) : (shW E xs).length = xs.length := by rw [shW, wholeRow_length, shareRow_length]
theorem shW_sum {E : Int} {xs : List Int} (h : caseOkB E xs = true) : (shW E xs).sum = E := whole_sum (by omega) (shares_sum h rfl)
theorem shW_at {E : Int} {xs : List Int} (h : caseOkB E xs = true) (k : Nat) (hk : k < xs.length) (hw : k < (shW E xs).length) (hs : k < (shareRow E xs).length) :
    (shareRow E xs)[k] / max 1 xs.sum ≤ (shW E xs)[k] ∧ (shW E xs)[k] ≤ (shareRow E xs)[k] / max 1 xs.sum + 1 ∧ (shW E xs)[k] ≤ xs[k] ∧ 0 ≤ (shareRow E xs)[k] / max 1 xs.sum := by
  have hb := caseOk_bd h
  have e1 := whole_bd (max 1 xs.sum) E (shareRow E xs) k (by rw [shareRow_length]; exact hk)
  have hv := share_bd h k hk
  have hx : 0 ≤ xs[k] ∧ xs[k] ≤ 12 := ((caseOk_iff E xs).1 h).2.2.1 _ (List.getElem_mem hk)
  have e3 : (shareRow E xs).getD k 0 ≤ max 1 xs.sum * xs[k] := by
    rw [getD_of_lt _ k hs, shareRow_at E xs k hk, Int.mul_comm]
    exact Int.mul_le_mul_of_nonneg_right (by omega) hx.1
  have e2 := whole_le (by omega) (shares_sum h rfl) k (by rw [shareRow_length]; exact hk) xs[k] e3
  rw [getD_of_lt _ k hs] at e1
  have e4 : (wholeRow (max 1 xs.sum) E (shareRow E xs)).getD k 0 = (shW E xs)[k] := getD_of_lt (shW E xs) k hw
  rw [e4] at e1 e2
  rw [← shareRow_at E xs k hk] at hv
  exact ⟨e1.1, e1.2, e2, Int.ediv_nonneg hv.1 (by omega)⟩
theorem shW_small {E : Int} {xs : List Int} (h : caseOkB E xs = true) : Small (shW E xs) := by
  have hb := caseOk_bd h
  refine ⟨by rw [shW_length]; omega, fun y hy => ?_⟩
  obtain ⟨k, hk, rfl⟩ := List.mem_iff_getElem.1 hy
  have hk' : k < xs.length := by rw [shW_length] at hk; exact hk
  have e := shW_at h k hk' hk (by rw [shareRow_length]; exact hk')
  have hx : 0 ≤ xs[k] ∧ xs[k] ≤ 12 := ((caseOk_iff E xs).1 h).2.2.1 _ (List.getElem_mem hk')
  omega

theorem share_small {E : Int} {xs : List Int} (h : caseOkB E xs = true) : Small (shareRow E xs) := by
  have hb := caseOk_bd h
  refine ⟨by rw [shareRow_length]; omega, fun y hy => ?_⟩
  obtain ⟨k, hk, rfl⟩ := List.mem_iff_getElem.1 hy
  have hk' : k < xs.length := by rw [shareRow_length] at hk; exact hk
  have e := share_bd h k hk'
  rw [shareRow_at E xs k hk']; omega
theorem share_sum (E : Int) (xs : List Int) : (shareRow E xs).sum = xs.sum * E := by
  rw [shareRow]
  induction xs with
  | nil => simp
  | cons z r ih => simp only [List.map_cons, List.sum_cons, ih, Int.add_mul]
theorem share_both (E S : Int) (xs : List Int) (k : Nat) (h : k < xs.length) (h1 : k < (shareRow E xs).length) (h2 : k < (shareRow (S - E) xs).length) : (shareRow E xs)[k] + (shareRow (S - E) xs)[k] = xs[k] * S := by
  rw [shareRow_at E xs k h, shareRow_at (S - E) xs k h, ← Int.mul_add]
  congr 1; omega

end Go.Proofs.Ytdhbeodgebdjjaa
