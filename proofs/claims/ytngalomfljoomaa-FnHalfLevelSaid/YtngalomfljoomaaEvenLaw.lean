/-
  What the promises on even awards and losses use, as pure lists: the greatest of a row, one unit more, names, and what is cut. No condition but that it is a case.
-/
import Derived.Test.YtngalomfljoomaaGE
import Derived.Test.YtngalomfljoomaaGC
namespace Go.Proofs.Ytngalomfljoomaa
open Go.RowKit

/-- The greatest of the first k numbers, and 0. -/
def mostTo (R : List Int) : Nat → Int
  | 0 => 0
  | k + 1 => max (mostTo R k) (R.getD k 0)
theorem mostTo_bd (R : List Int) (M : Int) (h : ∀ x ∈ R, 0 ≤ x ∧ x ≤ M) (hM : 0 ≤ M) : ∀ k, 0 ≤ mostTo R k ∧ mostTo R k ≤ M
  | 0 => ⟨Int.le_refl _, hM⟩
  | k + 1 => by
    have h1 := mostTo_bd R M h hM k
    have h2 : 0 ≤ R.getD k 0 ∧ R.getD k 0 ≤ M := by
      by_cases hk : k < R.length
      · rw [getD_of_lt R k hk]; exact h _ (List.getElem_mem hk)
      · simp [List.getD, List.getElem?_eq_none (Nat.le_of_not_lt hk)]; exact hM
    simp only [mostTo]
    omega
theorem mostTo_ge (R : List Int) : ∀ k j, j < k → R.getD j 0 ≤ mostTo R k
  | k + 1, j, h => by
    simp only [mostTo]
    rcases Nat.lt_or_ge j k with h1 | h1
    · have := mostTo_ge R k j h1; omega
    · obtain rfl : j = k := by omega
      omega
theorem even_rg {E : Int} {xs : List Int} (h : caseOkB E xs = true) : ∀ x ∈ evenAw E xs, 0 ≤ x ∧ x ≤ evenLv E xs := fun x hx => by
  obtain ⟨j, hj, rfl⟩ := List.mem_iff_getElem.1 hx
  have hjx : j < xs.length := by rw [evenAw_length] at hj; exact hj
  have h1 := evenLv_bd h
  have h2 := ((caseOk_iff E xs).1 h).2.2.1 _ (List.getElem_mem hjx)
  rw [evenAw_at E xs j hjx]
  omega
theorem even_most {E : Int} {xs : List Int} (h : caseOkB E xs = true) : mostTo (evenAw E xs) (evenAw E xs).length = evenLv E xs := by
  have h1 := mostTo_bd (evenAw E xs) _ (even_rg h) (evenLv_bd h).1 (evenAw E xs).length
  have h2 : evenLv E xs ∈ evenAw E xs := evenLev_in (by rw [inP_length]; exact ((caseOk_iff E xs).1 h).1)
  obtain ⟨j, hj, e⟩ := List.mem_iff_getElem.1 h2
  have h3 := mostTo_ge (evenAw E xs) _ j hj
  rw [getD_of_lt _ j hj, e] at h3
  omega
theorem more_level {E : Int} {xs : List Int} (h : caseOkB E xs = true) : (evenLvl (E + 1) xs = -1) ∨ evenLv E xs ≤ evenLvl (E + 1) xs := by
  by_cases hE : E < xs.sum
  · right
    unfold evenLvl
    rw [if_pos (more_ok h hE)]
    exact evenLv_mono h (more_ok h hE) (by omega)
  · left
    unfold evenLvl
    rw [more_no hE]
    rfl
theorem more_loss {E : Int} {xs : List Int} (h : caseOkB E xs = true) : (lossLvl (E + 1) xs = -1) ∨ (0 ≤ lossLvl (E + 1) xs ∧ lossLvl (E + 1) xs ≤ evenLv (xs.sum - E) xs) := by
  by_cases hE : E < xs.sum
  · right
    unfold lossLvl
    rw [if_pos (more_ok h hE)]
    exact ⟨(evenLv_bd (other_ok (more_ok h hE))).1, evenLv_mono (other_ok (more_ok h hE)) (other_ok h) (by omega)⟩
  · left
    unfold lossLvl
    rw [more_no hE]
    rfl
theorem even_loss_row {E : Int} {xs : List Int} : lossesRow xs (evenLo E xs) = evenAw (xs.sum - E) xs := evenLo_loss E xs
/-- A case that is named otherwise has the even awards named alike. -/
theorem map_placed (f : Int → Int) (h0 : f 0 = 0) (xs ys : List Int) (n : Nat) : ∀ k, (placed xs ys n k).map f = placed (xs.map f) ys n k
  | 0 => by simp [placed, h0]
  | k + 1 => by
    simp only [placed, List.map_set, map_placed f h0 xs ys n k]
    congr 1
    by_cases hk : k < xs.length
    · simp [List.getD, hk]
    · simp [List.getD, hk, h0]
theorem named_even {E : Int} {xs ys : List Int} (h : caseOkB E xs = true) (ho : orderB xs.length ys = true) : evenAw E (placed xs ys xs.length xs.length) = placed (evenAw E xs) ys xs.length xs.length := by
  obtain ⟨hl, hto⟩ := order_iff ho
  rw [hl] at hto
  have hb := evenLv_bd h
  have hf : (inP (placed xs ys xs.length xs.length)).map (fun x => min x (evenLv E xs)) = placed (evenAw E xs) ys xs.length xs.length := by
    have e : (inP (placed xs ys xs.length xs.length)).map (fun x => min x (evenLv E xs)) = (placed xs ys xs.length xs.length).map (fun x => min (48 * x) (evenLv E xs)) := by simp [inP]
    rw [e, map_placed _ (by omega)]
    congr 1
    simp [evenAw, evenOf, inP, evenLv]
  have hs : (placed (evenAw E xs) ys xs.length xs.length).sum = 48 * E := by
    rw [placed_sum (evenAw E xs) ys _ _ (by rw [evenAw_length]; exact Nat.le_refl _) hto]
    have e : (evenAw E xs).take xs.length = evenAw E xs := List.take_of_length_le (by rw [evenAw_length]; exact Nat.le_refl _)
    rw [e, evenAw_sum h]
  have := even_one (xs := inP (placed xs ys xs.length xs.length)) (e := 48 * E) (L := evenLv E xs) (by rw [hf, hs])
  rw [evenAw, this.2, hf]
theorem named_even_row {E : Int} {xs ys : List Int} (h : caseOkB E xs = true) (ho : orderB xs.length ys = true) : ∀ k, k < xs.length → (evenAw E (placed xs ys xs.length xs.length)).getD (ys.getD k 0).toNat 0 = (evenAw E xs).getD k 0 := fun k hk => by
  obtain ⟨hl, hto⟩ := order_iff ho
  rw [hl] at hto
  rw [named_even h ho]
  exact placed_at (evenAw E xs) ys xs.length xs.length hto k hk
theorem named_loss_row {E : Int} {xs ys : List Int} (h : caseOkB E xs = true) (ho : orderB xs.length ys = true) : ∀ k, k < xs.length → (evenLo E (placed xs ys xs.length xs.length)).getD (ys.getD k 0).toNat 0 = (evenLo E xs).getD k 0 := fun k hk => by
  have hs := (named_ok h ho).2
  have h1 := named_even_row (other_ok h) ho k hk
  obtain ⟨hl, hto⟩ := order_iff ho
  rw [hl] at hto
  obtain ⟨p0, p1, _⟩ := hto k hk
  have h2 := placed_at xs ys xs.length xs.length hto k hk
  have hy : (ys.getD k 0).toNat < (placed xs ys xs.length xs.length).length := by rw [placed_length]; omega
  have a1 : (ys.getD k 0).toNat < (evenAw (xs.sum - E) (placed xs ys xs.length xs.length)).length := by rw [evenAw_length]; exact hy
  have a2 : k < (evenAw (xs.sum - E) xs).length := by rw [evenAw_length]; exact hk
  have b1 : (ys.getD k 0).toNat < (evenLo E (placed xs ys xs.length xs.length)).length := by rw [evenLo_length]; exact hy
  have b2 : k < (evenLo E xs).length := by rw [evenLo_length]; exact hk
  rw [getD_at _ _ a1, getD_at _ _ a2, evenAw_at _ _ _ hy, evenAw_at _ _ _ hk] at h1
  rw [getD_at _ _ hy, getD_at _ _ hk] at h2
  rw [getD_at _ _ b1, getD_at _ _ b2, evenLo_at _ _ _ hy, evenLo_at _ _ _ hk, hs]
  omega

end Go.Proofs.Ytngalomfljoomaa
