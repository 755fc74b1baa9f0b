/-
  Names change no sums: the row at the places of an order has the same sum, its numbers are those of the row, and rights are named alike.
-/
import Derived.Test.YtilhholjbjhaeaaNamed
import Derived.Test.YtilhholjbjhaeaaPure2
namespace Go.Proofs.Ytilhholjbjhaeaa
open Go.RowKit

theorem getD_at (l : List Int) (i : Nat) (h : i < l.length) : l.getD i 0 = l[i] := by
  rw [List.getD_eq_getElem?_getD, List.getElem?_eq_getElem h]
  rfl
theorem sum_set : ∀ (l : List Int) (i : Nat) (v : Int), i < l.length → (l.set i v).sum = l.sum - l.getD i 0 + v
  | [], i, v, h => absurd h (by simp)
  | x :: l, 0, v, _ => by simp; omega
  | x :: l, i + 1, v, h => by
    have := sum_set l i v (by simpa using h)
    simp only [List.set_cons_succ, List.sum_cons, List.getD_cons_succ, this]
    omega
theorem getD_set_same {α : Type} (l : List α) (i : Nat) (v d : α) (h : i < l.length) : (l.set i v).getD i d = v := by simp [List.getD, h]
theorem getD_set_other {α : Type} (l : List α) (i j : Nat) (v d : α) (h : i ≠ j) : (l.set i v).getD j d = l.getD j d := by simp [List.getD, List.getElem?_set_ne h]
theorem placed_free (xs ys : List Int) (n : Nat) : ∀ k p, (seenAt ys n k).getD p false = false → (placed xs ys n k).getD p 0 = 0
  | 0, p, _ => by
    simp only [placed, List.getD, List.getElem?_replicate]
    split <;> rfl
  | k + 1, p, h => by
    by_cases e : (ys.getD k 0).toNat = p
    · by_cases hp : p < n
      · subst e
        rw [seenAt, getD_set_same _ _ _ _ (by rw [seenAt_length]; exact hp)] at h
        cases h
      · simp [List.getD, placed_length, hp]
    · rw [seenAt, getD_set_other _ _ _ _ _ e] at h
      rw [placed, getD_set_other _ _ _ _ _ e]
      exact placed_free xs ys n k p h
theorem seen_true (ys : List Int) (n : Nat) : ∀ k j, j < k → 0 ≤ ys.getD j 0 → ys.getD j 0 < n → (seenAt ys n k).getD (ys.getD j 0).toNat false = true
  | k + 1, j, hj, h0, h1 => by
    by_cases e : (ys.getD k 0).toNat = (ys.getD j 0).toNat
    · rw [seenAt, e, getD_set_same _ _ _ _ (by rw [seenAt_length]; omega)]
    · rw [seenAt, getD_set_other _ _ _ _ _ e]
      exact seen_true ys n k j (by have : j ≠ k := fun e' => e (by rw [e']); omega) h0 h1
theorem placed_sum (xs ys : List Int) (n : Nat) : ∀ k, k ≤ xs.length → OrdTo ys n k → (placed xs ys n k).sum = (xs.take k).sum
  | 0, _, _ => by simp [placed]
  | k + 1, hk, ho => by
    obtain ⟨h0, h1, hs⟩ := ho k (by omega)
    rw [placed, sum_set _ _ _ (by rw [placed_length]; omega), placed_free xs ys n k _ hs, placed_sum xs ys n k (by omega) fun j hj => ho j (by omega)]
    have e : xs.take (k + 1) = xs.take k ++ [xs.getD k 0] := by
      rw [List.take_add_one]
      simp [List.getD, List.getElem?_eq_getElem (show k < xs.length by omega)]
    rw [e, List.sum_append]
    simp
theorem placed_at (xs ys : List Int) (n : Nat) : ∀ k, OrdTo ys n k → ∀ j, j < k → (placed xs ys n k).getD (ys.getD j 0).toNat 0 = xs.getD j 0
  | k + 1, ho, j, hj => by
    obtain ⟨h0, h1, hs⟩ := ho k (by omega)
    by_cases e : j = k
    · subst e
      rw [placed, getD_set_same _ _ _ _ (by rw [placed_length]; omega)]
    · obtain ⟨g0, g1, _⟩ := ho j (by omega)
      have hne : (ys.getD k 0).toNat ≠ (ys.getD j 0).toNat := fun e2 => by
        have := seen_true ys n k j (by omega) g0 g1
        rw [← e2, hs] at this
        cases this
      rw [placed, getD_set_other _ _ _ _ _ hne]
      exact placed_at xs ys n k (fun i hi => ho i (by omega)) j (by omega)
theorem placed_mem (xs ys : List Int) (n : Nat) (P : Int → Prop) (h0 : P 0) (hx : ∀ x ∈ xs, P x) : ∀ k, ∀ x ∈ placed xs ys n k, P x
  | 0, x, h => by
    rw [placed] at h
    rw [(List.mem_replicate.1 h).2]; exact h0
  | k + 1, x, h => by
    rw [placed] at h
    rcases List.mem_or_eq_of_mem_set h with h | h
    · exact placed_mem xs ys n P h0 hx k x h
    · rw [h]
      by_cases hk : k < xs.length
      · simp [List.getD, hk]; exact hx _ (List.getElem_mem hk)
      · simp [List.getD, hk]; exact h0
/-- The named case is a case, of the same sum, and rights are named alike. -/
theorem named_ok {E : Int} {xs ys : List Int} (h : caseOkB E xs = true) (ho : orderB xs.length ys = true) :
    caseOkB E (placed xs ys xs.length xs.length) = true ∧ (placed xs ys xs.length xs.length).sum = xs.sum := by
  obtain ⟨hl, hto⟩ := order_iff ho
  rw [hl] at hto
  have hs : (placed xs ys xs.length xs.length).sum = xs.sum := by rw [placed_sum xs ys _ _ (Nat.le_refl _) hto, List.take_length]
  refine ⟨?_, hs⟩
  have hc := (caseOk_iff E xs).1 h
  refine (caseOk_iff E _).2 ?_
  rw [placed_length, hs]
  exact ⟨hc.1, hc.2.1, placed_mem xs ys _ (fun x => 0 ≤ x ∧ x ≤ 12) (by omega) hc.2.2.1 _, hc.2.2.2⟩
theorem named_rights {E : Int} {xs ys : List Int} (h : caseOkB E xs = true) (ho : orderB xs.length ys = true) (k : Nat) (hk : k < xs.length) :
    0 ≤ ys.getD k 0 ∧ ys.getD k 0 < xs.length ∧ (rightsRow E (placed xs ys xs.length xs.length)).getD (ys.getD k 0).toNat 0 = (rightsRow E xs).getD k 0 := by
  obtain ⟨hl, hto⟩ := order_iff ho
  rw [hl] at hto
  obtain ⟨h0, h1, _⟩ := hto k hk
  refine ⟨h0, h1, ?_⟩
  have e := placed_at xs ys xs.length xs.length hto k hk
  have hy : (ys.getD k 0).toNat < (placed xs ys xs.length xs.length).length := by rw [placed_length]; omega
  have e1 : (placed xs ys xs.length xs.length).getD (ys.getD k 0).toNat 0 = (placed xs ys xs.length xs.length)[(ys.getD k 0).toNat]'hy := getD_at _ _ hy
  have e2 : xs.getD k 0 = xs[k] := getD_at _ _ hk
  rw [e1, e2] at e
  have hr : (ys.getD k 0).toNat < (rightsRow E (placed xs ys xs.length xs.length)).length := by rw [rightsRow_length]; exact hy
  have hr2 : k < (rightsRow E xs).length := by rw [rightsRow_length]; exact hk
  have e3 : (rightsRow E (placed xs ys xs.length xs.length)).getD (ys.getD k 0).toNat 0 = (rightsRow E (placed xs ys xs.length xs.length))[(ys.getD k 0).toNat]'hr := getD_at _ _ hr
  have e4 : (rightsRow E xs).getD k 0 = (rightsRow E xs)[k]'hr2 := getD_at _ _ hr2
  rw [e3, e4, rightsRow_at _ _ _ hy, rightsRow_at _ _ _ hk, (named_ok h ho).2, e]

end Go.Proofs.Ytilhholjbjhaeaa
