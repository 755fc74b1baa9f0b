/-
  Whole units, in plain mathematics: each number of a row divided, rounded down, and one more for those with the greatest rests, of equal rests the first. No condition.
-/
import Derived.Test.YtdhbeodgebdjjaaSpecSort
namespace Go.Proofs.Ytdhbeodgebdjjaa
open Go.RowKit

def quos (b : Int) (ys : List Int) : List Int := ys.map fun y => y / b
def negs (b : Int) (ys : List Int) : List Int := ys.map fun y => -(y % b)
theorem quos_length (b : Int) (ys : List Int) : (quos b ys).length = ys.length := by simp [quos]
theorem negs_length (b : Int) (ys : List Int) : (negs b ys).length = ys.length := by simp [negs]
theorem quos_getD (b : Int) (ys : List Int) (i : Nat) (h : i < ys.length) : (quos b ys).getD i 0 = ys.getD i 0 / b := by simp [quos, List.getD, List.getElem?_eq_getElem h]
theorem negs_getD (b : Int) (ys : List Int) (i : Nat) (h : i < ys.length) : (negs b ys).getD i 0 = -(ys.getD i 0 % b) := by simp [negs, List.getD, List.getElem?_eq_getElem h]
/-- One place comes ahead of another. -/
def ahead (zs : List Int) (p q : Nat) : Bool := decide (zs.getD p 0 < zs.getD q 0 ∨ (zs.getD p 0 = zs.getD q 0 ∧ p < q))
def rankOf (zs : List Int) (q : Nat) : Nat := (List.range zs.length).countP fun p => ahead zs p q
/-- The whole units. -/
def wholeRow (b E : Int) (ys : List Int) : List Int := (List.range ys.length).map fun i => ys.getD i 0 / b + (if (rankOf (negs b ys) i : Int) < E - (quos b ys).sum then 1 else 0)
theorem wholeRow_length (b E : Int) (ys : List Int) : (wholeRow b E ys).length = ys.length := by simp [wholeRow]
theorem wholeRow_getD (b E : Int) (ys : List Int) (i : Nat) (h : i < ys.length) : (wholeRow b E ys).getD i 0 = ys.getD i 0 / b + (if (rankOf (negs b ys) i : Int) < E - (quos b ys).sum then 1 else 0) := by
  simp [wholeRow, List.getD, h]

theorem rank_at {zs : List Int} {ps : List Nat} (h : SortTo zs ps zs.length) (m : Nat) (hm : m < zs.length) : rankOf zs (ps.getD m 0) = m := by
  have hl := h.len
  have hm' : m < ps.length := by omega
  have hs := h.2.2
  obtain ⟨v, hv⟩ : ∃ v, v = ps[m] := ⟨_, rfl⟩
  have e : ps.getD m 0 = v := by rw [hv]; simp [List.getD, List.getElem?_eq_getElem hm']
  rw [e, rankOf, ← h.1.countP_eq, List.countP_eq_length_filter]
  have h1 : (ps.take m).filter (fun p => ahead zs p v) = ps.take m := List.filter_eq_self.2 fun x hx => by
    obtain ⟨j, hj, rfl⟩ := List.mem_iff_getElem.1 hx
    rw [List.length_take] at hj
    rw [List.getElem_take, hv]
    have := (List.pairwise_iff_getElem.1 hs) j m (by omega) hm' (by omega)
    simpa [ahead] using this
  have h2 : (ps.drop m).filter (fun p => ahead zs p v) = [] := List.filter_eq_nil_iff.2 fun x hx => by
    obtain ⟨j, hj, rfl⟩ := List.mem_iff_getElem.1 hx
    rw [List.length_drop] at hj
    rw [List.getElem_drop, hv]
    rcases Nat.eq_zero_or_pos j with h0 | h0
    · subst h0; simp [ahead]
    · have := (List.pairwise_iff_getElem.1 hs) m (m + j) hm' (by omega) (by omega)
      simp only [ahead, decide_eq_true_eq]; omega
  have h3 : (ps.take m ++ ps.drop m).filter (fun p => ahead zs p v) = ps.take m := by rw [List.filter_append, h1, h2, List.append_nil]
  rw [List.take_append_drop] at h3
  rw [h3, List.length_take]; omega

theorem place_of {zs : List Int} {ps : List Nat} (h : SortTo zs ps zs.length) (i : Nat) (hi : i < zs.length) : ∃ m, m < zs.length ∧ ps.getD m 0 = i := by
  have hm : i ∈ ps := h.1.mem_iff.2 (List.mem_range.2 hi)
  obtain ⟨m, h1, h2⟩ := List.mem_iff_getElem.1 hm
  exact ⟨m, by rw [← h.len]; exact h1, by simp [List.getD, List.getElem?_eq_getElem h1, h2]⟩

/-- One more at each of the first places. -/
def bumpTo (qs : List Int) (ps : List Nat) : Nat → List Int
  | 0 => qs
  | k + 1 => (bumpTo qs ps k).set (ps.getD k 0) ((bumpTo qs ps k).getD (ps.getD k 0) 0 + 1)
theorem bump_length (qs : List Int) (ps : List Nat) : ∀ k, (bumpTo qs ps k).length = qs.length
  | 0 => rfl
  | k + 1 => by rw [bumpTo, List.length_set, bump_length qs ps k]
theorem getD_set_eq (xs : List Int) (p : Nat) (x : Int) (i : Nat) (hi : i < xs.length) : (xs.set p x).getD i 0 = if p = i then x else xs.getD i 0 := by
  by_cases h : p = i
  · subst h; simp [List.getD, hi]
  · simp [List.getD, h]
theorem bump_getD {zs qs : List Int} {ps : List Nat} (h : SortTo zs ps zs.length) (hq : qs.length = zs.length) : ∀ k, k ≤ zs.length → ∀ i, i < zs.length → (bumpTo qs ps k).getD i 0 = qs.getD i 0 + (if rankOf zs i < k then 1 else 0)
  | 0, _, i, _ => by simp [bumpTo]
  | k + 1, hk, i, hi => by
    have ih := bump_getD h hq k (by omega)
    rw [bumpTo, getD_set_eq _ _ _ _ (by rw [bump_length]; omega)]
    have hr := rank_at h k (by omega)
    by_cases hp : ps.getD k 0 = i
    · rw [if_pos hp, hp, ih i hi]
      rw [hp] at hr
      rw [hr, if_neg (by omega), if_pos (by omega)]; omega
    · rw [if_neg hp, ih i hi]
      obtain ⟨m, hm, hmi⟩ := place_of h i hi
      have hrm := rank_at h m hm
      rw [hmi] at hrm
      have hne : m ≠ k := fun e => hp (by rw [← e]; exact hmi)
      rw [hrm]
      by_cases hlt : m < k
      · rw [if_pos hlt, if_pos (by omega)]
      · rw [if_neg hlt, if_neg (by omega)]
theorem bump_whole {b E : Int} {ys : List Int} {ps : List Nat} (h : SortTo (negs b ys) ps ys.length) (left : Nat) (hl : (left : Int) = E - (quos b ys).sum) (hle : left ≤ ys.length) : bumpTo (quos b ys) ps left = wholeRow b E ys := by
  have h' : SortTo (negs b ys) ps (negs b ys).length := by rw [negs_length]; exact h
  apply List.ext_getElem
  · rw [bump_length, quos_length, wholeRow_length]
  · intro i h1 h2
    have hi : i < ys.length := by rw [wholeRow_length] at h2; exact h2
    have e1 := bump_getD h' (qs := quos b ys) (by rw [quos_length, negs_length]) left (by rw [negs_length b ys]; exact hle) i (by rw [negs_length b ys]; exact hi)
    have e2 := wholeRow_getD b E ys i hi
    rw [quos_getD b ys i hi] at e1
    rw [getD_of_lt _ _ h1] at e1
    rw [getD_of_lt _ _ h2] at e2
    rw [e1, e2, ← hl]
    by_cases hr : rankOf (negs b ys) i < left
    · have hr' : (rankOf (negs b ys) i : Int) < (left : Int) := by omega
      rw [if_pos hr, if_pos hr']
    · have hr' : ¬ (rankOf (negs b ys) i : Int) < (left : Int) := by omega
      rw [if_neg hr, if_neg hr']
theorem sum_set_one (xs : List Int) (p : Nat) (hp : p < xs.length) : (xs.set p (xs.getD p 0 + 1)).sum = xs.sum + 1 := by
  induction xs generalizing p with
  | nil => simp at hp
  | cons x r ih =>
    cases p with
    | zero => simp [List.getD]; omega
    | succ p =>
      have := ih p (by simpa using hp)
      simp only [List.getD_cons_succ, List.set_cons_succ, List.sum_cons, this]; omega
theorem bump_sum {zs qs : List Int} {ps : List Nat} (h : SortTo zs ps zs.length) (hq : qs.length = zs.length) : ∀ k, k ≤ zs.length → (bumpTo qs ps k).sum = qs.sum + k
  | 0, _ => by simp [bumpTo]
  | k + 1, hk => by
    have ih := bump_sum h hq k (by omega)
    rw [bumpTo, sum_set_one _ _ (by rw [bump_length, hq]; exact h.lt k (by omega)), ih]; omega

theorem quos_sum (b : Int) : ∀ ys : List Int, ys.sum = b * (quos b ys).sum + (ys.map fun y => y % b).sum
  | [] => by simp [quos]
  | y :: r => by
    have ih := quos_sum b r
    have e := Int.mul_ediv_add_emod y b
    simp only [quos, List.map_cons, List.sum_cons, Int.mul_add] at ih ⊢
    rw [ih]; omega
theorem rests_bd {b : Int} (hb : 1 ≤ b) : ∀ ys : List Int, 0 ≤ (ys.map fun y => y % b).sum ∧ (ys.map fun y => y % b).sum ≤ (b - 1) * (ys.countP fun y => decide (0 < y % b) : Nat)
  | [] => by simp
  | y :: r => by
    have ih := rests_bd hb r
    have h1 := Int.emod_nonneg y (b := b) (by omega)
    have h2 := Int.emod_lt_of_pos y (b := b) (by omega)
    rw [List.map_cons, List.sum_cons, List.countP_cons]
    by_cases h : 0 < y % b
    · have e : (b - 1) * ((List.countP (fun y => decide (0 < y % b)) r + 1 : Nat) : Int) = (b - 1) * (List.countP (fun y => decide (0 < y % b)) r : Nat) + (b - 1) := by
        rw [Int.natCast_add, Int.mul_add]; simp
      simp only [h, decide_true, if_true]
      rw [e]; omega
    · have e : y % b = 0 := by omega
      simp only [e, Int.lt_irrefl, decide_false, Bool.false_eq_true, if_false, Nat.add_zero]; omega
theorem left_bd {b E : Int} {ys : List Int} (hb : 1 ≤ b) (hs : ys.sum = b * E) :
    0 ≤ E - (quos b ys).sum ∧ E - (quos b ys).sum ≤ (ys.countP fun y => decide (0 < y % b) : Nat) := by
  have h1 := quos_sum b ys
  have h2 := rests_bd hb ys
  rw [hs] at h1
  have h3 : b * (E - (quos b ys).sum) = (ys.map fun y => y % b).sum := by rw [Int.mul_sub]; omega
  have hb0 : 0 < b := by omega
  constructor
  · refine Int.le_of_mul_le_mul_left (a := b) ?_ hb0
    rw [h3, Int.mul_zero]; exact h2.1
  · refine Int.le_of_mul_le_mul_left (a := b) ?_ hb0
    rw [h3]
    refine Int.le_trans h2.2 ?_
    exact Int.mul_le_mul_of_nonneg_right (by omega) (by omega)
theorem left_len {b E : Int} {ys : List Int} (hb : 1 ≤ b) (hs : ys.sum = b * E) : 0 ≤ E - (quos b ys).sum ∧ E - (quos b ys).sum ≤ ys.length := by
  have h := left_bd hb hs
  have h2 : (ys.countP fun y => decide (0 < y % b)) ≤ ys.length := List.countP_le_length
  omega

end Go.Proofs.Ytdhbeodgebdjjaa
