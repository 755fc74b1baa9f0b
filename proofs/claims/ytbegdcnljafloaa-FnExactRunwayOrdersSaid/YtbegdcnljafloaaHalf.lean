/-
  Half awards: up to half of all claims even awards on half the claims, beyond that even losses on the other half: they are awards that agree for each two, and all that follows from that; in plain mathematics. No condition but that of a case.
-/
import Derived.Test.YtbegdcnljafloaaAgreeLaw
import Derived.Test.YtbegdcnljafloaaGB
namespace Go.Proofs.Ytbegdcnljafloaa
open Go.RowKit

theorem lev_half : ∀ (S : List Int) (left lv : Int), S.length ≤ 4 → (∀ x ∈ S, x % 24 = 0) → left % 24 = 0 → (lev S left lv).2 = true
  | [], _, _, _, _, _ => rfl
  | v :: vs, left, lv, hn, hx, hl => by
    unfold lev
    split
    · have h4 : vs.length ≤ 3 := by simpa using hn
      show (left % ((vs.length : Int) + 1) == 0) = true
      rw [beq_iff_eq]
      rcases (show vs.length = 0 ∨ vs.length = 1 ∨ vs.length = 2 ∨ vs.length = 3 from by omega) with e | e | e | e <;> rw [e] <;> simp <;> omega
    · exact lev_half vs (left - v) v (by simp at hn; omega) (fun x h => hx x (by simp [h])) (by have := hx v (by simp); omega)
/-- Half of each claim, in parts. -/
def halfP (xs : List Int) : List Int := xs.map fun x => 24 * x
theorem halfP_length (xs : List Int) : (halfP xs).length = xs.length := by simp [halfP]
theorem halfP_sum : ∀ xs : List Int, (halfP xs).sum = 24 * xs.sum
  | [] => rfl
  | x :: xs => by have := halfP_sum xs; simp only [halfP, List.map_cons, List.sum_cons] at *; omega
theorem halfP_at (xs : List Int) (k : Nat) (h : k < xs.length) : (halfP xs)[k]'(by rw [halfP_length]; exact h) = 24 * xs[k] := by simp [halfP]
theorem halfP_rg {E : Int} {xs : List Int} (h : caseOkB E xs = true) : ∀ x ∈ halfP xs, 0 ≤ x ∧ x ≤ 288 := by
  intro x hx
  obtain ⟨y, hy, rfl⟩ := List.mem_map.1 hx
  have := ((caseOk_iff E xs).1 h).2.2.1 y hy
  omega
/-- The level of half awards, of an estate of at most half of all claims. -/
def lowLv (E : Int) (xs : List Int) : Int := evenLev (halfP xs) (48 * E)
def lowAw (E : Int) (xs : List Int) : List Int := evenOf (halfP xs) (48 * E)
theorem lowAw_length (E : Int) (xs : List Int) : (lowAw E xs).length = xs.length := by rw [lowAw, evenOf_length, halfP_length]
theorem lowAw_at (E : Int) (xs : List Int) (k : Nat) (h : k < xs.length) : (lowAw E xs)[k]'(by rw [lowAw_length]; exact h) = min (24 * xs[k]) (lowLv E xs) := by simp [lowAw, evenOf, halfP, lowLv]
section
variable {E : Int} {xs : List Int} (h : caseOkB E xs = true) (hE : 2 * E ≤ xs.sum)
include h hE
omit hE in
theorem low_whole : evenOk (halfP xs) (48 * E) = true := by
  have h1 := (caseOk_iff E xs).1 h
  refine lev_half _ _ _ (by rw [srt_length, halfP_length]; exact h1.2.1) (fun x hx => ?_) (by omega)
  obtain ⟨y, _, rfl⟩ := List.mem_map.1 (mem_srt.1 hx)
  omega
theorem lowLv_bd : 0 ≤ lowLv E xs ∧ lowLv E xs ≤ 288 := by
  have h1 := (caseOk_iff E xs).1 h
  exact evenLev_bd (by omega) (by rw [halfP_sum]; omega) (by omega) (halfP_rg h)
theorem lowAw_sum : (lowAw E xs).sum = 48 * E := by
  have h1 := (caseOk_iff E xs).1 h
  exact evenOf_sum (by omega) (by rw [halfP_sum]; omega) (fun x hx => (halfP_rg h x hx).1) (low_whole h)
theorem lowAw_aw : Aw E xs (lowAw E xs) := by
  refine aw_of h (lowAw_length E xs) (fun k h1 h2 => ?_) (lowAw_sum h hE)
  have := lowLv_bd h hE
  have := ((caseOk_iff E xs).1 h).2.2.1 _ (List.getElem_mem h2)
  rw [lowAw_at E xs k h2]
  omega
theorem lowAw_agree : Agrees xs (lowAw E xs) := fun i j hi hj => by
  have hn := lowAw_length E xs
  have hi' : i < xs.length := by omega
  have hj' : j < xs.length := by omega
  have hlv := lowLv_bd h hE
  have e1 := case_at h i hi'
  have e2 := case_at h j hj'
  unfold AgreeAt pairA pairB
  rw [getD_of_lt _ i hi, getD_of_lt _ j (by omega), getD_of_lt xs i hi', getD_of_lt xs j hj', lowAw_at E xs i hi', lowAw_at E xs j hj']
  omega
end
/-- What HalfAwards returns of a case. -/
def halfAw (E : Int) (xs : List Int) : List Int := if 2 * E ≤ xs.sum then lowAw E xs else lossesRow xs (lowAw (xs.sum - E) xs)
theorem halfAw_low {E : Int} {xs : List Int} (h : 2 * E ≤ xs.sum) : halfAw E xs = lowAw E xs := if_pos h
theorem halfAw_high {E : Int} {xs : List Int} (h : ¬ 2 * E ≤ xs.sum) : halfAw E xs = lossesRow xs (lowAw (xs.sum - E) xs) := if_neg h
theorem halfAw_length (E : Int) (xs : List Int) : (halfAw E xs).length = xs.length := by
  unfold halfAw; split
  · exact lowAw_length E xs
  · rw [lossesRow_length (lowAw_length _ _), lowAw_length]
theorem half_aw {E : Int} {xs : List Int} (h : caseOkB E xs = true) : Aw E xs (halfAw E xs) := by
  by_cases hE : 2 * E ≤ xs.sum
  · rw [halfAw_low hE]; exact lowAw_aw h hE
  · rw [halfAw_high hE]
    have e := loss_aw (lowAw_aw (other_ok h) (by omega))
    rw [back_sum] at e
    exact e
theorem half_agree {E : Int} {xs : List Int} (h : caseOkB E xs = true) : agreeB E xs (halfAw E xs) = true := by
  by_cases hE : 2 * E ≤ xs.sum
  · rw [halfAw_low hE]; exact (agreeB_iff _ _ _).2 ⟨(awardsB_iff _ _ _).2 (lowAw_aw h hE), lowAw_agree h hE⟩
  · rw [halfAw_high hE]
    have a := lowAw_aw (other_ok h) (by omega)
    have e := agree_loss ((awardsB_iff _ _ _).2 a)
    rw [back_sum] at e
    rw [e]
    exact (agreeB_iff _ _ _).2 ⟨(awardsB_iff _ _ _).2 a, lowAw_agree (other_ok h) (by omega)⟩
theorem half_is {E : Int} {xs ys : List Int} (h : agreeB E xs ys = true) : ys = halfAw E xs :=
  agree_one h (half_agree ((awardsB_iff _ _ _).1 ((agreeB_iff _ _ _).1 h).1).1)
theorem half_not {E : Int} {xs ys : List Int} (h : ¬ ys = halfAw E xs) : agreeB E xs ys = false := by
  by_cases c : agreeB E xs ys = true
  · exact absurd (half_is c) h
  · simpa using c
theorem half_other {E : Int} {xs : List Int} (h : caseOkB E xs = true) : lossesRow xs (halfAw E xs) = halfAw (xs.sum - E) xs :=
  half_is (by rw [agree_loss ((awardsB_iff _ _ _).2 (half_aw h))]; exact half_agree h)
theorem half_keeps {E : Int} {xs : List Int} (h : caseOkB E xs = true) : keepsB E xs (halfAw E xs) = true := agree_keeps (half_agree h)

/-! The middle. -/
def MidAt (E : Int) (xs ys : List Int) (k : Nat) : Prop := (2 * E ≤ xs.sum → 2 * ys.getD k 0 ≤ 48 * xs.getD k 0) ∧ (xs.sum ≤ 2 * E → 48 * xs.getD k 0 ≤ 2 * ys.getD k 0)
def MidAll (E : Int) (xs ys : List Int) : Prop := ∀ k, k < ys.length → MidAt E xs ys k
noncomputable def midB (E : Int) (xs ys : List Int) : Bool := @decide (awardsB E xs ys = true ∧ MidAll E xs ys) (Classical.propDecidable _)
theorem midB_iff (E : Int) (xs ys : List Int) : midB E xs ys = true ↔ (awardsB E xs ys = true ∧ MidAll E xs ys) := by simp [midB]
theorem mid_no {E : Int} {xs ys : List Int} (h : awardsB E xs ys = false) : midB E xs ys = false := by
  have e : ¬ (awardsB E xs ys = true ∧ MidAll E xs ys) := by simp [h]
  simp only [midB, decide_eq_false_iff_not]; exact e
theorem mid_bad {E : Int} {xs ys : List Int} {k : Nat} (hk : k < ys.length) (h : ¬ MidAt E xs ys k) : midB E xs ys = false := by
  have e : ¬ (awardsB E xs ys = true ∧ MidAll E xs ys) := fun m => h (m.2 k hk)
  simp only [midB, decide_eq_false_iff_not]; exact e
def MidTo (E : Int) (xs ys : List Int) (k : Nat) : Prop := ∀ j, j < k → MidAt E xs ys j
theorem MidTo.zero (E : Int) (xs ys : List Int) : MidTo E xs ys 0 := fun _ h => absurd h (by omega)
theorem MidTo.succ {E : Int} {xs ys : List Int} {k : Nat} (h : MidTo E xs ys k) (hk : MidAt E xs ys k) : MidTo E xs ys (k + 1) := fun j hj => by
  rcases Nat.lt_or_ge j k with h1 | h1
  · exact h j h1
  · obtain rfl : j = k := by omega
    exact hk
theorem mid_end {E : Int} {xs ys : List Int} (h : awardsB E xs ys = true) (hk : MidTo E xs ys ys.length) : midB E xs ys = true := (midB_iff E xs ys).2 ⟨h, hk⟩
/-- If half of each claim is all, each has half. -/
theorem low_full {E : Int} {xs : List Int} (h : caseOkB E xs = true) (hE : 2 * E = xs.sum) : lowAw E xs = halfP xs := by
  refine (rows_cross (lowAw E xs) (halfP xs) (by rw [lowAw_length, halfP_length]) (fun k hk => ?_)).2 (by rw [lowAw_sum h (by omega), halfP_sum]; omega)
  have hk' : k < xs.length := by rw [lowAw_length] at hk; exact hk
  rw [getD_of_lt _ k hk, getD_of_lt _ k (by rw [halfP_length]; exact hk'), lowAw_at E xs k hk', halfP_at xs k hk']
  omega
theorem lowAw_getD (E : Int) (xs : List Int) (k : Nat) (h : k < xs.length) : (lowAw E xs).getD k 0 = min (24 * xs.getD k 0) (lowLv E xs) := by
  rw [getD_of_lt _ k (by rw [lowAw_length]; exact h), lowAw_at E xs k h, getD_of_lt xs k h]
theorem half_mid {E : Int} {xs : List Int} (h : caseOkB E xs = true) : midB E xs (halfAw E xs) = true := by
  refine (midB_iff _ _ _).2 ⟨(awardsB_iff _ _ _).2 (half_aw h), fun k hk => ?_⟩
  rw [halfAw_length] at hk
  by_cases hE : 2 * E ≤ xs.sum
  · rw [halfAw_low hE]
    refine ⟨fun _ => ?_, fun hE2 => ?_⟩
    · rw [lowAw_getD E xs k hk]; omega
    · rw [low_full h (by omega), getD_of_lt (halfP xs) k (by rw [halfP_length]; exact hk), halfP_at xs k hk, getD_of_lt xs k hk]
      omega
  · rw [halfAw_high hE]
    refine ⟨fun hE2 => absurd hE2 hE, fun _ => ?_⟩
    rw [loss_getD (lowAw_length _ _) k hk, lowAw_getD _ xs k hk]
    omega
/-- For just half of all claims who holds the middle has half of each claim. -/
theorem mid_half {E : Int} {xs ys : List Int} (h : midB E xs ys = true) (hE : 2 * E = xs.sum) (k : Nat) (hk : k < ys.length) : 2 * ys.getD k 0 = 48 * xs.getD k 0 := by
  have e := ((midB_iff _ _ _).1 h).2 k hk
  have e1 := e.1 (by omega)
  have e2 := e.2 (by omega)
  omega

/-! The level. -/
/-- What HalfLevel returns of a case. -/
def halfLv (E : Int) (xs : List Int) : Int := lowLv (min E (xs.sum - E)) xs
theorem halfLv_other (E : Int) (xs : List Int) : halfLv (xs.sum - E) xs = halfLv E xs := by
  unfold halfLv
  have e : min (xs.sum - E) (xs.sum - (xs.sum - E)) = min E (xs.sum - E) := by omega
  rw [e]
theorem half_low {E : Int} {xs : List Int} (h : caseOkB E xs = true) : caseOkB (min E (xs.sum - E)) xs = true ∧ 2 * min E (xs.sum - E) ≤ xs.sum := by
  have h2 := other_ok h
  rcases (show min E (xs.sum - E) = E ∨ min E (xs.sum - E) = xs.sum - E from by omega) with e | e
  · exact ⟨by rw [e]; exact h, by omega⟩
  · exact ⟨by rw [e]; exact h2, by omega⟩
theorem halfLv_bd {E : Int} {xs : List Int} (h : caseOkB E xs = true) : 0 ≤ halfLv E xs ∧ halfLv E xs ≤ 288 := lowLv_bd (half_low h).1 (half_low h).2

/-! Cut claims, and rights. -/
theorem two_le_sum : ∀ (xs : List Int), (∀ x ∈ xs, 0 ≤ x) → ∀ i j, i < j → j < xs.length → xs.getD i 0 + xs.getD j 0 ≤ xs.sum
  | [], _, _, _, _, h => absurd h (by simp)
  | x :: xs, h, i, j, hij, hj => by
    have hx := h x (by simp)
    have hs := le_of_sum_nonneg xs (fun y hy => h y (by simp [hy]))
    obtain ⟨j', rfl⟩ : ∃ j', j = j' + 1 := ⟨j - 1, by omega⟩
    have hj' : j' < xs.length := by simpa using hj
    rw [List.getD_cons_succ, List.sum_cons]
    cases i with
    | zero =>
      rw [List.getD_cons_zero, getD_of_lt xs j' hj']
      have := hs _ (List.getElem_mem hj')
      omega
    | succ i' =>
      rw [List.getD_cons_succ]
      have := two_le_sum xs (fun y hy => h y (by simp [hy])) i' j' (by omega) hj'
      omega
theorem half_cut {E : Int} {xs : List Int} (h : caseOkB E xs = true) (hc : caseOkB E (cutRow E xs) = true) : halfAw E (cutRow E xs) = halfAw E xs := by
  have hA := half_aw h
  obtain ⟨_, hG⟩ := (agreeB_iff _ _ _).1 (half_agree h)
  have hn := halfAw_length E xs
  have h0 := ((caseOk_iff E xs).1 h)
  have hle : ∀ k, (hk : k < (halfAw E xs).length) → 0 ≤ (halfAw E xs)[k] ∧ (halfAw E xs)[k] ≤ 48 * E := fun k hk => by
    have h1 := hA.2.2.1 k hk (by omega)
    refine ⟨h1.1, ?_⟩
    have e := le_of_sum_nonneg (halfAw E xs) (fun x hx => (aw_range h hA.2.1 hA.2.2.1 x hx).1) _ (List.getElem_mem hk)
    rw [hA.2.2.2] at e
    exact e
  have hsum : ∀ i j, i < (halfAw E xs).length → j < i → (halfAw E xs).getD i 0 + (halfAw E xs).getD j 0 ≤ 48 * E := fun i j hi hj => by
    have e := two_le_sum (halfAw E xs) (fun x hx => (aw_range h hA.2.1 hA.2.2.1 x hx).1) j i hj hi
    rw [hA.2.2.2] at e
    omega
  refine (half_is ((agreeB_iff _ _ _).2 ⟨(awardsB_iff _ _ _).2 (aw_of hc (by rw [hn, cutRow_length]) (fun k h1 h2 => ?_) hA.2.2.2), fun i j hi hj => ?_⟩)).symm
  · have hk : k < xs.length := by omega
    have e := hle k h1
    have e2 := hA.2.2.1 k h1 hk
    rw [cutRow_at E xs k hk]
    split <;> omega
  · have hi' : i < xs.length := by omega
    have hj' : j < xs.length := by omega
    have g := hG i j hi hj
    have s := hsum i j hi hj
    have e1 := hle i hi
    have e2 := hle j (by omega)
    rw [← getD_of_lt _ i hi] at e1
    rw [← getD_of_lt _ j (by omega)] at e2
    unfold AgreeAt pairA pairB at *
    rw [getD_of_lt (cutRow E xs) i (by rw [cutRow_length]; exact hi'), getD_of_lt (cutRow E xs) j (by rw [cutRow_length]; exact hj'), cutRow_at E xs i hi', cutRow_at E xs j hj']
    rw [getD_of_lt xs i hi', getD_of_lt xs j hj'] at g
    split <;> split <;> omega
theorem half_rest {E : Int} {xs : List Int} (h : caseOkB E xs = true) (k : Nat) (hk : k < xs.length) :
    (halfAw (E - (rightsRow E xs).sum) (cutRow (xs.sum - E) xs)).getD k 0 + 48 * (rightsRow E xs).getD k 0 = (halfAw E xs).getD k 0 := by
  have hr := rest_ok h
  have e1 := half_other (other_ok hr)
  rw [back_sum, rest_back] at e1
  have e2 := half_cut (other_ok h) (by have e := other_ok hr; rw [rest_back] at e; exact e)
  rw [e2] at e1
  have e3 := half_other (other_ok h)
  rw [back_sum] at e3
  have hk2 : k < (cutRow (xs.sum - E) xs).length := by rw [cutRow_length]; exact hk
  rw [← e1, ← e3, loss_getD (by rw [halfAw_length, cutRow_length]) k hk2, loss_getD (halfAw_length _ _) k hk]
  have e4 := rights_cut_at E xs k hk
  rw [getD_of_lt (cutRow (xs.sum - E) xs) k hk2, getD_of_lt xs k hk, getD_of_lt (rightsRow E xs) k (by rw [rightsRow_length]; exact hk)]
  omega

end Go.Proofs.Ytbegdcnljafloaa
