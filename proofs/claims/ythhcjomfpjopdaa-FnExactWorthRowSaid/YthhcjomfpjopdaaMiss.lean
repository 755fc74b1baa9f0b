/-
  Halves are the last word on misses, in plain mathematics: rows from the greatest number on are told apart by how many numbers reach a bound; for each set with another sum a set of one person, or of all but one, misses more of other awards than the set misses of halves. No condition but that of a case.
-/
import Derived.Test.YthhcjomfpjopdaaGame
import Derived.Test.YthhcjomfpjopdaaHalf
namespace Go.Proofs.Ythhcjomfpjopdaa
open Go.RowKit

/-! Rows from the greatest number on. -/
/-- How many numbers of a row reach t. -/
def reach (t : Int) : List Int → Nat
  | [] => 0
  | x :: xs => (if t ≤ x then 1 else 0) + reach t xs
theorem reach_ins (t x : Int) : ∀ l : List Int, reach t (insD x l) = (if t ≤ x then 1 else 0) + reach t l
  | [] => by simp [insD, reach]
  | y :: ys => by
    have e := reach_ins t x ys
    simp only [insD]
    split
    · rfl
    · simp only [reach, e]; omega
theorem reach_le (t : Int) : ∀ l : List Int, reach t l ≤ l.length
  | [] => by simp [reach]
  | y :: ys => by
    have e := reach_le t ys
    simp only [reach, List.length_cons]; split <;> omega
theorem reach_none (t : Int) : ∀ l : List Int, (∀ z ∈ l, z < t) → reach t l = 0
  | [], _ => rfl
  | y :: ys, h => by
    have e := reach_none t ys (fun z hz => h z (by simp [hz]))
    have e2 := h y (by simp)
    simp only [reach, e]; rw [if_neg (by omega)]
theorem reach_at (t : Int) : ∀ (l : List Int), Desc l → ∀ k, k < l.length → (k < reach t l ↔ t ≤ l.getD k 0)
  | [], _, k, hk => absurd hk (by simp)
  | y :: ys, h, 0, _ => by
    simp only [reach, List.getD_cons_zero]
    by_cases c : t ≤ y
    · rw [if_pos c]; constructor
      · intro _; exact c
      · intro _; omega
    · rw [if_neg c, reach_none t ys (fun z hz => by have := h.1 z hz; omega)]
      constructor
      · intro e; omega
      · intro e; exact absurd e c
  | y :: ys, h, k + 1, hk => by
    have hk' : k < ys.length := by simpa using hk
    have e := reach_at t ys h.2 k hk'
    simp only [reach, List.getD_cons_succ]
    by_cases c : t ≤ y
    · rw [if_pos c, ← e]; omega
    · rw [if_neg c, ← e, reach_none t ys (fun z hz => by have := h.1 z hz; omega)]; omega
/-- Two rows from the greatest number on, of which as many numbers reach each bound above t, and fewer of the first one reach t: the first one is the lesser one. -/
theorem lex_lt {F G : List Int} (hF : Desc F) (hG : Desc G) (hl : F.length = G.length) (t : Int) (he : ∀ u, t < u → reach u F = reach u G) (ht : reach t F < reach t G) : ordTo F G F.length = -1 := by
  have hp : reach t F < F.length := by have := reach_le t G; omega
  have hsame : ∀ j, j < reach t F → F.getD j 0 = G.getD j 0 := fun j hj => by
    have h1 := (reach_at t F hF j (by omega)).1 hj
    have h2 := (reach_at t G hG j (by omega)).1 (by omega)
    have a1 := reach_at (G.getD j 0) F hF j (by omega)
    have a2 := reach_at (G.getD j 0) G hG j (by omega)
    have b1 := reach_at (F.getD j 0) F hF j (by omega)
    have b2 := reach_at (F.getD j 0) G hG j (by omega)
    have c1 : F.getD j 0 ≤ G.getD j 0 := by
      by_cases c : t < F.getD j 0
      · exact b2.1 (by rw [← he _ c]; exact b1.2 (Int.le_refl _))
      · omega
    have c2 : G.getD j 0 ≤ F.getD j 0 := by
      by_cases c : t < G.getD j 0
      · exact a1.1 (by rw [he _ c]; exact a2.2 (Int.le_refl _))
      · omega
    omega
  have hz := (ordTo_zero F G (reach t F)).2 hsame
  have h1 : F.getD (reach t F) 0 < t := by
    have e := reach_at t F hF (reach t F) hp
    by_cases c : t ≤ F.getD (reach t F) 0
    · exact absurd (e.2 c) (Nat.lt_irrefl _)
    · omega
  have h2 := (reach_at t G hG (reach t F) (by omega)).1 ht
  have h3 : ordTo F G (reach t F + 1) = -1 := by
    simp only [ordTo]; rw [if_pos hz, if_pos (by omega)]
  rw [ordTo_stay (k := reach t F + 1) (by rw [h3]; omega) _ (by omega), h3]
/-! Misses of two rows of awards. -/
section
variable {E : Int} {xs ys zs : List Int}
theorem reach_miss (t : Int) : ∀ m, reach t (missTo E xs ys (m + 2)) = (if t ≤ missOf E xs ys (m + 1) then 1 else 0) + reach t (missTo E xs ys (m + 1)) := fun m => by
  simp only [missTo]; rw [if_neg (show ¬ m + 1 = 0 by omega), reach_ins]
theorem miss_one : missTo E xs ys 1 = [] := rfl
theorem reach_same (u : Int) : ∀ m, (∀ s, 1 ≤ s → s ≤ m → (u ≤ missOf E xs ys s ↔ u ≤ missOf E xs zs s)) → reach u (missTo E xs ys (m + 1)) = reach u (missTo E xs zs (m + 1))
  | 0, _ => rfl
  | m + 1, h => by
    have e := reach_same u m (fun s h1 h2 => h s h1 (by omega))
    have e2 := h (m + 1) (by omega) (Nat.le_refl _)
    rw [reach_miss, reach_miss, e]
    by_cases c : u ≤ missOf E xs ys (m + 1)
    · rw [if_pos c, if_pos (e2.1 c)]
    · rw [if_neg c, if_neg (fun d => c (e2.2 d))]
theorem reach_more (u : Int) : ∀ m, (∀ s, 1 ≤ s → s ≤ m → u ≤ missOf E xs ys s → u ≤ missOf E xs zs s) → reach u (missTo E xs ys (m + 1)) ≤ reach u (missTo E xs zs (m + 1)) ∧
    ∀ s, 1 ≤ s → s ≤ m → ¬ u ≤ missOf E xs ys s → u ≤ missOf E xs zs s → reach u (missTo E xs ys (m + 1)) < reach u (missTo E xs zs (m + 1))
  | 0, _ => ⟨Nat.le_refl _, fun s h1 h2 => absurd h1 (by omega)⟩
  | m + 1, h => by
    have e := reach_more u m (fun s h1 h2 => h s h1 (by omega))
    have e2 := h (m + 1) (by omega) (Nat.le_refl _)
    rw [reach_miss, reach_miss]
    refine ⟨?_, fun s h1 h2 n1 n2 => ?_⟩
    · by_cases c : u ≤ missOf E xs ys (m + 1)
      · rw [if_pos c, if_pos (e2 c)]; have := e.1; omega
      · rw [if_neg c]; have := e.1; omega
    · by_cases c : s = m + 1
      · subst c; rw [if_neg n1, if_pos n2]; have := e.1; omega
      · have e3 := e.2 s h1 (by omega) n1 n2
        by_cases c : u ≤ missOf E xs ys (m + 1)
        · rw [if_pos c, if_pos (e2 c)]; omega
        · rw [if_neg c]; omega
/-- Of the sets that differ one has the greatest miss. -/
theorem most_of (P : Nat → Prop) (g : Nat → Int) : ∀ m, (∃ s, 1 ≤ s ∧ s ≤ m ∧ P s) → ∃ s, 1 ≤ s ∧ s ≤ m ∧ P s ∧ ∀ r, 1 ≤ r → r ≤ m → P r → g r ≤ g s
  | 0, ⟨s, h1, h2, _⟩ => absurd h1 (by omega)
  | m + 1, ⟨s, h1, h2, h3⟩ => by
    by_cases c : ∃ s, 1 ≤ s ∧ s ≤ m ∧ P s
    · obtain ⟨q, q1, q2, q3, q4⟩ := most_of P g m c
      by_cases d : P (m + 1) ∧ g q < g (m + 1)
      · exact ⟨m + 1, by omega, Nat.le_refl _, d.1, fun r r1 r2 r3 => by
          rcases Nat.lt_or_ge m r with e | e
          · obtain rfl : r = m + 1 := by omega
            exact Int.le_refl _
          · have := q4 r r1 e r3; omega⟩
      · refine ⟨q, q1, by omega, q3, fun r r1 r2 r3 => ?_⟩
        rcases Nat.lt_or_ge m r with e | e
        · obtain rfl : r = m + 1 := by omega
          rcases Int.lt_or_le (g q) (g (m + 1)) with f | f
          · exact absurd ⟨r3, f⟩ d
          · exact f
        · exact q4 r r1 e r3
    · refine ⟨s, h1, h2, h3, fun r r1 r2 r3 => ?_⟩
      have e1 : r = m + 1 := by
        rcases Nat.lt_or_ge m r with e | e
        · omega
        · exact absurd ⟨r, r1, e, r3⟩ c
      have e2 : s = m + 1 := by
        rcases Nat.lt_or_ge m s with e | e
        · omega
        · exact absurd ⟨s, h1, e, h3⟩ c
      rw [e1, e2]; exact Int.le_refl _
/-- If for each set that differs another one misses more of the second awards, the first ones' misses come first. -/
theorem miss_first {m : Nat} (h : ∀ s, 1 ≤ s → s ≤ m → ¬ missOf E xs ys s = missOf E xs zs s → ∃ r, 1 ≤ r ∧ r ≤ m ∧ ¬ missOf E xs ys r = missOf E xs zs r ∧ missOf E xs ys s < missOf E xs zs r)
    (hd : ∃ s, 1 ≤ s ∧ s ≤ m ∧ ¬ missOf E xs ys s = missOf E xs zs s) : ordTo (missTo E xs ys (m + 1)) (missTo E xs zs (m + 1)) (missTo E xs ys (m + 1)).length = -1 := by
  obtain ⟨q, q1, q2, q3, q4⟩ := most_of (fun s => ¬ missOf E xs ys s = missOf E xs zs s) (fun s => missOf E xs zs s) m hd
  have hlt : ∀ s, 1 ≤ s → s ≤ m → ¬ missOf E xs ys s = missOf E xs zs s → missOf E xs ys s < missOf E xs zs q := fun s h1 h2 h3 => by
    obtain ⟨r, r1, r2, r3, r4⟩ := h s h1 h2 h3
    have := q4 r r1 r2 r3
    omega
  refine lex_lt (missTo_desc _ _ _ _) (missTo_desc _ _ _ _) (by rw [missTo_length, missTo_length]) (missOf E xs zs q) (fun u hu => ?_) ?_
  · refine reach_same u m (fun s h1 h2 => ?_)
    by_cases c : missOf E xs ys s = missOf E xs zs s
    · rw [c]
    · have e1 := hlt s h1 h2 c
      have e2 := q4 s h1 h2 c
      constructor <;> intro e <;> omega
  · refine (reach_more (missOf E xs zs q) m (fun s h1 h2 h3 => ?_)).2 q q1 q2 ?_ (Int.le_refl _)
    · by_cases c : missOf E xs ys s = missOf E xs zs s
      · rw [← c]; exact h3
      · have := hlt s h1 h2 c; omega
    · have := hlt q q1 q2 q3; omega
end
/-! Sums over sets of two rows. -/
theorem in_ge {z : List Int} (hz : ∀ k, 0 ≤ z.getD k 0) (s k : Nat) (hb : s.testBit k = true) : ∀ m, k < m → z.getD k 0 ≤ inSum z s m
  | 0, h => absurd h (by omega)
  | m + 1, h => by
    have e0 := in_nonneg hz s m
    have e1 := hz m
    rw [in_succ]
    by_cases c : k = m
    · subst c; rw [if_pos hb]; omega
    · have e := in_ge hz s k hb m (by omega)
      split <;> omega
theorem out_loss {x z : List Int} (hz : ∀ k, z.getD k 0 ≤ 48 * x.getD k 0) (s : Nat) : ∀ m, 0 ≤ 48 * outSum x s m - outSum z s m
  | 0 => by simp [outSum]
  | m + 1 => by
    have e := out_loss hz s m
    have e1 := hz m
    rw [out_succ, out_succ]
    split <;> omega
theorem out_ge {x z : List Int} (hz : ∀ k, z.getD k 0 ≤ 48 * x.getD k 0) (s j : Nat) (hb : s.testBit j = false) : ∀ m, j < m → 48 * x.getD j 0 - z.getD j 0 ≤ 48 * outSum x s m - outSum z s m
  | 0, h => absurd h (by omega)
  | m + 1, h => by
    have e0 := out_loss hz s m
    have e1 := hz m
    rw [out_succ, out_succ]
    by_cases c : j = m
    · subst c; rw [if_neg (by simp [hb]), if_neg (by simp [hb])]; omega
    · have e := out_ge hz s j hb m (by omega)
      split <;> omega
theorem in_same {y z : List Int} (s : Nat) : ∀ m, (∀ k, k < m → s.testBit k = true → y.getD k 0 = z.getD k 0) → inSum y s m = inSum z s m
  | 0, _ => rfl
  | m + 1, h => by
    have e := in_same s m (fun k h1 h2 => h k (by omega) h2)
    rw [in_succ, in_succ, e]
    cases c : s.testBit m
    · simp
    · rw [h m (by omega) c]
theorem out_same {y z : List Int} (s : Nat) : ∀ m, (∀ k, k < m → s.testBit k = false → y.getD k 0 = z.getD k 0) → outSum y s m = outSum z s m
  | 0, _ => rfl
  | m + 1, h => by
    have e := out_same s m (fun k h1 h2 => h k (by omega) h2)
    rw [out_succ, out_succ, e]
    cases c : s.testBit m
    · rw [h m (by omega) c]
    · simp
theorem sum_take_ge {y z : List Int} : ∀ m, (∀ k, k < m → z.getD k 0 ≤ y.getD k 0) → (z.take m).sum ≤ (y.take m).sum ∧ ∀ k, k < m → z.getD k 0 < y.getD k 0 → (z.take m).sum < (y.take m).sum
  | 0, _ => ⟨by simp, fun k h => absurd h (by omega)⟩
  | m + 1, h => by
    have e := sum_take_ge m (fun k hk => h k (by omega))
    have e2 := h m (by omega)
    rw [sum_take_succ, sum_take_succ]
    refine ⟨by have := e.1; omega, fun k hk hlt => ?_⟩
    by_cases c : k = m
    · subst c; have := e.1; omega
    · have := e.2 k (by omega) hlt; omega
section
variable {E : Int} {xs ys hs : List Int}
/-- The sum over all but one. -/
theorem in_but {z : List Int} {n k : Nat} (hz : z.length = n) (hk : k < n) : inSum z (2 ^ n - 1 - 2 ^ k : Nat) z.length = z.sum - z.getD k 0 := by
  have e := in_out z (2 ^ n - 1 - 2 ^ k) z.length
  rw [List.take_length, out_sub (pow_lt hk) _ (by omega), in_one, if_pos (by omega)] at e
  omega
theorem but_rg {n k : Nat} (h2 : 2 ≤ n) (hk : k < n) : 1 ≤ 2 ^ n - 1 - 2 ^ k ∧ 2 ^ n - 1 - 2 ^ k ≤ 2 ^ n - 2 ∧ 1 ≤ 2 ^ k ∧ 2 ^ k ≤ 2 ^ n - 2 := by
  have e1 : 0 < 2 ^ k := Nat.pow_pos (by omega)
  have e2 : 2 ^ (k + 1) ≤ 2 ^ n := Nat.pow_le_pow_right (by omega) hk
  have e3 : 2 ^ 2 ≤ 2 ^ n := Nat.pow_le_pow_right (by omega) h2
  rw [Nat.pow_succ] at e2
  generalize 2 ^ n = p at *
  generalize 2 ^ k = q at *
  omega
/-- The heart: h are halves, y other awards. -/
theorem star (hA : Aw E xs ys) (h2 : 2 ≤ xs.length) {s : Nat} (hd : ¬ missOf E xs (halfAw E xs) s = missOf E xs ys s) :
    ∃ r, 1 ≤ r ∧ r ≤ 2 ^ xs.length - 2 ∧ ¬ missOf E xs (halfAw E xs) r = missOf E xs ys r ∧ missOf E xs (halfAw E xs) s < missOf E xs ys r := by
  obtain ⟨hs, hhs⟩ : ∃ l, l = halfAw E xs := ⟨_, rfl⟩
  rw [← hhs] at hd ⊢
  have hc := hA.1
  have hH : Aw E xs hs := by rw [hhs]; exact half_aw hc
  have hcb := (caseOk_iff E xs).1 hc
  have hyl := hA.2.1
  have hhl := hH.2.1
  have rgY : ∀ k, 0 ≤ ys.getD k 0 ∧ ys.getD k 0 ≤ 48 * xs.getD k 0 := fun k => by
    by_cases hk : k < ys.length
    · have e := hA.2.2.1 k hk (by omega)
      rw [getD_of_lt ys k hk, getD_of_lt xs k (by omega)]; exact e
    · rw [getD_far ys (by omega), getD_far xs (by omega)]; omega
  have rgH : ∀ k, 0 ≤ hs.getD k 0 ∧ hs.getD k 0 ≤ 48 * xs.getD k 0 := fun k => by
    by_cases hk : k < hs.length
    · have e := hH.2.2.1 k hk (by omega)
      rw [getD_of_lt hs k hk, getD_of_lt xs k (by omega)]; exact e
    · rw [getD_far hs (by omega), getD_far xs (by omega)]; omega
  have sumY : (ys.take xs.length).sum = 48 * E := by rw [← hyl, List.take_length]; exact hA.2.2.2
  have sumH : (hs.take xs.length).sum = 48 * E := by rw [← hhl, List.take_length]; exact hH.2.2.2
  -- a person with less gives a set of one
  have one : ∀ i, i < xs.length → ys.getD i 0 < hs.getD i 0 → missOf E xs hs s ≤ - hs.getD i 0 → ∃ r, 1 ≤ r ∧ r ≤ 2 ^ xs.length - 2 ∧ ¬ missOf E xs hs r = missOf E xs ys r ∧ missOf E xs hs s < missOf E xs ys r := fun i hi hlt hm => by
    have rg := but_rg h2 hi
    have e1 : missOf E xs hs (2 ^ i) = 48 * worth E xs (2 ^ i : Nat) - hs.getD i 0 := by unfold missOf; rw [in_one, if_pos (by omega)]
    have e2 : missOf E xs ys (2 ^ i) = 48 * worth E xs (2 ^ i : Nat) - ys.getD i 0 := by unfold missOf; rw [in_one, if_pos (by omega)]
    have e3 : 0 ≤ worth E xs (2 ^ i : Nat) := by unfold worth; omega
    exact ⟨2 ^ i, rg.2.2.1, rg.2.2.2, by omega, by omega⟩
  -- a person with more gives the set of all others
  have but : ∀ j, j < xs.length → hs.getD j 0 < ys.getD j 0 → missOf E xs hs s ≤ hs.getD j 0 - 48 * xs.getD j 0 → ∃ r, 1 ≤ r ∧ r ≤ 2 ^ xs.length - 2 ∧ ¬ missOf E xs hs r = missOf E xs ys r ∧ missOf E xs hs s < missOf E xs ys r := fun j hj hlt hm => by
    have rg := but_rg h2 hj
    have e1 : missOf E xs hs (2 ^ xs.length - 1 - 2 ^ j) = 48 * max (E - xs.getD j 0) 0 - (48 * E - hs.getD j 0) := by unfold missOf; rw [in_but hhl hj, worth_but hj, hH.2.2.2]
    have e2 : missOf E xs ys (2 ^ xs.length - 1 - 2 ^ j) = 48 * max (E - xs.getD j 0) 0 - (48 * E - ys.getD j 0) := by unfold missOf; rw [in_but hyl hj, worth_but hj, hA.2.2.2]
    exact ⟨2 ^ xs.length - 1 - 2 ^ j, rg.1, rg.2.1, by omega, by omega⟩
  -- someone has less, if someone has more, and the other way round
  have less : ∀ k, k < xs.length → hs.getD k 0 < ys.getD k 0 → ∃ i, i < xs.length ∧ ys.getD i 0 < hs.getD i 0 := fun k hk hlt => by
    by_cases c : ∃ i, i < xs.length ∧ ys.getD i 0 < hs.getD i 0
    · exact c
    · have e := (sum_take_ge (y := ys) (z := hs) xs.length (fun i hi => by
        rcases Int.lt_or_le (ys.getD i 0) (hs.getD i 0) with d | d
        · exact absurd ⟨i, hi, d⟩ c
        · exact d)).2 k hk hlt
      omega
  have more : ∀ k, k < xs.length → ys.getD k 0 < hs.getD k 0 → ∃ i, i < xs.length ∧ hs.getD i 0 < ys.getD i 0 := fun k hk hlt => by
    by_cases c : ∃ i, i < xs.length ∧ hs.getD i 0 < ys.getD i 0
    · exact c
    · have e := (sum_take_ge (y := hs) (z := ys) xs.length (fun i hi => by
        rcases Int.lt_or_le (hs.getD i 0) (ys.getD i 0) with d | d
        · exact absurd ⟨i, hi, d⟩ c
        · exact d)).2 k hk hlt
      omega
  -- the level of halves, or of their losses
  have lvl : (∃ L, ∀ k, k < xs.length → hs.getD k 0 = min (24 * xs.getD k 0) L) ∨ (∃ L, ∀ k, k < xs.length → hs.getD k 0 = 48 * xs.getD k 0 - min (24 * xs.getD k 0) L) := by
    by_cases hE : 2 * E ≤ xs.sum
    · exact .inl ⟨lowLv E xs, fun k hk => by rw [hhs, halfAw_low hE, lowAw_getD E xs k hk]⟩
    · exact .inr ⟨lowLv (xs.sum - E) xs, fun k hk => by rw [hhs, halfAw_high hE, loss_getD (lowAw_length _ _) k hk, lowAw_getD _ xs k hk]⟩
  have io := in_out hs s xs.length
  rw [sumH] at io
  have ioY := in_out ys s xs.length
  rw [sumY] at ioY
  have md : missOf E xs hs s = 48 * worth E xs s - inSum hs s xs.length := by unfold missOf; rw [hhl]
  have mdY : missOf E xs ys s = 48 * worth E xs s - inSum ys s xs.length := by unfold missOf; rw [hyl]
  have hne : ¬ inSum ys s xs.length = inSum hs s xs.length := by omega
  by_cases hw : worth E xs s = 0
  · -- nothing is left for the set
    have hin : ∀ k, k < xs.length → s.testBit k = true → missOf E xs hs s ≤ - hs.getD k 0 := fun k hk hb => by
      have e := in_ge (fun k => (rgH k).1) s k hb xs.length hk
      omega
    by_cases c : ∃ i, i < xs.length ∧ s.testBit i = true ∧ ys.getD i 0 < hs.getD i 0
    · obtain ⟨i, hi, hb, hlt⟩ := c
      exact one i hi hlt (hin i hi hb)
    · have c2 : ∃ k, k < xs.length ∧ s.testBit k = true ∧ hs.getD k 0 < ys.getD k 0 := by
        by_cases d : ∃ k, k < xs.length ∧ s.testBit k = true ∧ hs.getD k 0 < ys.getD k 0
        · exact d
        · refine absurd (in_same s xs.length (fun k hk hb => ?_)) hne
          rcases Int.lt_trichotomy (ys.getD k 0) (hs.getD k 0) with e | e | e
          · exact absurd ⟨k, hk, hb, e⟩ c
          · exact e
          · exact absurd ⟨k, hk, hb, e⟩ d
      obtain ⟨k, hk, hb, hlt⟩ := c2
      have e := hin k hk hb
      rcases lvl with ⟨L, hL⟩ | ⟨L, hL⟩
      · have eL := hL k hk
        by_cases f : 24 * xs.getD k 0 ≤ L
        · exact but k hk hlt (by omega)
        · obtain ⟨i, hi, hi2⟩ := less k hk hlt
          have eI := hL i hi
          exact one i hi hi2 (by omega)
      · have eL := hL k hk
        exact but k hk hlt (by omega)
  · -- something is left
    have hw2 : worth E xs s = E - outSum xs s xs.length := by unfold worth at hw ⊢; omega
    have hout : ∀ k, k < xs.length → s.testBit k = false → missOf E xs hs s ≤ hs.getD k 0 - 48 * xs.getD k 0 := fun k hk hb => by
      have e := out_ge (fun k => (rgH k).2) s k hb xs.length hk
      omega
    by_cases c : ∃ i, i < xs.length ∧ s.testBit i = false ∧ hs.getD i 0 < ys.getD i 0
    · obtain ⟨i, hi, hb, hlt⟩ := c
      exact but i hi hlt (hout i hi hb)
    · have c2 : ∃ k, k < xs.length ∧ s.testBit k = false ∧ ys.getD k 0 < hs.getD k 0 := by
        by_cases d : ∃ k, k < xs.length ∧ s.testBit k = false ∧ ys.getD k 0 < hs.getD k 0
        · exact d
        · have e2 : outSum ys s xs.length = outSum hs s xs.length := out_same s xs.length (fun k hk hb => by
            rcases Int.lt_trichotomy (ys.getD k 0) (hs.getD k 0) with e | e | e
            · exact absurd ⟨k, hk, hb, e⟩ d
            · exact e
            · exact absurd ⟨k, hk, hb, e⟩ c)
          exact absurd (show inSum ys s xs.length = inSum hs s xs.length by omega) hne
      obtain ⟨k, hk, hb, hlt⟩ := c2
      have e := hout k hk hb
      rcases lvl with ⟨L, hL⟩ | ⟨L, hL⟩
      · have eL := hL k hk
        exact one k hk hlt (by omega)
      · have eL := hL k hk
        by_cases f : 24 * xs.getD k 0 ≤ L
        · exact one k hk hlt (by omega)
        · obtain ⟨i, hi, hi2⟩ := more k hk hlt
          have eI := hL i hi
          exact but i hi hi2 (by omega)
theorem missRow_yes (h : awardsB E xs ys = true) : missRow E xs ys = missTo E xs ys (2 ^ ys.length - 1) := if_pos h
/-- Halves are the last word on misses. -/
theorem miss_best (h : awardsB E xs ys = true) (h2 : 2 ≤ xs.length) (hne : ¬ ys = halfAw E xs) : rowOrd (missRow E xs (halfAw E xs)) (missRow E xs ys) = -1 := by
  have hA := (awardsB_iff E xs ys).1 h
  have hH := half_aw hA.1
  have e1 : (missRow E xs (halfAw E xs)).length = (missRow E xs ys).length := by
    rw [missRow_yes h, missRow_yes ((awardsB_iff _ _ _).2 hH), missTo_length, missTo_length, hA.2.1, hH.2.1]
  have e2 := missRow_len E xs (halfAw E xs)
  unfold rowOrd
  rw [if_pos ⟨e1, e2⟩, missRow_yes h, missRow_yes ((awardsB_iff _ _ _).2 hH), hA.2.1, hH.2.1]
  have e3 : 2 ^ 2 ≤ 2 ^ xs.length := Nat.pow_le_pow_right (by omega) h2
  have e4 : 2 ^ xs.length - 1 = (2 ^ xs.length - 2) + 1 := by omega
  rw [e4]
  refine miss_first (fun s _ _ h3 => star hA h2 h3) ?_
  by_cases c : ∃ k, k < xs.length ∧ ¬ ys.getD k 0 = (halfAw E xs).getD k 0
  · obtain ⟨k, hk, hk2⟩ := c
    have rg := but_rg h2 hk
    refine ⟨2 ^ k, rg.2.2.1, rg.2.2.2, fun e => hk2 ?_⟩
    unfold missOf at e
    rw [in_one, in_one, if_pos (by rw [hH.2.1]; exact hk), if_pos (by rw [hA.2.1]; exact hk)] at e
    omega
  · refine absurd (List.ext_getElem (by rw [hA.2.1, hH.2.1]) (fun k h3 h4 => ?_)) hne
    rw [← getD_of_lt ys k h3, ← getD_of_lt _ k h4]
    by_cases d : ys.getD k 0 = (halfAw E xs).getD k 0
    · exact d
    · exact absurd ⟨k, by rw [← hA.2.1]; exact h3, d⟩ c
theorem miss_self (h : awardsB E xs ys = true) (he : ys = halfAw E xs) : rowOrd (missRow E xs (halfAw E xs)) (missRow E xs ys) = 0 := by
  subst he
  have e := missRow_len E xs (halfAw E xs)
  unfold rowOrd
  rw [if_pos ⟨rfl, e⟩]
  exact (ordTo_zero _ _ _).2 (fun _ _ => rfl)
/-- None is more than 0, and none more than the one before. -/
theorem miss_le (h : awardsB E xs ys = true) : ∀ z ∈ missRow E xs ys, z ≤ 0 := by
  have hA := (awardsB_iff E xs ys).1 h
  have hC := (coreB_iff E xs ys).1 ((core_aw hA.1).trans h)
  rw [missRow_yes h]
  have key : ∀ m, m ≤ 2 ^ ys.length - 1 → ∀ z ∈ missTo E xs ys m, z ≤ 0 := fun m => by
    induction m with
    | zero => intro _ z hz; cases hz
    | succ m ih =>
      intro hm z hz
      simp only [missTo] at hz
      by_cases c : m = 0
      · rw [if_pos c] at hz; cases hz
      · rw [if_neg c] at hz
        rcases (insD_mem _ _ z).1 hz with e | e
        · have e2 := hC.2.2.2.1 m (by
            have a : ((2 ^ ys.length : Nat) : Int) = 2 ^ ys.length := by simp
            rw [← a]; refine Int.ofNat_lt.2 ?_
            have b : 0 < 2 ^ ys.length := Nat.pow_pos (by omega)
            omega)
          unfold CoreAt at e2
          rw [e]; unfold missOf; omega
        · exact ih (by omega) z e
  exact key _ (Nat.le_refl _)
theorem miss_falls (h : awardsB E xs ys = true) {k : Nat} (hk : k + 1 < (missRow E xs ys).length) : (missRow E xs ys).getD (k + 1) 0 ≤ (missRow E xs ys).getD k 0 := by
  rw [missRow_yes h] at *
  exact desc_at _ (missTo_desc _ _ _ _) k (k + 1) (by omega) hk
theorem missRow_count (h : awardsB E xs ys = true) : ((missRow E xs ys).length : Int) = 2 ^ ys.length - 2 := by
  have a : ((2 ^ ys.length : Nat) : Int) = 2 ^ ys.length := by simp
  have b : 1 ≤ ys.length := by have e := (awardsB_iff E xs ys).1 h; have e2 := ((caseOk_iff E xs).1 e.1).1; have e3 := e.2.1; omega
  have c : 2 ^ 1 ≤ 2 ^ ys.length := Nat.pow_le_pow_right (by omega) b
  rw [missRow_yes h, missTo_length, ← a]; omega
theorem missRow_none (h : (missRow E xs ys).length = 0) (ha : awardsB E xs ys = true) : ys.length = 1 := by
  have e := missRow_count ha
  have b : 1 ≤ ys.length := by have e := (awardsB_iff E xs ys).1 ha; have e2 := ((caseOk_iff E xs).1 e.1).1; have e3 := e.2.1; omega
  rcases Nat.lt_or_ge 1 ys.length with c | c
  · have d : 2 ^ 2 ≤ 2 ^ ys.length := Nat.pow_le_pow_right (by omega) c
    have a : ((2 ^ ys.length : Nat) : Int) = 2 ^ ys.length := by simp
    rw [← a] at e; omega
  · omega
theorem missRow_some (h : ¬ (missRow E xs ys).length = 0) : awardsB E xs ys = true ∧ 2 ≤ ys.length := by
  have ha : awardsB E xs ys = true := by
    by_cases c : awardsB E xs ys = true
    · exact c
    · unfold missRow at h; rw [if_neg c] at h; exact absurd rfl h
  refine ⟨ha, ?_⟩
  have e := missRow_count ha
  have b : 1 ≤ ys.length := by have e := (awardsB_iff E xs ys).1 ha; have e2 := ((caseOk_iff E xs).1 e.1).1; have e3 := e.2.1; omega
  rcases Nat.lt_or_ge 1 ys.length with c | c
  · exact c
  · obtain d : ys.length = 1 := by omega
    rw [d] at e
    have e5 : (2 : Int) ^ 1 = 2 := rfl
    rw [e5] at e; omega
theorem miss_at (h : awardsB E xs ys = true) (k : Nat) : True ∧ (missRow E xs ys).getD k 0 ≤ 0 := by
  refine ⟨trivial, ?_⟩
  by_cases hk : k < (missRow E xs ys).length
  · rw [getD_of_lt _ k hk]; exact miss_le h _ (List.getElem_mem hk)
  · rw [getD_far _ (by omega)]; omega
theorem miss_next (h : awardsB E xs ys = true) {k x : Nat} (hx : (k : Int) - 1 = (x : Int)) (hk : k < (missRow E xs ys).length) : (missRow E xs ys).getD k 0 ≤ (missRow E xs ys).getD x 0 := by
  obtain rfl : k = x + 1 := by omega
  exact miss_falls h hk
theorem miss_is (h : awardsB E xs ys = true) (h2 : 2 ≤ xs.length) (hn : ¬ rowOrd (missRow E xs (halfAw E xs)) (missRow E xs ys) = -1) : ys = halfAw E xs := by
  by_cases c : ys = halfAw E xs
  · exact c
  · exact absurd (miss_best h h2 c) hn
end

end Go.Proofs.Ythhcjomfpjopdaa
