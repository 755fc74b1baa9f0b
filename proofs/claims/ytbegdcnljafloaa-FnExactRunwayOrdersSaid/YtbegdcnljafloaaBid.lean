/-
  Bids for things, the pure mathematics: who takes what, fair shares, the surplus as a sum over the things, what all have in the end. No condition but that they are bids.
-/
import Derived.Test.YtbegdcnljafloaaGB
namespace Go.Proofs.Ytbegdcnljafloaa
open Go.RowKit

/-! Sums over the first numbers. -/
def sumN (f : Nat → Int) : Nat → Int
  | 0 => 0
  | n + 1 => sumN f n + f n
theorem sumN_congr {f g : Nat → Int} : ∀ {n : Nat}, (∀ k, k < n → f k = g k) → sumN f n = sumN g n
  | 0, _ => rfl
  | n + 1, h => by simp only [sumN]; rw [sumN_congr (fun k hk => h k (by omega)), h n (by omega)]
theorem sumN_add (f g : Nat → Int) : ∀ n, sumN (fun k => f k + g k) n = sumN f n + sumN g n
  | 0 => rfl
  | n + 1 => by simp only [sumN]; rw [sumN_add f g n]; omega
theorem sumN_sub (f g : Nat → Int) : ∀ n, sumN (fun k => f k - g k) n = sumN f n - sumN g n
  | 0 => rfl
  | n + 1 => by simp only [sumN]; rw [sumN_sub f g n]; omega
theorem sumN_mul (q : Int) (f : Nat → Int) : ∀ n, sumN (fun k => q * f k) n = q * sumN f n
  | 0 => by simp [sumN]
  | n + 1 => by simp only [sumN]; rw [sumN_mul q f n, Int.mul_add]
theorem sumN_zero : ∀ n, sumN (fun _ => 0) n = 0
  | 0 => rfl
  | n + 1 => by simp only [sumN]; rw [sumN_zero n]; rfl
theorem sumN_const (c : Int) : ∀ n : Nat, sumN (fun _ => c) n = (n : Int) * c
  | 0 => by simp [sumN]
  | n + 1 => by simp only [sumN]; rw [sumN_const c n, Int.natCast_add, Int.add_mul]; simp
theorem sumN_swap (f : Nat → Nat → Int) (m : Nat) : ∀ n, sumN (fun k => sumN (fun j => f k j) m) n = sumN (fun j => sumN (fun k => f k j) n) m
  | 0 => (sumN_zero m).symm
  | n + 1 => by simp only [sumN]; rw [sumN_swap f m n, sumN_add]
theorem sumN_nonneg {f : Nat → Int} : ∀ {n : Nat}, (∀ k, k < n → 0 ≤ f k) → 0 ≤ sumN f n
  | 0, _ => Int.le_refl _
  | n + 1, h => by
    have e := sumN_nonneg (n := n) fun k hk => h k (by omega)
    have e2 := h n (by omega)
    simp only [sumN]; omega
theorem sumN_null {f : Nat → Int} : ∀ {n : Nat}, (∀ k, k < n → 0 ≤ f k) → sumN f n = 0 → ∀ k, k < n → f k = 0
  | 0, _, _, k, hk => absurd hk (by omega)
  | n + 1, h, h0, k, hk => by
    have e := sumN_nonneg (n := n) fun k hk => h k (by omega)
    have e2 := h n (by omega)
    simp only [sumN] at h0
    rcases Nat.lt_or_ge k n with q | q
    · exact sumN_null (fun k hk => h k (by omega)) (by omega) k q
    · obtain rfl : k = n := by omega
      omega
theorem sumN_one {f : Nat → Int} {i : Nat} {c : Int} : ∀ n, i < n → sumN (fun k => f k + if i = k then c else 0) n = sumN f n + c
  | 0, h => absurd h (by omega)
  | n + 1, h => by
    simp only [sumN]
    by_cases e : i = n
    · subst e
      have q : sumN (fun k => f k + if i = k then c else 0) i = sumN f i := sumN_congr fun k hk => by rw [if_neg (by omega)]; omega
      rw [q, if_pos rfl]; omega
    · rw [sumN_one n (by omega), if_neg e]; omega
theorem sumN_back (f : Nat → Int) : ∀ n, sumN (fun k => f (n - 1 - k)) n = sumN f n := fun n => by
  have h : ∀ m, m ≤ n → sumN (fun k => f (n - 1 - k)) m + sumN f (n - m) = sumN f n := by
    intro m
    induction m with
    | zero => intro _; simp [sumN]
    | succ m ih =>
      intro hm
      have e := ih (by omega)
      obtain ⟨r, hr⟩ : ∃ r, n - m = r + 1 := ⟨n - m - 1, by omega⟩
      rw [hr] at e
      simp only [sumN] at e ⊢
      rw [show n - (m + 1) = r by omega, show n - 1 - m = r by omega]
      omega
  have e := h n (Nat.le_refl _)
  rw [Nat.sub_self] at e
  simpa [sumN] using e
theorem list_sumN : ∀ xs : List Int, xs.sum = sumN (fun j => xs.getD j 0) xs.length := fun xs => by
  have h : ∀ m, m ≤ xs.length → (xs.take m).sum = sumN (fun j => xs.getD j 0) m := by
    intro m
    induction m with
    | zero => intro _; simp [sumN]
    | succ m ih =>
      intro hm
      rw [sum_snoc xs m (by omega), ih (by omega)]
      simp only [sumN]; rw [getD_of_lt xs m (by omega)]
  have e := h xs.length (Nat.le_refl _)
  rwa [List.take_length] at e

/-! Bids. -/
/-- What a person bids for a thing. -/
def bid (B : List (List Int)) (k j : Nat) : Int := (B.getD k []).getD j 0
/-- How many things there are. -/
def things (B : List (List Int)) : Nat := (B.getD 0 []).length
def BidOk (B : List (List Int)) : Prop := 2 ≤ B.length ∧ B.length ≤ 4 ∧ things B ≤ 4 ∧ ∀ k, k < B.length → (B.getD k []).length = things B ∧ ∀ j, j < things B → 0 ≤ bid B k j ∧ bid B k j ≤ 12
noncomputable def bidB (B : List (List Int)) : Bool := @decide (BidOk B) (Classical.propDecidable _)
theorem bidB_iff (B : List (List Int)) : bidB B = true ↔ BidOk B := by simp [bidB]
/-- Of the first k people the first one with the greatest bid for j. -/
def bestTo (B : List (List Int)) (j : Nat) : Nat → Nat
  | 0 => 0
  | k + 1 => if bid B (bestTo B j k) j < bid B k j then k else bestTo B j k
theorem bestTo_one (B : List (List Int)) (j : Nat) : bestTo B j 1 = 0 := by simp [bestTo]
theorem bestTo_lt (B : List (List Int)) (j : Nat) : ∀ k, bestTo B j (k + 1) ≤ k
  | 0 => by rw [bestTo_one]; exact Nat.le_refl _
  | k + 1 => by
    have e := bestTo_lt B j k
    rw [bestTo]; split <;> omega
theorem bestTo_max (B : List (List Int)) (j : Nat) : ∀ k i, i < k → bid B i j ≤ bid B (bestTo B j k) j
  | 0, i, h => absurd h (by omega)
  | k + 1, i, h => by
    rw [bestTo]
    rcases Nat.lt_or_ge i k with q | q
    · have e := bestTo_max B j k i q
      split <;> omega
    · obtain rfl : i = k := by omega
      split <;> omega
theorem bestTo_first (B : List (List Int)) (j : Nat) : ∀ k i, i < bestTo B j k → bid B i j < bid B (bestTo B j k) j
  | 0, i, h => absurd h (by simp [bestTo])
  | k + 1, i, h => by
    rw [bestTo] at h ⊢
    split at h <;> rename_i c
    · rw [if_pos c]
      have e := bestTo_max B j k i (by omega)
      omega
    · rw [if_neg c]; exact bestTo_first B j k i h
def best (B : List (List Int)) (j : Nat) : Nat := bestTo B j B.length
theorem best_lt {B : List (List Int)} (h : BidOk B) (j : Nat) : best B j < B.length := by
  obtain ⟨n, hn⟩ : ∃ n, B.length = n + 1 := ⟨B.length - 1, by have e := h.1; omega⟩
  have e := bestTo_lt B j n
  unfold best; rw [hn]; omega
theorem best_max (B : List (List Int)) (j : Nat) {i : Nat} (hi : i < B.length) : bid B i j ≤ bid B (best B j) j := bestTo_max B j B.length i hi
theorem best_first (B : List (List Int)) (j : Nat) {i : Nat} (hi : i < best B j) : bid B i j < bid B (best B j) j := bestTo_first B j B.length i hi
/-- The fair share. -/
def fair (B : List (List Int)) (k : Nat) : Int := 48 * (B.getD k []).sum / (B.length : Int)
/-- What a person bids for those of the first m things that the person takes. -/
def takesTo (B : List (List Int)) (m k : Nat) : Int := sumN (fun j => if best B j = k then 48 * bid B k j else 0) m
def takes (B : List (List Int)) (k : Nat) : Int := takesTo B (things B) k
/-- What all pay too much for a thing. -/
def col (B : List (List Int)) (j : Nat) : Int := 48 / (B.length : Int) * sumN (fun k => bid B (best B j) j - bid B k j) B.length
def surplus (B : List (List Int)) : Int := sumN (takes B) B.length - sumN (fair B) B.length
theorem part_n {B : List (List Int)} (h : BidOk B) : 12 ≤ 48 / (B.length : Int) ∧ 48 / (B.length : Int) * (B.length : Int) = 48 := by
  have h1 := h.1
  have h2 := h.2.1
  rcases (show B.length = 2 ∨ B.length = 3 ∨ B.length = 4 from by omega) with e | e | e <;> rw [e] <;> decide
theorem fair_is {B : List (List Int)} (h : BidOk B) (k : Nat) : fair B k = 48 / (B.length : Int) * (B.getD k []).sum := by
  have e := (part_n h).2
  have h1 := h.1
  unfold fair
  generalize 48 / (B.length : Int) = q at *
  rw [← e, show q * (B.length : Int) * (B.getD k []).sum = (B.length : Int) * (q * (B.getD k []).sum) from by rw [Int.mul_comm q, Int.mul_assoc]]
  exact Int.mul_ediv_cancel_left _ (by omega)
theorem fair_times {B : List (List Int)} (h : BidOk B) (k : Nat) : fair B k * (B.length : Int) = 48 * (B.getD k []).sum := by
  rw [fair_is h, Int.mul_assoc, Int.mul_comm _ (B.length : Int), ← Int.mul_assoc, (part_n h).2]
theorem row_sum {B : List (List Int)} (h : BidOk B) {k : Nat} (hk : k < B.length) : (B.getD k []).sum = sumN (bid B k) (things B) := by
  rw [list_sumN, (h.2.2.2 k hk).1]; rfl
theorem takes_sum {B : List (List Int)} (h : BidOk B) : ∀ m, sumN (takesTo B m) B.length = sumN (fun j => 48 * bid B (best B j) j) m
  | 0 => by show sumN (fun _ => 0) _ = _; rw [sumN_zero]; rfl
  | m + 1 => by
    have e := takes_sum h m
    have q := sumN_one (f := takesTo B m) (i := best B m) (c := 48 * bid B (best B m) m) B.length (best_lt h m)
    have q2 : sumN (takesTo B (m + 1)) B.length = sumN (fun k => takesTo B m k + if best B m = k then 48 * bid B (best B m) m else 0) B.length :=
      sumN_congr fun k _ => by
        show takesTo B m k + (if best B m = k then 48 * bid B k m else 0) = _
        by_cases z : best B m = k
        · rw [if_pos z, if_pos z, z]
        · rw [if_neg z, if_neg z]
    rw [q2, q, e]; rfl
theorem surplus_cols {B : List (List Int)} (h : BidOk B) : surplus B = sumN (col B) (things B) := by
  have e := (part_n h).2
  have f : sumN (fair B) B.length = sumN (fun j => 48 / (B.length : Int) * sumN (fun k => bid B k j) B.length) (things B) := by
    rw [sumN_mul, ← sumN_swap (fun k j => bid B k j) (things B) B.length, ← sumN_mul]
    exact sumN_congr fun k hk => by rw [fair_is h, row_sum h hk]
  have g : sumN (takes B) B.length = sumN (fun j => 48 * bid B (best B j) j) (things B) := takes_sum h (things B)
  rw [surplus, f, g, ← sumN_sub]
  refine sumN_congr fun j _ => ?_
  unfold col
  rw [sumN_sub, sumN_const, Int.mul_sub]
  congr 1
  rw [← Int.mul_assoc, e]
theorem col_nonneg {B : List (List Int)} (h : BidOk B) (j : Nat) : 0 ≤ col B j :=
  Int.mul_nonneg (by have e := (part_n h).1; omega) (sumN_nonneg fun k hk => by have e := best_max B j hk; omega)
theorem surplus_nonneg {B : List (List Int)} (h : BidOk B) : 0 ≤ surplus B := by rw [surplus_cols h]; exact sumN_nonneg fun j _ => col_nonneg h j
theorem surplus_null {B : List (List Int)} (h : BidOk B) : surplus B = 0 ↔ ∀ k, k < B.length → B.getD k [] = B.getD 0 [] := by
  have hq := (part_n h).1
  have h1 := h.1
  rw [surplus_cols h]
  constructor
  · intro h0 k hk
    have hb : ∀ j, j < things B → ∀ i, i < B.length → bid B (best B j) j - bid B i j = 0 := fun j hj i hi => by
      have e := sumN_null (fun j _ => col_nonneg h j) h0 j hj
      have e2 : sumN (fun k => bid B (best B j) j - bid B k j) B.length = 0 := by
        rcases Int.mul_eq_zero.1 e with z | z
        · omega
        · exact z
      exact sumN_null (fun k hk => by have z := best_max B j hk; omega) e2 i hi
    have l1 := (h.2.2.2 k hk).1
    have l0 := (h.2.2.2 0 (by omega)).1
    refine List.ext_getElem (by rw [l1, l0]) fun j hj hj' => ?_
    rw [l1] at hj
    have a := hb j hj k hk
    have b := hb j hj 0 (by omega)
    unfold bid at a b
    rw [← getD_of_lt _ j, ← getD_of_lt _ j hj']
    omega
  · intro hs
    have z : sumN (col B) (things B) = sumN (fun _ => 0) (things B) := sumN_congr fun j _ => by
      unfold col
      have e : ∀ k, k < B.length → bid B k j = bid B 0 j := fun k hk => by unfold bid; rw [hs k hk]
      have e2 : sumN (fun k => bid B (best B j) j - bid B k j) B.length = sumN (fun _ => 0) B.length := sumN_congr fun k hk => by
        rw [e k hk, e _ (best_lt h j)]; omega
      rw [e2, sumN_zero, Int.mul_zero]
    rw [z, sumN_zero]
/-- What a person is paid, times the people. -/
def paid (B : List (List Int)) (k : Nat) : Int := (B.length : Int) * (fair B k - takes B k) + surplus B
def endAt (B : List (List Int)) (k : Nat) : Int := (B.length : Int) * takes B k + paid B k
theorem paid_null (B : List (List Int)) : sumN (paid B) B.length = 0 := by
  have e : sumN (paid B) B.length = sumN (fun k => (B.length : Int) * (fair B k - takes B k) + surplus B) B.length := rfl
  rw [e, sumN_add, sumN_mul, sumN_sub, sumN_const]
  unfold surplus
  rw [← Int.mul_add, show sumN (fair B) B.length - sumN (takes B) B.length + (sumN (takes B) B.length - sumN (fair B) B.length) = 0 by omega, Int.mul_zero]
theorem paid_fair (B : List (List Int)) (k : Nat) : takes B k * (B.length : Int) + paid B k = fair B k * (B.length : Int) + surplus B := by
  unfold paid
  rw [Int.mul_sub, Int.mul_comm (takes B k), Int.mul_comm (fair B k)]; omega
theorem end_fair (B : List (List Int)) (k : Nat) : endAt B k - (B.length : Int) * fair B k = surplus B := by
  unfold endAt paid; rw [Int.mul_sub]; omega
/-! Other bids. -/
theorem best_same {B C : List (List Int)} {j : Nat} (hl : C.length = B.length) (h : ∀ k, k < B.length → bid C k j = bid B k j) : best C j = best B j := by
  have e : ∀ k, k ≤ B.length → bestTo C j k = bestTo B j k := by
    intro k
    induction k with
    | zero => intro _; rfl
    | succ k ih =>
      intro hk
      have z := ih (by omega)
      have q : bestTo B j k < B.length := by
        cases k with
        | zero => show 0 < _; omega
        | succ k => have y := bestTo_lt B j k; omega
      rw [bestTo, bestTo, z, h k (by omega), h _ q]
  unfold best; rw [hl]; exact e _ (Nat.le_refl _)
theorem col_same {B C : List (List Int)} {j : Nat} (hb : BidOk B) (hl : C.length = B.length) (h : ∀ k, k < B.length → bid C k j = bid B k j) : col C j = col B j := by
  unfold col
  rw [hl, best_same hl h]
  congr 1
  exact sumN_congr fun k hk => by rw [h _ (best_lt hb j), h k hk]
theorem col_alike {B : List (List Int)} {j : Nat} {x : Int} (hb : BidOk B) (h : ∀ k, k < B.length → bid B k j = x) : col B j = 0 := by
  unfold col
  have e : sumN (fun k => bid B (best B j) j - bid B k j) B.length = sumN (fun _ => 0) B.length := sumN_congr fun k hk => by rw [h k hk, h _ (best_lt hb j)]; omega
  rw [e, sumN_zero, Int.mul_zero]
theorem sumN_le {f : Nat → Int} {n m : Nat} (hm : m ≤ n) (h : ∀ k, k < n → 0 ≤ f k) : sumN f m ≤ sumN f n := by
  obtain ⟨d, rfl⟩ : ∃ d, n = m + d := ⟨n - m, by omega⟩
  induction d with
  | zero => exact Int.le_refl _
  | succ d ih =>
    have e := ih (by omega) fun k hk => h k (by omega)
    have e2 := h (m + d) (by omega)
    show _ ≤ sumN f (m + d) + f (m + d)
    omega
/-- The bids without the last thing. -/
def lessB (B : List (List Int)) : List (List Int) := B.map fun r => r.take (r.length - 1)
theorem lessB_getD (B : List (List Int)) (k : Nat) : (lessB B).getD k [] = (B.getD k []).take ((B.getD k []).length - 1) := by
  simp only [lessB, List.getD_eq_getElem?_getD, List.getElem?_map]
  cases B[k]? <;> simp
theorem lessB_bid {B : List (List Int)} (h : BidOk B) {k j : Nat} (hk : k < B.length) (hj : j < things B - 1) : bid (lessB B) k j = bid B k j := by
  unfold bid
  rw [lessB_getD, (h.2.2.2 k hk).1]
  simp [List.getD, hj]
theorem lessB_things {B : List (List Int)} (h : BidOk B) : things (lessB B) = things B - 1 := by
  have h1 := h.1
  unfold things; rw [lessB_getD, List.length_take]; omega
theorem lessB_ok {B : List (List Int)} (h : BidOk B) : BidOk (lessB B) := by
  have hl : (lessB B).length = B.length := by simp [lessB]
  have ht := lessB_things h
  refine ⟨by rw [hl]; exact h.1, by rw [hl]; exact h.2.1, by rw [ht]; have e := h.2.2.1; omega, fun k hk => ?_⟩
  rw [hl] at hk
  have e := h.2.2.2 k hk
  refine ⟨by rw [lessB_getD, List.length_take, ht, e.1]; omega, fun j hj => ?_⟩
  rw [ht] at hj
  rw [lessB_bid h hk hj]; exact e.2 j (by omega)
theorem surplus_less {B : List (List Int)} (h : BidOk B) : surplus (lessB B) ≤ surplus B := by
  have hl : (lessB B).length = B.length := by simp [lessB]
  rw [surplus_cols (lessB_ok h), surplus_cols h, lessB_things h]
  have e : sumN (col (lessB B)) (things B - 1) = sumN (col B) (things B - 1) := sumN_congr fun j hj => col_same h hl fun k hk => lessB_bid h hk hj
  rw [e]
  exact sumN_le (by omega) fun j _ => col_nonneg h j
/-- The bids with one more thing, alike. -/
def wideB (B : List (List Int)) (x : Int) : List (List Int) := B.map fun r => r ++ [x]
theorem wideB_getD {B : List (List Int)} {x : Int} {k : Nat} (hk : k < B.length) : (wideB B x).getD k [] = B.getD k [] ++ [x] := by
  simp [wideB, List.getD, hk]
theorem wideB_bid {B : List (List Int)} {x : Int} (h : BidOk B) {k j : Nat} (hk : k < B.length) (hj : j ≤ things B) : bid (wideB B x) k j = if j = things B then x else bid B k j := by
  unfold bid
  rw [wideB_getD hk]
  have e := (h.2.2.2 k hk).1
  generalize B.getD k [] = r at e ⊢
  by_cases z : j = things B
  · rw [if_pos z]; simp [List.getD, e, z]
  · rw [if_neg z]; simp [List.getD, List.getElem?_append, e, show j < things B by omega]
theorem wideB_things {B : List (List Int)} {x : Int} (h : BidOk B) : things (wideB B x) = things B + 1 := by
  have h1 := h.1
  unfold things; rw [wideB_getD (by omega)]; simp
theorem wideB_ok {B : List (List Int)} {x : Int} (h : BidOk B) (ht : things B ≤ 3) (hx : 0 ≤ x ∧ x ≤ 12) : BidOk (wideB B x) := by
  have hl : (wideB B x).length = B.length := by simp [wideB]
  refine ⟨by rw [hl]; exact h.1, by rw [hl]; exact h.2.1, by rw [wideB_things h]; omega, fun k hk => ?_⟩
  rw [hl] at hk
  have e := h.2.2.2 k hk
  refine ⟨by rw [wideB_getD hk, wideB_things h, List.length_append, e.1]; rfl, fun j hj => ?_⟩
  rw [wideB_things h] at hj
  rw [wideB_bid h hk (by omega)]
  split
  · exact hx
  · exact e.2 j (by omega)
theorem surplus_wide {B : List (List Int)} {x : Int} (h : BidOk B) (ht : things B ≤ 3) (hx : 0 ≤ x ∧ x ≤ 12) : surplus (wideB B x) = surplus B := by
  have hl : (wideB B x).length = B.length := by simp [wideB]
  have hw := wideB_ok (x := x) h ht hx
  rw [surplus_cols hw, surplus_cols h, wideB_things h]
  show sumN (col (wideB B x)) (things B) + col (wideB B x) (things B) = _
  rw [col_alike (x := x) hw (fun k hk => by rw [wideB_bid h (by rw [← hl]; exact hk) (Nat.le_refl _), if_pos rfl]), Int.add_zero]
  exact sumN_congr fun j hj => col_same h hl fun k hk => by rw [wideB_bid h hk (by omega), if_neg (by omega)]
/-- The people from the last one on. -/
theorem back_getD (B : List (List Int)) {k : Nat} (hk : k < B.length) : B.reverse.getD k [] = B.getD (B.length - 1 - k) [] := by
  simp only [List.getD, List.getElem?_reverse hk]
theorem back_bid (B : List (List Int)) {k : Nat} (j : Nat) (hk : k < B.length) : bid B.reverse k j = bid B (B.length - 1 - k) j := by unfold bid; rw [back_getD B hk]
theorem back_ok {B : List (List Int)} (h : BidOk B) : BidOk B.reverse ∧ things B.reverse = things B := by
  have h1 := h.1
  have ht : things B.reverse = things B := by
    unfold things; rw [back_getD B (by omega)]; exact (h.2.2.2 _ (by omega)).1
  refine ⟨⟨by rw [List.length_reverse]; exact h.1, by rw [List.length_reverse]; exact h.2.1, by rw [ht]; exact h.2.2.1, fun k hk => ?_⟩, ht⟩
  rw [List.length_reverse] at hk
  have e := h.2.2.2 (B.length - 1 - k) (by omega)
  rw [back_getD B hk, ht]
  exact ⟨e.1, fun j hj => by rw [back_bid B j hk]; exact e.2 j hj⟩
theorem back_iff (B : List (List Int)) : bidB B.reverse = bidB B := by
  have e : BidOk B.reverse ↔ BidOk B := ⟨fun h => by have q := (back_ok h).1; rwa [List.reverse_reverse] at q, fun h => (back_ok h).1⟩
  cases h : bidB B with
  | true => exact (bidB_iff _).2 (e.2 ((bidB_iff _).1 h))
  | false =>
    cases h2 : bidB B.reverse with
    | false => rfl
    | true => rw [(bidB_iff _).2 (e.1 ((bidB_iff _).1 h2))] at h; cases h
theorem surplus_back {B : List (List Int)} (h : BidOk B) : surplus B.reverse = surplus B := by
  have hb := back_ok h
  rw [surplus_cols hb.1, surplus_cols h, hb.2]
  refine sumN_congr fun j _ => ?_
  unfold col
  rw [List.length_reverse]
  have l1 := best_lt hb.1 j
  rw [List.length_reverse] at l1
  have l2 := best_lt h j
  have m1 := best_max B j (i := B.length - 1 - best B.reverse j) (by omega)
  have m2 := best_max B.reverse j (i := B.length - 1 - best B j) (by rw [List.length_reverse]; omega)
  rw [back_bid B j (by omega), back_bid B j l1, show B.length - 1 - (B.length - 1 - best B j) = best B j by omega] at m2
  have top : bid B.reverse (best B.reverse j) j = bid B (best B j) j := by rw [back_bid B j l1]; omega
  rw [top]
  congr 1
  have q := sumN_back (fun k => bid B (best B j) j - bid B k j) B.length
  rw [← q]
  exact sumN_congr fun k hk => by rw [back_bid B j hk]
theorem fair_back {B : List (List Int)} {k : Nat} (hk : k < B.length) : fair B.reverse (B.length - 1 - k) = fair B k := by
  unfold fair
  rw [List.length_reverse, back_getD B (by omega), show B.length - 1 - (B.length - 1 - k) = k by omega]

end Go.Proofs.Ytbegdcnljafloaa
