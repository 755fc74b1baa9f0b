/-
  What the laws of chapter 10 want of the functions' values. No condition.
-/
import Derived.Test.YtbegdcnljafloaaSpec10
import Derived.Test.YtbegdcnljafloaaWant
namespace Go.Proofs.Ytbegdcnljafloaa
open Go.RowKit

theorem need_back (xs : List Int) : needB (xs.take xs.length).reverse = needB xs := by
  rw [List.take_length]; simp [needB]
theorem runCost_neg {xs : List Int} {s : Int} (h : runCost xs s < 0) : runCost xs s = -1 := by have e := runCost_rg xs s; omega
theorem runCost_some {xs : List Int} {s : Int} (h : 0 ≤ runCost xs s) : needB xs = true ∧ 0 ≤ s ∧ s < 2 ^ xs.length := by
  unfold runCost at h; split at h
  · assumption
  · omega
theorem runCost_is {xs : List Int} {s : Int} (h : needB xs = true) (h0 : 0 ≤ s) (h1 : s < 2 ^ xs.length) : runCost xs s = costTo xs s xs.length := if_pos ⟨h, h0, h1⟩
theorem runCost_sub {xs : List Int} {a b : Int} (h : needB xs = true) (ha : 0 ≤ a ∧ a < 2 ^ xs.length) (hb : 0 ≤ b ∧ b < 2 ^ xs.length) :
    runCost xs (bits .or .i64 a b) + runCost xs (bits .and .i64 a b) ≤ runCost xs a + runCost xs b := by
  obtain ⟨x, y, rfl, rfl, h1, h2, h3, h4⟩ := or_bd ha hb (by have := (need_bd h).2; omega)
  rw [h1, h2, runCost_is h ha.1 ha.2, runCost_is h hb.1 hb.2, runCost_is h (by omega) h3, runCost_is h (by omega) h4]
  exact cost_both xs x y xs.length
theorem runCost_none {xs : List Int} (h : needB xs = true) : runCost xs 0 = 0 := by
  have e : 0 < (2 : Int) ^ xs.length := Int.pow_pos (by omega)
  rw [runCost_is h (by omega) e]; exact cost_none xs _
theorem runCost_all {xs : List Int} (h : needB xs = true) : (sharesRow xs).sum = 48 * runCost xs (2 ^ xs.length - 1) := by
  have e : 0 < (2 : Int) ^ xs.length := Int.pow_pos (by omega)
  rw [runCost_is h (by omega) (by omega), sharesRow_yes h]; exact share_sum h
theorem sharesRow_none {xs : List Int} (h : (sharesRow xs).length = 0) : needB xs = false := by
  cases e : needB xs with
  | false => rfl
  | true =>
    have q := need_bd e
    rw [sharesRow_yes e, shareR_length] at h; omega
theorem sharesRow_some {xs : List Int} (h : ¬ (sharesRow xs).length = 0) : needB xs = true := by
  cases e : needB xs with
  | true => rfl
  | false => exact absurd (by rw [sharesRow, e]; rfl) h
theorem shares_mono {xs : List Int} (h : needB xs = true) {k j : Nat} (hk : k < xs.length) (hj : j < xs.length) (hle : xs.getD k 0 ≤ xs.getD j 0) : (sharesRow xs).getD k 0 ≤ (sharesRow xs).getD j 0 := by
  rw [sharesRow_yes h, shareR, fnRow_getD _ hk, fnRow_getD _ hj]; exact share_mono (need_bd h).2 hle
theorem shares_wide {xs : List Int} (h : needB xs = true) (h3 : xs.length ≤ 3) : sharesRow (xs ++ [0]) = sharesRow xs ++ [0] := by
  rw [sharesRow_yes (need_wide h h3), sharesRow_yes h]; exact shareR_wide xs
theorem shares_small {xs : List Int} : Small (sharesRow xs) := ⟨by have e := sharesRow_len4 xs; omega, fun x hx => by
  obtain ⟨k, hk, rfl⟩ := List.mem_iff_getElem.1 hx
  have e := sharesRow_rg xs k
  rw [getD_of_lt _ k hk] at e; omega⟩
/-- The first one with the greatest of the first k needs. -/
def Top (xs : List Int) (f k : Nat) : Prop := ∀ j, j < k → xs.getD j 0 ≤ xs.getD f 0
theorem Top.zero (xs : List Int) (f : Nat) : Top xs f 0 := fun _ h => absurd h (by omega)
theorem Top.keep {xs : List Int} {f k : Nat} {a b : Int} (h : Top xs f k) (ha : a = xs.getD k 0) (hb : b = xs.getD f 0) (hab : ¬ a > b) : Top xs f (k + 1) := fun j hj => by
  rcases Nat.lt_or_ge j k with q | q
  · exact h j q
  · obtain rfl : j = k := by omega
    omega
theorem Top.turn {xs : List Int} {f k : Nat} {a b : Int} (h : Top xs f k) (ha : a = xs.getD k 0) (hb : b = xs.getD f 0) (hab : a > b) : Top xs k (k + 1) := fun j hj => by
  rcases Nat.lt_or_ge j k with q | q
  · have e := h j q; omega
  · obtain rfl : j = k := by omega
    exact Int.le_refl _
theorem Top.all {xs : List Int} {f : Nat} (h : Top xs f xs.length) (hx : ∀ k, 0 ≤ xs.getD k 0 ∧ xs.getD k 0 ≤ 12) (k : Nat) : xs.getD k 0 ≤ xs.getD f 0 := by
  by_cases q : k < xs.length
  · exact h k q
  · rw [getD_far xs (show xs.length ≤ k by omega)]; exact (hx f).1
/-- None of the first k but one needs more. -/
def Second (xs : List Int) (f : Nat) (g : Int) (k : Nat) : Prop := ∀ j, j < k → ¬ j = f → xs.getD j 0 ≤ g
theorem Second.zero (xs : List Int) (f : Nat) (g : Int) : Second xs f g 0 := fun _ h => absurd h (by omega)
theorem Second.skip {xs : List Int} {f k : Nat} {g : Int} (h : Second xs f g k) (e : k = f) : Second xs f g (k + 1) := fun j hj hn => h j (by omega) hn
theorem Second.more {xs : List Int} {f k : Nat} {g v m : Int} (h : Second xs f g k) (hv : v = xs.getD k 0) (hm : max g v = m) : Second xs f m (k + 1) := fun j hj hn => by
  rcases Nat.lt_or_ge j k with q | q
  · have e := h j q hn; omega
  · obtain rfl : j = k := by omega
    omega
theorem shares_more {xs : List Int} {f : Nat} {v : Int} (h : needB xs = true) (hg : needB (xs.set f (v + 1)) = true) (hf : f < xs.length) (hv : v = xs.getD f 0) (hm : ∀ k, xs.getD k 0 ≤ xs.getD f 0) {k : Nat} (hk : k < xs.length) : (sharesRow (xs.set f (v + 1))).getD k 0 = (sharesRow xs).getD k 0 + if k = f then 48 else 0 := by
  subst hv
  rw [sharesRow_yes h, sharesRow_yes hg, shareR, shareR, fnRow_getD _ (by rw [List.length_set]; exact hk), fnRow_getD _ hk]
  exact share_more h hf hm k

end Go.Proofs.Ytbegdcnljafloaa
