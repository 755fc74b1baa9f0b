/-
  Both tests of an order return the same. No condition but lengths that fit.
-/
import Derived.Test.YtilhholjbjhaeaaClone
namespace Go.Proofs.Ytilhholjbjhaeaa
open Go.RowKit

/-- Which places are taken behind the first k numbers of an order. -/
def seenAt (ys : List Int) (n : Nat) : Nat → List Bool
  | 0 => List.replicate n false
  | k + 1 => (seenAt ys n k).set (ys.getD k 0).toNat true
theorem seenAt_length (ys : List Int) (n : Nat) : ∀ k, (seenAt ys n k).length = n
  | 0 => by simp [seenAt]
  | k + 1 => by simp [seenAt, seenAt_length ys n k]
/-- The number at j is a place, and not taken before. -/
def OrdAt (ys : List Int) (n : Nat) (j : Nat) : Prop := 0 ≤ ys.getD j 0 ∧ ys.getD j 0 < n ∧ (seenAt ys n j).getD (ys.getD j 0).toNat false = false
def OrdTo (ys : List Int) (n : Nat) (k : Nat) : Prop := ∀ j, j < k → OrdAt ys n j
noncomputable def orderB (n : Nat) (ys : List Int) : Bool := @decide (ys.length = n ∧ OrdTo ys n ys.length) (Classical.propDecidable _)
theorem OrdTo.zero (ys : List Int) (n : Nat) : OrdTo ys n 0 := fun _ h => absurd h (by omega)
theorem OrdTo.succ {ys : List Int} {n k : Nat} (h : OrdTo ys n k) (hk : OrdAt ys n k) : OrdTo ys n (k + 1) := fun j hj => by
  rcases Nat.lt_or_ge j k with h1 | h1
  · exact h j h1
  · obtain rfl : j = k := by omega
    exact hk
theorem order_len {n : Nat} {ys : List Int} (h : ¬ ys.length = n) : orderB n ys = false := by simp [orderB, h]
theorem order_bad {n : Nat} {ys : List Int} {k : Nat} (hk : k < ys.length) (h : ¬ OrdAt ys n k) : orderB n ys = false := by
  have h' : ¬ (ys.length = n ∧ OrdTo ys n ys.length) := fun h2 => h (h2.2 k hk)
  simp [orderB, h']
theorem order_yes {n : Nat} {ys : List Int} (h : ys.length = n) (h2 : OrdTo ys n ys.length) : orderB n ys = true := by simp [orderB, h2]; exact h
theorem order_end {n : Nat} {ys : List Int} (h2 : OrdTo ys n ys.length) : orderB n ys = decide (ys.length = n) := by
  by_cases h : ys.length = n
  · rw [order_yes h h2]; simp [h]
  · rw [order_len h]; simp [h]

theorem bit_test (m y : Nat) : (((m : Int) / 2 ^ y).tmod 2 == 1) = m.testBit y := by
  have e : ((m : Int) / 2 ^ y) = ((m / 2 ^ y : Nat) : Int) := by
    rw [Int.natCast_ediv]; simp
  rw [e, Nat.testBit_eq_decide_div_mod_eq]
  have e2 : ((m / 2 ^ y : Nat) : Int).tmod 2 = ((m / 2 ^ y % 2 : Nat) : Int) := rfl
  rw [e2]
  by_cases h : m / 2 ^ y % 2 = 1
  · simp [h]
  · simp [h]; omega
theorem or_step_fin : ∀ m : Fin 16, ∀ y : Fin 4, bits .or .i64 (m.val : Int) (wrap64 (2 ^ y.val)) = ((m.val ||| 2 ^ y.val : Nat) : Int) ∧ (m.val ||| 2 ^ y.val) < 16 := by decide +kernel
theorem or_step {m y : Nat} (hm : m < 16) (hy : y < 4) : bits .or .i64 (m : Int) (wrap64 (2 ^ y)) = ((m ||| 2 ^ y : Nat) : Int) ∧ (m ||| 2 ^ y) < 16 := or_step_fin ⟨m, hm⟩ ⟨y, hy⟩
theorem seen_step {ys : List Int} {n k m y : Nat} (hy : ys.getD k 0 = (y : Int)) (hyn : y < n) (hbit : ∀ p, p < 4 → m.testBit p = (seenAt ys n k).getD p false) : ∀ p, p < 4 → (m ||| 2 ^ y).testBit p = (seenAt ys n (k + 1)).getD p false := fun p hp => by
  rw [Nat.testBit_or, Nat.testBit_two_pow, hbit p hp, seenAt, hy, Int.toNat_natCast]
  have hl := seenAt_length ys n k
  by_cases e : y = p
  · subst e
    simp [List.getD, hl, hyn]
  · simp [List.getD, e]

end Go.Proofs.Ytilhholjbjhaeaa
