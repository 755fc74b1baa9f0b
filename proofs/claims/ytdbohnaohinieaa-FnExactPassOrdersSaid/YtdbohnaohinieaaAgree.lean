/-
  The function PairsOk of the given package reports whether awards agree for each two people; it makes new memory only.
-/
import Derived.Test.YtdbohnaohinieaaGB
import Derived.Test.YtdbohnaohinieaaPair
import Derived.BigQuiet
namespace Go.Proofs.Ytdbohnaohinieaa
open Go.RowKit

/-- Two places divide what both have as PairTwice says. -/
def AgreeAt (xs ys : List Int) (i j : Nat) : Prop :=
  pairA (48 * xs.getD i 0) (48 * xs.getD j 0) (ys.getD i 0 + ys.getD j 0) = 2 * ys.getD i 0 ∧ pairB (48 * xs.getD i 0) (48 * xs.getD j 0) (ys.getD i 0 + ys.getD j 0) = 2 * ys.getD j 0
theorem AgreeAt.symm {xs ys : List Int} {i j : Nat} (h : AgreeAt xs ys i j) : AgreeAt xs ys j i := by
  unfold AgreeAt pairA pairB at *; omega
theorem AgreeAt.self (xs ys : List Int) (i : Nat) : AgreeAt xs ys i i := by
  unfold AgreeAt pairA pairB; omega
def Agrees (xs ys : List Int) : Prop := ∀ i j, i < ys.length → j < i → AgreeAt xs ys i j
theorem Agrees.two {xs ys : List Int} (h : Agrees xs ys) (i j : Nat) (hi : i < ys.length) (hj : j < ys.length) : AgreeAt xs ys i j := by
  rcases Nat.lt_trichotomy i j with h1 | h1 | h1
  · exact (h j i hj h1).symm
  · subst h1; exact AgreeAt.self xs ys i
  · exact h i j hi h1
noncomputable def agreeB (E : Int) (xs ys : List Int) : Bool := @decide (awardsB E xs ys = true ∧ Agrees xs ys) (Classical.propDecidable _)
theorem agreeB_iff (E : Int) (xs ys : List Int) : agreeB E xs ys = true ↔ (awardsB E xs ys = true ∧ Agrees xs ys) := by simp [agreeB]
theorem agree_no {E : Int} {xs ys : List Int} (h : awardsB E xs ys = false) : agreeB E xs ys = false := by
  have e : ¬ (awardsB E xs ys = true ∧ Agrees xs ys) := by simp [h]
  simp only [agreeB, decide_eq_false_iff_not]; exact e
theorem agree_bad {E : Int} {xs ys : List Int} {i j : Nat} (hi : i < ys.length) (hj : j < ys.length) (h : ¬ AgreeAt xs ys i j) : agreeB E xs ys = false := by
  have e : ¬ (awardsB E xs ys = true ∧ Agrees xs ys) := fun k => h (k.2.two i j hi hj)
  simp only [agreeB, decide_eq_false_iff_not]; exact e
/-- The places before k agree with all before them; place k agrees with those before m. -/
def AgreeTo (xs ys : List Int) (k : Nat) : Prop := ∀ i j, i < k → j < i → AgreeAt xs ys i j
def AgreeRow (xs ys : List Int) (k m : Nat) : Prop := ∀ j, j < m → AgreeAt xs ys k j
theorem AgreeTo.zero (xs ys : List Int) : AgreeTo xs ys 0 := fun _ _ h => absurd h (by omega)
theorem AgreeRow.zero (xs ys : List Int) (k : Nat) : AgreeRow xs ys k 0 := fun _ h => absurd h (by omega)
theorem AgreeRow.succ {xs ys : List Int} {k m : Nat} (h : AgreeRow xs ys k m) (hk : AgreeAt xs ys k m) : AgreeRow xs ys k (m + 1) := fun j hj => by
  rcases Nat.lt_or_ge j m with h1 | h1
  · exact h j h1
  · obtain rfl : j = m := by omega
    exact hk
theorem AgreeRow.less {xs ys : List Int} {k m m' : Nat} (h : AgreeRow xs ys k m) (hm : m' ≤ m) : AgreeRow xs ys k m' := fun j hj => h j (by omega)
theorem AgreeTo.succ {xs ys : List Int} {k : Nat} (h : AgreeTo xs ys k) (hk : AgreeRow xs ys k k) : AgreeTo xs ys (k + 1) := fun i j hi hj => by
  rcases Nat.lt_or_ge i k with h1 | h1
  · exact h i j h1 hj
  · obtain rfl : i = k := by omega
    exact hk j hj
theorem agree_end {E : Int} {xs ys : List Int} (h : awardsB E xs ys = true) (hk : AgreeTo xs ys ys.length) : agreeB E xs ys = true := (agreeB_iff E xs ys).2 ⟨h, fun i j hi hj => hk i j hi hj⟩
/-- What both get lies in range. -/
theorem twice_rg {x y z : Int} (hx : 0 ≤ x ∧ x ≤ 576) (hy : 0 ≤ y ∧ y ≤ 576) (hz : 0 ≤ z ∧ z ≤ 1152) : (-2000 ≤ pairA x y z ∧ pairA x y z ≤ 4000) ∧ (-2000 ≤ pairB x y z ∧ pairB x y z ≤ 4000) := by
  unfold pairA pairB; omega

end Go.Proofs.Ytdbohnaohinieaa
