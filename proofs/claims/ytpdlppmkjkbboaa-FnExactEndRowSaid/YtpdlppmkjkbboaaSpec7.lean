/-
  Chapter 7, the given package's functions: awards by an order, all orders, arrivals, what a person brings, the shares of the game. Premises: lengths that fit.
-/
import Derived.Test.YtpdlppmkjkbboaaOrd
import Derived.Test.YtpdlppmkjkbboaaGrid
import Derived.BigQuiet
import Derived.Deep.Cut
namespace Go.Proofs.Ytpdlppmkjkbboaa
open Go.RowKit


theorem case_rg {E : Int} {xs : List Int} (h : caseOkB E xs = true) (k : Nat) : 0 ≤ xs.getD k 0 ∧ xs.getD k 0 ≤ 48 := by
  refine ⟨case_nonneg h k, ?_⟩
  by_cases hk : k < xs.length
  · have e := case_at h k hk; rw [getD_of_lt xs k hk]; omega
  · rw [getD_far xs (by omega)]; omega
/-- What OrderAwards returns. -/
noncomputable def ordRow (E : Int) (xs os : List Int) : List Int := if caseOkB E xs = true ∧ orderB xs.length os = true then ordAw E xs os else []
theorem ord_rg {os : List Int} {n k : Nat} (h : OrdTo os n os.length) (hk : k < os.length) : 0 ≤ os.getD k 0 ∧ os.getD k 0 < n := ⟨(h k hk).1, (h k hk).2.1⟩
theorem placed_set {xs ys : List Int} {n k y : Nat} (hy : ys.getD k 0 = (y : Int)) (v : Int) (hv : xs.getD k 0 = v) : (placed xs ys n k).set y v = placed xs ys n (k + 1) := by
  simp only [placed, hy, hv]; rfl
theorem placed_zero (xs ys : List Int) (n : Nat) : placed xs ys n 0 = List.replicate n 0 := rfl
/-- What is left behind the first k. -/
def leftTo (E : Int) (xs os : List Int) (k : Nat) : Int := max (E - bef xs os k) 0
theorem bef_pos {xs os : List Int} (hx : ∀ k, 0 ≤ xs.getD k 0) : ∀ k, 0 ≤ bef xs os k
  | 0 => Int.le_refl _
  | k + 1 => by have e := bef_pos hx (os := os) k; have e2 := hx (os.getD k 0).toNat; simp only [bef]; omega
theorem left_zero {E : Int} {xs os : List Int} (h : 0 ≤ E) : leftTo E xs os 0 = E := by simp only [leftTo, bef]; omega
theorem left_step {E : Int} {xs os : List Int} {k x : Nat} {u m L : Int} (hx : ∀ k, 0 ≤ xs.getD k 0) (ho : os.getD k 0 = (x : Int)) (hu : u = xs.getD x 0) (hL : L = leftTo E xs os k) (hm : min u L = m) : L - m = leftTo E xs os (k + 1) ∧ 48 * m = posAt E xs os k := by
  have e1 := hx x
  have e2 := bef_pos hx (os := os) k
  simp only [leftTo, bef, posAt, mar, ho, Int.toNat_natCast] at *
  omega

/-- What a function that hands new rows back leaves. -/
def RetRows (w : World) (xss : List (List Int)) (e : Ending) (w' : World) : Prop :=
  ∃ g c, e = .returned (.slice (some ⟨g, 0, none⟩) xss.length c) ∧ Rows w' true w.heap.size w'.heap.size g c xss ∧ Below w.heap.size w w'
/-- A number put into a row at each of the first m places. -/
def insTo (k : Int) (y : List Int) (m : Nat) : List (List Int) := (List.range m).map fun a => y.take a ++ [k] ++ y.drop a
theorem insTo_succ (k : Int) (y : List Int) (m : Nat) : insTo k y (m + 1) = insTo k y m ++ [y.take m ++ [k] ++ y.drop m] := by simp [insTo, List.range_succ]
theorem insTo_length (k : Int) (y : List Int) (m : Nat) : (insTo k y m).length = m := by simp [insTo]
/-- It put into each of the first i rows, at each place. -/
def insAll (k : Int) (xss : List (List Int)) : Nat → List (List Int)
  | 0 => []
  | i + 1 => insAll k xss i ++ insTo k (xss.getD i []) ((xss.getD i []).length + 1)
theorem insAll_perms : ∀ k : Nat, k < 4 → insAll (k : Int) (perms k) (perms k).length = perms (k + 1)
  | 0, _ => by decide
  | 1, _ => by decide
  | 2, _ => by decide
  | 3, _ => by decide
  | k + 4, h => by omega
theorem perms_len : ∀ n, n ≤ 4 → ∀ y ∈ perms n, y.length = n
  | 0, _ => by decide
  | 1, _ => by decide
  | 2, _ => by decide
  | 3, _ => by decide
  | 4, _ => by decide
  | k + 5, h => by omega
theorem perms_at {n : Nat} (hn : n ≤ 4) {i : Nat} (hi : i < (perms n).length) : ((perms n).getD i []).length = n := by
  refine perms_len n hn _ ?_
  simp only [List.getD, List.getElem?_eq_getElem hi, Option.getD_some]
  exact List.getElem_mem hi
theorem perms_few : ∀ n, n ≤ 4 → 1 ≤ (perms n).length ∧ (perms n).length ≤ 24
  | 0, _ => by decide
  | 1, _ => by decide
  | 2, _ => by decide
  | 3, _ => by decide
  | 4, _ => by decide
  | k + 5, h => by omega
theorem perms_step : ∀ k : Nat, k < 4 → (perms k).length * (k + 1) = (perms (k + 1)).length
  | 0, _ => by decide
  | 1, _ => by decide
  | 2, _ => by decide
  | 3, _ => by decide
  | k + 4, h => by omega
theorem insAll_len {k : Nat} (hk : k ≤ 4) (x : Int) : ∀ i, i ≤ (perms k).length → (insAll x (perms k) i).length = i * (k + 1)
  | 0, _ => by simp [insAll]
  | i + 1, h => by
    simp only [insAll, List.length_append, insTo_length, insAll_len hk x i (by omega), perms_at hk (show i < (perms k).length by omega)]
    rw [Nat.add_mul]; omega

end Go.Proofs.Ytpdlppmkjkbboaa
