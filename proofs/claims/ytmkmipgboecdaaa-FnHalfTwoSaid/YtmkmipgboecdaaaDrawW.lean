/-
  The cases with sets, and with rows, and the pairs of rows that are drawn for chapter 6: small, in new memory. No condition.
-/
import Derived.Test.YtmkmipgboecdaaaDrawP
import Derived.Test.YtmkmipgboecdaaaGrow
import Derived.Test.YtmkmipgboecdaaaFx
import Derived.BigQuiet
import Derived.Deep.Cut
namespace Go.Proofs.Ytmkmipgboecdaaa
open Go.RowKit

def DrawnSet (w : World) (e : Ending) (w' : World) : Prop :=
  ∃ E A c, ∃ xs : List Int, ∃ s : Int, xs.length ≤ 5 ∧ (0 ≤ s ∧ s ≤ 63) ∧ e = .returned (.tuple #[.agg #[.int .i64 E, .slice A xs.length c], .int .i64 s]) ∧ Own w' w.heap.size w'.heap.size A xs ∧ Below w.heap.size w w'
theorem pow_set {n : Nat} (h : n ≤ 5) : 1 ≤ (2 : Int) ^ n ∧ (2 : Int) ^ n ≤ 32 := by
  rcases (show n = 0 ∨ n = 1 ∨ n = 2 ∨ n = 3 ∨ n = 4 ∨ n = 5 from by omega) with rfl | rfl | rfl | rfl | rfl | rfl <;> simp

def DrawnRow (w : World) (e : Ending) (w' : World) : Prop :=
  ∃ E A1 c1 A2 c2, ∃ xs ys : List Int, xs.length ≤ 5 ∧ ys.length ≤ 5 ∧ (∀ y ∈ ys, -1000 ≤ y ∧ y ≤ 3000) ∧ e = .returned (.tuple #[.agg #[.int .i64 E, .slice A1 xs.length c1], .slice A2 ys.length c2]) ∧ Own w' w.heap.size w'.heap.size A1 xs ∧ Own w' w.heap.size w'.heap.size A2 ys ∧ Below w.heap.size w w'
theorem set_rg {ys : List Int} {lo hi lo' hi' v : Int} {i : Nat} (h : ∀ y ∈ ys, lo ≤ y ∧ y ≤ hi) (hl : lo' ≤ lo) (hh : hi ≤ hi') (hv : lo' ≤ v ∧ v ≤ hi') : ∀ y ∈ ys.set i v, lo' ≤ y ∧ y ≤ hi' := fun y hy => by
  rcases List.mem_or_eq_of_mem_set hy with e | e
  · have e2 := h y e; omega
  · subst e; exact hv
def DrawnRows (w : World) (e : Ending) (w' : World) : Prop :=
  ∃ A1 c1 A2 c2, ∃ xs ys : List Int, xs.length ≤ 18 ∧ ys.length ≤ 18 ∧ (∀ y ∈ xs, -1 ≤ y ∧ y ≤ 1) ∧ (∀ y ∈ ys, -1 ≤ y ∧ y ≤ 1) ∧ e = .returned (.tuple #[.slice A1 xs.length c1, .slice A2 ys.length c2]) ∧ Own w' w.heap.size w'.heap.size A1 xs ∧ Own w' w.heap.size w'.heap.size A2 ys ∧ Below w.heap.size w w'
theorem snoc_rg {ys : List Int} {lo hi v : Int} (h : ∀ y ∈ ys, lo ≤ y ∧ y ≤ hi) (hv : lo ≤ v ∧ v ≤ hi) : ∀ y ∈ ys ++ [v], lo ≤ y ∧ y ≤ hi := fun y hy => by
  rcases List.mem_append.1 hy with e | e
  · exact h y e
  · simp at e; subst e; exact hv

end Go.Proofs.Ytmkmipgboecdaaa
