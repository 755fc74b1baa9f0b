/-
  How an argument that is a slice of rows of numbers opens into what the walks ask. No condition.
-/
import Derived.Test.YtpdlppmkjkbboaaFrame
import Derived.Test.YtpdlppmkjkbboaaGridA
import Derived.Deep.Matrix
namespace Go.Proofs.Ytpdlppmkjkbboaa
open Go.ChangeShapes Go.WideShapes Go.ChangeAt Go.RowKit Go.Joins

theorem cells_row : Try.prog.cellsOf 26 = 1 := by kernel_rfl
theorem cells_int3 : Try.prog.cellsOf 3 = 1 := by kernel_rfl
/-- A list of rows, out of functions. -/
def rowsOf (L : Nat → Nat) (Z : Nat → List Int) (n : Nat) : List (List Int) := (List.range n).map fun r => (Z r).take (L r)
theorem rowsOf_length (L : Nat → Nat) (Z : Nat → List Int) (n : Nat) : (rowsOf L Z n).length = n := by simp [rowsOf]
theorem rowsOf_getD (L : Nat → Nat) (Z : Nat → List Int) {n k : Nat} (h : k < n) : (rowsOf L Z n).getD k [] = (Z k).take (L k) := by simp [rowsOf, List.getD, h]
theorem rowsOf_far (L : Nat → Nat) (Z : Nat → List Int) {n k : Nat} (h : n ≤ k) : (rowsOf L Z n).getD k [] = [] := by simp [rowsOf, List.getD, h]
set_option maxRecDepth 100000 in
theorem open_grid_arg {H : Type} {enc : TypeId × Value → H} {w : World} {b0 base : Nat} {held : Bool} {r : Reach} {v : Value} {d : DataW H} {p : List MemPlace}
    (hv : Value.okWide Try.prog w r base 23 v) (h : DataW.Trod enc Try.prog w b0 (fun _ => true) held 23 v d p) :
    ∃ A c, ∃ B : List (List Int), v = .slice A B.length c ∧ Grid w 0 w.heap.size A B ∧ B.length ≤ 9223372036854775807 ∧ ∀ k, (B.getD k []).length ≤ 9223372036854775807 := by
  obtain ⟨a0, len, cap, rfl⟩ := okWide_slice Try.underlying23 hv
  obtain ⟨fuel, hf⟩ := h
  have hf' : DataW.trod enc Try.prog w b0 (fun _ => true) held fuel 23 [.slice a0 len cap] = some (d, p) := by simpa [Value.cells] using hf
  rcases Go.Deep.open_int_rows Try.underlying23 Try.underlying26 Try.underlying3 cells_row cells_int3 hf' with ⟨hcs, _⟩ | ⟨a, len', cap', A, L, C, Z, hcs, _, hl, hm, _, hc⟩
  · simp only [List.cons.injEq, and_true] at hcs
    injection hcs with e1 e2 e3
    subst e1; subst e2; subst e3
    exact ⟨none, 0, [], rfl, Grid.nil, by simp, fun k => by simp⟩
  · simp only [List.cons.injEq, and_true] at hcs
    injection hcs with e1 e2 e3
    subst e1; subst e2; subst e3
    unfold maxLen at hm
    refine ⟨some a, cap, rowsOf L Z len, by rw [rowsOf_length], fun hn => ?_, by rw [rowsOf_length]; omega, fun k => ?_⟩
    · rw [rowsOf_length] at hn
      have h0 := (hc 0 (by omega)).1
      have hspot : a.spot = none := by simpa [Addr.add] using World.cell?_spot h0
      have hlt := World.block_lt_of_cell? w _ h0
      obtain ⟨b, o, s⟩ := a
      simp only at hspot
      subst hspot
      refine ⟨b, o, rfl, Nat.zero_le _, by simpa [Addr.add] using hlt, fun k hk => ?_⟩
      rw [rowsOf_length] at hk
      obtain ⟨q1, q2, q3, q4, _, q6, q7⟩ := hc k (by omega)
      rw [rowsOf_getD L Z hk]
      have hlen : ((Z k).take (L k)).length = L k := by rw [List.length_take]; omega
      refine ⟨A k, C k, ?_, ?_, by rw [hlen]; exact q2⟩
      · rw [hlen, ← q1]
        congr 1
        unfold Addr.add
        simp
      · cases ha : A k with
        | none =>
          intro hp
          have e := q6 ha
          rw [hlen] at hp; omega
        | some a' =>
          obtain ⟨_, hcell⟩ := q7 a' ha
          exact ints_of_cells (by omega) (fun i hi => hcell i (by omega))
    · rcases Nat.lt_or_ge k len with q | q
      · obtain ⟨_, q2, q3, q4, _⟩ := hc k (by omega)
        unfold maxLen at q3
        rw [rowsOf_getD L Z q, List.length_take]; omega
      · rw [rowsOf_far L Z q]; simp

end Go.Proofs.Ytpdlppmkjkbboaa
