/-
  How an argument that is a slice of numbers opens into what the walks ask. No condition.
-/
import Derived.Test.YtbegdcnljafloaaFrame
namespace Go.Proofs.Ytbegdcnljafloaa
open Go.ChangeShapes Go.WideShapes Go.ChangeAt Go.RowKit Go.Joins

set_option maxRecDepth 100000 in
theorem open_ints_arg {H : Type} {enc : TypeId × Value → H} {w : World} {b0 base : Nat} {spare : Nat → Bool} {held : Bool} {r : Reach} {v : Value} {d : DataW H} {p : List MemPlace}
    (hsp : ∀ b, spare b = true) (hv : Value.okWide Try.prog w r base 29 v) (h : DataW.Trod enc Try.prog w b0 spare held 29 v d p) :
    ∃ A c, ∃ xs : List Int, v = .slice A xs.length c ∧ Ints w 0 w.heap.size A xs ∧ xs.length ≤ 9223372036854775807 := by
  obtain ⟨a0, len, cap, rfl⟩ := okWide_slice Try.underlying29 hv
  obtain ⟨fuel, hf⟩ := h
  exact open_row hsp (x := _) (by simpa [Value.cells] using hf)

end Go.Proofs.Ytbegdcnljafloaa
