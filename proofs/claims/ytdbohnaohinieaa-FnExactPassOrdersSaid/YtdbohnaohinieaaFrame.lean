/-
  How an argument that is a case, or a slice of numbers, opens into what the walks ask. No condition.
-/
import Derived.Test.YtdbohnaohinieaaRows
import Derived.Test.YtdbohnaohinieaaGA
import Derived.ProofKit
import Derived.OpenShut
import Derived.ChangeOld
import Derived.Lib.SmallJoins
namespace Go.Proofs.Ytdbohnaohinieaa
open Go.ChangeShapes Go.WideShapes Go.ChangeAt Go.RowKit Go.Joins

theorem frame_own : ownKnob Try.prog.godebug = none := by kernel_rfl
theorem frame_laidOut : laidOutB Try.prog = true := by kernel_rfl

theorem ints_of_cells {w : World} {x : Addr} {len : Nat} {zs : List Int} (hl : len ≤ zs.length) (hcell : ∀ i, i < zs.length → w.cell? (x.add i) = some (.int .i64 (zs.getD i 0))) :
    Ints w 0 w.heap.size (some x) (zs.take len) := fun hn => by
  have hlen : (zs.take len).length = len := by rw [List.length_take]; omega
  have h0 := hcell 0 (by omega)
  have hspot : x.spot = none := by simpa [Addr.add] using World.cell?_spot h0
  obtain ⟨b, o, s⟩ := x
  simp only at hspot
  subst hspot
  refine ⟨b, o, rfl, Nat.zero_le _, ?_, fun j hj => ?_⟩
  · have := World.block_lt_of_cell? w _ h0
    simpa [Addr.add] using this
  · have hj' : j < len := by omega
    have e := hcell j (by omega)
    have e2 : (⟨b, o, none⟩ : Addr).add j = ⟨b, o + j, none⟩ := by
      unfold Addr.add
      by_cases hz : j = 0 <;> simp [hz]
    rw [e2] at e
    rw [e]
    simp [List.getD, hj']

theorem open_row {H : Type} {enc : TypeId × Value → H} {w : World} {b0 : Nat} {spare : Nat → Bool} {held : Bool} {fuel : Nat} {v : Value} {x : DataW H × List MemPlace}
    (hsp : ∀ b, spare b = true) (h : DataW.trod enc Try.prog w b0 spare held fuel 23 [v] = some x) :
    ∃ A c, ∃ xs : List Int, v = .slice A xs.length c ∧ Ints w 0 w.heap.size A xs ∧ xs.length ≤ 9223372036854775807 := by
  rcases open_ints Try.underlying23 Try.underlying3 (by kernel_rfl) h with ⟨hcs, _⟩ | ⟨a, len, cap, zs, hcs, _, hl, hm, hz, _, hcell, _⟩
  · simp only [List.cons.injEq, and_true] at hcs
    exact ⟨none, 0, [], hcs, Ints.nil, by simp⟩
  · simp only [List.cons.injEq, and_true] at hcs
    rw [hsp, if_pos rfl] at hz
    have hlen : (zs.take len).length = len := by rw [List.length_take]; omega
    refine ⟨some a, cap, zs.take len, by rw [hlen]; exact hcs, ints_of_cells (by omega) hcell, ?_⟩
    unfold maxLen at hm
    omega

end Go.Proofs.Ytdbohnaohinieaa
