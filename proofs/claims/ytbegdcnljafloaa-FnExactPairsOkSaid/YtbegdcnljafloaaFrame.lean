/-
  How an argument that is a case, or a slice of numbers, opens into what the walks ask. No condition.
-/
import Derived.Test.YtbegdcnljafloaaRows
import Derived.Test.YtbegdcnljafloaaGA
import Derived.ProofKit
import Derived.OpenShut
import Derived.ChangeOld
import Derived.Lib.SmallJoins
namespace Go.Proofs.Ytbegdcnljafloaa
open Go.ChangeShapes Go.WideShapes Go.ChangeAt Go.RowKit Go.Joins

theorem frame_own : ownKnob Try.prog.godebug = none := by kernel_rfl
theorem frame_laidOut : laidOutB Try.prog = true := by kernel_rfl

theorem ints_of_cells {w : World} {x : Addr} {len : Nat} {zs : List Int} (hl : len ≤ zs.length) (hcell : ∀ i, i < zs.length → w.cell? (x.add i) = some (.int .i64 (zs.getD i 0))) :
    Ints w 0 w.heap.size (some x) (zs.take len) := fun hn => by
  have hlen : (zs.take len).length = len := by rw [List.length_take]; omega
  have h0 := hcell 0 (by omega)
  have hspot : x.spot = none := by simpa [Addr.add] using World.cell?_spot h0
  obtain ⟨b, o, s⟩ := x
  simp only at hspot
  subst hspot
  refine ⟨b, o, rfl, Nat.zero_le _, ?_, fun j hj => ?_⟩
  · have := World.block_lt_of_cell? w _ h0
    simpa [Addr.add] using this
  · have hj' : j < len := by omega
    have e := hcell j (by omega)
    have e2 : (⟨b, o, none⟩ : Addr).add j = ⟨b, o + j, none⟩ := by
      unfold Addr.add
      by_cases hz : j = 0 <;> simp [hz]
    rw [e2] at e
    rw [e]
    simp [List.getD, hj']

theorem open_row {H : Type} {enc : TypeId × Value → H} {w : World} {b0 : Nat} {spare : Nat → Bool} {held : Bool} {fuel : Nat} {v : Value} {x : DataW H × List MemPlace}
    (hsp : ∀ b, spare b = true) (h : DataW.trod enc Try.prog w b0 spare held fuel 29 [v] = some x) :
    ∃ A c, ∃ xs : List Int, v = .slice A xs.length c ∧ Ints w 0 w.heap.size A xs ∧ xs.length ≤ 9223372036854775807 := by
  rcases open_ints Try.underlying29 Try.underlying3 (by kernel_rfl) h with ⟨hcs, _⟩ | ⟨a, len, cap, zs, hcs, _, hl, hm, hz, _, hcell, _⟩
  · simp only [List.cons.injEq, and_true] at hcs
    exact ⟨none, 0, [], hcs, Ints.nil, by simp⟩
  · simp only [List.cons.injEq, and_true] at hcs
    rw [hsp, if_pos rfl] at hz
    have hlen : (zs.take len).length = len := by rw [List.length_take]; omega
    refine ⟨some a, cap, zs.take len, by rw [hlen]; exact hcs, ints_of_cells (by omega) hcell, ?_⟩
    unfold maxLen at hm
    omega

theorem cells_case : Try.prog.cellsOf 45 = 2 := by kernel_rfl

set_option maxRecDepth 100000 in
theorem open_case {H : Type} {enc : TypeId × Value → H} {w : World} {b0 base : Nat} {spare : Nat → Bool} {held : Bool} {r : Reach} {v : Value} {d : DataW H} {p : List MemPlace}
    (hsp : ∀ b, spare b = true) (hv : Value.okWide Try.prog w r base 45 v) (h : DataW.Trod enc Try.prog w b0 spare held 45 v d p) :
    ∃ E A c, ∃ xs : List Int, v = .agg #[.int .i64 E, .slice A xs.length c] ∧ Ints w 0 w.heap.size A xs ∧ xs.length ≤ 9223372036854775807 := by
  obtain ⟨c0, c1, y0, y1, m, rfl, _, _, h0, h1⟩ := open_agg2 Try.underlying45 (by kernel_rfl) cells_case hv h
  obtain ⟨E, e0, _, _⟩ := DataW.trod_int Try.underlying3 h0
  simp only [List.cons.injEq, and_true] at e0
  subst e0
  obtain ⟨A, c, xs, rfl, h2, h3⟩ := open_row hsp h1
  exact ⟨E, A, c, xs, rfl, h2, h3⟩

end Go.Proofs.Ytbegdcnljafloaa
