/-
  How an argument that is a slice of bytes opens into what the walks ask. No condition.
-/
import Derived.Test.YtbegdcnljafloaaRows
import Derived.Test.YtbegdcnljafloaaGA
import Derived.ProofKit
import Derived.OpenShut
import Derived.ChangeOld
namespace Go.Proofs.Ytbegdcnljafloaa
open Go.ChangeShapes Go.WideShapes Go.ChangeAt Go.RowKit

set_option maxRecDepth 100000 in
theorem frame_own : ownKnob Try.prog.godebug = none := by kernel_rfl
set_option maxRecDepth 100000 in
theorem frame_laidOut : laidOutB Try.prog = true := by kernel_rfl

set_option maxRecDepth 100000 in
theorem bytes_of_cells {w : World} {x : Addr} {len : Nat} {zs : List Int} (hl : len ≤ zs.length) (hcell : ∀ i, i < zs.length → w.cell? (x.add i) = some (.int .u8 (zs.getD i 0))) (hwf : ∀ n ∈ zs, (Lit.int .u8 n).wf = true) :
    Bytes w w.heap.size (some x) (zs.take len) := fun hn => by
  have hlen : (zs.take len).length = len := by rw [List.length_take]; omega
  have h0 := hcell 0 (by omega)
  have hspot : x.spot = none := by simpa [Addr.add] using World.cell?_spot h0
  obtain ⟨b, o, s⟩ := x
  simp only at hspot
  subst hspot
  have hg : ∀ j, j < len → (zs.take len).getD j 0 = zs.getD j 0 := fun j hj => by simp [List.getD, hj]
  refine ⟨b, o, rfl, ?_, fun j hj => ?_, fun j hj => ?_⟩
  · have := World.block_lt_of_cell? w _ h0
    simpa [Addr.add] using this
  · have e := hcell j (by omega)
    rw [addr_add] at e
    rw [e, hg j (by omega)]
  · rw [hg j (by omega), getD_of_lt zs j (by omega)]
    have h1 := hwf _ (List.getElem_mem (by omega : j < zs.length))
    have hmin : IntKind.u8.min = 0 := rfl
    have hmax : IntKind.u8.max = 255 := rfl
    simp only [Lit.wf, Bool.and_eq_true, decide_eq_true_eq, hmin, hmax] at h1
    exact h1

set_option maxRecDepth 100000 in
theorem open_bytes {H : Type} {enc : TypeId × Value → H} {w : World} {b0 base : Nat} {spare : Nat → Bool} {held : Bool} {r : Reach} {v : Value} {d : DataW H} {p : List MemPlace}
    (hsp : ∀ b, spare b = true) (hv : Value.okWide Try.prog w r base 22 v) (h : DataW.Trod enc Try.prog w b0 spare held 22 v d p) :
    ∃ A c, ∃ bs : List Int, v = .slice A bs.length c ∧ Bytes w w.heap.size A bs ∧ bs.length ≤ 9223372036854775807 ∧ bs.length ≤ c := by
  obtain ⟨a0, len0, cap0, rfl⟩ := okWide_slice Try.underlying22 hv
  obtain ⟨fuel, hf⟩ := h
  have hf' : DataW.trod enc Try.prog w b0 spare held fuel 22 [.slice a0 len0 cap0] = some (d, p) := by simpa [Value.cells] using hf
  rcases open_ints Try.underlying22 Try.underlying5 (by kernel_rfl) hf' with ⟨hcs, _⟩ | ⟨a, len, cap, zs, hcs, _, hl, hm, hz, _, hcell, hwf⟩
  · simp only [List.cons.injEq, and_true] at hcs
    exact ⟨none, 0, [], hcs, fun h => absurd h (by simp), by simp, by simp⟩
  · simp only [List.cons.injEq, and_true] at hcs
    rw [hsp, if_pos rfl] at hz
    have hlen : (zs.take len).length = len := by rw [List.length_take]; omega
    refine ⟨some a, cap, zs.take len, by rw [hlen]; exact hcs, bytes_of_cells (by omega) hcell hwf, ?_, by omega⟩
    unfold maxLen at hm
    omega

end Go.Proofs.Ytbegdcnljafloaa
