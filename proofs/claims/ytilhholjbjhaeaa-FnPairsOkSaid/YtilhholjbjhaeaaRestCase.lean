/-
  Both functions RestCase return what is left behind the rights, and make new memory only.
-/
import Derived.Test.YtilhholjbjhaeaaRightsOf
import Derived.Test.YtilhholjbjhaeaaBox
import Derived.Deep.RegionLaw
namespace Go.Proofs.Ytilhholjbjhaeaa
open Go.RowKit

theorem rest_step {w2 w4 wr : World} {O g cp k : Nat} {v : Value} {R : List Int} {rE V : Int} (hO : O = w2.heap.size) (hk : k < R.length) (hV : R[k] = V) (bx4 : Box w4 O (.int .i64 rE) v) (hbel : Below O w2 wr)
    (ownA : (wr.alloc (.cells #[.int .i64 V] 3)).drew.ownsRow (O + 1) 3 1 v k (ints (R.take k))) (hO2 : O < wr.heap.size)
    (hown4 : w4.ownsRow (O + 1) 3 1 (.slice (some ⟨g, 0, none⟩) (k + 1) cp) (k + 1) (ints (R.take k) ++ [.int .i64 V])) (hgrow4 : (wr.alloc (.cells #[.int .i64 V] 3)).drew.grownBy w4 v.ownBlock) :
    Box (w4.setCell ⟨O, 1, none⟩ (.slice (some ⟨g, 0, none⟩) (k + 1) cp)) O (.int .i64 rE) (.slice (some ⟨g, 0, none⟩) (k + 1) cp) ∧
    (w4.setCell ⟨O, 1, none⟩ (.slice (some ⟨g, 0, none⟩) (k + 1) cp)).ownsRow (O + 1) 3 1 (.slice (some ⟨g, 0, none⟩) (k + 1) cp) (R.take (k + 1)).length (ints (R.take (k + 1))) ∧
    Below O w2 (w4.setCell ⟨O, 1, none⟩ (.slice (some ⟨g, 0, none⟩) (k + 1) cp)) := by
  refine ⟨bx4.set1 _, ?_, ?_⟩
  · exact append_one hk V hV rfl (ownsRow_setCell_below hown4 (by show O < _; omega) _)
  · have h1 := ((hbel.alloc (by omega) (.cells #[.int .i64 V] 3)).drew).grown hgrow4 (by show O ≤ (wr.alloc _).heap.size; rw [hsz]; omega) (fun i hi => by have := (ownA.lt i hi).1; omega)
    exact h1.setCell (by show O ≤ O; omega) _

def RestMid (w2 : World) (rE : Int) (R : List Int) (k : Nat) (wr : World) : Prop :=
  ∃ v, Box wr w2.heap.size (.int .i64 rE) v ∧ wr.ownsRow (w2.heap.size + 1) 3 1 v (R.take k).length (ints (R.take k)) ∧ Below w2.heap.size w2 wr
theorem rest_start (w2 : World) (rE : Int) (R : List Int) : RestMid w2 rE R 0 (w2.alloc (.cells #[.int .i64 rE, .slice none 0 0] 31)).drew := by
  have b := Box.new w2 (.int .i64 rE) (.slice none 0 0) 31
  exact ⟨.slice none 0 0, ⟨b.c0, b.c1, b.f0, b.f1, b.lt⟩, World.ownsRow_nil _ _ _ _, ((Below.refl _ _).alloc (Nat.le_refl _) _).drew⟩

end Go.Proofs.Ytilhholjbjhaeaa
