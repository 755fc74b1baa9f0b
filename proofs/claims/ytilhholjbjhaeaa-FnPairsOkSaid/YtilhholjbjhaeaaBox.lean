/-
  Two cells that are known and may be written, over draws, new blocks and writes elsewhere. No condition.
-/
import Derived.Test.YtilhholjbjhaeaaBase
namespace Go.Proofs.Ytilhholjbjhaeaa
open Go.RowKit

/-- Two cells that are known and may be written. -/
structure Box (w : World) (b : Nat) (u v : Value) : Prop where
  c0 : w.cell? ⟨b, 0, none⟩ = some u
  c1 : w.cell? ⟨b, 1, none⟩ = some v
  f0 : w.frozen? ⟨b, 0, none⟩ = false
  f1 : w.frozen? ⟨b, 1, none⟩ = false
  lt : b < w.heap.size
section
variable {w w' : World} {b : Nat} {u v : Value}
theorem Box.of_block (h : Box w b u v) (e : w'.heap[b]? = w.heap[b]?) (hs : w.heap.size ≤ w'.heap.size) : Box w' b u v :=
  ⟨(World.cell?_of_block (w := w) (a := ⟨b, 0, none⟩) e).trans h.c0, (World.cell?_of_block (w := w) (a := ⟨b, 1, none⟩) e).trans h.c1, (World.frozen?_of_block (w := w) (a := ⟨b, 0, none⟩) e).trans h.f0, (World.frozen?_of_block (w := w) (a := ⟨b, 1, none⟩) e).trans h.f1, Nat.lt_of_lt_of_le h.lt hs⟩
theorem Box.chg {lo hi : Nat} (h : Box w b u v) (k : Chg lo hi w w') (hn : ¬ (lo ≤ b ∧ b < hi)) : Box w' b u v := h.of_block (k.block b h.lt hn) k.size
theorem Box.below {B : Nat} (h : Box w b u v) (k : Below B w w') (hn : b < B) : Box w' b u v := h.of_block (k.block b hn) k.size
theorem Box.alloc (h : Box w b u v) (o : Obj) : Box (w.alloc o) b u v := h.of_block (Below.heap_alloc w o b h.lt) (by simp)
theorem Box.grown {row : Option Nat} (h : Box w b u v) (k : w.grownBy w' row) (hn : some b ≠ row) : Box w' b u v := h.of_block (k.block b h.lt hn) k.size
theorem Box.new (w : World) (u v : Value) (t : TypeId) : Box (w.alloc (.cells #[u, v] t)) w.heap.size u v :=
  ⟨(new2 w u v t).1, (new2 w u v t).2, (new2f w u v t).1, (new2f w u v t).2, by simp⟩
theorem Box.set0 (h : Box w b u v) (x : Value) : Box (w.setCell ⟨b, 0, none⟩ x) b x v :=
  ⟨World.cell?_setCell_same _ _ _ h.c0, (World.cell?_setCell_other _ _ _ _ (by intro e; injection e with _ e2 _; omega)).trans h.c1, (World.frozen?_setCell _ _ _ _).trans h.f0, (World.frozen?_setCell _ _ _ _).trans h.f1, by simpa [World.setCell] using h.lt⟩
theorem Box.set1 (h : Box w b u v) (x : Value) : Box (w.setCell ⟨b, 1, none⟩ x) b u x :=
  ⟨(World.cell?_setCell_other _ _ _ _ (by intro e; injection e with _ e2 _; omega)).trans h.c0, World.cell?_setCell_same _ _ _ h.c1, (World.frozen?_setCell _ _ _ _).trans h.f0, (World.frozen?_setCell _ _ _ _).trans h.f1, by simpa [World.setCell] using h.lt⟩
theorem Box.far (h : Box w b u v) {p : Addr} (hp : b ≠ p.block) (x : Value) : Box (w.setCell p x) b u v := h.of_block (Below.heap_setCell w p x b hp) (by simp [World.setCell])
end

end Go.Proofs.Ytilhholjbjhaeaa
