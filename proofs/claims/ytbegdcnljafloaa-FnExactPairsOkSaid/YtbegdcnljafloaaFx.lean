/-
  Small lemmas for walks that a program writes (wip/irx/fx.py). No condition.
-/
import Derived.Test.YtbegdcnljafloaaGA
namespace Go.Proofs.Ytbegdcnljafloaa
open Go.RowKit

theorem Ints.ints {w : World} {lo hi : Nat} {A : Option Addr} {xs : List Int} (h : Ints w lo hi A xs) : Ints w lo hi A xs := h
theorem Ints.at2 {w : World} {lo hi b o : Nat} {xs : List Int} (h : Ints w lo hi (some ⟨b, o, none⟩) xs) (k : Nat) (hk : k < xs.length) : w.cell? ⟨b, o + k, none⟩ = some (.int .i64 (xs.getD k 0)) := by
  obtain ⟨_, _, e, _, _, hc⟩ := h (by omega)
  cases e
  exact hc k hk
theorem Ints.blk {w : World} {lo hi b o : Nat} {xs : List Int} (h : Ints w lo hi (some ⟨b, o, none⟩) xs) (hk : 0 < xs.length) : b < hi := by
  obtain ⟨_, _, e, _, h2, _⟩ := h hk
  cases e
  exact h2
theorem cell_alloc {w : World} {o : Obj} {b i : Nat} {v : Value} (h : w.cell? ⟨b, i, none⟩ = some v) (hb : b < w.heap.size) : (w.alloc o).cell? ⟨b, i, none⟩ = some v := by
  rw [World.cell?_alloc_lt w o _ (by exact hb)]; exact h
theorem same_is {P : Program} {g : FuncId} {args : Array Value} {w : World} {v v' : Value} (h : Calls P g args w fun e w' => e = .returned v ∧ w = w') (hv : v = v') : Calls P g args w fun e w' => e = .returned v' ∧ w = w' := hv ▸ h
theorem below_is {P : Program} {g : FuncId} {args : Array Value} {w : World} {B : Nat} {v v' : Value} (h : Calls P g args w fun e w' => e = .returned v ∧ Below B w w') (hv : v = v') : Calls P g args w fun e w' => e = .returned v' ∧ Below B w w' := hv ▸ h
theorem quiet_left1 {P : Program} {f : FuncId} {args : Array Value} {w : World} {n : Nat} {v : Value}
    (h : Calls P f args (w.drewN n) fun e w' => e = .returned v ∧ w.drewN n = w') : Calls P f args (w.drewN n) fun e w'' => e = .returned v ∧ ∃ m, w'' = w.drewN m :=
  h.mono fun _ _ ⟨he, hm⟩ => ⟨he, n, hm.symm⟩
theorem frozen_alloc {w : World} {o : Obj} {b i : Nat} (h : w.frozen? ⟨b, i, none⟩ = false) (hb : b < w.heap.size) : (w.alloc o).frozen? ⟨b, i, none⟩ = false := by
  rw [World.frozen?_of_block (w := w) (a := ⟨b, i, none⟩) (Below.heap_alloc w o b hb)]; exact h
theorem cell_set {w : World} {p : Addr} {u : Value} (h : w.cell? p = some u) (v : Value) : (w.setCell p v).cell? p = some v := World.cell?_setCell_same _ _ _ h
theorem cell_set_off {w : World} {b i j : Nat} {u : Value} (h : w.cell? ⟨b, j, none⟩ = some u) (hn : ¬ j = i) (v : Value) : (w.setCell ⟨b, i, none⟩ v).cell? ⟨b, j, none⟩ = some u :=
  (World.cell?_setCell_other _ _ _ _ (by intro e; injection e with _ e2 _; omega)).trans h
theorem frozen_set {w : World} {b i : Nat} (h : w.frozen? ⟨b, i, none⟩ = false) (p : Addr) (v : Value) : (w.setCell p v).frozen? ⟨b, i, none⟩ = false := (World.frozen?_setCell _ _ _ _).trans h
theorem Chg.then_own {lo hi g : Nat} {w a b : World} (h : Chg lo hi w a) (k : Chg g (g + 1) a b) (hg : w.heap.size ≤ g) : Chg lo hi w b :=
  ⟨k.os.trans h.os, k.tape.trans h.tape, k.output.trans h.output, Nat.le_trans h.size k.size, fun i hi hn => (k.block i (Nat.lt_of_lt_of_le hi h.size) (by omega)).trans (h.block i hi hn)⟩
theorem Own.cells {w : World} {lo hi b o : Nat} {xs : List Int} (h : Own w lo hi (some ⟨b, o, none⟩) xs) (k : Nat) (hk : k < xs.length) : w.cell? ⟨b, o + k, none⟩ = some (.int .i64 (xs.getD k 0)) ∧ w.frozen? ⟨b, o + k, none⟩ = false := by
  obtain ⟨_, _, e, _, _, hc, hf⟩ := h (by omega)
  cases e
  exact ⟨hc k hk, hf k hk⟩

end Go.Proofs.Ytbegdcnljafloaa
