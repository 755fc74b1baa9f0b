/-
  Small lemmas for walks that a program writes (wip/irx/fx.py). No condition.
-/
import Derived.Test.YtngalomfljoomaaGA
namespace Go.Proofs.Ytngalomfljoomaa
open Go.RowKit

theorem Ints.ints {w : World} {lo hi : Nat} {A : Option Addr} {xs : List Int} (h : Ints w lo hi A xs) : Ints w lo hi A xs := h
theorem Ints.at2 {w : World} {lo hi b o : Nat} {xs : List Int} (h : Ints w lo hi (some ⟨b, o, none⟩) xs) (k : Nat) (hk : k < xs.length) : w.cell? ⟨b, o + k, none⟩ = some (.int .i64 (xs.getD k 0)) := by
  obtain ⟨_, _, e, _, _, hc⟩ := h (by omega)
  cases e
  exact hc k hk
theorem Ints.blk {w : World} {lo hi b o : Nat} {xs : List Int} (h : Ints w lo hi (some ⟨b, o, none⟩) xs) (hk : 0 < xs.length) : b < hi := by
  obtain ⟨_, _, e, _, h2, _⟩ := h hk
  cases e
  exact h2
theorem cell_alloc {w : World} {o : Obj} {b i : Nat} {v : Value} (h : w.cell? ⟨b, i, none⟩ = some v) (hb : b < w.heap.size) : (w.alloc o).cell? ⟨b, i, none⟩ = some v := by
  rw [World.cell?_alloc_lt w o _ (by exact hb)]; exact h
theorem same_is {P : Program} {g : FuncId} {args : Array Value} {w : World} {v v' : Value} (h : Calls P g args w fun e w' => e = .returned v ∧ w = w') (hv : v = v') : Calls P g args w fun e w' => e = .returned v' ∧ w = w' := hv ▸ h
theorem below_is {P : Program} {g : FuncId} {args : Array Value} {w : World} {B : Nat} {v v' : Value} (h : Calls P g args w fun e w' => e = .returned v ∧ Below B w w') (hv : v = v') : Calls P g args w fun e w' => e = .returned v' ∧ Below B w w' := hv ▸ h
theorem quiet_left1 {P : Program} {f : FuncId} {args : Array Value} {w : World} {n : Nat} {v : Value}
    (h : Calls P f args (w.drewN n) fun e w' => e = .returned v ∧ w.drewN n = w') : Calls P f args (w.drewN n) fun e w'' => e = .returned v ∧ ∃ m, w'' = w.drewN m :=
  h.mono fun _ _ ⟨he, hm⟩ => ⟨he, n, hm.symm⟩

end Go.Proofs.Ytngalomfljoomaa
