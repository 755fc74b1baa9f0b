/-
  The exact law of SimplerRule returns true, and writes nothing that was there. No condition.
-/
import Derived.Test.YtkkdolbbioeknaaExactCase
import Derived.Test.YtkkdolbbioeknaaFx
import Derived.Test.YtkkdolbbioeknaaRuleLaw
import Derived.Test.YtkkdolbbioeknaaGame8I
import Derived.Deep.RegionHeld3
import Derived.Deep.Cut
namespace Go.Proofs.Ytkkdolbbioeknaa
open Go.RowKit

set_option maxRecDepth 10000 in
set_option maxHeartbeats 2000000 in
theorem exSimplerRule_walk (l : List UInt8) (w : World)  (hls : l.length ≤ 1048576) :
    Calls Try.prog 9 #[.string (S l)] w fun e w' => e = .returned (.bool true) ∧ Below w.heap.size w w' := by
  go_enter Try.func9, Try.ntmps9
  have Htrue : Hid True := trivial
  have hS1 := S_size
  have hS2 : ∀ (l : List UInt8) (k : Nat) (h : k < (S l).size), (S l)[k]'h = l[k]'(by rw [S_size] at h; exact h) := fun _ _ h => S_at2 h
  go_wp2_with fail
  refine (specSimplerRule_any l _ (by omega)).mono ?_
  rintro e w1 ⟨he, hb1_⟩
  obtain ⟨l2_, hl2_⟩ : ∃ y_, simpL l = y_ := ⟨_, rfl⟩
  rw [hl2_] at he
  subst he
  have Hl2_ := Lib.hid hl2_
  clear hl2_
  have z3_ := hb1_.size
  have B4_ := (Below.refl w.heap.size w).trans (hb1_.mono (by first | omega | (simp; omega) | simp))
  clear hb1_
  go_wp2_with fail
  refine (implSimplerRule_any l _ (by omega)).mono ?_
  rintro e w5 ⟨he, hb5_⟩
  rw [Hl2_.out] at he
  subst he
  have z6_ := hb5_.size
  have B7_ := B4_.trans (hb5_.mono (by first | omega | (simp; omega) | simp))
  clear hb5_
  go_wp2
  go_ret
  exact ⟨ret_bool rfl, B7_⟩

set_option maxRecDepth 10000 in
set_option maxHeartbeats 400000 in
theorem exSimplerRule_big0 (l : List UInt8) (w : World)  (hls : ¬ l.length ≤ 1048576) (hms : l.length ≤ 9223372036854775807) :
    Calls Try.prog 9 #[.string (S l)] w fun e w' => e = .returned (.bool true) ∧ Below w.heap.size w w' := by
  have hS1 := S_size
  go_enter Try.func9, Try.ntmps9
  go_wp2
  go_ret
  exact ⟨rfl, Below.refl _ _⟩

theorem exSimplerRule_all (l : List UInt8) (w : World)  (hms : l.length ≤ 9223372036854775807) :
    Calls Try.prog 9 #[.string (S l)] w fun e w' => e = .returned (.bool true) ∧ Below w.heap.size w w' := by
  by_cases hls : l.length ≤ 1048576
  · exact exSimplerRule_walk l w  hls
  · exact exSimplerRule_big0 l w  hls hms

end Go.Proofs.Ytkkdolbbioeknaa
