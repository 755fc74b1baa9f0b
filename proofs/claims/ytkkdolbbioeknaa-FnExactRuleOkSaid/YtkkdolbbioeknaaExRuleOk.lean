/-
  The exact law of RuleOk returns true, and writes nothing that was there. No condition.
-/
import Derived.Test.YtkkdolbbioeknaaExactCase
import Derived.Test.YtkkdolbbioeknaaFx
import Derived.Test.YtkkdolbbioeknaaRuleLaw
import Derived.Test.YtkkdolbbioeknaaGame8I
import Derived.Deep.RegionHeld3
import Derived.Deep.Cut
namespace Go.Proofs.Ytkkdolbbioeknaa
open Go.RowKit

set_option maxRecDepth 10000 in
set_option maxHeartbeats 2000000 in
theorem exRuleOk_walk (l : List UInt8) (w : World)  (hls : l.length ≤ 1048576) :
    Calls Try.prog 7 #[.string (S l)] w fun e w' => e = .returned (.bool true) ∧ Below w.heap.size w w' := by
  go_enter Try.func7, Try.ntmps7
  have Htrue : Hid True := trivial
  have hS1 := S_size
  have hS2 : ∀ (l : List UInt8) (k : Nat) (h : k < (S l).size), (S l)[k]'h = l[k]'(by rw [S_size] at h; exact h) := fun _ _ h => S_at2 h
  by_cases h1_ : ruleB l = true
  · have H1_ := Lib.hid h1_
    clear h1_
    go_wp2_with fail
    refine (specRuleOk_any l _ (by omega)).mono ?_
    rintro e w' ⟨he, rfl⟩
    rw [H1_.out] at he
    subst he
    go_wp2_with fail
    refine (implRuleOk_any l _ (by omega)).mono ?_
    rintro e w2 ⟨he, hb2_⟩
    rw [H1_.out] at he
    subst he
    have z3_ := hb2_.size
    have B4_ := (Below.refl w.heap.size w).trans (hb2_.mono (by first | omega | (simp; omega) | simp))
    clear hb2_
    go_wp2
    go_ret
    exact ⟨ret_bool rfl, B4_⟩
  · have H1_ : Hid (ruleB l = false) := by show _ = _; simpa using h1_
    clear h1_
    go_wp2_with fail
    refine (specRuleOk_any l _ (by omega)).mono ?_
    rintro e w' ⟨he, rfl⟩
    rw [H1_.out] at he
    subst he
    go_wp2_with fail
    refine (implRuleOk_any l _ (by omega)).mono ?_
    rintro e w2 ⟨he, hb2_⟩
    rw [H1_.out] at he
    subst he
    have z3_ := hb2_.size
    have B4_ := (Below.refl w.heap.size w).trans (hb2_.mono (by first | omega | (simp; omega) | simp))
    clear hb2_
    go_wp2
    go_ret
    exact ⟨ret_bool rfl, B4_⟩

set_option maxRecDepth 10000 in
set_option maxHeartbeats 400000 in
theorem exRuleOk_big0 (l : List UInt8) (w : World)  (hls : ¬ l.length ≤ 1048576) (hms : l.length ≤ 9223372036854775807) :
    Calls Try.prog 7 #[.string (S l)] w fun e w' => e = .returned (.bool true) ∧ Below w.heap.size w w' := by
  have hS1 := S_size
  go_enter Try.func7, Try.ntmps7
  go_wp2
  go_ret
  exact ⟨rfl, Below.refl _ _⟩

theorem exRuleOk_all (l : List UInt8) (w : World)  (hms : l.length ≤ 9223372036854775807) :
    Calls Try.prog 7 #[.string (S l)] w fun e w' => e = .returned (.bool true) ∧ Below w.heap.size w w' := by
  by_cases hls : l.length ≤ 1048576
  · exact exRuleOk_walk l w  hls
  · exact exRuleOk_big0 l w  hls hms

end Go.Proofs.Ytkkdolbbioeknaa
