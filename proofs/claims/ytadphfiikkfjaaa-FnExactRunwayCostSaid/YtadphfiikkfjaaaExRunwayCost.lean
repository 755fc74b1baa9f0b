/-
  The exact law of RunwayCost returns true, and writes nothing that was there. No condition.
-/
import Derived.Test.YtadphfiikkfjaaaExactLeaf
import Derived.Test.YtadphfiikkfjaaaFx
import Derived.Test.YtadphfiikkfjaaaSpec10
import Derived.Test.YtadphfiikkfjaaaGame10I
import Derived.Deep.RegionHeld3
import Derived.Deep.Cut
namespace Go.Proofs.Ytadphfiikkfjaaa
open Go.RowKit

set_option maxRecDepth 10000 in
set_option maxHeartbeats 2000000 in
theorem exRunwayCost_walk (D : Option Addr) (d : Nat) (ys : List Int) (s : Int) (w : World) (h' : Ints w 0 w.heap.size D ys) (hl' : ys.length ≤ 1048576) :
    Calls Try.prog 10 #[.slice D ys.length d, .int .i64 s] w fun e w' => e = .returned (.bool true) ∧ Below w.heap.size w w' := by
  go_enter Try.func10, Try.ntmps10
  have Htrue : Hid True := trivial
  go_wp2_with fail
  refine (toIntS_any D d ys _ _ _ h' (by first | omega | (simp; omega) | simp) (by omega)).mono ?_
  rintro e w1 ⟨A2_, c3_, rfl, ho4_, hb1_⟩
  have o5_ := h'.below hb1_ (by first | omega | (simp; omega) | simp)
  have z6_ := hb1_.size
  have B7_ := (Below.refl w.heap.size w).trans (hb1_.mono (by first | omega | (simp; omega) | simp))
  clear hb1_
  go_wp2_with fail
  refine (specRunwayCost_any A2_ c3_ ys s _ _ _ ho4_.ints (by omega)).mono ?_
  rintro e w' ⟨he, rfl⟩
  obtain ⟨v8_, hv8_⟩ : ∃ v, runCost ys s = v := ⟨_, rfl⟩
  rw [hv8_] at he
  subst he
  have Hv8_ := Lib.hid hv8_
  clear hv8_
  go_wp2_with fail
  refine (toIntS_any D d ys _ _ _ o5_ (by first | omega | (simp; omega) | simp) (by omega)).mono ?_
  rintro e w9 ⟨A10_, c11_, rfl, ho12_, hb9_⟩
  have o13_ := o5_.below hb9_ (by first | omega | (simp; omega) | simp)
  have o14_ := ho4_.below hb9_ (by first | omega | (simp; omega) | simp)
  have z15_ := hb9_.size
  have B16_ := B7_.trans (hb9_.mono (by first | omega | (simp; omega) | simp))
  clear hb9_
  go_wp2_with fail
  refine (implRunwayCost_any A10_ c11_ ys s _ _ _ ho12_.ints (by first | omega | (simp; omega) | simp) (by omega)).mono ?_
  rintro e w17 ⟨he, hb17_⟩
  rw [Hv8_.out] at he
  subst he
  have o18_ := o13_.below hb17_ (by first | omega | (simp; omega) | simp)
  have o19_ := o14_.below hb17_ (by first | omega | (simp; omega) | simp)
  have o20_ := ho12_.below hb17_ (by first | omega | (simp; omega) | simp)
  have z21_ := hb17_.size
  have B22_ := B16_.trans (hb17_.mono (by first | omega | (simp; omega) | simp))
  clear hb17_
  go_wp2_with fail
  refine (toIntS_any D d ys _ _ _ o18_ (by first | omega | (simp; omega) | simp) (by omega)).mono ?_
  rintro e w23 ⟨A24_, c25_, rfl, ho26_, hb23_⟩
  have o27_ := o18_.below hb23_ (by first | omega | (simp; omega) | simp)
  have o28_ := o19_.below hb23_ (by first | omega | (simp; omega) | simp)
  have o29_ := o20_.below hb23_ (by first | omega | (simp; omega) | simp)
  have z30_ := hb23_.size
  have B31_ := B22_.trans (hb23_.mono (by first | omega | (simp; omega) | simp))
  clear hb23_
  go_wp2_with fail
  refine (eqIntS_same A10_ A24_ c11_ c25_ ys _ _ _ _ _ o29_.ints ho26_.ints (by omega)).mono ?_
  rintro e w32 ⟨rfl, hb32_⟩
  have o33_ := o27_.below hb32_ (by first | omega | (simp; omega) | simp)
  have o34_ := o28_.below hb32_ (by first | omega | (simp; omega) | simp)
  have o35_ := o29_.below hb32_ (by first | omega | (simp; omega) | simp)
  have o36_ := ho26_.below hb32_ (by first | omega | (simp; omega) | simp)
  have z37_ := hb32_.size
  have B38_ := B31_.trans (hb32_.mono (by first | omega | (simp; omega) | simp))
  clear hb32_
  go_wp2
  go_ret
  exact ⟨ret_bool rfl, B38_⟩

set_option maxRecDepth 10000 in
set_option maxHeartbeats 400000 in
theorem exRunwayCost_big0 (D : Option Addr) (d : Nat) (ys : List Int) (s : Int) (w : World)  (hl' : ¬ ys.length ≤ 1048576) (hm' : ys.length ≤ 9223372036854775807) :
    Calls Try.prog 10 #[.slice D ys.length d, .int .i64 s] w fun e w' => e = .returned (.bool true) ∧ Below w.heap.size w w' := by
  go_enter Try.func10, Try.ntmps10
  go_wp2
  go_ret
  exact ⟨rfl, Below.refl _ _⟩

theorem exRunwayCost_all (D : Option Addr) (d : Nat) (ys : List Int) (s : Int) (w : World) (h' : Ints w 0 w.heap.size D ys) (hm' : ys.length ≤ 9223372036854775807) :
    Calls Try.prog 10 #[.slice D ys.length d, .int .i64 s] w fun e w' => e = .returned (.bool true) ∧ Below w.heap.size w w' := by
  by_cases hl' : ys.length ≤ 1048576
  · exact exRunwayCost_walk D d ys s w h' hl'
  · exact exRunwayCost_big0 D d ys s w  hl' hm'

end Go.Proofs.Ytadphfiikkfjaaa
