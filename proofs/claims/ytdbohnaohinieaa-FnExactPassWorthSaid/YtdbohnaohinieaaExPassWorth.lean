/-
  The exact law of PassWorth returns true, and writes nothing that was there. No condition.
-/
import Derived.Test.YtdbohnaohinieaaExactLeaf
import Derived.Test.YtdbohnaohinieaaFx
import Derived.Test.YtdbohnaohinieaaSpec11
import Derived.Test.YtdbohnaohinieaaGame11I
import Derived.Test.YtdbohnaohinieaaPassL
import Derived.Deep.RegionHeld3
import Derived.Deep.Cut
namespace Go.Proofs.Ytdbohnaohinieaa
open Go.RowKit

set_option maxRecDepth 10000 in
set_option maxHeartbeats 2000000 in
theorem exPassWorth_walk (s : Int) (D : Option Addr) (d : Nat) (ys : List Int) (s' : Int) (w : World) (h' : Ints w 0 w.heap.size D ys) (hl' : ys.length ≤ 1048576) :
    Calls Try.prog 10 #[.int .i64 s, .slice D ys.length d, .int .i64 s'] w fun e w' => e = .returned (.bool true) ∧ Below w.heap.size w w' := by
  go_enter Try.func10, Try.ntmps10
  have Htrue : Hid True := trivial
  go_wp2_with fail
  refine (toIntS_any D d ys _ _ _ h' (by first | omega | (simp; omega) | simp) (by omega)).mono ?_
  rintro e w1 ⟨A2_, c3_, rfl, ho4_, hb1_⟩
  have o5_ := h'.below hb1_ (by first | omega | (simp; omega) | simp)
  have z6_ := hb1_.size
  have B7_ := (Below.refl w.heap.size w).trans (hb1_.mono (by first | omega | (simp; omega) | simp))
  clear hb1_
  go_wp2_with fail
  refine (specPassWorth_any s A2_ c3_ ys s' _ _ _ ho4_.ints (by first | omega | (simp; omega) | simp) (by omega)).mono ?_
  rintro e w8 ⟨he, hb8_⟩
  obtain ⟨v9_, hv9_⟩ : ∃ v, passW s ys s' = v := ⟨_, rfl⟩
  rw [hv9_] at he
  subst he
  have Hv9_ := Lib.hid hv9_
  clear hv9_
  have o10_ := o5_.below hb8_ (by first | omega | (simp; omega) | simp)
  have o11_ := ho4_.below hb8_ (by first | omega | (simp; omega) | simp)
  have z12_ := hb8_.size
  have B13_ := B7_.trans (hb8_.mono (by first | omega | (simp; omega) | simp))
  clear hb8_
  go_wp2_with fail
  refine (toIntS_any D d ys _ _ _ o10_ (by first | omega | (simp; omega) | simp) (by omega)).mono ?_
  rintro e w14 ⟨A15_, c16_, rfl, ho17_, hb14_⟩
  have o18_ := o10_.below hb14_ (by first | omega | (simp; omega) | simp)
  have o19_ := o11_.below hb14_ (by first | omega | (simp; omega) | simp)
  have z20_ := hb14_.size
  have B21_ := B13_.trans (hb14_.mono (by first | omega | (simp; omega) | simp))
  clear hb14_
  go_wp2_with fail
  refine (implPassWorth_any s A15_ c16_ ys s' _ _ _ ho17_.ints (by first | omega | (simp; omega) | simp) (by omega)).mono ?_
  rintro e w22 ⟨he, hb22_⟩
  rw [Hv9_.out] at he
  subst he
  have o23_ := o18_.below hb22_ (by first | omega | (simp; omega) | simp)
  have o24_ := o19_.below hb22_ (by first | omega | (simp; omega) | simp)
  have o25_ := ho17_.below hb22_ (by first | omega | (simp; omega) | simp)
  have z26_ := hb22_.size
  have B27_ := B21_.trans (hb22_.mono (by first | omega | (simp; omega) | simp))
  clear hb22_
  go_wp2_with fail
  refine (toIntS_any D d ys _ _ _ o23_ (by first | omega | (simp; omega) | simp) (by omega)).mono ?_
  rintro e w28 ⟨A29_, c30_, rfl, ho31_, hb28_⟩
  have o32_ := o23_.below hb28_ (by first | omega | (simp; omega) | simp)
  have o33_ := o24_.below hb28_ (by first | omega | (simp; omega) | simp)
  have o34_ := o25_.below hb28_ (by first | omega | (simp; omega) | simp)
  have z35_ := hb28_.size
  have B36_ := B27_.trans (hb28_.mono (by first | omega | (simp; omega) | simp))
  clear hb28_
  go_wp2_with fail
  refine (eqIntS_same A15_ A29_ c16_ c30_ ys _ _ _ _ _ o34_.ints ho31_.ints (by omega)).mono ?_
  rintro e w37 ⟨rfl, hb37_⟩
  have o38_ := o32_.below hb37_ (by first | omega | (simp; omega) | simp)
  have o39_ := o33_.below hb37_ (by first | omega | (simp; omega) | simp)
  have o40_ := o34_.below hb37_ (by first | omega | (simp; omega) | simp)
  have o41_ := ho31_.below hb37_ (by first | omega | (simp; omega) | simp)
  have z42_ := hb37_.size
  have B43_ := B36_.trans (hb37_.mono (by first | omega | (simp; omega) | simp))
  clear hb37_
  go_wp2
  go_ret
  exact ⟨ret_bool rfl, B43_⟩

set_option maxRecDepth 10000 in
set_option maxHeartbeats 400000 in
theorem exPassWorth_big0 (s : Int) (D : Option Addr) (d : Nat) (ys : List Int) (s' : Int) (w : World)  (hl' : ¬ ys.length ≤ 1048576) (hm' : ys.length ≤ 9223372036854775807) :
    Calls Try.prog 10 #[.int .i64 s, .slice D ys.length d, .int .i64 s'] w fun e w' => e = .returned (.bool true) ∧ Below w.heap.size w w' := by
  go_enter Try.func10, Try.ntmps10
  go_wp2
  go_ret
  exact ⟨rfl, Below.refl _ _⟩

theorem exPassWorth_all (s : Int) (D : Option Addr) (d : Nat) (ys : List Int) (s' : Int) (w : World) (h' : Ints w 0 w.heap.size D ys) (hm' : ys.length ≤ 9223372036854775807) :
    Calls Try.prog 10 #[.int .i64 s, .slice D ys.length d, .int .i64 s'] w fun e w' => e = .returned (.bool true) ∧ Below w.heap.size w w' := by
  by_cases hl' : ys.length ≤ 1048576
  · exact exPassWorth_walk s D d ys s' w h' hl'
  · exact exPassWorth_big0 s D d ys s' w  hl' hm'

end Go.Proofs.Ytdbohnaohinieaa
