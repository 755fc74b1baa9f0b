/-
  The exact law of PaysOk returns true, and writes nothing that was there. No condition.
-/
import Derived.Test.YtadphfiikkfjaaaExactLeaf
import Derived.Test.YtadphfiikkfjaaaFx
import Derived.Test.YtadphfiikkfjaaaSpec10
import Derived.Test.YtadphfiikkfjaaaGame10I
import Derived.Deep.RegionHeld3
import Derived.Deep.Cut
namespace Go.Proofs.Ytadphfiikkfjaaa
open Go.RowKit

set_option maxRecDepth 10000 in
set_option maxHeartbeats 2000000 in
theorem exPaysOk_walk (D : Option Addr) (d : Nat) (ys : List Int) (F : Option Addr) (f : Nat) (zs : List Int) (w : World) (h' : Ints w 0 w.heap.size D ys) (h'' : Ints w 0 w.heap.size F zs) (hl' : ys.length ≤ 1048576) (hl'' : zs.length ≤ 1048576) :
    Calls Try.prog 13 #[.slice D ys.length d, .slice F zs.length f] w fun e w' => e = .returned (.bool true) ∧ Below w.heap.size w w' := by
  go_enter Try.func13, Try.ntmps13
  have Htrue : Hid True := trivial
  go_wp2_with fail
  refine (toIntS_any D d ys _ _ _ h' (by first | omega | (simp; omega) | simp) (by omega)).mono ?_
  rintro e w1 ⟨A2_, c3_, rfl, ho4_, hb1_⟩
  have o5_ := h'.below hb1_ (by first | omega | (simp; omega) | simp)
  have o6_ := h''.below hb1_ (by first | omega | (simp; omega) | simp)
  have z7_ := hb1_.size
  have B8_ := (Below.refl w.heap.size w).trans (hb1_.mono (by first | omega | (simp; omega) | simp))
  clear hb1_
  go_wp2_with fail
  refine (toIntS_any F f zs _ _ _ o6_ (by first | omega | (simp; omega) | simp) (by omega)).mono ?_
  rintro e w9 ⟨A10_, c11_, rfl, ho12_, hb9_⟩
  have o13_ := o5_.below hb9_ (by first | omega | (simp; omega) | simp)
  have o14_ := o6_.below hb9_ (by first | omega | (simp; omega) | simp)
  have o15_ := ho4_.below hb9_ (by first | omega | (simp; omega) | simp)
  have z16_ := hb9_.size
  have B17_ := B8_.trans (hb9_.mono (by first | omega | (simp; omega) | simp))
  clear hb9_
  by_cases h18_ : payB ys zs = true
  · have H18_ := Lib.hid h18_
    clear h18_
    go_wp2_with fail
    refine (specPaysOk_any A2_ c3_ ys A10_ c11_ zs _ _ _ o15_.ints (by first | omega | (simp; omega) | simp) (by omega) _ _ ho12_.ints (by first | omega | (simp; omega) | simp) (by omega)).mono ?_
    rintro e w19 ⟨he, hb19_⟩
    rw [H18_.out] at he
    subst he
    have o20_ := o13_.below hb19_ (by first | omega | (simp; omega) | simp)
    have o21_ := o14_.below hb19_ (by first | omega | (simp; omega) | simp)
    have o22_ := o15_.below hb19_ (by first | omega | (simp; omega) | simp)
    have o23_ := ho12_.below hb19_ (by first | omega | (simp; omega) | simp)
    have z24_ := hb19_.size
    have B25_ := B17_.trans (hb19_.mono (by first | omega | (simp; omega) | simp))
    clear hb19_
    go_wp2_with fail
    refine (toIntS_any D d ys _ _ _ o20_ (by first | omega | (simp; omega) | simp) (by omega)).mono ?_
    rintro e w26 ⟨A27_, c28_, rfl, ho29_, hb26_⟩
    have o30_ := o20_.below hb26_ (by first | omega | (simp; omega) | simp)
    have o31_ := o21_.below hb26_ (by first | omega | (simp; omega) | simp)
    have o32_ := o22_.below hb26_ (by first | omega | (simp; omega) | simp)
    have o33_ := o23_.below hb26_ (by first | omega | (simp; omega) | simp)
    have z34_ := hb26_.size
    have B35_ := B25_.trans (hb26_.mono (by first | omega | (simp; omega) | simp))
    clear hb26_
    go_wp2_with fail
    refine (toIntS_any F f zs _ _ _ o31_ (by first | omega | (simp; omega) | simp) (by omega)).mono ?_
    rintro e w36 ⟨A37_, c38_, rfl, ho39_, hb36_⟩
    have o40_ := o30_.below hb36_ (by first | omega | (simp; omega) | simp)
    have o41_ := o31_.below hb36_ (by first | omega | (simp; omega) | simp)
    have o42_ := o32_.below hb36_ (by first | omega | (simp; omega) | simp)
    have o43_ := o33_.below hb36_ (by first | omega | (simp; omega) | simp)
    have o44_ := ho29_.below hb36_ (by first | omega | (simp; omega) | simp)
    have z45_ := hb36_.size
    have B46_ := B35_.trans (hb36_.mono (by first | omega | (simp; omega) | simp))
    clear hb36_
    go_wp2_with fail
    refine (implPaysOk_any A27_ c28_ ys A37_ c38_ zs _ _ _ o44_.ints (by first | omega | (simp; omega) | simp) (by omega) _ _ ho39_.ints (by first | omega | (simp; omega) | simp) (by omega)).mono ?_
    rintro e w47 ⟨he, hb47_⟩
    rw [H18_.out] at he
    subst he
    have o48_ := o40_.below hb47_ (by first | omega | (simp; omega) | simp)
    have o49_ := o41_.below hb47_ (by first | omega | (simp; omega) | simp)
    have o50_ := o42_.below hb47_ (by first | omega | (simp; omega) | simp)
    have o51_ := o43_.below hb47_ (by first | omega | (simp; omega) | simp)
    have o52_ := o44_.below hb47_ (by first | omega | (simp; omega) | simp)
    have o53_ := ho39_.below hb47_ (by first | omega | (simp; omega) | simp)
    have z54_ := hb47_.size
    have B55_ := B46_.trans (hb47_.mono (by first | omega | (simp; omega) | simp))
    clear hb47_
    go_wp2_with fail
    refine (toIntS_any D d ys _ _ _ o48_ (by first | omega | (simp; omega) | simp) (by omega)).mono ?_
    rintro e w56 ⟨A57_, c58_, rfl, ho59_, hb56_⟩
    have o60_ := o48_.below hb56_ (by first | omega | (simp; omega) | simp)
    have o61_ := o49_.below hb56_ (by first | omega | (simp; omega) | simp)
    have o62_ := o50_.below hb56_ (by first | omega | (simp; omega) | simp)
    have o63_ := o51_.below hb56_ (by first | omega | (simp; omega) | simp)
    have o64_ := o52_.below hb56_ (by first | omega | (simp; omega) | simp)
    have o65_ := o53_.below hb56_ (by first | omega | (simp; omega) | simp)
    have z66_ := hb56_.size
    have B67_ := B55_.trans (hb56_.mono (by first | omega | (simp; omega) | simp))
    clear hb56_
    go_wp2_with fail
    refine (eqIntS_same A27_ A57_ c28_ c58_ ys _ _ _ _ _ o64_.ints ho59_.ints (by omega)).mono ?_
    rintro e w68 ⟨rfl, hb68_⟩
    have o69_ := o60_.below hb68_ (by first | omega | (simp; omega) | simp)
    have o70_ := o61_.below hb68_ (by first | omega | (simp; omega) | simp)
    have o71_ := o62_.below hb68_ (by first | omega | (simp; omega) | simp)
    have o72_ := o63_.below hb68_ (by first | omega | (simp; omega) | simp)
    have o73_ := o64_.below hb68_ (by first | omega | (simp; omega) | simp)
    have o74_ := o65_.below hb68_ (by first | omega | (simp; omega) | simp)
    have o75_ := ho59_.below hb68_ (by first | omega | (simp; omega) | simp)
    have z76_ := hb68_.size
    have B77_ := B67_.trans (hb68_.mono (by first | omega | (simp; omega) | simp))
    clear hb68_
    go_wp2_with fail
    refine (toIntS_any F f zs _ _ _ o70_ (by first | omega | (simp; omega) | simp) (by omega)).mono ?_
    rintro e w78 ⟨A79_, c80_, rfl, ho81_, hb78_⟩
    have o82_ := o69_.below hb78_ (by first | omega | (simp; omega) | simp)
    have o83_ := o70_.below hb78_ (by first | omega | (simp; omega) | simp)
    have o84_ := o71_.below hb78_ (by first | omega | (simp; omega) | simp)
    have o85_ := o72_.below hb78_ (by first | omega | (simp; omega) | simp)
    have o86_ := o73_.below hb78_ (by first | omega | (simp; omega) | simp)
    have o87_ := o74_.below hb78_ (by first | omega | (simp; omega) | simp)
    have o88_ := o75_.below hb78_ (by first | omega | (simp; omega) | simp)
    have z89_ := hb78_.size
    have B90_ := B77_.trans (hb78_.mono (by first | omega | (simp; omega) | simp))
    clear hb78_
    go_wp2_with fail
    refine (eqIntS_same A37_ A79_ c38_ c80_ zs _ _ _ _ _ o87_.ints ho81_.ints (by omega)).mono ?_
    rintro e w91 ⟨rfl, hb91_⟩
    have o92_ := o82_.below hb91_ (by first | omega | (simp; omega) | simp)
    have o93_ := o83_.below hb91_ (by first | omega | (simp; omega) | simp)
    have o94_ := o84_.below hb91_ (by first | omega | (simp; omega) | simp)
    have o95_ := o85_.below hb91_ (by first | omega | (simp; omega) | simp)
    have o96_ := o86_.below hb91_ (by first | omega | (simp; omega) | simp)
    have o97_ := o87_.below hb91_ (by first | omega | (simp; omega) | simp)
    have o98_ := o88_.below hb91_ (by first | omega | (simp; omega) | simp)
    have o99_ := ho81_.below hb91_ (by first | omega | (simp; omega) | simp)
    have z100_ := hb91_.size
    have B101_ := B90_.trans (hb91_.mono (by first | omega | (simp; omega) | simp))
    clear hb91_
    go_wp2
    go_ret
    exact ⟨ret_bool rfl, B101_⟩
  · have H18_ : Hid (payB ys zs = false) := by show _ = _; simpa using h18_
    clear h18_
    go_wp2_with fail
    refine (specPaysOk_any A2_ c3_ ys A10_ c11_ zs _ _ _ o15_.ints (by first | omega | (simp; omega) | simp) (by omega) _ _ ho12_.ints (by first | omega | (simp; omega) | simp) (by omega)).mono ?_
    rintro e w19 ⟨he, hb19_⟩
    rw [H18_.out] at he
    subst he
    have o20_ := o13_.below hb19_ (by first | omega | (simp; omega) | simp)
    have o21_ := o14_.below hb19_ (by first | omega | (simp; omega) | simp)
    have o22_ := o15_.below hb19_ (by first | omega | (simp; omega) | simp)
    have o23_ := ho12_.below hb19_ (by first | omega | (simp; omega) | simp)
    have z24_ := hb19_.size
    have B25_ := B17_.trans (hb19_.mono (by first | omega | (simp; omega) | simp))
    clear hb19_
    go_wp2_with fail
    refine (toIntS_any D d ys _ _ _ o20_ (by first | omega | (simp; omega) | simp) (by omega)).mono ?_
    rintro e w26 ⟨A27_, c28_, rfl, ho29_, hb26_⟩
    have o30_ := o20_.below hb26_ (by first | omega | (simp; omega) | simp)
    have o31_ := o21_.below hb26_ (by first | omega | (simp; omega) | simp)
    have o32_ := o22_.below hb26_ (by first | omega | (simp; omega) | simp)
    have o33_ := o23_.below hb26_ (by first | omega | (simp; omega) | simp)
    have z34_ := hb26_.size
    have B35_ := B25_.trans (hb26_.mono (by first | omega | (simp; omega) | simp))
    clear hb26_
    go_wp2_with fail
    refine (toIntS_any F f zs _ _ _ o31_ (by first | omega | (simp; omega) | simp) (by omega)).mono ?_
    rintro e w36 ⟨A37_, c38_, rfl, ho39_, hb36_⟩
    have o40_ := o30_.below hb36_ (by first | omega | (simp; omega) | simp)
    have o41_ := o31_.below hb36_ (by first | omega | (simp; omega) | simp)
    have o42_ := o32_.below hb36_ (by first | omega | (simp; omega) | simp)
    have o43_ := o33_.below hb36_ (by first | omega | (simp; omega) | simp)
    have o44_ := ho29_.below hb36_ (by first | omega | (simp; omega) | simp)
    have z45_ := hb36_.size
    have B46_ := B35_.trans (hb36_.mono (by first | omega | (simp; omega) | simp))
    clear hb36_
    go_wp2_with fail
    refine (implPaysOk_any A27_ c28_ ys A37_ c38_ zs _ _ _ o44_.ints (by first | omega | (simp; omega) | simp) (by omega) _ _ ho39_.ints (by first | omega | (simp; omega) | simp) (by omega)).mono ?_
    rintro e w47 ⟨he, hb47_⟩
    rw [H18_.out] at he
    subst he
    have o48_ := o40_.below hb47_ (by first | omega | (simp; omega) | simp)
    have o49_ := o41_.below hb47_ (by first | omega | (simp; omega) | simp)
    have o50_ := o42_.below hb47_ (by first | omega | (simp; omega) | simp)
    have o51_ := o43_.below hb47_ (by first | omega | (simp; omega) | simp)
    have o52_ := o44_.below hb47_ (by first | omega | (simp; omega) | simp)
    have o53_ := ho39_.below hb47_ (by first | omega | (simp; omega) | simp)
    have z54_ := hb47_.size
    have B55_ := B46_.trans (hb47_.mono (by first | omega | (simp; omega) | simp))
    clear hb47_
    go_wp2_with fail
    refine (toIntS_any D d ys _ _ _ o48_ (by first | omega | (simp; omega) | simp) (by omega)).mono ?_
    rintro e w56 ⟨A57_, c58_, rfl, ho59_, hb56_⟩
    have o60_ := o48_.below hb56_ (by first | omega | (simp; omega) | simp)
    have o61_ := o49_.below hb56_ (by first | omega | (simp; omega) | simp)
    have o62_ := o50_.below hb56_ (by first | omega | (simp; omega) | simp)
    have o63_ := o51_.below hb56_ (by first | omega | (simp; omega) | simp)
    have o64_ := o52_.below hb56_ (by first | omega | (simp; omega) | simp)
    have o65_ := o53_.below hb56_ (by first | omega | (simp; omega) | simp)
    have z66_ := hb56_.size
    have B67_ := B55_.trans (hb56_.mono (by first | omega | (simp; omega) | simp))
    clear hb56_
    go_wp2_with fail
    refine (eqIntS_same A27_ A57_ c28_ c58_ ys _ _ _ _ _ o64_.ints ho59_.ints (by omega)).mono ?_
    rintro e w68 ⟨rfl, hb68_⟩
    have o69_ := o60_.below hb68_ (by first | omega | (simp; omega) | simp)
    have o70_ := o61_.below hb68_ (by first | omega | (simp; omega) | simp)
    have o71_ := o62_.below hb68_ (by first | omega | (simp; omega) | simp)
    have o72_ := o63_.below hb68_ (by first | omega | (simp; omega) | simp)
    have o73_ := o64_.below hb68_ (by first | omega | (simp; omega) | simp)
    have o74_ := o65_.below hb68_ (by first | omega | (simp; omega) | simp)
    have o75_ := ho59_.below hb68_ (by first | omega | (simp; omega) | simp)
    have z76_ := hb68_.size
    have B77_ := B67_.trans (hb68_.mono (by first | omega | (simp; omega) | simp))
    clear hb68_
    go_wp2_with fail
    refine (toIntS_any F f zs _ _ _ o70_ (by first | omega | (simp; omega) | simp) (by omega)).mono ?_
    rintro e w78 ⟨A79_, c80_, rfl, ho81_, hb78_⟩
    have o82_ := o69_.below hb78_ (by first | omega | (simp; omega) | simp)
    have o83_ := o70_.below hb78_ (by first | omega | (simp; omega) | simp)
    have o84_ := o71_.below hb78_ (by first | omega | (simp; omega) | simp)
    have o85_ := o72_.below hb78_ (by first | omega | (simp; omega) | simp)
    have o86_ := o73_.below hb78_ (by first | omega | (simp; omega) | simp)
    have o87_ := o74_.below hb78_ (by first | omega | (simp; omega) | simp)
    have o88_ := o75_.below hb78_ (by first | omega | (simp; omega) | simp)
    have z89_ := hb78_.size
    have B90_ := B77_.trans (hb78_.mono (by first | omega | (simp; omega) | simp))
    clear hb78_
    go_wp2_with fail
    refine (eqIntS_same A37_ A79_ c38_ c80_ zs _ _ _ _ _ o87_.ints ho81_.ints (by omega)).mono ?_
    rintro e w91 ⟨rfl, hb91_⟩
    have o92_ := o82_.below hb91_ (by first | omega | (simp; omega) | simp)
    have o93_ := o83_.below hb91_ (by first | omega | (simp; omega) | simp)
    have o94_ := o84_.below hb91_ (by first | omega | (simp; omega) | simp)
    have o95_ := o85_.below hb91_ (by first | omega | (simp; omega) | simp)
    have o96_ := o86_.below hb91_ (by first | omega | (simp; omega) | simp)
    have o97_ := o87_.below hb91_ (by first | omega | (simp; omega) | simp)
    have o98_ := o88_.below hb91_ (by first | omega | (simp; omega) | simp)
    have o99_ := ho81_.below hb91_ (by first | omega | (simp; omega) | simp)
    have z100_ := hb91_.size
    have B101_ := B90_.trans (hb91_.mono (by first | omega | (simp; omega) | simp))
    clear hb91_
    go_wp2
    go_ret
    exact ⟨ret_bool rfl, B101_⟩

set_option maxRecDepth 10000 in
set_option maxHeartbeats 400000 in
theorem exPaysOk_big0 (D : Option Addr) (d : Nat) (ys : List Int) (F : Option Addr) (f : Nat) (zs : List Int) (w : World)  (hl' : ¬ ys.length ≤ 1048576) (hm' : ys.length ≤ 9223372036854775807) :
    Calls Try.prog 13 #[.slice D ys.length d, .slice F zs.length f] w fun e w' => e = .returned (.bool true) ∧ Below w.heap.size w w' := by
  go_enter Try.func13, Try.ntmps13
  go_wp2
  go_ret
  exact ⟨rfl, Below.refl _ _⟩

set_option maxRecDepth 10000 in
set_option maxHeartbeats 400000 in
theorem exPaysOk_big1 (D : Option Addr) (d : Nat) (ys : List Int) (F : Option Addr) (f : Nat) (zs : List Int) (w : World) (hl' : ys.length ≤ 1048576) (hl'' : ¬ zs.length ≤ 1048576) (hm'' : zs.length ≤ 9223372036854775807) :
    Calls Try.prog 13 #[.slice D ys.length d, .slice F zs.length f] w fun e w' => e = .returned (.bool true) ∧ Below w.heap.size w w' := by
  go_enter Try.func13, Try.ntmps13
  go_wp2
  go_ret
  exact ⟨rfl, Below.refl _ _⟩

theorem exPaysOk_all (D : Option Addr) (d : Nat) (ys : List Int) (F : Option Addr) (f : Nat) (zs : List Int) (w : World) (h' : Ints w 0 w.heap.size D ys) (h'' : Ints w 0 w.heap.size F zs) (hm' : ys.length ≤ 9223372036854775807) (hm'' : zs.length ≤ 9223372036854775807) :
    Calls Try.prog 13 #[.slice D ys.length d, .slice F zs.length f] w fun e w' => e = .returned (.bool true) ∧ Below w.heap.size w w' := by
  by_cases hl' : ys.length ≤ 1048576
  · by_cases hl'' : zs.length ≤ 1048576
    · exact exPaysOk_walk D d ys F f zs w h' h'' hl' hl''
    · exact exPaysOk_big1 D d ys F f zs w hl' hl'' hm''
  · exact exPaysOk_big0 D d ys F f zs w  hl' hm'

end Go.Proofs.Ytadphfiikkfjaaa
