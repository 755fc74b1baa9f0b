/-
  The exact law of RunwayOrders returns true, and writes nothing that was there. No condition.
-/
import Derived.Test.YtbegdcnljafloaaExactLeaf
import Derived.Test.YtbegdcnljafloaaFx
import Derived.Test.YtbegdcnljafloaaSpec10
import Derived.Test.YtbegdcnljafloaaGame10I
import Derived.Deep.RegionHeld3
import Derived.Deep.Cut
namespace Go.Proofs.Ytbegdcnljafloaa
open Go.RowKit

set_option maxRecDepth 10000 in
set_option maxHeartbeats 2000000 in
theorem exRunwayOrders_walk (D : Option Addr) (d : Nat) (ys : List Int) (w : World) (h' : Ints w 0 w.heap.size D ys) (hl' : ys.length ≤ 1048576) :
    Calls Try.prog 8 #[.slice D ys.length d] w fun e w' => e = .returned (.bool true) ∧ Below w.heap.size w w' := by
  go_enter Try.func8, Try.ntmps8
  have Htrue : Hid True := trivial
  go_wp2_with fail
  refine (toIntS_any D d ys _ _ _ h' (by first | omega | (simp; omega) | simp) (by omega)).mono ?_
  rintro e w1 ⟨A2_, c3_, rfl, ho4_, hb1_⟩
  have o5_ := h'.below hb1_ (by first | omega | (simp; omega) | simp)
  have z6_ := hb1_.size
  have B7_ := (Below.refl w.heap.size w).trans (hb1_.mono (by first | omega | (simp; omega) | simp))
  clear hb1_
  go_wp2_with fail
  refine (specRunwayOrders_any A2_ c3_ ys _ _ _ ho4_.ints (by first | omega | (simp; omega) | simp) (by omega)).mono ?_
  rintro e w8 ⟨A9_, c10_, rfl, ho11_, hb8_⟩
  have o12_ := o5_.below hb8_ (by first | omega | (simp; omega) | simp)
  have o13_ := ho4_.below hb8_ (by first | omega | (simp; omega) | simp)
  have z14_ := hb8_.size
  have B15_ := B7_.trans (hb8_.mono (by first | omega | (simp; omega) | simp))
  clear hb8_
  go_wp2_with fail
  refine (toIntS_any D d ys _ _ _ o12_ (by first | omega | (simp; omega) | simp) (by omega)).mono ?_
  rintro e w16 ⟨A17_, c18_, rfl, ho19_, hb16_⟩
  have o20_ := o12_.below hb16_ (by first | omega | (simp; omega) | simp)
  have o21_ := o13_.below hb16_ (by first | omega | (simp; omega) | simp)
  have o22_ := ho11_.below hb16_ (by first | omega | (simp; omega) | simp)
  have z23_ := hb16_.size
  have B24_ := B15_.trans (hb16_.mono (by first | omega | (simp; omega) | simp))
  clear hb16_
  go_wp2_with fail
  refine (implRunwayOrders_any A17_ c18_ ys _ _ _ ho19_.ints (by first | omega | (simp; omega) | simp) (by omega)).mono ?_
  rintro e w25 ⟨A26_, c27_, rfl, ho28_, hb25_⟩
  have o29_ := o20_.below hb25_ (by first | omega | (simp; omega) | simp)
  have o30_ := o21_.below hb25_ (by first | omega | (simp; omega) | simp)
  have o31_ := o22_.below hb25_ (by first | omega | (simp; omega) | simp)
  have o32_ := ho19_.below hb25_ (by first | omega | (simp; omega) | simp)
  have z33_ := hb25_.size
  have B34_ := B24_.trans (hb25_.mono (by first | omega | (simp; omega) | simp))
  clear hb25_
  go_wp2_with fail
  refine (eqIntS_same A26_ A9_ c27_ c10_ (sharesRow ys) _ _ _ _ _ ho28_.ints o31_.ints (by have e := sharesRow_len4 ys; omega)).mono ?_
  rintro e w35 ⟨rfl, hb35_⟩
  have o36_ := o29_.below hb35_ (by first | omega | (simp; omega) | simp)
  have o37_ := o30_.below hb35_ (by first | omega | (simp; omega) | simp)
  have o38_ := o31_.below hb35_ (by first | omega | (simp; omega) | simp)
  have o39_ := o32_.below hb35_ (by first | omega | (simp; omega) | simp)
  have o40_ := ho28_.below hb35_ (by first | omega | (simp; omega) | simp)
  have z41_ := hb35_.size
  have B42_ := B34_.trans (hb35_.mono (by first | omega | (simp; omega) | simp))
  clear hb35_
  go_wp2_with fail
  refine (toIntS_any D d ys _ _ _ o36_ (by first | omega | (simp; omega) | simp) (by omega)).mono ?_
  rintro e w43 ⟨A44_, c45_, rfl, ho46_, hb43_⟩
  have o47_ := o36_.below hb43_ (by first | omega | (simp; omega) | simp)
  have o48_ := o37_.below hb43_ (by first | omega | (simp; omega) | simp)
  have o49_ := o38_.below hb43_ (by first | omega | (simp; omega) | simp)
  have o50_ := o39_.below hb43_ (by first | omega | (simp; omega) | simp)
  have o51_ := o40_.below hb43_ (by first | omega | (simp; omega) | simp)
  have z52_ := hb43_.size
  have B53_ := B42_.trans (hb43_.mono (by first | omega | (simp; omega) | simp))
  clear hb43_
  go_wp2_with fail
  refine (eqIntS_same A17_ A44_ c18_ c45_ ys _ _ _ _ _ o50_.ints ho46_.ints (by omega)).mono ?_
  rintro e w54 ⟨rfl, hb54_⟩
  have o55_ := o47_.below hb54_ (by first | omega | (simp; omega) | simp)
  have o56_ := o48_.below hb54_ (by first | omega | (simp; omega) | simp)
  have o57_ := o49_.below hb54_ (by first | omega | (simp; omega) | simp)
  have o58_ := o50_.below hb54_ (by first | omega | (simp; omega) | simp)
  have o59_ := o51_.below hb54_ (by first | omega | (simp; omega) | simp)
  have o60_ := ho46_.below hb54_ (by first | omega | (simp; omega) | simp)
  have z61_ := hb54_.size
  have B62_ := B53_.trans (hb54_.mono (by first | omega | (simp; omega) | simp))
  clear hb54_
  go_wp2_with fail
  refine (markIntS_any A17_ c18_ ys 1 _ _ _ o58_ (by omega) (by omega) (by omega)).mono ?_
  rintro e w63 ⟨rfl, om64_, hC65_⟩
  have o66_ := o55_.chg hC65_ (by first | omega | (simp; omega) | simp) (by omega)
  have o67_ := o56_.chg hC65_ (by first | omega | (simp; omega) | simp) (by omega)
  have o68_ := o57_.chg hC65_ (by first | omega | (simp; omega) | simp) (by omega)
  have o69_ := o59_.chg hC65_ (by first | omega | (simp; omega) | simp) (by omega)
  have o70_ := o60_.chg hC65_ (by first | omega | (simp; omega) | simp) (by omega)
  have z71_ := hC65_.size
  have B72_ := B62_.trans (hC65_.below (by omega) (by first | omega | (simp; omega) | simp))
  clear hC65_
  have h73_ : ¬ ((1 + (ys.length : Int)) < 0) := by omega
  have h73_d : decide ((1 + (ys.length : Int)) < 0) = false := decide_eq_false h73_
  go_wp2_with fail
  refine (eqIntS_same A26_ A9_ c27_ c10_ (sharesRow ys) _ _ _ _ _ o69_.ints o68_.ints (by have e := sharesRow_len4 ys; omega)).mono ?_
  rintro e w74 ⟨rfl, hb74_⟩
  have o75_ := o66_.below hb74_ (by first | omega | (simp; omega) | simp)
  have o76_ := o67_.below hb74_ (by first | omega | (simp; omega) | simp)
  have o77_ := o68_.below hb74_ (by first | omega | (simp; omega) | simp)
  have o78_ := om64_.below hb74_ (by first | omega | (simp; omega) | simp)
  have o79_ := o69_.below hb74_ (by first | omega | (simp; omega) | simp)
  have o80_ := o70_.below hb74_ (by first | omega | (simp; omega) | simp)
  have z81_ := hb74_.size
  have B82_ := B72_.trans (hb74_.mono (by first | omega | (simp; omega) | simp))
  clear hb74_
  go_wp2_with fail
  refine (markIntS_any A26_ c27_ (sharesRow ys) 1 _ _ _ o79_ (by have e := sharesRow_len4 ys; omega) (by omega) (by omega)).mono ?_
  rintro e w83 ⟨rfl, om84_, hC85_⟩
  have o86_ := o75_.chg hC85_ (by first | omega | (simp; omega) | simp) (by omega)
  have o87_ := o76_.chg hC85_ (by first | omega | (simp; omega) | simp) (by omega)
  have o88_ := o77_.chg hC85_ (by first | omega | (simp; omega) | simp) (by omega)
  have o89_ := o78_.chg hC85_ (by first | omega | (simp; omega) | simp) (by omega)
  have o90_ := o80_.chg hC85_ (by first | omega | (simp; omega) | simp) (by omega)
  have z91_ := hC85_.size
  have B92_ := B82_.trans (hC85_.below (by omega) (by first | omega | (simp; omega) | simp))
  clear hC85_
  go_wp2_with fail
  refine (heldIntS_below A26_ c27_ (sharesRow ys).length 1 _ _ _ om84_.ints (by have e := sharesRow_len4 ys; omega) (by omega) (by omega)).mono ?_
  rintro e w93 ⟨rfl, hb93_⟩
  have o94_ := o86_.below hb93_ (by first | omega | (simp; omega) | simp)
  have o95_ := o87_.below hb93_ (by first | omega | (simp; omega) | simp)
  have o96_ := o88_.below hb93_ (by first | omega | (simp; omega) | simp)
  have o97_ := o89_.below hb93_ (by first | omega | (simp; omega) | simp)
  have o98_ := om84_.below hb93_ (by first | omega | (simp; omega) | simp)
  have o99_ := o90_.below hb93_ (by first | omega | (simp; omega) | simp)
  have z100_ := hb93_.size
  have B101_ := B92_.trans (hb93_.mono (by first | omega | (simp; omega) | simp))
  clear hb93_
  have h102_ : ¬ ((1 + ((sharesRow ys).length : Int)) < 0) := by omega
  have h102_d : decide ((1 + ((sharesRow ys).length : Int)) < 0) = false := decide_eq_false h102_
  go_wp2_with fail
  refine (toIntS_any D d ys _ _ _ o94_ (by first | omega | (simp; omega) | simp) (by omega)).mono ?_
  rintro e w103 ⟨A104_, c105_, rfl, ho106_, hb103_⟩
  have o107_ := o94_.below hb103_ (by first | omega | (simp; omega) | simp)
  have o108_ := o95_.below hb103_ (by first | omega | (simp; omega) | simp)
  have o109_ := o96_.below hb103_ (by first | omega | (simp; omega) | simp)
  have o110_ := o97_.below hb103_ (by first | omega | (simp; omega) | simp)
  have o111_ := o98_.below hb103_ (by first | omega | (simp; omega) | simp)
  have o112_ := o99_.below hb103_ (by first | omega | (simp; omega) | simp)
  have z113_ := hb103_.size
  have B114_ := B101_.trans (hb103_.mono (by first | omega | (simp; omega) | simp))
  clear hb103_
  go_wp2_with fail
  refine (implRunwayOrders_any A104_ c105_ ys _ _ _ ho106_.ints (by first | omega | (simp; omega) | simp) (by omega)).mono ?_
  rintro e w115 ⟨A116_, c117_, rfl, ho118_, hb115_⟩
  have o119_ := o107_.below hb115_ (by first | omega | (simp; omega) | simp)
  have o120_ := o108_.below hb115_ (by first | omega | (simp; omega) | simp)
  have o121_ := o109_.below hb115_ (by first | omega | (simp; omega) | simp)
  have o122_ := o110_.below hb115_ (by first | omega | (simp; omega) | simp)
  have o123_ := o111_.below hb115_ (by first | omega | (simp; omega) | simp)
  have o124_ := o112_.below hb115_ (by first | omega | (simp; omega) | simp)
  have o125_ := ho106_.below hb115_ (by first | omega | (simp; omega) | simp)
  have z126_ := hb115_.size
  have B127_ := B114_.trans (hb115_.mono (by first | omega | (simp; omega) | simp))
  clear hb115_
  go_wp2_with fail
  refine (eqIntS_same A116_ A9_ c117_ c10_ (sharesRow ys) _ _ _ _ _ ho118_.ints o121_.ints (by have e := sharesRow_len4 ys; omega)).mono ?_
  rintro e w128 ⟨rfl, hb128_⟩
  have o129_ := o119_.below hb128_ (by first | omega | (simp; omega) | simp)
  have o130_ := o120_.below hb128_ (by first | omega | (simp; omega) | simp)
  have o131_ := o121_.below hb128_ (by first | omega | (simp; omega) | simp)
  have o132_ := o122_.below hb128_ (by first | omega | (simp; omega) | simp)
  have o133_ := o123_.below hb128_ (by first | omega | (simp; omega) | simp)
  have o134_ := o124_.below hb128_ (by first | omega | (simp; omega) | simp)
  have o135_ := o125_.below hb128_ (by first | omega | (simp; omega) | simp)
  have o136_ := ho118_.below hb128_ (by first | omega | (simp; omega) | simp)
  have z137_ := hb128_.size
  have B138_ := B127_.trans (hb128_.mono (by first | omega | (simp; omega) | simp))
  clear hb128_
  go_wp2_with fail
  refine (heldIntS_below A26_ c27_ (sharesRow ys).length 1 _ _ _ o133_.ints (by have e := sharesRow_len4 ys; omega) (by omega) (by omega)).mono ?_
  rintro e w139 ⟨rfl, hb139_⟩
  have o140_ := o129_.below hb139_ (by first | omega | (simp; omega) | simp)
  have o141_ := o130_.below hb139_ (by first | omega | (simp; omega) | simp)
  have o142_ := o131_.below hb139_ (by first | omega | (simp; omega) | simp)
  have o143_ := o132_.below hb139_ (by first | omega | (simp; omega) | simp)
  have o144_ := o133_.below hb139_ (by first | omega | (simp; omega) | simp)
  have o145_ := o134_.below hb139_ (by first | omega | (simp; omega) | simp)
  have o146_ := o135_.below hb139_ (by first | omega | (simp; omega) | simp)
  have o147_ := o136_.below hb139_ (by first | omega | (simp; omega) | simp)
  have z148_ := hb139_.size
  have B149_ := B138_.trans (hb139_.mono (by first | omega | (simp; omega) | simp))
  clear hb139_
  have h150_ : ¬ ((1 + ((sharesRow ys).length : Int)) < 0) := by omega
  have h150_d : decide ((1 + ((sharesRow ys).length : Int)) < 0) = false := decide_eq_false h150_
  go_wp2
  go_ret
  exact ⟨ret_bool (by first | exact rfl | exact (decide_eq_false (by omega)).trans rfl), B149_⟩

set_option maxRecDepth 10000 in
set_option maxHeartbeats 400000 in
theorem exRunwayOrders_big0 (D : Option Addr) (d : Nat) (ys : List Int) (w : World)  (hl' : ¬ ys.length ≤ 1048576) (hm' : ys.length ≤ 9223372036854775807) :
    Calls Try.prog 8 #[.slice D ys.length d] w fun e w' => e = .returned (.bool true) ∧ Below w.heap.size w w' := by
  go_enter Try.func8, Try.ntmps8
  go_wp2
  go_ret
  exact ⟨rfl, Below.refl _ _⟩

theorem exRunwayOrders_all (D : Option Addr) (d : Nat) (ys : List Int) (w : World) (h' : Ints w 0 w.heap.size D ys) (hm' : ys.length ≤ 9223372036854775807) :
    Calls Try.prog 8 #[.slice D ys.length d] w fun e w' => e = .returned (.bool true) ∧ Below w.heap.size w w' := by
  by_cases hl' : ys.length ≤ 1048576
  · exact exRunwayOrders_walk D d ys w h' hl'
  · exact exRunwayOrders_big0 D d ys w  hl' hm'

end Go.Proofs.Ytbegdcnljafloaa
