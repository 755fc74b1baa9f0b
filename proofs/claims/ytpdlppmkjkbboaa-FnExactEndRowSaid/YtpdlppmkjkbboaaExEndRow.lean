/-
  The exact law of EndRow returns true, and writes nothing that was there. No condition.
-/
import Derived.Test.YtpdlppmkjkbboaaRowsZ
import Derived.Test.YtpdlppmkjkbboaaFx
import Derived.Test.YtpdlppmkjkbboaaGame9I
import Derived.Deep.RegionHeld3
import Derived.Deep.Cut
namespace Go.Proofs.Ytpdlppmkjkbboaa
open Go.RowKit

set_option maxRecDepth 10000 in
set_option maxHeartbeats 2000000 in
theorem exEndRow_all (A : Option Addr) (c : Nat) (B : List (List Int)) (w : World) (h : Grid w 0 w.heap.size A B) (hm : B.length ≤ 9223372036854775807) (hr : ∀ k, (B.getD k []).length ≤ 9223372036854775807) :
    Calls Try.prog 15 #[.slice A B.length c] w fun e w' => e = .returned (.bool true) ∧ Below w.heap.size w w' := by
  have Htrue : Hid True := trivial
  have HRR := Lib.hid hr
  clear hr
  go_enter Try.func15, Try.ntmps15
  go_wp2_with fail
  refine (szIntSS_any A c B _ _ _ h hm HRR.out).mono ?_
  rintro e w' ⟨he, rfl⟩
  obtain ⟨v1_, hv1_⟩ : ∃ v, szR B = v := ⟨_, rfl⟩
  rw [hv1_] at he
  subst he
  have Hv1_ := Lib.hid hv1_
  clear hv1_
  by_cases h2_ : v1_ < 0
  · have h2_d : decide (v1_ < 0) = true := decide_eq_true h2_
    go_wp2
    go_ret
    exact ⟨ret_bool (by first | exact rfl | exact (decide_eq_true (by omega)).trans rfl), (Below.refl w.heap.size w)⟩
  · have h2_d : decide (v1_ < 0) = false := decide_eq_false h2_
    have HTOT : Hid (tot B ≤ 1048576) := szR_yes (by rw [Hv1_.out]; exact h2_)
    have HTT := Lib.hid (tot_rows HTOT.out)
    have hl9 : B.length ≤ 1048576 := HTT.out.1
    go_wp2_with fail
    refine (toIntSS_any A c B _ _ _ h (by first | omega | (simp; omega) | simp) hl9 HTT.out.2).mono ?_
    rintro e w3 ⟨g4_, rfl, hg7_, L5_, hb6_⟩
    have o8_ := h.below hb6_ (by first | omega | (simp; omega) | simp)
    have z9_ := hb6_.size
    have B10_ := (Below.refl w.heap.size w).trans (hb6_.mono (by first | omega | (simp; omega) | simp))
    clear hb6_
    go_wp2_with fail
    refine (specEndRow_any (some ⟨g4_, 0, none⟩) B.length B _ _ _ (L5_.grid rfl) (by first | omega | (simp; omega) | simp) (by omega)).mono ?_
    rintro e w11 ⟨A12_, c13_, rfl, ho14_, hb11_⟩
    have o15_ := o8_.below hb11_ (by first | omega | (simp; omega) | simp)
    have o16_ := L5_.below hb11_ (by first | omega | (simp; omega) | simp)
    have z17_ := hb11_.size
    have B18_ := B10_.trans (hb11_.mono (by first | omega | (simp; omega) | simp))
    clear hb11_
    go_wp2_with fail
    refine (toIntSS_any A c B _ _ _ o15_ (by first | omega | (simp; omega) | simp) hl9 HTT.out.2).mono ?_
    rintro e w19 ⟨g20_, rfl, hg23_, L21_, hb22_⟩
    have o24_ := o15_.below hb22_ (by first | omega | (simp; omega) | simp)
    have o25_ := o16_.below hb22_ (by first | omega | (simp; omega) | simp)
    have o26_ := ho14_.below hb22_ (by first | omega | (simp; omega) | simp)
    have z27_ := hb22_.size
    have B28_ := B18_.trans (hb22_.mono (by first | omega | (simp; omega) | simp))
    clear hb22_
    go_wp2_with fail
    refine (implEndRow_any (some ⟨g20_, 0, none⟩) B.length B _ _ _ (L21_.grid rfl) (by first | omega | (simp; omega) | simp) (by omega)).mono ?_
    rintro e w29 ⟨A30_, c31_, rfl, ho32_, hb29_⟩
    have o33_ := o24_.below hb29_ (by first | omega | (simp; omega) | simp)
    have o34_ := o25_.below hb29_ (by first | omega | (simp; omega) | simp)
    have o35_ := o26_.below hb29_ (by first | omega | (simp; omega) | simp)
    have o36_ := L21_.below hb29_ (by first | omega | (simp; omega) | simp)
    have z37_ := hb29_.size
    have B38_ := B28_.trans (hb29_.mono (by first | omega | (simp; omega) | simp))
    clear hb29_
    go_wp2_with fail
    refine (eqIntS_same A30_ A12_ c31_ c13_ (endRow B) _ _ _ _ _ ho32_.ints o35_.ints (by have e := endRow_few4 B; omega)).mono ?_
    rintro e w39 ⟨rfl, hb39_⟩
    have o40_ := o33_.below hb39_ (by first | omega | (simp; omega) | simp)
    have o41_ := o34_.below hb39_ (by first | omega | (simp; omega) | simp)
    have o42_ := o35_.below hb39_ (by first | omega | (simp; omega) | simp)
    have o43_ := o36_.below hb39_ (by first | omega | (simp; omega) | simp)
    have o44_ := ho32_.below hb39_ (by first | omega | (simp; omega) | simp)
    have z45_ := hb39_.size
    have B46_ := B38_.trans (hb39_.mono (by first | omega | (simp; omega) | simp))
    clear hb39_
    go_wp2_with fail
    refine (toIntSS_any A c B _ _ _ o40_ (by first | omega | (simp; omega) | simp) hl9 HTT.out.2).mono ?_
    rintro e w47 ⟨g48_, rfl, hg51_, L49_, hb50_⟩
    have o52_ := o40_.below hb50_ (by first | omega | (simp; omega) | simp)
    have o53_ := o41_.below hb50_ (by first | omega | (simp; omega) | simp)
    have o54_ := o42_.below hb50_ (by first | omega | (simp; omega) | simp)
    have o55_ := o43_.below hb50_ (by first | omega | (simp; omega) | simp)
    have o56_ := o44_.below hb50_ (by first | omega | (simp; omega) | simp)
    have z57_ := hb50_.size
    have B58_ := B46_.trans (hb50_.mono (by first | omega | (simp; omega) | simp))
    clear hb50_
    go_wp2_with fail
    refine (eqIntSS_same (some ⟨g20_, 0, none⟩) (some ⟨g48_, 0, none⟩) B.length B.length B _ _ _ _ _ (o55_.grid rfl) (by first | omega | (simp; omega) | simp) (L49_.grid rfl) (by first | omega | (simp; omega) | simp) hl9 HTT.out.2).mono ?_
    rintro e w59 ⟨rfl, hb59_⟩
    have o60_ := o52_.below hb59_ (by first | omega | (simp; omega) | simp)
    have o61_ := o53_.below hb59_ (by first | omega | (simp; omega) | simp)
    have o62_ := o54_.below hb59_ (by first | omega | (simp; omega) | simp)
    have o63_ := o55_.below hb59_ (by first | omega | (simp; omega) | simp)
    have o64_ := o56_.below hb59_ (by first | omega | (simp; omega) | simp)
    have o65_ := L49_.below hb59_ (by first | omega | (simp; omega) | simp)
    have z66_ := hb59_.size
    have B67_ := B58_.trans (hb59_.mono (by first | omega | (simp; omega) | simp))
    clear hb59_
    go_wp2_with fail
    refine (markIntSS_any g20_ w19.heap.size B 1 _ o63_ HTOT.out (by omega) (by omega)).mono ?_
    rintro e w68 ⟨r69_, rfl, hr70_, hC71_⟩
    have o72_ := o60_.chg hC71_ (by first | omega | (simp; omega) | simp) (by omega)
    have o73_ := o61_.chg hC71_ (by omega)
    have o74_ := o62_.chg hC71_ (by first | omega | (simp; omega) | simp) (by omega)
    have o75_ := o64_.chg hC71_ (by first | omega | (simp; omega) | simp) (by omega)
    have o76_ := o65_.chg hC71_ (by omega)
    have z77_ := hC71_.size
    have B78_ := B67_.trans (hC71_.below (by omega) (by first | omega | (simp; omega) | simp))
    clear hC71_
    have h79_ : ¬ (r69_ < 0) := by omega
    have h79_d : decide (r69_ < 0) = false := decide_eq_false h79_
    go_wp2_with fail
    refine (eqIntS_same A30_ A12_ c31_ c13_ (endRow B) _ _ _ _ _ o75_.ints o74_.ints (by have e := endRow_few4 B; omega)).mono ?_
    rintro e w80 ⟨rfl, hb80_⟩
    have o81_ := o72_.below hb80_ (by first | omega | (simp; omega) | simp)
    have o82_ := o73_.below hb80_ (by first | omega | (simp; omega) | simp)
    have o83_ := o74_.below hb80_ (by first | omega | (simp; omega) | simp)
    have o84_ := o75_.below hb80_ (by first | omega | (simp; omega) | simp)
    have o85_ := o76_.below hb80_ (by first | omega | (simp; omega) | simp)
    have z86_ := hb80_.size
    have B87_ := B78_.trans (hb80_.mono (by first | omega | (simp; omega) | simp))
    clear hb80_
    go_wp2_with fail
    refine (markIntS_any A30_ c31_ (endRow B) 1 _ _ _ o84_ (by have e := endRow_few4 B; omega) (by omega) (by omega)).mono ?_
    rintro e w88 ⟨rfl, om89_, hC90_⟩
    have o91_ := o81_.chg hC90_ (by first | omega | (simp; omega) | simp) (by omega)
    have o92_ := o82_.chg hC90_ (by omega)
    have o93_ := o83_.chg hC90_ (by first | omega | (simp; omega) | simp) (by omega)
    have o94_ := o85_.chg hC90_ (by omega)
    have z95_ := hC90_.size
    have B96_ := B87_.trans (hC90_.below (by omega) (by first | omega | (simp; omega) | simp))
    clear hC90_
    go_wp2_with fail
    refine (heldIntS_below A30_ c31_ (endRow B).length 1 _ _ _ om89_.ints (by have e := endRow_few4 B; omega) (by omega) (by omega)).mono ?_
    rintro e w97 ⟨rfl, hb97_⟩
    have o98_ := o91_.below hb97_ (by first | omega | (simp; omega) | simp)
    have o99_ := o92_.below hb97_ (by first | omega | (simp; omega) | simp)
    have o100_ := o93_.below hb97_ (by first | omega | (simp; omega) | simp)
    have o101_ := om89_.below hb97_ (by first | omega | (simp; omega) | simp)
    have o102_ := o94_.below hb97_ (by first | omega | (simp; omega) | simp)
    have z103_ := hb97_.size
    have B104_ := B96_.trans (hb97_.mono (by first | omega | (simp; omega) | simp))
    clear hb97_
    have h105_ : ¬ ((1 + ((endRow B).length : Int)) < 0) := by omega
    have h105_d : decide ((1 + ((endRow B).length : Int)) < 0) = false := decide_eq_false h105_
    go_wp2_with fail
    refine (toIntSS_any A c B _ _ _ o98_ (by first | omega | (simp; omega) | simp) hl9 HTT.out.2).mono ?_
    rintro e w106 ⟨g107_, rfl, hg110_, L108_, hb109_⟩
    have o111_ := o98_.below hb109_ (by first | omega | (simp; omega) | simp)
    have o112_ := o99_.below hb109_ (by first | omega | (simp; omega) | simp)
    have o113_ := o100_.below hb109_ (by first | omega | (simp; omega) | simp)
    have o114_ := o101_.below hb109_ (by first | omega | (simp; omega) | simp)
    have o115_ := o102_.below hb109_ (by first | omega | (simp; omega) | simp)
    have z116_ := hb109_.size
    have B117_ := B104_.trans (hb109_.mono (by first | omega | (simp; omega) | simp))
    clear hb109_
    go_wp2_with fail
    refine (implEndRow_any (some ⟨g107_, 0, none⟩) B.length B _ _ _ (L108_.grid rfl) (by first | omega | (simp; omega) | simp) (by omega)).mono ?_
    rintro e w118 ⟨A119_, c120_, rfl, ho121_, hb118_⟩
    have o122_ := o111_.below hb118_ (by first | omega | (simp; omega) | simp)
    have o123_ := o112_.below hb118_ (by first | omega | (simp; omega) | simp)
    have o124_ := o113_.below hb118_ (by first | omega | (simp; omega) | simp)
    have o125_ := o114_.below hb118_ (by first | omega | (simp; omega) | simp)
    have o126_ := o115_.below hb118_ (by first | omega | (simp; omega) | simp)
    have o127_ := L108_.below hb118_ (by first | omega | (simp; omega) | simp)
    have z128_ := hb118_.size
    have B129_ := B117_.trans (hb118_.mono (by first | omega | (simp; omega) | simp))
    clear hb118_
    go_wp2_with fail
    refine (eqIntS_same A119_ A12_ c120_ c13_ (endRow B) _ _ _ _ _ ho121_.ints o124_.ints (by have e := endRow_few4 B; omega)).mono ?_
    rintro e w130 ⟨rfl, hb130_⟩
    have o131_ := o122_.below hb130_ (by first | omega | (simp; omega) | simp)
    have o132_ := o123_.below hb130_ (by first | omega | (simp; omega) | simp)
    have o133_ := o124_.below hb130_ (by first | omega | (simp; omega) | simp)
    have o134_ := o125_.below hb130_ (by first | omega | (simp; omega) | simp)
    have o135_ := o126_.below hb130_ (by first | omega | (simp; omega) | simp)
    have o136_ := o127_.below hb130_ (by first | omega | (simp; omega) | simp)
    have o137_ := ho121_.below hb130_ (by first | omega | (simp; omega) | simp)
    have z138_ := hb130_.size
    have B139_ := B129_.trans (hb130_.mono (by first | omega | (simp; omega) | simp))
    clear hb130_
    go_wp2_with fail
    refine (heldIntS_below A30_ c31_ (endRow B).length 1 _ _ _ o134_.ints (by have e := endRow_few4 B; omega) (by omega) (by omega)).mono ?_
    rintro e w140 ⟨rfl, hb140_⟩
    have o141_ := o131_.below hb140_ (by first | omega | (simp; omega) | simp)
    have o142_ := o132_.below hb140_ (by first | omega | (simp; omega) | simp)
    have o143_ := o133_.below hb140_ (by first | omega | (simp; omega) | simp)
    have o144_ := o134_.below hb140_ (by first | omega | (simp; omega) | simp)
    have o145_ := o135_.below hb140_ (by first | omega | (simp; omega) | simp)
    have o146_ := o136_.below hb140_ (by first | omega | (simp; omega) | simp)
    have o147_ := o137_.below hb140_ (by first | omega | (simp; omega) | simp)
    have z148_ := hb140_.size
    have B149_ := B139_.trans (hb140_.mono (by first | omega | (simp; omega) | simp))
    clear hb140_
    have h150_ : ¬ ((1 + ((endRow B).length : Int)) < 0) := by omega
    have h150_d : decide ((1 + ((endRow B).length : Int)) < 0) = false := decide_eq_false h150_
    go_wp2
    go_ret
    exact ⟨ret_bool (by first | exact rfl | exact (decide_eq_false (by omega)).trans rfl), B149_⟩

end Go.Proofs.Ytpdlppmkjkbboaa
