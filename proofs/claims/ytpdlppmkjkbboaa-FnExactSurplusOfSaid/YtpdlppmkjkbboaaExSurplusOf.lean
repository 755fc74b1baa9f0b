/-
  The exact law of SurplusOf returns true, and writes nothing that was there. No condition.
-/
import Derived.Test.YtpdlppmkjkbboaaRowsZ
import Derived.Test.YtpdlppmkjkbboaaFx
import Derived.Test.YtpdlppmkjkbboaaGame9I
import Derived.Deep.RegionHeld3
import Derived.Deep.Cut
namespace Go.Proofs.Ytpdlppmkjkbboaa
open Go.RowKit

set_option maxRecDepth 10000 in
set_option maxHeartbeats 2000000 in
theorem exSurplusOf_all (A : Option Addr) (c : Nat) (B : List (List Int)) (w : World) (h : Grid w 0 w.heap.size A B) (hm : B.length ≤ 9223372036854775807) (hr : ∀ k, (B.getD k []).length ≤ 9223372036854775807) :
    Calls Try.prog 13 #[.slice A B.length c] w fun e w' => e = .returned (.bool true) ∧ Below w.heap.size w w' := by
  have Htrue : Hid True := trivial
  have HRR := Lib.hid hr
  clear hr
  go_enter Try.func13, Try.ntmps13
  go_wp2_with fail
  refine (szIntSS_any A c B _ _ _ h hm HRR.out).mono ?_
  rintro e w' ⟨he, rfl⟩
  obtain ⟨v1_, hv1_⟩ : ∃ v, szR B = v := ⟨_, rfl⟩
  rw [hv1_] at he
  subst he
  have Hv1_ := Lib.hid hv1_
  clear hv1_
  by_cases h2_ : v1_ < 0
  · have h2_d : decide (v1_ < 0) = true := decide_eq_true h2_
    go_wp2
    go_ret
    exact ⟨ret_bool (by first | exact rfl | exact (decide_eq_true (by omega)).trans rfl), (Below.refl w.heap.size w)⟩
  · have h2_d : decide (v1_ < 0) = false := decide_eq_false h2_
    have HTOT : Hid (tot B ≤ 1048576) := szR_yes (by rw [Hv1_.out]; exact h2_)
    have HTT := Lib.hid (tot_rows HTOT.out)
    have hl9 : B.length ≤ 1048576 := HTT.out.1
    go_wp2_with fail
    refine (toIntSS_any A c B _ _ _ h (by first | omega | (simp; omega) | simp) hl9 HTT.out.2).mono ?_
    rintro e w3 ⟨g4_, rfl, hg7_, L5_, hb6_⟩
    have o8_ := h.below hb6_ (by first | omega | (simp; omega) | simp)
    have z9_ := hb6_.size
    have B10_ := (Below.refl w.heap.size w).trans (hb6_.mono (by first | omega | (simp; omega) | simp))
    clear hb6_
    go_wp2_with fail
    refine (specSurplusOf_any (some ⟨g4_, 0, none⟩) B.length B _ _ _ (L5_.grid rfl) (by first | omega | (simp; omega) | simp) (by omega)).mono ?_
    rintro e w11 ⟨he, hb11_⟩
    obtain ⟨v12_, hv12_⟩ : ∃ v, surplusV B = v := ⟨_, rfl⟩
    rw [hv12_] at he
    subst he
    have Hv12_ := Lib.hid hv12_
    clear hv12_
    have o13_ := o8_.below hb11_ (by first | omega | (simp; omega) | simp)
    have o14_ := L5_.below hb11_ (by first | omega | (simp; omega) | simp)
    have z15_ := hb11_.size
    have B16_ := B10_.trans (hb11_.mono (by first | omega | (simp; omega) | simp))
    clear hb11_
    go_wp2_with fail
    refine (toIntSS_any A c B _ _ _ o13_ (by first | omega | (simp; omega) | simp) hl9 HTT.out.2).mono ?_
    rintro e w17 ⟨g18_, rfl, hg21_, L19_, hb20_⟩
    have o22_ := o13_.below hb20_ (by first | omega | (simp; omega) | simp)
    have o23_ := o14_.below hb20_ (by first | omega | (simp; omega) | simp)
    have z24_ := hb20_.size
    have B25_ := B16_.trans (hb20_.mono (by first | omega | (simp; omega) | simp))
    clear hb20_
    go_wp2_with fail
    refine (implSurplusOf_any (some ⟨g18_, 0, none⟩) B.length B _ _ _ (L19_.grid rfl) (by first | omega | (simp; omega) | simp) (by omega)).mono ?_
    rintro e w26 ⟨he, hb26_⟩
    rw [Hv12_.out] at he
    subst he
    have o27_ := o22_.below hb26_ (by first | omega | (simp; omega) | simp)
    have o28_ := o23_.below hb26_ (by first | omega | (simp; omega) | simp)
    have o29_ := L19_.below hb26_ (by first | omega | (simp; omega) | simp)
    have z30_ := hb26_.size
    have B31_ := B25_.trans (hb26_.mono (by first | omega | (simp; omega) | simp))
    clear hb26_
    go_wp2_with fail
    refine (toIntSS_any A c B _ _ _ o27_ (by first | omega | (simp; omega) | simp) hl9 HTT.out.2).mono ?_
    rintro e w32 ⟨g33_, rfl, hg36_, L34_, hb35_⟩
    have o37_ := o27_.below hb35_ (by first | omega | (simp; omega) | simp)
    have o38_ := o28_.below hb35_ (by first | omega | (simp; omega) | simp)
    have o39_ := o29_.below hb35_ (by first | omega | (simp; omega) | simp)
    have z40_ := hb35_.size
    have B41_ := B31_.trans (hb35_.mono (by first | omega | (simp; omega) | simp))
    clear hb35_
    go_wp2_with fail
    refine (eqIntSS_same (some ⟨g18_, 0, none⟩) (some ⟨g33_, 0, none⟩) B.length B.length B _ _ _ _ _ (o39_.grid rfl) (by first | omega | (simp; omega) | simp) (L34_.grid rfl) (by first | omega | (simp; omega) | simp) hl9 HTT.out.2).mono ?_
    rintro e w42 ⟨rfl, hb42_⟩
    have o43_ := o37_.below hb42_ (by first | omega | (simp; omega) | simp)
    have o44_ := o38_.below hb42_ (by first | omega | (simp; omega) | simp)
    have o45_ := o39_.below hb42_ (by first | omega | (simp; omega) | simp)
    have o46_ := L34_.below hb42_ (by first | omega | (simp; omega) | simp)
    have z47_ := hb42_.size
    have B48_ := B41_.trans (hb42_.mono (by first | omega | (simp; omega) | simp))
    clear hb42_
    go_wp2
    go_ret
    exact ⟨ret_bool (by first | exact rfl | exact (decide_eq_false (by omega)).trans rfl), B48_⟩

end Go.Proofs.Ytpdlppmkjkbboaa
