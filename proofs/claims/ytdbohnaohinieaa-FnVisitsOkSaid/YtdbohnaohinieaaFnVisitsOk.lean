/-
  The law of VisitsOk returns true for every code, and writes nothing that was there. No condition.
-/
import Derived.Test.YtdbohnaohinieaaGA
import Derived.Test.YtdbohnaohinieaaDraw11
import Derived.Test.YtdbohnaohinieaaPassL
import Derived.Test.YtdbohnaohinieaaGame11I
import Derived.Test.YtdbohnaohinieaaGC
import Derived.Test.YtdbohnaohinieaaFx
import Derived.Deep.RegionHeld3
namespace Go.Proofs.Ytdbohnaohinieaa
open Go.RowKit

set_option maxRecDepth 10000 in
set_option maxHeartbeats 2000000 in
theorem fnVisitsOk_walk (A0 : Option Addr) (c0 : Nat) (bs : List Int) (w : World) (h0 : Bytes w w.heap.size A0 bs) (hl : bs.length ≤ 1048576) (hc0 : bs.length ≤ c0) :
    Calls Try.prog 3 #[.slice A0 bs.length c0] w fun e w' => e = .returned (.bool true) ∧ Below w.heap.size w w' := by
  have hlm : bs.length ≤ 9223372036854775807 := by omega
  go_enter Try.func3, Try.ntmps3
  have Htrue : Hid True := trivial
  have hc0u := hc0
  have h0u := h0
  have hlmu := hlm
  go_wp2_with fail
  refine (drawVisitsOk_any A0 c0 bs _ (h0.more (by first | omega | (simp; omega) | simp)) hlm hc0).mono ?_
  rintro e w1 ⟨g1, o1, c4_, vs, N, ⟨hg1a, hg1b⟩, hxc, hx12, ⟨hN1, hN8⟩, rfl, ho5_, hb2_⟩
  have o6_ := h0.below hb2_ (by first | omega | (simp; omega) | simp)
  have z7_ := hb2_.size
  have B8_ := (Below.refl w.heap.size w).trans (hb2_.mono (by first | omega | (simp; omega) | simp))
  clear hb2_
  by_cases h9_ : visB N vs = true
  · have H9_ := Lib.hid h9_
    clear h9_
    go_wp2_with fail
    refine (implVisitsOk_any N (some ⟨g1, o1, none⟩) c4_ vs _ _ _ ho5_.ints (by first | omega | (simp; omega) | simp) (by omega)).mono ?_
    rintro e w10 ⟨he, hb10_⟩
    rw [H9_.out] at he
    subst he
    have o11_ := o6_.below hb10_ (by first | omega | (simp; omega) | simp)
    have o12_ := ho5_.below hb10_ (by first | omega | (simp; omega) | simp)
    have z13_ := hb10_.size
    have B14_ := B8_.trans (hb10_.mono (by first | omega | (simp; omega) | simp))
    clear hb10_
    go_wp2_with fail
    refine (specVisitsOk_any N (some ⟨g1, o1, none⟩) c4_ vs _ _ _ o12_.ints (by first | omega | (simp; omega) | simp) (by omega)).mono ?_
    rintro e w15 ⟨he, hb15_⟩
    rw [H9_.out] at he
    subst he
    have o16_ := o11_.below hb15_ (by first | omega | (simp; omega) | simp)
    have o17_ := o12_.below hb15_ (by first | omega | (simp; omega) | simp)
    have z18_ := hb15_.size
    have B19_ := B14_.trans (hb15_.mono (by first | omega | (simp; omega) | simp))
    clear hb15_
    have h20_ : ¬ (N < 1) := by omega
    have h20_d : decide (N < 1) = false := decide_eq_false h20_
    have h21_ : ¬ (N > 4) := by have e := (visB_iff _ _).1 H9_.out; omega
    have h21_d : decide (N > 4) = false := decide_eq_false h21_
    have o22_ := o16_.below ((Below.refl _ _).alloc (Nat.le_refl _) (.cells #[] 3)) (by first | omega | (simp; omega) | simp)
    have o23_ := o17_.alloc (by first | omega | (simp; omega) | simp) (.cells #[] 3)
    have B24_ := B19_.alloc (by first | omega | (simp; omega) | simp) (.cells #[] 3)
    have G25_ : Grow (w15.alloc (.cells #[] 3)) (w15.heap.size) 0 ([] : List Int) := by have e := grow_lit w15 ([] : List Int) (by simp); (try simp only [hsz] at e); exact e
    have l26_ := G25_.lt
    have HL27_ : Hid (([] : List Int).length = 0) := rfl
    go_upto_region 10 with (at_builtin; (refine append_grL (by rfl) _ _ (by rfl) (xs := ([] : List Int)) (ys := vs) (by rfl) (by have e := HL27_.out; omega) G25_ (by rfl) (by rfl) (o23_.ints.read) (by omega) ?_; intro g28_ c29_ L34_ w30 HL34_ L34_l L34_u G30_ hC31_ hg32_))
    have o35_ := o22_.chg hC31_ (by first | omega | (simp; omega) | simp) (by omega)
    have o36_ := o23_.chg hC31_ (by first | omega | (simp; omega) | simp) (by omega)
    have z37_ := hC31_.size
    try simp at z37_
    have B38_ := B24_.trans (hC31_.below (by omega) (by first | omega | (simp; omega) | simp))
    clear hC31_
    have l39_ := G30_.lt
    by_cases h40_ : (L34_ : Int) > 0
    · have h40_d : decide ((L34_ : Int) > 0) = true := decide_eq_true h40_
      have h40_m : decide (0 < L34_) = true := decide_eq_true (by omega)
      have h40_o : decide ((0 : Int) < (L34_ : Int)) = true := decide_eq_true (by omega)
      have o41_ := o35_.below ((Below.refl _ _).alloc (Nat.le_refl _) (.cells #[] 3)) (by first | omega | (simp; omega) | simp)
      have o42_ := o36_.alloc (by first | omega | (simp; omega) | simp) (.cells #[] 3)
      have o43_ := G30_.alloc (.cells #[] 3)
      have B44_ := B38_.alloc (by first | omega | (simp; omega) | simp) (.cells #[] 3)
      have G45_ : Grow (w30.alloc (.cells #[] 3)) (w30.heap.size) 0 ([] : List Int) := by have e := grow_lit w30 ([] : List Int) (by simp); (try simp only [hsz] at e); exact e
      have l46_ := G45_.lt
      have HL47_ : Hid (([] : List Int).length = 0) := rfl
      obtain ⟨m9, hm9⟩ : ∃ m : Nat, (vs.length : Int) - 1 = (m : Int) := ⟨vs.length - 1, by omega⟩
      have hh : m9 ≤ vs.length := by omega
      have hm9c : m9 ≤ c4_ := by omega
      have hm9d : (m9 : Int) ≤ (c4_ : Int) := by omega
      have HL48_k : m9 ≤ vs.length := by have e := hh; omega
      have HL48_ : Hid ((vs.take m9).length = m9) := by show _ = _; rw [List.length_take]; omega
      go_upto_region 12 with (at_builtin; (refine append_grL (by rfl) _ _ (by rfl) (xs := ([] : List Int)) (ys := (vs.take m9)) (by rfl) (by have e := HL47_.out; omega) G45_ (by rfl) (by have e := HL48_.out; omega) (take_read o42_.ints.read HL48_k) (by omega) ?_; intro g49_ c50_ L55_ w51 HL55_ L55_l L55_u G51_ hC52_ hg53_))
      have o56_ := o41_.chg hC52_ (by first | omega | (simp; omega) | simp) (by omega)
      have o57_ := o42_.chg hC52_ (by first | omega | (simp; omega) | simp) (by omega)
      have o58_ := o43_.chg hC52_ (by omega)
      have z59_ := hC52_.size
      try simp at z59_
      have B60_ := B44_.trans (hC52_.below (by omega) (by first | omega | (simp; omega) | simp))
      clear hC52_
      have l61_ := G51_.lt
      have o62_ := o56_.below ((Below.refl _ _).alloc (Nat.le_refl _) (.cells #[] 3)) (by first | omega | (simp; omega) | simp)
      have o63_ := o57_.alloc (by first | omega | (simp; omega) | simp) (.cells #[] 3)
      have o64_ := o58_.alloc (.cells #[] 3)
      have o65_ := G51_.alloc (.cells #[] 3)
      have B66_ := B60_.alloc (by first | omega | (simp; omega) | simp) (.cells #[] 3)
      have G67_ : Grow (w51.alloc (.cells #[] 3)) (w51.heap.size) 0 ([] : List Int) := by have e := grow_lit w51 ([] : List Int) (by simp); (try simp only [hsz] at e); exact e
      have l68_ := G67_.lt
      have HL69_ : Hid (([] : List Int).length = 0) := rfl
      have H70_ : Hid (visB N ([] : List Int) = true) := vis_none (by omega) (by omega)
      go_wp2_with fail
      rw [slice_n (A := (some ⟨w51.heap.size, 0, none⟩)) (n := 0) (m := ([] : List Int).length) (c := 0) (by have e := HL69_.out; first | omega | exact e.symm)]
      refine (implVisitsOk_any N (some ⟨w51.heap.size, 0, none⟩) 0 ([] : List Int) _ _ _ G67_.ints (by first | omega | (simp; omega) | simp) (by have e := HL69_.out; omega)).mono ?_
      rintro e w71 ⟨he, hb71_⟩
      rw [H70_.out] at he
      subst he
      have o72_ := o62_.below hb71_ (by first | omega | (simp; omega) | simp)
      have o73_ := o63_.below hb71_ (by first | omega | (simp; omega) | simp)
      have o74_ := o64_.below hb71_ (by first | omega | (simp; omega) | simp)
      have o75_ := o65_.below hb71_ (by first | omega | (simp; omega) | simp)
      have o76_ := G67_.below hb71_ (by first | omega | (simp; omega) | simp)
      have z77_ := hb71_.size
      try simp at z77_
      have B78_ := B66_.trans (hb71_.mono (by first | omega | (simp; omega) | simp))
      clear hb71_
      have H79_ : Hid (visB N (([] : List Int) ++ (vs.take m9)) = true) := by show _ = _; rw [List.nil_append]; exact vis_take H9_.out _
      go_wp2_with fail
      rw [slice_n (A := (some ⟨g49_, 0, none⟩)) (n := L55_) (m := (([] : List Int) ++ (vs.take m9)).length) (c := c50_) (by have e := HL55_.out; first | omega | exact e.symm)]
      refine (implVisitsOk_any N (some ⟨g49_, 0, none⟩) c50_ (([] : List Int) ++ (vs.take m9)) _ _ _ o75_.ints (by first | omega | (simp; omega) | simp) (by have e := HL55_.out; omega)).mono ?_
      rintro e w80 ⟨he, hb80_⟩
      rw [H79_.out] at he
      subst he
      have o81_ := o72_.below hb80_ (by first | omega | (simp; omega) | simp)
      have o82_ := o73_.below hb80_ (by first | omega | (simp; omega) | simp)
      have o83_ := o74_.below hb80_ (by first | omega | (simp; omega) | simp)
      have o84_ := o75_.below hb80_ (by first | omega | (simp; omega) | simp)
      have o85_ := o76_.below hb80_ (by first | omega | (simp; omega) | simp)
      have z86_ := hb80_.size
      have B87_ := B78_.trans (hb80_.mono (by first | omega | (simp; omega) | simp))
      clear hb80_
      go_wp2_with fail
      refine (alive_any _).mono ?_
      rintro e w88 ⟨rfl, hb88_⟩
      have o89_ := o81_.below hb88_ (by first | omega | (simp; omega) | simp)
      have o90_ := o82_.below hb88_ (by first | omega | (simp; omega) | simp)
      have o91_ := o83_.below hb88_ (by first | omega | (simp; omega) | simp)
      have o92_ := o84_.below hb88_ (by first | omega | (simp; omega) | simp)
      have o93_ := o85_.below hb88_ (by first | omega | (simp; omega) | simp)
      have z94_ := hb88_.size
      have B95_ := B87_.trans (hb88_.mono (by first | omega | (simp; omega) | simp))
      clear hb88_
      go_wp2
      go_ret
      exact ⟨ret_bool (by first | exact rfl | exact (decide_eq_true (by omega)).trans rfl), B95_⟩
    · have h40_d : decide ((L34_ : Int) > 0) = false := decide_eq_false h40_
      have h40_m : decide (0 < L34_) = false := decide_eq_false (by omega)
      have h40_o : decide ((0 : Int) < (L34_ : Int)) = false := decide_eq_false (by omega)
      have o41_ := o35_.below ((Below.refl _ _).alloc (Nat.le_refl _) (.cells #[] 3)) (by first | omega | (simp; omega) | simp)
      have o42_ := o36_.alloc (by first | omega | (simp; omega) | simp) (.cells #[] 3)
      have o43_ := G30_.alloc (.cells #[] 3)
      have B44_ := B38_.alloc (by first | omega | (simp; omega) | simp) (.cells #[] 3)
      have G45_ : Grow (w30.alloc (.cells #[] 3)) (w30.heap.size) 0 ([] : List Int) := by have e := grow_lit w30 ([] : List Int) (by simp); (try simp only [hsz] at e); exact e
      have l46_ := G45_.lt
      have HL47_ : Hid (([] : List Int).length = 0) := rfl
      have H48_ : Hid (visB N ([] : List Int) = true) := vis_none (by omega) (by omega)
      go_wp2_with fail
      rw [slice_n (A := (some ⟨w30.heap.size, 0, none⟩)) (n := 0) (m := ([] : List Int).length) (c := 0) (by have e := HL47_.out; first | omega | exact e.symm)]
      refine (implVisitsOk_any N (some ⟨w30.heap.size, 0, none⟩) 0 ([] : List Int) _ _ _ G45_.ints (by first | omega | (simp; omega) | simp) (by have e := HL47_.out; omega)).mono ?_
      rintro e w49 ⟨he, hb49_⟩
      rw [H48_.out] at he
      subst he
      have o50_ := o41_.below hb49_ (by first | omega | (simp; omega) | simp)
      have o51_ := o42_.below hb49_ (by first | omega | (simp; omega) | simp)
      have o52_ := o43_.below hb49_ (by first | omega | (simp; omega) | simp)
      have o53_ := G45_.below hb49_ (by first | omega | (simp; omega) | simp)
      have z54_ := hb49_.size
      try simp at z54_
      have B55_ := B44_.trans (hb49_.mono (by first | omega | (simp; omega) | simp))
      clear hb49_
      have H56_ : Hid (visB N (([] : List Int) ++ vs) = true) := by show _ = _; rw [List.nil_append]; exact H9_.out
      go_wp2_with fail
      rw [slice_n (A := (some ⟨g28_, 0, none⟩)) (n := L34_) (m := (([] : List Int) ++ vs).length) (c := c29_) (by have e := HL34_.out; first | omega | exact e.symm)]
      refine (implVisitsOk_any N (some ⟨g28_, 0, none⟩) c29_ (([] : List Int) ++ vs) _ _ _ o52_.ints (by first | omega | (simp; omega) | simp) (by have e := HL34_.out; omega)).mono ?_
      rintro e w57 ⟨he, hb57_⟩
      rw [H56_.out] at he
      subst he
      have o58_ := o50_.below hb57_ (by first | omega | (simp; omega) | simp)
      have o59_ := o51_.below hb57_ (by first | omega | (simp; omega) | simp)
      have o60_ := o52_.below hb57_ (by first | omega | (simp; omega) | simp)
      have o61_ := o53_.below hb57_ (by first | omega | (simp; omega) | simp)
      have z62_ := hb57_.size
      have B63_ := B55_.trans (hb57_.mono (by first | omega | (simp; omega) | simp))
      clear hb57_
      go_wp2_with fail
      refine (alive_any _).mono ?_
      rintro e w64 ⟨rfl, hb64_⟩
      have o65_ := o58_.below hb64_ (by first | omega | (simp; omega) | simp)
      have o66_ := o59_.below hb64_ (by first | omega | (simp; omega) | simp)
      have o67_ := o60_.below hb64_ (by first | omega | (simp; omega) | simp)
      have o68_ := o61_.below hb64_ (by first | omega | (simp; omega) | simp)
      have z69_ := hb64_.size
      have B70_ := B63_.trans (hb64_.mono (by first | omega | (simp; omega) | simp))
      clear hb64_
      go_wp2
      go_ret
      exact ⟨ret_bool (by first | exact rfl | exact (decide_eq_false (by omega)).trans rfl), B70_⟩
  · have H9_ : Hid (visB N vs = false) := by show _ = _; simpa using h9_
    clear h9_
    go_wp2_with fail
    refine (implVisitsOk_any N (some ⟨g1, o1, none⟩) c4_ vs _ _ _ ho5_.ints (by first | omega | (simp; omega) | simp) (by omega)).mono ?_
    rintro e w10 ⟨he, hb10_⟩
    rw [H9_.out] at he
    subst he
    have o11_ := o6_.below hb10_ (by first | omega | (simp; omega) | simp)
    have o12_ := ho5_.below hb10_ (by first | omega | (simp; omega) | simp)
    have z13_ := hb10_.size
    have B14_ := B8_.trans (hb10_.mono (by first | omega | (simp; omega) | simp))
    clear hb10_
    go_wp2_with fail
    refine (specVisitsOk_any N (some ⟨g1, o1, none⟩) c4_ vs _ _ _ o12_.ints (by first | omega | (simp; omega) | simp) (by omega)).mono ?_
    rintro e w15 ⟨he, hb15_⟩
    rw [H9_.out] at he
    subst he
    have o16_ := o11_.below hb15_ (by first | omega | (simp; omega) | simp)
    have o17_ := o12_.below hb15_ (by first | omega | (simp; omega) | simp)
    have z18_ := hb15_.size
    have B19_ := B14_.trans (hb15_.mono (by first | omega | (simp; omega) | simp))
    clear hb15_
    have h20_ : ¬ (N < 1) := by omega
    have h20_d : decide (N < 1) = false := decide_eq_false h20_
    by_cases h21_ : N > 4
    · have h21_d : decide (N > 4) = true := decide_eq_true h21_
      go_wp2_with fail
      refine (alive_any _).mono ?_
      rintro e w22 ⟨rfl, hb22_⟩
      have o23_ := o16_.below hb22_ (by first | omega | (simp; omega) | simp)
      have o24_ := o17_.below hb22_ (by first | omega | (simp; omega) | simp)
      have z25_ := hb22_.size
      have B26_ := B19_.trans (hb22_.mono (by first | omega | (simp; omega) | simp))
      clear hb22_
      go_wp2
      go_ret
      exact ⟨ret_bool (by first | exact rfl | exact (decide_eq_true (by omega)).trans rfl), B26_⟩
    · have h21_d : decide (N > 4) = false := decide_eq_false h21_
      have o22_ := o16_.below ((Below.refl _ _).alloc (Nat.le_refl _) (.cells #[] 3)) (by first | omega | (simp; omega) | simp)
      have o23_ := o17_.alloc (by first | omega | (simp; omega) | simp) (.cells #[] 3)
      have B24_ := B19_.alloc (by first | omega | (simp; omega) | simp) (.cells #[] 3)
      have G25_ : Grow (w15.alloc (.cells #[] 3)) (w15.heap.size) 0 ([] : List Int) := by have e := grow_lit w15 ([] : List Int) (by simp); (try simp only [hsz] at e); exact e
      have l26_ := G25_.lt
      have HL27_ : Hid (([] : List Int).length = 0) := rfl
      go_upto_region 10 with (at_builtin; (refine append_grL (by rfl) _ _ (by rfl) (xs := ([] : List Int)) (ys := vs) (by rfl) (by have e := HL27_.out; omega) G25_ (by rfl) (by rfl) (o23_.ints.read) (by omega) ?_; intro g28_ c29_ L34_ w30 HL34_ L34_l L34_u G30_ hC31_ hg32_))
      have o35_ := o22_.chg hC31_ (by first | omega | (simp; omega) | simp) (by omega)
      have o36_ := o23_.chg hC31_ (by first | omega | (simp; omega) | simp) (by omega)
      have z37_ := hC31_.size
      try simp at z37_
      have B38_ := B24_.trans (hC31_.below (by omega) (by first | omega | (simp; omega) | simp))
      clear hC31_
      have l39_ := G30_.lt
      by_cases h40_ : (L34_ : Int) > 0
      · have h40_d : decide ((L34_ : Int) > 0) = true := decide_eq_true h40_
        have h40_m : decide (0 < L34_) = true := decide_eq_true (by omega)
        have h40_o : decide ((0 : Int) < (L34_ : Int)) = true := decide_eq_true (by omega)
        have o41_ := o35_.below ((Below.refl _ _).alloc (Nat.le_refl _) (.cells #[] 3)) (by first | omega | (simp; omega) | simp)
        have o42_ := o36_.alloc (by first | omega | (simp; omega) | simp) (.cells #[] 3)
        have o43_ := G30_.alloc (.cells #[] 3)
        have B44_ := B38_.alloc (by first | omega | (simp; omega) | simp) (.cells #[] 3)
        have G45_ : Grow (w30.alloc (.cells #[] 3)) (w30.heap.size) 0 ([] : List Int) := by have e := grow_lit w30 ([] : List Int) (by simp); (try simp only [hsz] at e); exact e
        have l46_ := G45_.lt
        have HL47_ : Hid (([] : List Int).length = 0) := rfl
        obtain ⟨m9, hm9⟩ : ∃ m : Nat, (vs.length : Int) - 1 = (m : Int) := ⟨vs.length - 1, by omega⟩
        have hh : m9 ≤ vs.length := by omega
        have hm9c : m9 ≤ c4_ := by omega
        have hm9d : (m9 : Int) ≤ (c4_ : Int) := by omega
        have HL48_k : m9 ≤ vs.length := by have e := hh; omega
        have HL48_ : Hid ((vs.take m9).length = m9) := by show _ = _; rw [List.length_take]; omega
        go_upto_region 12 with (at_builtin; (refine append_grL (by rfl) _ _ (by rfl) (xs := ([] : List Int)) (ys := (vs.take m9)) (by rfl) (by have e := HL47_.out; omega) G45_ (by rfl) (by have e := HL48_.out; omega) (take_read o42_.ints.read HL48_k) (by omega) ?_; intro g49_ c50_ L55_ w51 HL55_ L55_l L55_u G51_ hC52_ hg53_))
        have o56_ := o41_.chg hC52_ (by first | omega | (simp; omega) | simp) (by omega)
        have o57_ := o42_.chg hC52_ (by first | omega | (simp; omega) | simp) (by omega)
        have o58_ := o43_.chg hC52_ (by omega)
        have z59_ := hC52_.size
        try simp at z59_
        have B60_ := B44_.trans (hC52_.below (by omega) (by first | omega | (simp; omega) | simp))
        clear hC52_
        have l61_ := G51_.lt
        have o62_ := o56_.below ((Below.refl _ _).alloc (Nat.le_refl _) (.cells #[] 3)) (by first | omega | (simp; omega) | simp)
        have o63_ := o57_.alloc (by first | omega | (simp; omega) | simp) (.cells #[] 3)
        have o64_ := o58_.alloc (.cells #[] 3)
        have o65_ := G51_.alloc (.cells #[] 3)
        have B66_ := B60_.alloc (by first | omega | (simp; omega) | simp) (.cells #[] 3)
        have G67_ : Grow (w51.alloc (.cells #[] 3)) (w51.heap.size) 0 ([] : List Int) := by have e := grow_lit w51 ([] : List Int) (by simp); (try simp only [hsz] at e); exact e
        have l68_ := G67_.lt
        have HL69_ : Hid (([] : List Int).length = 0) := rfl
        have H70_ : Hid (visB N ([] : List Int) = true) := vis_none (by omega) (by omega)
        go_wp2_with fail
        rw [slice_n (A := (some ⟨w51.heap.size, 0, none⟩)) (n := 0) (m := ([] : List Int).length) (c := 0) (by have e := HL69_.out; first | omega | exact e.symm)]
        refine (implVisitsOk_any N (some ⟨w51.heap.size, 0, none⟩) 0 ([] : List Int) _ _ _ G67_.ints (by first | omega | (simp; omega) | simp) (by have e := HL69_.out; omega)).mono ?_
        rintro e w71 ⟨he, hb71_⟩
        rw [H70_.out] at he
        subst he
        have o72_ := o62_.below hb71_ (by first | omega | (simp; omega) | simp)
        have o73_ := o63_.below hb71_ (by first | omega | (simp; omega) | simp)
        have o74_ := o64_.below hb71_ (by first | omega | (simp; omega) | simp)
        have o75_ := o65_.below hb71_ (by first | omega | (simp; omega) | simp)
        have o76_ := G67_.below hb71_ (by first | omega | (simp; omega) | simp)
        have z77_ := hb71_.size
        try simp at z77_
        have B78_ := B66_.trans (hb71_.mono (by first | omega | (simp; omega) | simp))
        clear hb71_
        go_wp2_with fail
        refine (alive_any _).mono ?_
        rintro e w79 ⟨rfl, hb79_⟩
        have o80_ := o72_.below hb79_ (by first | omega | (simp; omega) | simp)
        have o81_ := o73_.below hb79_ (by first | omega | (simp; omega) | simp)
        have o82_ := o74_.below hb79_ (by first | omega | (simp; omega) | simp)
        have o83_ := o75_.below hb79_ (by first | omega | (simp; omega) | simp)
        have o84_ := o76_.below hb79_ (by first | omega | (simp; omega) | simp)
        have z85_ := hb79_.size
        have B86_ := B78_.trans (hb79_.mono (by first | omega | (simp; omega) | simp))
        clear hb79_
        go_wp2
        go_ret
        exact ⟨ret_bool (by first | exact rfl | exact (decide_eq_true (by omega)).trans rfl), B86_⟩
      · have h40_d : decide ((L34_ : Int) > 0) = false := decide_eq_false h40_
        have h40_m : decide (0 < L34_) = false := decide_eq_false (by omega)
        have h40_o : decide ((0 : Int) < (L34_ : Int)) = false := decide_eq_false (by omega)
        have o41_ := o35_.below ((Below.refl _ _).alloc (Nat.le_refl _) (.cells #[] 3)) (by first | omega | (simp; omega) | simp)
        have o42_ := o36_.alloc (by first | omega | (simp; omega) | simp) (.cells #[] 3)
        have o43_ := G30_.alloc (.cells #[] 3)
        have B44_ := B38_.alloc (by first | omega | (simp; omega) | simp) (.cells #[] 3)
        have G45_ : Grow (w30.alloc (.cells #[] 3)) (w30.heap.size) 0 ([] : List Int) := by have e := grow_lit w30 ([] : List Int) (by simp); (try simp only [hsz] at e); exact e
        have l46_ := G45_.lt
        have HL47_ : Hid (([] : List Int).length = 0) := rfl
        have H48_ : Hid (visB N ([] : List Int) = true) := vis_none (by omega) (by omega)
        go_wp2_with fail
        rw [slice_n (A := (some ⟨w30.heap.size, 0, none⟩)) (n := 0) (m := ([] : List Int).length) (c := 0) (by have e := HL47_.out; first | omega | exact e.symm)]
        refine (implVisitsOk_any N (some ⟨w30.heap.size, 0, none⟩) 0 ([] : List Int) _ _ _ G45_.ints (by first | omega | (simp; omega) | simp) (by have e := HL47_.out; omega)).mono ?_
        rintro e w49 ⟨he, hb49_⟩
        rw [H48_.out] at he
        subst he
        have o50_ := o41_.below hb49_ (by first | omega | (simp; omega) | simp)
        have o51_ := o42_.below hb49_ (by first | omega | (simp; omega) | simp)
        have o52_ := o43_.below hb49_ (by first | omega | (simp; omega) | simp)
        have o53_ := G45_.below hb49_ (by first | omega | (simp; omega) | simp)
        have z54_ := hb49_.size
        try simp at z54_
        have B55_ := B44_.trans (hb49_.mono (by first | omega | (simp; omega) | simp))
        clear hb49_
        go_wp2_with fail
        refine (alive_any _).mono ?_
        rintro e w56 ⟨rfl, hb56_⟩
        have o57_ := o50_.below hb56_ (by first | omega | (simp; omega) | simp)
        have o58_ := o51_.below hb56_ (by first | omega | (simp; omega) | simp)
        have o59_ := o52_.below hb56_ (by first | omega | (simp; omega) | simp)
        have o60_ := o53_.below hb56_ (by first | omega | (simp; omega) | simp)
        have z61_ := hb56_.size
        have B62_ := B55_.trans (hb56_.mono (by first | omega | (simp; omega) | simp))
        clear hb56_
        go_wp2
        go_ret
        exact ⟨ret_bool (by first | exact rfl | exact (decide_eq_false (by omega)).trans rfl), B62_⟩

set_option maxRecDepth 10000 in
set_option maxHeartbeats 400000 in
theorem fnVisitsOk_big (A0 : Option Addr) (c0 : Nat) (bs : List Int) (w : World) (hl : ¬ bs.length ≤ 1048576) (hm : bs.length ≤ 9223372036854775807) :
    Calls Try.prog 3 #[.slice A0 bs.length c0] w fun e w' => e = .returned (.bool true) ∧ Below w.heap.size w w' := by
  go_enter Try.func3, Try.ntmps3
  go_wp2
  go_ret
  exact ⟨rfl, Below.refl _ _⟩

theorem fnVisitsOk_all (A0 : Option Addr) (c0 : Nat) (bs : List Int) (w : World) (h0 : Bytes w w.heap.size A0 bs) (hm : bs.length ≤ 9223372036854775807) (hc0 : bs.length ≤ c0) :
    Calls Try.prog 3 #[.slice A0 bs.length c0] w fun e w' => e = .returned (.bool true) ∧ Below w.heap.size w w' := by
  by_cases hl : bs.length ≤ 1048576
  · exact fnVisitsOk_walk A0 c0 bs w h0 hl hc0
  · exact fnVisitsOk_big A0 c0 bs w hl hm

end Go.Proofs.Ytdbohnaohinieaa
