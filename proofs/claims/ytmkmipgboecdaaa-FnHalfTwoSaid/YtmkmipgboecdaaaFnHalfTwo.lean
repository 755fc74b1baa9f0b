/-
  The law of two people returns true for every code, and writes nothing that was there. No condition.
-/
import Derived.Test.YtmkmipgboecdaaaGA
import Derived.Test.YtmkmipgboecdaaaDraw7
import Derived.Test.YtmkmipgboecdaaaArr7
import Derived.Test.YtmkmipgboecdaaaSpec7C
import Derived.Test.YtmkmipgboecdaaaGame7I
import Derived.Test.YtmkmipgboecdaaaGB
import Derived.Test.YtmkmipgboecdaaaGC
import Derived.Test.YtmkmipgboecdaaaHalfI
import Derived.Test.YtmkmipgboecdaaaArr7P
import Derived.Test.YtmkmipgboecdaaaFx
import Derived.Deep.RegionHeld3
namespace Go.Proofs.Ytmkmipgboecdaaa
open Go.RowKit

set_option maxRecDepth 10000 in
set_option maxHeartbeats 2000000 in
theorem fnHalfTwo_walk (A0 : Option Addr) (c0 : Nat) (bs : List Int) (w : World) (h0 : Bytes w w.heap.size A0 bs) (hl : bs.length ≤ 1048576) (hc0 : bs.length ≤ c0) :
    Calls Try.prog 10 #[.slice A0 bs.length c0] w fun e w' => e = .returned (.bool true) ∧ Below w.heap.size w w' := by
  have hlm : bs.length ≤ 9223372036854775807 := by omega
  go_enter Try.func10, Try.ntmps10
  have Htrue : Hid True := trivial
  have hc0u := hc0
  have h0u := h0
  have hlmu := hlm
  go_wp2_with fail
  refine (drawHalfAwards_any A0 c0 bs _ (h0.more (by first | omega | (simp; omega) | simp)) hlm hc0).mono ?_
  rintro e w1 ⟨E, A3_, c4_, xs, hx5, rfl, ho5_, hb2_⟩
  have o6_ := h0.below hb2_ (by first | omega | (simp; omega) | simp)
  have z7_ := hb2_.size
  have B8_ := (Below.refl w.heap.size w).trans (hb2_.mono (by first | omega | (simp; omega) | simp))
  clear hb2_
  have hlbsxs : xs.length ≤ 1152921504606846976 := by omega
  have o9_ := o6_.below ((Below.refl _ _).alloc (Nat.le_refl _) (.cells #[.int .i64 E, .slice A3_ xs.length c4_] 25)) (by first | omega | (simp; omega) | simp)
  have o10_ := ho5_.alloc (by first | omega | (simp; omega) | simp) (.cells #[.int .i64 E, .slice A3_ xs.length c4_] 25)
  have B11_ := B8_.alloc (by first | omega | (simp; omega) | simp) (.cells #[.int .i64 E, .slice A3_ xs.length c4_] 25)
  have a12_ : (w1.alloc (.cells #[.int .i64 E, .slice A3_ xs.length c4_] 25)).cell? ⟨w1.heap.size, 0, none⟩ = some (.int .i64 E) := by simp [go_sem]
  have a13_ : (w1.alloc (.cells #[.int .i64 E, .slice A3_ xs.length c4_] 25)).cell? ⟨w1.heap.size, 1, none⟩ = some (.slice A3_ xs.length c4_) := by simp [go_sem]
  by_cases h14_ : caseOkB E xs = true
  · have H14_ := Lib.hid h14_
    clear h14_
    have HOK : Hid (caseOkB E xs = true) := H14_.out
    have hbd := caseOk_bd HOK.out
    go_wp2_with fail
    refine (specCaseOk_any E A3_ c4_ xs _ _ _ o10_.ints (by first | omega | (simp; omega) | simp) (by omega)).mono ?_
    rintro e w15 ⟨he, hb15_⟩
    rw [H14_.out] at he
    subst he
    have o16_ := o9_.below hb15_ (by first | omega | (simp; omega) | simp)
    have o17_ := o10_.below hb15_ (by first | omega | (simp; omega) | simp)
    have o18_ := (hb15_.cell (p := ⟨w1.heap.size, 0, none⟩) (by first | omega | (simp; omega) | simp)).trans a12_
    have o19_ := (hb15_.cell (p := ⟨w1.heap.size, 1, none⟩) (by first | omega | (simp; omega) | simp)).trans a13_
    have z20_ := hb15_.size
    try simp at z20_
    have B21_ := B11_.trans (hb15_.mono (by first | omega | (simp; omega) | simp))
    clear hb15_
    have o22_ := o16_.below ((Below.refl _ _).alloc (Nat.le_refl _) (.cells #[] 3)) (by first | omega | (simp; omega) | simp)
    have o23_ := o17_.alloc (by first | omega | (simp; omega) | simp) (.cells #[] 3)
    have o24_ := cell_alloc (o := (.cells #[] 3)) o18_ (by first | omega | (simp; omega) | simp)
    have o25_ := cell_alloc (o := (.cells #[] 3)) o19_ (by first | omega | (simp; omega) | simp)
    have B26_ := B21_.alloc (by first | omega | (simp; omega) | simp) (.cells #[] 3)
    have G27_ : Grow (w15.alloc (.cells #[] 3)) (w15.heap.size) 0 ([] : List Int) := by have e := grow_lit w15 ([] : List Int) (by simp); (try simp only [hsz] at e); exact e
    have l28_ := G27_.lt
    have HL29_ : Hid (([] : List Int).length = 0) := rfl
    obtain ⟨b30_, f31_, rfl, b30_l, b30_h, -⟩ := o23_.ints (by omega)
    go_upto_region 7 with ((at_builtin; (refine append_grL (by rfl) _ _ (by rfl) (xs := ([] : List Int)) (ys := xs) (by rfl) (by have e := HL29_.out; omega) G27_ (by rfl) (by rfl) (o23_.ints.read) (by omega) ?_; intro g32_ c33_ L38_ w34 HL38_ L38_l L38_u G34_ hC35_ hg36_)); (have o39_ := o22_.chg hC35_ (by first | omega | (simp; omega) | simp) (by omega)); (have o40_ := o23_.chg hC35_ (by first | omega | (simp; omega) | simp) (by omega)); (have o41_ := (hC35_.cell (p := ⟨w1.heap.size, 0, none⟩) (by first | omega | (simp; omega) | simp) (by first | omega | (simp; omega) | simp)).trans o24_); (have o42_ := (hC35_.cell (p := ⟨w1.heap.size, 1, none⟩) (by first | omega | (simp; omega) | simp) (by first | omega | (simp; omega) | simp)).trans o25_); (have z43_ := hC35_.size); (try simp at z43_); (have B44_ := B26_.trans (hC35_.below (by omega) (by first | omega | (simp; omega) | simp))); (clear hC35_); (have l45_ := G34_.lt))
    have o46_ := o39_.below ((Below.refl _ _).alloc (Nat.le_refl _) (.cells #[.int .i64 0, .slice (some ⟨g32_, 0, none⟩) L38_ c33_] 25)) (by first | omega | (simp; omega) | simp)
    have o47_ := o40_.alloc (by first | omega | (simp; omega) | simp) (.cells #[.int .i64 0, .slice (some ⟨g32_, 0, none⟩) L38_ c33_] 25)
    have o48_ := G34_.alloc (.cells #[.int .i64 0, .slice (some ⟨g32_, 0, none⟩) L38_ c33_] 25)
    have o49_ := cell_alloc (o := (.cells #[.int .i64 0, .slice (some ⟨g32_, 0, none⟩) L38_ c33_] 25)) o41_ (by first | omega | (simp; omega) | simp)
    have o50_ := cell_alloc (o := (.cells #[.int .i64 0, .slice (some ⟨g32_, 0, none⟩) L38_ c33_] 25)) o42_ (by first | omega | (simp; omega) | simp)
    have B51_ := B44_.alloc (by first | omega | (simp; omega) | simp) (.cells #[.int .i64 0, .slice (some ⟨g32_, 0, none⟩) L38_ c33_] 25)
    have a52_ : (w34.alloc (.cells #[.int .i64 0, .slice (some ⟨g32_, 0, none⟩) L38_ c33_] 25)).cell? ⟨w34.heap.size, 0, none⟩ = some (.int .i64 0) := by simp [go_sem]
    have a53_ : (w34.alloc (.cells #[.int .i64 0, .slice (some ⟨g32_, 0, none⟩) L38_ c33_] 25)).cell? ⟨w34.heap.size, 1, none⟩ = some (.slice (some ⟨g32_, 0, none⟩) L38_ c33_) := by simp [go_sem]
    have f54_ : (w34.alloc (.cells #[.int .i64 0, .slice (some ⟨g32_, 0, none⟩) L38_ c33_] 25)).frozen? ⟨w34.heap.size, 0, none⟩ = false := by simp [go_sem]
    have f55_ : (w34.alloc (.cells #[.int .i64 0, .slice (some ⟨g32_, 0, none⟩) L38_ c33_] 25)).frozen? ⟨w34.heap.size, 1, none⟩ = false := by simp [go_sem]
    by_cases h56_ : (L38_ : Int) = 1
    · have h56_b : ((L38_ : Int) == 1) = true := by simpa using h56_
      have h56_n : ((L38_ : Int) != 1) = false := by simpa using h56_
      have h56_le : (L38_ : Int) ≤ 1 := by omega
      have h56_ge : 1 ≤ (L38_ : Int) := by omega
      have Hh56_ := Lib.hid h56_
      clear h56_
      have o57_ := o46_.below ((Below.refl _ _).alloc (Nat.le_refl _) (.cells #[.int .i64 3] 3)) (by first | omega | (simp; omega) | simp)
      have o58_ := o47_.alloc (by first | omega | (simp; omega) | simp) (.cells #[.int .i64 3] 3)
      have o59_ := o48_.alloc (.cells #[.int .i64 3] 3)
      have o60_ := cell_alloc (o := (.cells #[.int .i64 3] 3)) o49_ (by first | omega | (simp; omega) | simp)
      have o61_ := cell_alloc (o := (.cells #[.int .i64 3] 3)) o50_ (by first | omega | (simp; omega) | simp)
      have o62_ := cell_alloc (o := (.cells #[.int .i64 3] 3)) a52_ (by first | omega | (simp; omega) | simp)
      have o63_ := cell_alloc (o := (.cells #[.int .i64 3] 3)) a53_ (by first | omega | (simp; omega) | simp)
      have o64_ := frozen_alloc (o := (.cells #[.int .i64 3] 3)) f54_ (by first | omega | (simp; omega) | simp)
      have o65_ := frozen_alloc (o := (.cells #[.int .i64 3] 3)) f55_ (by first | omega | (simp; omega) | simp)
      have B66_ := B51_.alloc (by first | omega | (simp; omega) | simp) (.cells #[.int .i64 3] 3)
      have G67_ : Grow ((w34.alloc (.cells #[.int .i64 0, .slice (some ⟨g32_, 0, none⟩) L38_ c33_] 25)).alloc (.cells #[.int .i64 3] 3)) (w34.heap.size + 1) 1 ([3] : List Int) := by have e := grow_lit (w34.alloc (.cells #[.int .i64 0, .slice (some ⟨g32_, 0, none⟩) L38_ c33_] 25)) ([3] : List Int) (by simp); (try simp only [hsz] at e); exact e
      have l68_ := G67_.lt
      have HL69_ : Hid (([3] : List Int).length = 1) := rfl
      go_upto_region 9 with ((at_builtin; (refine append_grL (by rfl) _ _ (by rfl) (xs := (([] : List Int) ++ xs)) (ys := ([3] : List Int)) (by rfl) (by have e := HL38_.out; omega) o59_ (by rfl) (by have e := HL69_.out; omega) (G67_.ints.read) (by omega) ?_; intro g70_ c71_ L76_ w72 HL76_ L76_l L76_u G72_ hC73_ hg74_)); (have o77_ := o57_.chg hC73_ (by first | omega | (simp; omega) | simp) (by omega)); (have o78_ := o58_.chg hC73_ (by first | omega | (simp; omega) | simp) (by omega)); (have o79_ := G67_.chg hC73_ (by omega)); (have o80_ := (hC73_.cell (p := ⟨w1.heap.size, 0, none⟩) (by first | omega | (simp; omega) | simp) (by first | omega | (simp; omega) | simp)).trans o60_); (have o81_ := (hC73_.cell (p := ⟨w1.heap.size, 1, none⟩) (by first | omega | (simp; omega) | simp) (by first | omega | (simp; omega) | simp)).trans o61_); (have o82_ := (hC73_.cell (p := ⟨w34.heap.size, 0, none⟩) (by first | omega | (simp; omega) | simp) (by first | omega | (simp; omega) | simp)).trans o62_); (have o83_ := (hC73_.cell (p := ⟨w34.heap.size, 1, none⟩) (by first | omega | (simp; omega) | simp) (by first | omega | (simp; omega) | simp)).trans o63_); (have o84_ := (hC73_.frozen (p := ⟨w34.heap.size, 0, none⟩) (by first | omega | (simp; omega) | simp) (by first | omega | (simp; omega) | simp)).trans o64_); (have o85_ := (hC73_.frozen (p := ⟨w34.heap.size, 1, none⟩) (by first | omega | (simp; omega) | simp) (by first | omega | (simp; omega) | simp)).trans o65_); (have z86_ := hC73_.size); (try simp at z86_); (have B87_ := B66_.trans (hC73_.below (by omega) (by first | omega | (simp; omega) | simp))); (clear hC73_); (have l88_ := G72_.lt))
      have hC89_ := Chg.setCell (lo := w34.heap.size) (hi := w34.heap.size + 1) w72 (p := ⟨w34.heap.size, 1, none⟩) ⟨Nat.le_refl _, Nat.lt_succ_self _⟩ (.slice (some ⟨g70_, 0, none⟩) L76_ c71_)
      have a90_ := cell_set_off o82_ (i := 1) (by omega) (.slice (some ⟨g70_, 0, none⟩) L76_ c71_)
      have a91_ := cell_set o83_ (.slice (some ⟨g70_, 0, none⟩) L76_ c71_)
      have f92_ := frozen_set o84_ ⟨w34.heap.size, 1, none⟩ (.slice (some ⟨g70_, 0, none⟩) L76_ c71_)
      have f93_ := frozen_set o85_ ⟨w34.heap.size, 1, none⟩ (.slice (some ⟨g70_, 0, none⟩) L76_ c71_)
      have o94_ := o77_.chg hC89_ (by first | omega | (simp; omega) | simp) (by omega)
      have o95_ := o78_.chg hC89_ (by first | omega | (simp; omega) | simp) (by omega)
      have o96_ := o79_.chg hC89_ (by omega)
      have o97_ := G72_.chg hC89_ (by omega)
      have o98_ := (hC89_.cell (p := ⟨w1.heap.size, 0, none⟩) (by first | omega | (simp; omega) | simp) (by first | omega | (simp; omega) | simp)).trans o80_
      have o99_ := (hC89_.cell (p := ⟨w1.heap.size, 1, none⟩) (by first | omega | (simp; omega) | simp) (by first | omega | (simp; omega) | simp)).trans o81_
      have z100_ := hC89_.size
      try simp at z100_
      have B101_ := B87_.trans (hC89_.below (by omega) (by first | omega | (simp; omega) | simp))
      clear hC89_
      have o102_ := o94_.below ((Below.refl _ _).alloc (Nat.le_refl _) (.cells #[] 3)) (by first | omega | (simp; omega) | simp)
      have o103_ := o95_.alloc (by first | omega | (simp; omega) | simp) (.cells #[] 3)
      have o104_ := o96_.alloc (.cells #[] 3)
      have o105_ := o97_.alloc (.cells #[] 3)
      have o106_ := cell_alloc (o := (.cells #[] 3)) o98_ (by first | omega | (simp; omega) | simp)
      have o107_ := cell_alloc (o := (.cells #[] 3)) o99_ (by first | omega | (simp; omega) | simp)
      have o108_ := cell_alloc (o := (.cells #[] 3)) a90_ (by first | omega | (simp; omega) | simp)
      have o109_ := cell_alloc (o := (.cells #[] 3)) a91_ (by first | omega | (simp; omega) | simp)
      have o110_ := frozen_alloc (o := (.cells #[] 3)) f92_ (by first | omega | (simp; omega) | simp)
      have o111_ := frozen_alloc (o := (.cells #[] 3)) f93_ (by first | omega | (simp; omega) | simp)
      have B112_ := B101_.alloc (by first | omega | (simp; omega) | simp) (.cells #[] 3)
      have G113_ : Grow ((w72.setCell ⟨w34.heap.size, 1, none⟩ (.slice (some ⟨g70_, 0, none⟩) L76_ c71_)).alloc (.cells #[] 3)) (w72.heap.size) 0 ([] : List Int) := by have e := grow_lit (w72.setCell ⟨w34.heap.size, 1, none⟩ (.slice (some ⟨g70_, 0, none⟩) L76_ c71_)) ([] : List Int) (by simp); (try simp only [World.size_setCell] at e); exact e
      have l114_ := G113_.lt
      have HL115_ : Hid (([] : List Int).length = 0) := rfl
      have rm116_ : 2 ≤ c71_ := by have e := o105_.room; have e2 := HL76_.out; omega
      have HL117_k : 2 ≤ ((([] : List Int) ++ xs) ++ ([3] : List Int)).length := by have e := HL76_.out; omega
      have HL117_ : Hid ((((([] : List Int) ++ xs) ++ ([3] : List Int)).take 2).length = 2) := by show _ = _; rw [List.length_take]; omega
      go_upto_region 10 with ((at_builtin; (refine append_grL (by rfl) _ _ (by rfl) (xs := ([] : List Int)) (ys := (((([] : List Int) ++ xs) ++ ([3] : List Int)).take 2)) (by rfl) (by have e := HL115_.out; omega) G113_ (by rfl) (by have e := HL117_.out; omega) (take_read o105_.ints.read HL117_k) (by omega) ?_; intro g118_ c119_ L124_ w120 HL124_ L124_l L124_u G120_ hC121_ hg122_)); (have o125_ := o102_.chg hC121_ (by first | omega | (simp; omega) | simp) (by omega)); (have o126_ := o103_.chg hC121_ (by first | omega | (simp; omega) | simp) (by omega)); (have o127_ := o104_.chg hC121_ (by omega)); (have o128_ := o105_.chg hC121_ (by omega)); (have o129_ := (hC121_.cell (p := ⟨w1.heap.size, 0, none⟩) (by first | omega | (simp; omega) | simp) (by first | omega | (simp; omega) | simp)).trans o106_); (have o130_ := (hC121_.cell (p := ⟨w1.heap.size, 1, none⟩) (by first | omega | (simp; omega) | simp) (by first | omega | (simp; omega) | simp)).trans o107_); (have o131_ := (hC121_.cell (p := ⟨w34.heap.size, 0, none⟩) (by first | omega | (simp; omega) | simp) (by first | omega | (simp; omega) | simp)).trans o108_); (have o132_ := (hC121_.cell (p := ⟨w34.heap.size, 1, none⟩) (by first | omega | (simp; omega) | simp) (by first | omega | (simp; omega) | simp)).trans o109_); (have o133_ := (hC121_.frozen (p := ⟨w34.heap.size, 0, none⟩) (by first | omega | (simp; omega) | simp) (by first | omega | (simp; omega) | simp)).trans o110_); (have o134_ := (hC121_.frozen (p := ⟨w34.heap.size, 1, none⟩) (by first | omega | (simp; omega) | simp) (by first | omega | (simp; omega) | simp)).trans o111_); (have z135_ := hC121_.size); (try simp at z135_); (have B136_ := B112_.trans (hC121_.below (by omega) (by first | omega | (simp; omega) | simp))); (clear hC121_); (have l137_ := G120_.lt))
      have hC138_ := Chg.setCell (lo := w34.heap.size) (hi := w34.heap.size + 1) w120 (p := ⟨w34.heap.size, 1, none⟩) ⟨Nat.le_refl _, Nat.lt_succ_self _⟩ (.slice (some ⟨g118_, 0, none⟩) L124_ c119_)
      have a139_ := cell_set_off o131_ (i := 1) (by omega) (.slice (some ⟨g118_, 0, none⟩) L124_ c119_)
      have a140_ := cell_set o132_ (.slice (some ⟨g118_, 0, none⟩) L124_ c119_)
      have f141_ := frozen_set o133_ ⟨w34.heap.size, 1, none⟩ (.slice (some ⟨g118_, 0, none⟩) L124_ c119_)
      have f142_ := frozen_set o134_ ⟨w34.heap.size, 1, none⟩ (.slice (some ⟨g118_, 0, none⟩) L124_ c119_)
      have o143_ := o125_.chg hC138_ (by first | omega | (simp; omega) | simp) (by omega)
      have o144_ := o126_.chg hC138_ (by first | omega | (simp; omega) | simp) (by omega)
      have o145_ := o127_.chg hC138_ (by omega)
      have o146_ := o128_.chg hC138_ (by omega)
      have o147_ := G120_.chg hC138_ (by omega)
      have o148_ := (hC138_.cell (p := ⟨w1.heap.size, 0, none⟩) (by first | omega | (simp; omega) | simp) (by first | omega | (simp; omega) | simp)).trans o129_
      have o149_ := (hC138_.cell (p := ⟨w1.heap.size, 1, none⟩) (by first | omega | (simp; omega) | simp) (by first | omega | (simp; omega) | simp)).trans o130_
      have z150_ := hC138_.size
      try simp at z150_
      have B151_ := B136_.trans (hC138_.below (by omega) (by first | omega | (simp; omega) | simp))
      clear hC138_
      obtain ⟨a, b, hab, hra, hrb⟩ := two_row (ys := ((([] : List Int) ++ xs) ++ ([3] : List Int))) HOK.out (by simp) (by simp; omega)
      have hx2 : (([] : List Int) ++ (((([] : List Int) ++ xs) ++ ([3] : List Int)).take 2)) = [a, b] := by rw [hab]; rfl
      rw [hx2] at o147_
      clear hab hx2
      obtain ⟨ha0, ha1⟩ := hra
      obtain ⟨hb0, hb1⟩ := hrb
      have hzs1 : w120.heap.size ≤ (w120.setCell ⟨w34.heap.size, 1, none⟩ (.slice (some ⟨g118_, 0, none⟩) L124_ c119_)).heap.size := by simp
      have hzs2 : (w120.setCell ⟨w34.heap.size, 1, none⟩ (.slice (some ⟨g118_, 0, none⟩) L124_ c119_)).heap.size ≤ w120.heap.size := by simp
      generalize (w120.setCell ⟨w34.heap.size, 1, none⟩ (.slice (some ⟨g118_, 0, none⟩) L124_ c119_)) = wz at *
      have HL2 : Hid (([a, b] : List Int).length = L124_) := by have e := o147_.ints; show _ = _; simp only [List.length_cons, List.length_nil]; omega
      have HS2 : Hid (Small [a, b]) := ⟨by simp, fun y hy => by simp only [List.mem_cons, List.not_mem_nil, or_false] at hy; rcases hy with rfl | rfl <;> omega⟩
      obtain ⟨v152_, hv152_⟩ : ∃ v, ([a, b] : List Int).sum = v := ⟨_, rfl⟩
      have bv152_ : v152_ = a + b := by rw [← hv152_]; simp only [List.sum_cons, List.sum_nil]; omega
      have Bv152_ := Lib.hid bv152_
      have bv152_1 : 0 ≤ v152_ := by omega
      have bv152_2 : v152_ ≤ 24 := by omega
      clear bv152_
      have Hv152_ := Lib.hid hv152_
      clear hv152_
      obtain ⟨m153_, hm153_⟩ : ∃ m : Int, (if v152_ < E then v152_ else E) = m := ⟨_, rfl⟩
      have hm153_x : min E v152_ = m153_ := by rw [← hm153_]; split <;> omega
      have Hm153_ := Lib.hid hm153_x
      have m153_l : m153_ ≤ E := by have e := Hm153_.out; omega
      have m153_u : m153_ ≤ v152_ := by have e := Hm153_.out; omega
      have m153_o : m153_ = E ∨ m153_ = v152_ := by have e := Hm153_.out; omega
      have g162_ : w1.heap.size < wz.heap.size := (by first | omega | (simp; omega) | simp)
      have g163_ : w34.heap.size < wz.heap.size := (by first | omega | (simp; omega) | simp)
      have g164_ : w.heap.size ≤ wz.heap.size := (by first | omega | (simp; omega) | simp)
      have g165_ : w1.heap.size ≤ wz.heap.size := (by first | omega | (simp; omega) | simp)
      have g166_ : (w34.heap.size + 1) + 1 ≤ wz.heap.size := (by first | omega | (simp; omega) | simp)
      have g167_ : g70_ + 1 ≤ wz.heap.size := (by first | omega | (simp; omega) | simp)
      have g168_ : g118_ + 1 ≤ wz.heap.size := (by first | omega | (simp; omega) | simp)
      have g169_ : w.heap.size ≤ wz.heap.size := (by first | omega | (simp; omega) | simp)
      go_wp2_with fail
      refine wp_region_held_drew (S := (fun w' : World => Below w.heap.size w w' ∧ wz.heap.size ≤ w'.heap.size ∧ Bytes w' (w.heap.size) A0 bs ∧ Own w' (w.heap.size) (w1.heap.size) (some ⟨b30_, f31_, none⟩) xs ∧ Grow w' (w34.heap.size + 1) 1 ([3] : List Int) ∧ Grow w' g70_ c71_ ((([] : List Int) ++ xs) ++ ([3] : List Int)) ∧ Grow w' g118_ c119_ ([a, b]) ∧ w'.cell? ⟨w1.heap.size, 0, none⟩ = some (.int .i64 E) ∧ w'.cell? ⟨w1.heap.size, 1, none⟩ = some (.slice (some ⟨b30_, f31_, none⟩) xs.length c4_) ∧ w'.cell? ⟨w34.heap.size, 1, none⟩ = some (.slice (some ⟨g118_, 0, none⟩) L124_ c119_) ∧ wz.heap.size ≤ w'.heap.size)) (by kernel_rfl) ⟨B151_.drew, by exact (by first | omega | (simp; omega) | simp), o143_, o144_, o145_, o146_, o147_, o148_, o149_, a140_, Nat.le_refl _⟩ (fun hHeld => ?_)
      have o170_ : wz.drew.cell? ⟨w34.heap.size, 0, none⟩ = some (.int .i64 0) := a139_
      have o171_ : wz.drew.frozen? ⟨w34.heap.size, 0, none⟩ = false := f141_
      have o172_ : wz.drew.frozen? ⟨w34.heap.size, 1, none⟩ = false := f142_
      refine wpAnyH_take (i := 0) (oi := ?oi1) (v := ?vv1) ?hi1 ?hs1 ?hf1 ?ha1 ?hq1 ?hy1 hHeld ?hr1
      case hi1 => (simp only [List.getElem?_toArray, List.getElem?_cons_zero]; exact rfl)
      case hs1 => kernel_rfl
      case hf1 => kernel_rfl
      case ha1 => kernel_rfl
      case hq1 => exact fun _ _ _ h => h
      case hy1 =>
        refine Or.inl ⟨by rfl, ?_⟩
        intro w' hSw
        try dsimp only at hSw
        go_simp
        first | done | with_reducible rfl
      simp only [Act.put, List.setIfInBounds_toArray, List.set_cons_succ, List.set_cons_zero]
      refine wpAnyH_take (i := 1) (oi := ?oi2) (v := ?vv2) ?hi2 ?hs2 ?hf2 ?ha2 ?hq2 ?hy2 hHeld ?hr2
      case hi2 => (simp only [List.getElem?_toArray, List.getElem?_cons_succ, List.getElem?_cons_zero]; exact rfl)
      case hs2 => kernel_rfl
      case hf2 => kernel_rfl
      case ha2 => kernel_rfl
      case hq2 => exact fun _ _ _ h => h
      case hy2 =>
        refine Or.inl ⟨by rfl, ?_⟩
        intro w' hSw
        try dsimp only at hSw
        go_simp
        first | done | with_reducible rfl
      simp only [Act.put, List.setIfInBounds_toArray, List.set_cons_succ, List.set_cons_zero]
      refine wpAnyH_take (i := 2) (oi := ?oi3) (v := ?vv3) ?hi3 ?hs3 ?hf3 ?ha3 ?hq3 ?hy3 hHeld ?hr3
      case hi3 => (simp only [List.getElem?_toArray, List.getElem?_cons_succ, List.getElem?_cons_zero]; exact rfl)
      case hs3 => kernel_rfl
      case hf3 => kernel_rfl
      case ha3 => kernel_rfl
      case hq3 => exact fun _ _ _ h => h
      case hy3 =>
        refine Or.inl ⟨by rfl, ?_⟩
        intro w' hSw
        try dsimp only at hSw
        go_simp
        first | done | with_reducible rfl
      simp only [Act.put, List.setIfInBounds_toArray, List.set_cons_succ, List.set_cons_zero]
      refine wpAnyH_take (i := 3) (oi := ?oi4) (v := ?vv4) ?hi4 ?hs4 ?hf4 ?ha4 ?hq4 ?hy4 hHeld ?hr4
      case hi4 => (simp only [List.getElem?_toArray, List.getElem?_cons_succ, List.getElem?_cons_zero]; exact rfl)
      case hs4 => kernel_rfl
      case hf4 => kernel_rfl
      case ha4 => kernel_rfl
      case hq4 => exact fun _ _ _ h => h
      case hy4 =>
        refine Or.inl ⟨by rfl, ?_⟩
        intro w' hSw
        try dsimp only at hSw
        go_simp
        first | done | with_reducible rfl
      simp only [Act.put, List.setIfInBounds_toArray, List.set_cons_succ, List.set_cons_zero]
      refine wpAnyH_ready (rs := [4]) (by kernel_rfl) (by simp) ?_
      refine AllReadyH.cons rfl (fun K hK => ?_) AllReadyH.nil
      go_simp
      go_at_call 34
      rw [slice_n (A := (some ⟨g118_, 0, none⟩)) (n := L124_) (m := ([a, b]).length) (c := c119_) (by have e := HL2.out; first | omega | exact e.symm)]
      obtain ⟨BB, zz, k154_, k155_, k156_, k157_, k158_, k159_, k160_, k161_, zw⟩ := hHeld
      (with_reducible refine (same_is (lsumOf_any (some ⟨g118_, 0, none⟩) c119_ [a, b] _ _ _ k158_.ints HS2.out) (congrArg (Value.int .i64) Hv152_.out)).mono ?_)
      rintro e w9 ⟨rfl, rfl⟩
      refine hK.out _ _ ⟨BB, zz, k154_, k155_, k156_, k157_, k158_, k159_, k160_, k161_, zw⟩ (fun hHeld => ?_)
      clear hK K
      try simp only [Act.put, List.setIfInBounds_toArray, List.set_cons_zero, List.set_cons_succ]
      refine wpAnyH_take (i := 5) (oi := ?oi5) (v := ?vv5) ?hi5 ?hs5 ?hf5 ?ha5 ?hq5 ?hy5 hHeld ?hr5
      case hi5 => (simp only [List.getElem?_toArray, List.getElem?_cons_succ, List.getElem?_cons_zero]; exact rfl)
      case hs5 => kernel_rfl
      case hf5 => kernel_rfl
      case ha5 => kernel_rfl
      case hq5 => exact fun _ _ _ h => h
      case hy5 =>
        refine Or.inl ⟨by rfl, ?_⟩
        intro w' hSw
        try dsimp only at hSw
        go_simp
        first | done | with_reducible rfl
      simp only [Act.put, List.setIfInBounds_toArray, List.set_cons_succ, List.set_cons_zero]
      refine wpAnyH_take (i := 6) (oi := ?oi6) (v := ?vv6) ?hi6 ?hs6 ?hf6 ?ha6 ?hq6 ?hy6 hHeld ?hr6
      case hi6 => (simp only [List.getElem?_toArray, List.getElem?_cons_succ, List.getElem?_cons_zero]; exact rfl)
      case hs6 => kernel_rfl
      case hf6 => kernel_rfl
      case ha6 => kernel_rfl
      case hq6 => exact fun _ _ _ h => h
      case hy6 =>
        refine Or.inl ⟨by rfl, ?_⟩
        intro w' hSw
        try dsimp only at hSw
        go_simp
        first | done | with_reducible rfl
      simp only [Act.put, List.setIfInBounds_toArray, List.set_cons_succ, List.set_cons_zero]
      refine wpAnyH_ready (rs := [7]) (by kernel_rfl) (by simp) ?_
      refine AllReadyH.cons rfl (fun K hK => ?_) AllReadyH.nil
      obtain ⟨BB, zz, k154_, k155_, k156_, k157_, k158_, k159_, k160_, k161_, zw⟩ := hHeld
      go_simp
      have hC173_ := Chg.setCell (lo := w34.heap.size) (hi := w34.heap.size + 1) wz.drew (p := ⟨w34.heap.size, 0, none⟩) ⟨Nat.le_refl _, Nat.lt_succ_self _⟩ (.int .i64 m153_)
      have a174_ := cell_set o170_ (.int .i64 m153_)
      have f175_ := frozen_set o171_ ⟨w34.heap.size, 0, none⟩ (.int .i64 m153_)
      have f176_ := frozen_set o172_ ⟨w34.heap.size, 0, none⟩ (.int .i64 m153_)
      refine hK.out _ _ ⟨BB.trans (hC173_.below (by omega) (by first | omega | (simp; omega) | simp)), Nat.le_trans zz hC173_.size, k154_.chg hC173_ (by first | omega | (simp; omega) | simp) (by omega), k155_.chg hC173_ (by first | omega | (simp; omega) | simp) (by omega), k156_.chg hC173_ (by omega), k157_.chg hC173_ (by omega), k158_.chg hC173_ (by omega), (hC173_.cell (p := ⟨w1.heap.size, 0, none⟩) (by first | omega | (simp; omega) | simp) (by first | omega | (simp; omega) | simp)).trans k159_, (hC173_.cell (p := ⟨w1.heap.size, 1, none⟩) (by first | omega | (simp; omega) | simp) (by first | omega | (simp; omega) | simp)).trans k160_, cell_set_off k161_ (i := 0) (by omega) (.int .i64 m153_), Nat.le_trans zw hC173_.size⟩ (fun hHeld => ?_)
      clear zw k161_ k160_ k159_ k158_ k157_ k156_ k155_ k154_ zz BB
      clear hK K
      try simp only [Act.put, List.setIfInBounds_toArray, List.set_cons_zero, List.set_cons_succ]
      refine wpAnyH_done (by kernel_rfl) ?_ _
      obtain ⟨BB, zz, k154_, k155_, k156_, k157_, k158_, k159_, k160_, k161_, zw⟩ := hHeld
      have k177_ := BB
      clear BB
      have k178_ := zz
      clear zz
      have k179_ := zw
      clear zw
      have HTC : Hid (caseOkB m153_ [a, b] = true) := by show _ = _; rw [← Hm153_.out, Bv152_.out]; exact two_case (by omega) ⟨ha0, ha1⟩ ⟨hb0, hb1⟩
      have hm45 : 0 ≤ m153_ ∧ m153_ ≤ a + b := by have e := Hm153_.out; have e2 := Bv152_.out; omega
      obtain ⟨hm450, hm451⟩ := hm45
      have HLH : Hid ((halfAw m153_ [a, b]).length = 2) := by show _ = _; rw [halfAw_length]; rfl
      have hlh1 : (halfAw m153_ [a, b]).length ≤ 2 := by have e := HLH.out; omega
      have hlh2 : 2 ≤ (halfAw m153_ [a, b]).length := by have e := HLH.out; omega
      go_wp2_with fail
      rw [slice_n (A := (some ⟨g118_, 0, none⟩)) (n := L124_) (m := ([a, b]).length) (c := c119_) (by have e := HL2.out; first | omega | exact e.symm)]
      refine (implHalfAwards_yes m153_ (some ⟨g118_, 0, none⟩) c119_ ([a, b]) _ _ _ k158_.ints (by first | omega | (simp; omega) | simp) HTC.out).mono ?_
      rintro e w180 ⟨A181_, c182_, rfl, ho183_, hb180_⟩
      have o184_ := k154_.below hb180_ (by first | omega | (simp; omega) | simp)
      have o185_ := k155_.below hb180_ (by first | omega | (simp; omega) | simp)
      have o186_ := k156_.below hb180_ (by first | omega | (simp; omega) | simp)
      have o187_ := k157_.below hb180_ (by first | omega | (simp; omega) | simp)
      have o188_ := k158_.below hb180_ (by first | omega | (simp; omega) | simp)
      have o189_ := (hb180_.cell (p := ⟨w1.heap.size, 0, none⟩) (by first | omega | (simp; omega) | simp)).trans k159_
      have o190_ := (hb180_.cell (p := ⟨w1.heap.size, 1, none⟩) (by first | omega | (simp; omega) | simp)).trans k160_
      have o191_ := (hb180_.cell (p := ⟨w34.heap.size, 0, none⟩) (by first | omega | (simp; omega) | simp)).trans a174_
      have o192_ := (hb180_.cell (p := ⟨w34.heap.size, 1, none⟩) (by first | omega | (simp; omega) | simp)).trans k161_
      have o193_ := (hb180_.frozen (p := ⟨w34.heap.size, 0, none⟩) (by first | omega | (simp; omega) | simp)).trans f175_
      have o194_ := (hb180_.frozen (p := ⟨w34.heap.size, 1, none⟩) (by first | omega | (simp; omega) | simp)).trans f176_
      have z195_ := hb180_.size
      have B196_ := k177_.trans (hb180_.mono (by first | omega | (simp; omega) | simp))
      clear hb180_
      have HPIN : Hid (pairIn (48 * a) (48 * b) (48 * m153_) = true) := two_pair ⟨ha0, ha1⟩ ⟨hb0, hb1⟩ hm450 hm451
      have c197_ : w180.cell? ⟨g118_, 0, none⟩ = some (.int .i64 a) := o188_.at_ 0 (by simp)
      have c197_i : (0 : Int) < (L124_ : Int) := by have e := HL2.out; simp only [List.length_cons, List.length_nil] at e; omega
      have c197_n : 0 < L124_ := by omega
      have c198_ : w180.cell? ⟨g118_, 1, none⟩ = some (.int .i64 b) := o188_.at_ 1 (by simp)
      have c198_i : (1 : Int) < (L124_ : Int) := by have e := HL2.out; simp only [List.length_cons, List.length_nil] at e; omega
      have c198_n : 1 < L124_ := by omega
      have hw200_ : IntKind.i64.wrap (48 * a) = (48 * a) := IntWalk.i64_in _ (by omega)
      have hw201_ : IntKind.i64.wrap (48 * b) = (48 * b) := IntWalk.i64_in _ (by omega)
      have hw202_ : IntKind.i64.wrap (48 * m153_) = (48 * m153_) := IntWalk.i64_in _ (by omega)
      have g217_ : w1.heap.size < w180.heap.size := (by first | omega | (simp; omega) | simp)
      have g218_ : w34.heap.size < w180.heap.size := (by first | omega | (simp; omega) | simp)
      have g219_ : w.heap.size ≤ w180.heap.size := (by first | omega | (simp; omega) | simp)
      have g220_ : w1.heap.size ≤ w180.heap.size := (by first | omega | (simp; omega) | simp)
      have g221_ : (w34.heap.size + 1) + 1 ≤ w180.heap.size := (by first | omega | (simp; omega) | simp)
      have g222_ : g70_ + 1 ≤ w180.heap.size := (by first | omega | (simp; omega) | simp)
      have g223_ : g118_ + 1 ≤ w180.heap.size := (by first | omega | (simp; omega) | simp)
      have g224_ : w180.heap.size ≤ w180.heap.size := (by first | omega | (simp; omega) | simp)
      have g225_ : g118_ < w180.heap.size := (by first | omega | (simp; omega) | simp)
      have g226_ : g118_ < w180.heap.size := (by first | omega | (simp; omega) | simp)
      have g227_ : w.heap.size ≤ w180.heap.size := (by first | omega | (simp; omega) | simp)
      go_wp2_with fail
      refine wp_region_held_drew (S := (fun w' : World => Below w.heap.size w w' ∧ w180.heap.size ≤ w'.heap.size ∧ Bytes w' (w.heap.size) A0 bs ∧ Own w' (w.heap.size) (w1.heap.size) (some ⟨b30_, f31_, none⟩) xs ∧ Grow w' (w34.heap.size + 1) 1 ([3] : List Int) ∧ Grow w' g70_ c71_ ((([] : List Int) ++ xs) ++ ([3] : List Int)) ∧ Grow w' g118_ c119_ ([a, b]) ∧ Own w' ((wz.drew.setCell ⟨w34.heap.size, 0, none⟩ (.int .i64 m153_)).heap.size) (w180.heap.size) A181_ (halfAw m153_ [a, b]) ∧ w'.cell? ⟨w1.heap.size, 0, none⟩ = some (.int .i64 E) ∧ w'.cell? ⟨w1.heap.size, 1, none⟩ = some (.slice (some ⟨b30_, f31_, none⟩) xs.length c4_) ∧ w'.cell? ⟨w34.heap.size, 0, none⟩ = some (.int .i64 m153_) ∧ w'.cell? ⟨w34.heap.size, 1, none⟩ = some (.slice (some ⟨g118_, 0, none⟩) L124_ c119_) ∧ w'.frozen? ⟨w34.heap.size, 0, none⟩ = false ∧ w'.frozen? ⟨w34.heap.size, 1, none⟩ = false ∧ w'.cell? ⟨g118_, 0, none⟩ = some (.int .i64 a) ∧ w'.cell? ⟨g118_, 1, none⟩ = some (.int .i64 b) ∧ w180.heap.size ≤ w'.heap.size)) (by kernel_rfl) ⟨B196_.drew, by exact (by first | omega | (simp; omega) | simp), o184_, o185_, o186_, o187_, o188_, ho183_, o189_, o190_, o191_, o192_, o193_, o194_, c197_, c198_, Nat.le_refl _⟩ (fun hHeld => ?_)
      refine wpAnyH_take (i := 0) (oi := ?oi7) (v := ?vv7) ?hi7 ?hs7 ?hf7 ?ha7 ?hq7 ?hy7 hHeld ?hr7
      case hi7 => (simp only [List.getElem?_toArray, List.getElem?_cons_zero]; exact rfl)
      case hs7 => kernel_rfl
      case hf7 => kernel_rfl
      case ha7 => kernel_rfl
      case hq7 => exact fun _ _ _ h => h
      case hy7 =>
        refine Or.inl ⟨by rfl, ?_⟩
        intro w' hSw
        try dsimp only at hSw
        go_simp
        first | done | with_reducible rfl
      simp only [Act.put, List.setIfInBounds_toArray, List.set_cons_succ, List.set_cons_zero]
      refine wpAnyH_take (i := 1) (oi := ?oi8) (v := ?vv8) ?hi8 ?hs8 ?hf8 ?ha8 ?hq8 ?hy8 hHeld ?hr8
      case hi8 => (simp only [List.getElem?_toArray, List.getElem?_cons_succ, List.getElem?_cons_zero]; exact rfl)
      case hs8 => kernel_rfl
      case hf8 => kernel_rfl
      case ha8 => kernel_rfl
      case hq8 => exact fun _ _ _ h => h
      case hy8 =>
        refine Or.inl ⟨by rfl, ?_⟩
        intro w' hSw
        try dsimp only at hSw
        go_simp
        first | done | with_reducible rfl
      simp only [Act.put, List.setIfInBounds_toArray, List.set_cons_succ, List.set_cons_zero]
      refine wpAnyH_take (i := 2) (oi := ?oi9) (v := ?vv9) ?hi9 ?hs9 ?hf9 ?ha9 ?hq9 ?hy9 hHeld ?hr9
      case hi9 => (simp only [List.getElem?_toArray, List.getElem?_cons_succ, List.getElem?_cons_zero]; exact rfl)
      case hs9 => kernel_rfl
      case hf9 => kernel_rfl
      case ha9 => kernel_rfl
      case hq9 => exact fun _ _ _ h => h
      case hy9 =>
        refine Or.inl ⟨by rfl, ?_⟩
        intro w' hSw
        try dsimp only at hSw
        go_simp
        first | done | with_reducible rfl
      simp only [Act.put, List.setIfInBounds_toArray, List.set_cons_succ, List.set_cons_zero]
      refine wpAnyH_take (i := 3) (oi := ?oi10) (v := ?vv10) ?hi10 ?hs10 ?hf10 ?ha10 ?hq10 ?hy10 hHeld ?hr10
      case hi10 => (simp only [List.getElem?_toArray, List.getElem?_cons_succ, List.getElem?_cons_zero]; exact rfl)
      case hs10 => kernel_rfl
      case hf10 => kernel_rfl
      case ha10 => kernel_rfl
      case hq10 => exact fun _ _ _ h => h
      case hy10 =>
        refine Or.inl ⟨by rfl, ?_⟩
        intro w' hSw
        try dsimp only at hSw
        go_simp
        first | done | with_reducible rfl
      simp only [Act.put, List.setIfInBounds_toArray, List.set_cons_succ, List.set_cons_zero]
      refine wpAnyH_take (i := 4) (oi := ?oi11) (v := ?vv11) ?hi11 ?hs11 ?hf11 ?ha11 ?hq11 ?hy11 hHeld ?hr11
      case hi11 => (simp only [List.getElem?_toArray, List.getElem?_cons_succ, List.getElem?_cons_zero]; exact rfl)
      case hs11 => kernel_rfl
      case hf11 => kernel_rfl
      case ha11 => kernel_rfl
      case hq11 => exact fun _ _ _ h => h
      case hy11 =>
        refine Or.inl ⟨by rfl, ?_⟩
        intro w' hSw
        try dsimp only at hSw
        go_simp
        first | done | with_reducible rfl
      simp only [Act.put, List.setIfInBounds_toArray, List.set_cons_succ, List.set_cons_zero]
      refine wpAnyH_take (i := 5) (oi := ?oi12) (v := ?vv12) ?hi12 ?hs12 ?hf12 ?ha12 ?hq12 ?hy12 hHeld ?hr12
      case hi12 => (simp only [List.getElem?_toArray, List.getElem?_cons_succ, List.getElem?_cons_zero]; exact rfl)
      case hs12 => kernel_rfl
      case hf12 => kernel_rfl
      case ha12 => kernel_rfl
      case hq12 => exact fun _ _ _ h => h
      case hy12 =>
        refine Or.inl ⟨by rfl, ?_⟩
        intro w' hSw
        try dsimp only at hSw
        go_simp
        first | done | with_reducible rfl
      simp only [Act.put, List.setIfInBounds_toArray, List.set_cons_succ, List.set_cons_zero]
      refine wpAnyH_take (i := 6) (oi := ?oi13) (v := ?vv13) ?hi13 ?hs13 ?hf13 ?ha13 ?hq13 ?hy13 hHeld ?hr13
      case hi13 => (simp only [List.getElem?_toArray, List.getElem?_cons_succ, List.getElem?_cons_zero]; exact rfl)
      case hs13 => kernel_rfl
      case hf13 => kernel_rfl
      case ha13 => kernel_rfl
      case hq13 => exact fun _ _ _ h => h
      case hy13 =>
        refine Or.inl ⟨by rfl, ?_⟩
        intro w' hSw
        try dsimp only at hSw
        go_simp
        first | done | with_reducible rfl
      simp only [Act.put, List.setIfInBounds_toArray, List.set_cons_succ, List.set_cons_zero]
      refine wpAnyH_take (i := 7) (oi := ?oi14) (v := ?vv14) ?hi14 ?hs14 ?hf14 ?ha14 ?hq14 ?hy14 hHeld ?hr14
      case hi14 => (simp only [List.getElem?_toArray, List.getElem?_cons_succ, List.getElem?_cons_zero]; exact rfl)
      case hs14 => kernel_rfl
      case hf14 => kernel_rfl
      case ha14 => kernel_rfl
      case hq14 => exact fun _ _ _ h => h
      case hy14 =>
        refine Or.inl ⟨by rfl, ?_⟩
        intro w' hSw
        try dsimp only at hSw
        go_simp
        first | done | with_reducible rfl
      simp only [Act.put, List.setIfInBounds_toArray, List.set_cons_succ, List.set_cons_zero]
      refine wpAnyH_take (i := 8) (oi := ?oi15) (v := ?vv15) ?hi15 ?hs15 ?hf15 ?ha15 ?hq15 ?hy15 hHeld ?hr15
      case hi15 => (simp only [List.getElem?_toArray, List.getElem?_cons_succ, List.getElem?_cons_zero]; exact rfl)
      case hs15 => kernel_rfl
      case hf15 => kernel_rfl
      case ha15 => kernel_rfl
      case hq15 => exact fun _ _ _ h => h
      case hy15 =>
        refine Or.inl ⟨by rfl, ?_⟩
        intro w' hSw
        try dsimp only at hSw
        go_simp
        first | done | with_reducible rfl
      simp only [Act.put, List.setIfInBounds_toArray, List.set_cons_succ, List.set_cons_zero]
      refine wpAnyH_take (i := 9) (oi := ?oi16) (v := ?vv16) ?hi16 ?hs16 ?hf16 ?ha16 ?hq16 ?hy16 hHeld ?hr16
      case hi16 => (simp only [List.getElem?_toArray, List.getElem?_cons_succ, List.getElem?_cons_zero]; exact rfl)
      case hs16 => kernel_rfl
      case hf16 => kernel_rfl
      case ha16 => kernel_rfl
      case hq16 => exact fun _ _ _ h => h
      case hy16 =>
        refine Or.inl ⟨by rfl, ?_⟩
        intro w' hSw
        try dsimp only at hSw
        go_simp
        first | done | with_reducible rfl
      simp only [Act.put, List.setIfInBounds_toArray, List.set_cons_succ, List.set_cons_zero]
      refine wpAnyH_take (i := 10) (oi := ?oi17) (v := ?vv17) ?hi17 ?hs17 ?hf17 ?ha17 ?hq17 ?hy17 hHeld ?hr17
      case hi17 => (simp only [List.getElem?_toArray, List.getElem?_cons_succ, List.getElem?_cons_zero]; exact rfl)
      case hs17 => kernel_rfl
      case hf17 => kernel_rfl
      case ha17 => kernel_rfl
      case hq17 => exact fun _ _ _ h => h
      case hy17 =>
        refine Or.inl ⟨by rfl, ?_⟩
        intro w' hSw
        try dsimp only at hSw
        go_simp
        first | done | with_reducible rfl
      simp only [Act.put, List.setIfInBounds_toArray, List.set_cons_succ, List.set_cons_zero]
      refine wpAnyH_take (i := 11) (oi := ?oi18) (v := ?vv18) ?hi18 ?hs18 ?hf18 ?ha18 ?hq18 ?hy18 hHeld ?hr18
      case hi18 => (simp only [List.getElem?_toArray, List.getElem?_cons_succ, List.getElem?_cons_zero]; exact rfl)
      case hs18 => kernel_rfl
      case hf18 => kernel_rfl
      case ha18 => kernel_rfl
      case hq18 => exact fun _ _ _ h => h
      case hy18 =>
        refine Or.inl ⟨by rfl, ?_⟩
        intro w' hSw
        try dsimp only at hSw
        go_simp
        first | done | with_reducible rfl
      simp only [Act.put, List.setIfInBounds_toArray, List.set_cons_succ, List.set_cons_zero]
      refine wpAnyH_take (i := 12) (oi := ?oi19) (v := ?vv19) ?hi19 ?hs19 ?hf19 ?ha19 ?hq19 ?hy19 hHeld ?hr19
      case hi19 => (simp only [List.getElem?_toArray, List.getElem?_cons_succ, List.getElem?_cons_zero]; exact rfl)
      case hs19 => kernel_rfl
      case hf19 => kernel_rfl
      case ha19 => kernel_rfl
      case hq19 => exact fun _ _ _ h => h
      case hy19 =>
        refine Or.inl ⟨by rfl, ?_⟩
        intro w' hSw
        try dsimp only at hSw
        go_simp
        first | done | with_reducible rfl
      simp only [Act.put, List.setIfInBounds_toArray, List.set_cons_succ, List.set_cons_zero]
      refine wpAnyH_ready (rs := [13]) (by kernel_rfl) (by simp) ?_
      refine AllReadyH.cons rfl (fun K hK => ?_) AllReadyH.nil
      go_simp
      go_at_call 49
      obtain ⟨BB, zz, k203_, k204_, k205_, k206_, k207_, k208_, k209_, k210_, k211_, k212_, k213_, k214_, q215_, q216_, zw⟩ := hHeld
      (with_reducible refine (pair_in (48 * a) (48 * b) (48 * m153_) _ HPIN.out).mono ?_)
      rintro e w228 ⟨PA, PB, hpa, hpb, rfl, hb199_⟩
      have HPA := Lib.hid hpa
      have HPB := Lib.hid hpb
      clear hpa hpb
      refine hK.out _ _ ⟨BB.trans (hb199_.mono (by omega)), Nat.le_trans zz hb199_.size, k203_.below hb199_ (by first | omega | (simp; omega) | simp), k204_.below hb199_ (by first | omega | (simp; omega) | simp), k205_.below hb199_ (by first | omega | (simp; omega) | simp), k206_.below hb199_ (by first | omega | (simp; omega) | simp), k207_.below hb199_ (by first | omega | (simp; omega) | simp), k208_.below hb199_ (by first | omega | (simp; omega) | simp), (hb199_.cell (p := ⟨w1.heap.size, 0, none⟩) (by first | omega | (simp; omega) | simp)).trans k209_, (hb199_.cell (p := ⟨w1.heap.size, 1, none⟩) (by first | omega | (simp; omega) | simp)).trans k210_, (hb199_.cell (p := ⟨w34.heap.size, 0, none⟩) (by first | omega | (simp; omega) | simp)).trans k211_, (hb199_.cell (p := ⟨w34.heap.size, 1, none⟩) (by first | omega | (simp; omega) | simp)).trans k212_, (hb199_.frozen (p := ⟨w34.heap.size, 0, none⟩) (by first | omega | (simp; omega) | simp)).trans k213_, (hb199_.frozen (p := ⟨w34.heap.size, 1, none⟩) (by first | omega | (simp; omega) | simp)).trans k214_, (hb199_.cell (by show g118_ < _; omega)).trans q215_, (hb199_.cell (by show g118_ < _; omega)).trans q216_, Nat.le_trans zw hb199_.size⟩ (fun hHeld => ?_)
      clear hb199_ zw q216_ q215_ k214_ k213_ k212_ k211_ k210_ k209_ k208_ k207_ k206_ k205_ k204_ k203_ zz BB
      clear hK K
      try simp only [Act.put, List.setIfInBounds_toArray, List.set_cons_zero, List.set_cons_succ]
      refine wpAnyH_take (i := 14) (oi := ?oi20) (v := ?vv20) ?hi20 ?hs20 ?hf20 ?ha20 ?hq20 ?hy20 hHeld ?hr20
      case hi20 => (simp only [List.getElem?_toArray, List.getElem?_cons_succ, List.getElem?_cons_zero]; exact rfl)
      case hs20 => kernel_rfl
      case hf20 => kernel_rfl
      case ha20 => kernel_rfl
      case hq20 => exact fun _ _ _ h => h
      case hy20 =>
        refine Or.inl ⟨by rfl, ?_⟩
        intro w' hSw
        try dsimp only at hSw
        go_simp
        first | done | with_reducible rfl
      simp only [Act.put, List.setIfInBounds_toArray, List.set_cons_succ, List.set_cons_zero]
      refine wpAnyH_take (i := 15) (oi := ?oi21) (v := ?vv21) ?hi21 ?hs21 ?hf21 ?ha21 ?hq21 ?hy21 hHeld ?hr21
      case hi21 => (simp only [List.getElem?_toArray, List.getElem?_cons_succ, List.getElem?_cons_zero]; exact rfl)
      case hs21 => kernel_rfl
      case hf21 => kernel_rfl
      case ha21 => kernel_rfl
      case hq21 => exact fun _ _ _ h => h
      case hy21 =>
        refine Or.inl ⟨by rfl, ?_⟩
        intro w' hSw
        try dsimp only at hSw
        go_simp
        first | done | with_reducible rfl
      simp only [Act.put, List.setIfInBounds_toArray, List.set_cons_succ, List.set_cons_zero]
      refine wpAnyH_take (i := 16) (oi := ?oi22) (v := ?vv22) ?hi22 ?hs22 ?hf22 ?ha22 ?hq22 ?hy22 hHeld ?hr22
      case hi22 => (simp only [List.getElem?_toArray, List.getElem?_cons_succ, List.getElem?_cons_zero]; exact rfl)
      case hs22 => kernel_rfl
      case hf22 => kernel_rfl
      case ha22 => kernel_rfl
      case hq22 => exact fun _ _ _ h => h
      case hy22 =>
        refine Or.inl ⟨by rfl, ?_⟩
        intro w' hSw
        try dsimp only at hSw
        go_simp
        first | done | with_reducible rfl
      simp only [Act.put, List.setIfInBounds_toArray, List.set_cons_succ, List.set_cons_zero]
      refine wpAnyH_take (i := 17) (oi := ?oi23) (v := ?vv23) ?hi23 ?hs23 ?hf23 ?ha23 ?hq23 ?hy23 hHeld ?hr23
      case hi23 => (simp only [List.getElem?_toArray, List.getElem?_cons_succ, List.getElem?_cons_zero]; exact rfl)
      case hs23 => kernel_rfl
      case hf23 => kernel_rfl
      case ha23 => kernel_rfl
      case hq23 => exact fun _ _ _ h => h
      case hy23 =>
        refine Or.inl ⟨by rfl, ?_⟩
        intro w' hSw
        try dsimp only at hSw
        go_simp
        first | done | with_reducible rfl
      simp only [Act.put, List.setIfInBounds_toArray, List.set_cons_succ, List.set_cons_zero]
      refine wpAnyH_take (i := 18) (oi := ?oi24) (v := ?vv24) ?hi24 ?hs24 ?hf24 ?ha24 ?hq24 ?hy24 hHeld ?hr24
      case hi24 => (simp only [List.getElem?_toArray, List.getElem?_cons_succ, List.getElem?_cons_zero]; exact rfl)
      case hs24 => kernel_rfl
      case hf24 => kernel_rfl
      case ha24 => kernel_rfl
      case hq24 => exact fun _ _ _ h => h
      case hy24 =>
        refine Or.inl ⟨by rfl, ?_⟩
        intro w' hSw
        try dsimp only at hSw
        go_simp
        first | done | with_reducible rfl
      simp only [Act.put, List.setIfInBounds_toArray, List.set_cons_succ, List.set_cons_zero]
      refine wpAnyH_take (i := 19) (oi := ?oi25) (v := ?vv25) ?hi25 ?hs25 ?hf25 ?ha25 ?hq25 ?hy25 hHeld ?hr25
      case hi25 => (simp only [List.getElem?_toArray, List.getElem?_cons_succ, List.getElem?_cons_zero]; exact rfl)
      case hs25 => kernel_rfl
      case hf25 => kernel_rfl
      case ha25 => kernel_rfl
      case hq25 => exact fun _ _ _ h => h
      case hy25 =>
        refine Or.inl ⟨by rfl, ?_⟩
        intro w' hSw
        try dsimp only at hSw
        go_simp
        first | done | with_reducible rfl
      simp only [Act.put, List.setIfInBounds_toArray, List.set_cons_succ, List.set_cons_zero]
      refine wpAnyH_take (i := 20) (oi := ?oi26) (v := ?vv26) ?hi26 ?hs26 ?hf26 ?ha26 ?hq26 ?hy26 hHeld ?hr26
      case hi26 => (simp only [List.getElem?_toArray, List.getElem?_cons_succ, List.getElem?_cons_zero]; exact rfl)
      case hs26 => kernel_rfl
      case hf26 => kernel_rfl
      case ha26 => kernel_rfl
      case hq26 => exact fun _ _ _ h => h
      case hy26 =>
        refine Or.inl ⟨by rfl, ?_⟩
        intro w' hSw
        try dsimp only at hSw
        go_simp
        first | done | with_reducible rfl
      simp only [Act.put, List.setIfInBounds_toArray, List.set_cons_succ, List.set_cons_zero]
      refine wpAnyH_done (by kernel_rfl) ?_ _
      obtain ⟨BB, zz, k203_, k204_, k205_, k206_, k207_, k208_, k209_, k210_, k211_, k212_, k213_, k214_, q215_, q216_, zw⟩ := hHeld
      clear hw200_ hw201_ hw202_
      have k229_ := BB
      clear BB
      have k230_ := zz
      clear zz
      have k231_ := zw
      clear zw
      go_wp2_with fail
      refine (alive_any _).mono ?_
      rintro e w232 ⟨rfl, hb232_⟩
      have o233_ := k203_.below hb232_ (by first | omega | (simp; omega) | simp)
      have o234_ := k204_.below hb232_ (by first | omega | (simp; omega) | simp)
      have o235_ := k205_.below hb232_ (by first | omega | (simp; omega) | simp)
      have o236_ := k206_.below hb232_ (by first | omega | (simp; omega) | simp)
      have o237_ := k207_.below hb232_ (by first | omega | (simp; omega) | simp)
      have o238_ := k208_.below hb232_ (by first | omega | (simp; omega) | simp)
      have o239_ := (hb232_.cell (p := ⟨w1.heap.size, 0, none⟩) (by first | omega | (simp; omega) | simp)).trans k209_
      have o240_ := (hb232_.cell (p := ⟨w1.heap.size, 1, none⟩) (by first | omega | (simp; omega) | simp)).trans k210_
      have o241_ := (hb232_.cell (p := ⟨w34.heap.size, 0, none⟩) (by first | omega | (simp; omega) | simp)).trans k211_
      have o242_ := (hb232_.cell (p := ⟨w34.heap.size, 1, none⟩) (by first | omega | (simp; omega) | simp)).trans k212_
      have o243_ := (hb232_.frozen (p := ⟨w34.heap.size, 0, none⟩) (by first | omega | (simp; omega) | simp)).trans k213_
      have o244_ := (hb232_.frozen (p := ⟨w34.heap.size, 1, none⟩) (by first | omega | (simp; omega) | simp)).trans k214_
      have z245_ := hb232_.size
      have B246_ := k229_.trans (hb232_.mono (by first | omega | (simp; omega) | simp))
      clear hb232_
      have h247_ : ((halfAw m153_ [a, b]).length : Int) = 2 := by omega
      have h247_b : (((halfAw m153_ [a, b]).length : Int) == 2) = true := by simpa using h247_
      have h247_n : (((halfAw m153_ [a, b]).length : Int) != 2) = false := by simpa using h247_
      have h247_le : ((halfAw m153_ [a, b]).length : Int) ≤ 2 := by omega
      have h247_ge : 2 ≤ ((halfAw m153_ [a, b]).length : Int) := by omega
      have Hh247_ := Lib.hid h247_
      clear h247_
      obtain ⟨b248_, f249_, rfl, b248_l, b248_h, -⟩ := o238_.ints (by have e := HLH.out; omega)
      have c250_ : w232.cell? ⟨b248_, f249_, none⟩ = some (.int .i64 ((halfAw m153_ [a, b]).getD 0 0)) := o238_.ints.at2 0 (by first | omega | (simp; omega) | simp)
      have c250_i : 0 < ((halfAw m153_ [a, b]).length : Int) := by omega
      have c250_j : (0 : Int) ≤ 0 := by omega
      have c250_n : 0 < (halfAw m153_ [a, b]).length := by omega
      have v251_g := half_rg HTC.out 0
      obtain ⟨v251_, hv251_⟩ : ∃ v, v = (halfAw m153_ [a, b]).getD 0 0 := ⟨_, rfl⟩
      rw [← hv251_] at c250_ v251_g
      have Hv251_ := Lib.hid hv251_
      clear hv251_
      obtain ⟨v251_g1, v251_g2⟩ := v251_g
      have h252_ : (2 * v251_) = PA := by rw [Hv251_.out, HPA.out]; exact (half_two HTC.out).1
      have h252_b : ((2 * v251_) == PA) = true := by simpa using h252_
      have h252_n : ((2 * v251_) != PA) = false := by simpa using h252_
      have h252_le : (2 * v251_) ≤ PA := by omega
      have h252_ge : PA ≤ (2 * v251_) := by omega
      have Hh252_ := Lib.hid h252_
      clear h252_
      have c253_ : w232.cell? ⟨b248_, f249_ + 1, none⟩ = some (.int .i64 ((halfAw m153_ [a, b]).getD 1 0)) := o238_.ints.at2 1 (by first | omega | (simp; omega) | simp)
      have c253_i : 1 < ((halfAw m153_ [a, b]).length : Int) := by omega
      have c253_j : (0 : Int) ≤ 1 := by omega
      have c253_n : 1 < (halfAw m153_ [a, b]).length := by omega
      have v254_g := half_rg HTC.out 1
      obtain ⟨v254_, hv254_⟩ : ∃ v, v = (halfAw m153_ [a, b]).getD 1 0 := ⟨_, rfl⟩
      rw [← hv254_] at c253_ v254_g
      have Hv254_ := Lib.hid hv254_
      clear hv254_
      obtain ⟨v254_g1, v254_g2⟩ := v254_g
      have h255_ : (2 * v254_) = PB := by rw [Hv254_.out, HPB.out]; exact (half_two HTC.out).2
      have h255_b : ((2 * v254_) == PB) = true := by simpa using h255_
      have h255_n : ((2 * v254_) != PB) = false := by simpa using h255_
      have h255_le : (2 * v254_) ≤ PB := by omega
      have h255_ge : PB ≤ (2 * v254_) := by omega
      have Hh255_ := Lib.hid h255_
      clear h255_
      go_wp2_with fail
      rw [slice_n (A := (some ⟨g118_, 0, none⟩)) (n := L124_) (m := ([a, b]).length) (c := c119_) (by have e := HL2.out; first | omega | exact e.symm)]
      refine (implArrivalAwards_any m153_ (some ⟨g118_, 0, none⟩) c119_ ([a, b]) _ _ _ o237_.ints (by first | omega | (simp; omega) | simp) (by simp)).mono ?_
      rintro e w256 ⟨A257_, c258_, rfl, ho259_, hb256_⟩
      have o260_ := o233_.below hb256_ (by first | omega | (simp; omega) | simp)
      have o261_ := o234_.below hb256_ (by first | omega | (simp; omega) | simp)
      have o262_ := o235_.below hb256_ (by first | omega | (simp; omega) | simp)
      have o263_ := o236_.below hb256_ (by first | omega | (simp; omega) | simp)
      have o264_ := o237_.below hb256_ (by first | omega | (simp; omega) | simp)
      have o265_ := o238_.below hb256_ (by first | omega | (simp; omega) | simp)
      have o266_ := (hb256_.cell (p := ⟨w1.heap.size, 0, none⟩) (by first | omega | (simp; omega) | simp)).trans o239_
      have o267_ := (hb256_.cell (p := ⟨w1.heap.size, 1, none⟩) (by first | omega | (simp; omega) | simp)).trans o240_
      have o268_ := (hb256_.cell (p := ⟨w34.heap.size, 0, none⟩) (by first | omega | (simp; omega) | simp)).trans o241_
      have o269_ := (hb256_.cell (p := ⟨w34.heap.size, 1, none⟩) (by first | omega | (simp; omega) | simp)).trans o242_
      have o270_ := (hb256_.frozen (p := ⟨w34.heap.size, 0, none⟩) (by first | omega | (simp; omega) | simp)).trans o243_
      have o271_ := (hb256_.frozen (p := ⟨w34.heap.size, 1, none⟩) (by first | omega | (simp; omega) | simp)).trans o244_
      have z272_ := hb256_.size
      have B273_ := B246_.trans (hb256_.mono (by first | omega | (simp; omega) | simp))
      clear hb256_
      have H274_ : Hid ((arrRow m153_ ([a, b])) = (halfAw m153_ [a, b])) := by show _ = _; rw [arrRow_yes HTC.out, arr_two HTC.out]
      go_wp2_with fail
      refine (sameInts_yes A257_ (some ⟨b248_, f249_, none⟩) c258_ c182_ (arrRow m153_ ([a, b])) (halfAw m153_ [a, b]) _ _ _ _ _ ho259_.ints o265_.ints (by have e := arrRow_len m153_ ([a, b]); omega) H274_.out).mono ?_
      rintro e w275 ⟨rfl, hb275_⟩
      have o276_ := o260_.below hb275_ (by first | omega | (simp; omega) | simp)
      have o277_ := o261_.below hb275_ (by first | omega | (simp; omega) | simp)
      have o278_ := o262_.below hb275_ (by first | omega | (simp; omega) | simp)
      have o279_ := o263_.below hb275_ (by first | omega | (simp; omega) | simp)
      have o280_ := o264_.below hb275_ (by first | omega | (simp; omega) | simp)
      have o281_ := o265_.below hb275_ (by first | omega | (simp; omega) | simp)
      have o282_ := ho259_.below hb275_ (by first | omega | (simp; omega) | simp)
      have o283_ := (hb275_.cell (p := ⟨w1.heap.size, 0, none⟩) (by first | omega | (simp; omega) | simp)).trans o266_
      have o284_ := (hb275_.cell (p := ⟨w1.heap.size, 1, none⟩) (by first | omega | (simp; omega) | simp)).trans o267_
      have o285_ := (hb275_.cell (p := ⟨w34.heap.size, 0, none⟩) (by first | omega | (simp; omega) | simp)).trans o268_
      have o286_ := (hb275_.cell (p := ⟨w34.heap.size, 1, none⟩) (by first | omega | (simp; omega) | simp)).trans o269_
      have o287_ := (hb275_.frozen (p := ⟨w34.heap.size, 0, none⟩) (by first | omega | (simp; omega) | simp)).trans o270_
      have o288_ := (hb275_.frozen (p := ⟨w34.heap.size, 1, none⟩) (by first | omega | (simp; omega) | simp)).trans o271_
      have z289_ := hb275_.size
      have B290_ := B273_.trans (hb275_.mono (by first | omega | (simp; omega) | simp))
      clear hb275_
      go_wp2
      go_ret
      exact ⟨ret_bool (by first | exact rfl | exact h255_b.trans rfl), B290_⟩
    · have h56_b : ((L38_ : Int) == 1) = false := by simpa using h56_
      have h56_n : ((L38_ : Int) != 1) = true := by simpa using h56_
      have o57_ := o46_.below ((Below.refl _ _).alloc (Nat.le_refl _) (.cells #[] 3)) (by first | omega | (simp; omega) | simp)
      have o58_ := o47_.alloc (by first | omega | (simp; omega) | simp) (.cells #[] 3)
      have o59_ := o48_.alloc (.cells #[] 3)
      have o60_ := cell_alloc (o := (.cells #[] 3)) o49_ (by first | omega | (simp; omega) | simp)
      have o61_ := cell_alloc (o := (.cells #[] 3)) o50_ (by first | omega | (simp; omega) | simp)
      have o62_ := cell_alloc (o := (.cells #[] 3)) a52_ (by first | omega | (simp; omega) | simp)
      have o63_ := cell_alloc (o := (.cells #[] 3)) a53_ (by first | omega | (simp; omega) | simp)
      have o64_ := frozen_alloc (o := (.cells #[] 3)) f54_ (by first | omega | (simp; omega) | simp)
      have o65_ := frozen_alloc (o := (.cells #[] 3)) f55_ (by first | omega | (simp; omega) | simp)
      have B66_ := B51_.alloc (by first | omega | (simp; omega) | simp) (.cells #[] 3)
      have G67_ : Grow ((w34.alloc (.cells #[.int .i64 0, .slice (some ⟨g32_, 0, none⟩) L38_ c33_] 25)).alloc (.cells #[] 3)) (w34.heap.size + 1) 0 ([] : List Int) := by have e := grow_lit (w34.alloc (.cells #[.int .i64 0, .slice (some ⟨g32_, 0, none⟩) L38_ c33_] 25)) ([] : List Int) (by simp); (try simp only [hsz] at e); exact e
      have l68_ := G67_.lt
      have HL69_ : Hid (([] : List Int).length = 0) := rfl
      have rm70_ : 2 ≤ c33_ := by have e := o59_.room; have e2 := HL38_.out; omega
      have HL71_k : 2 ≤ (([] : List Int) ++ xs).length := by have e := HL38_.out; omega
      have HL71_ : Hid (((([] : List Int) ++ xs).take 2).length = 2) := by show _ = _; rw [List.length_take]; omega
      go_upto_region 10 with ((at_builtin; (refine append_grL (by rfl) _ _ (by rfl) (xs := ([] : List Int)) (ys := ((([] : List Int) ++ xs).take 2)) (by rfl) (by have e := HL69_.out; omega) G67_ (by rfl) (by have e := HL71_.out; omega) (take_read o59_.ints.read HL71_k) (by omega) ?_; intro g72_ c73_ L78_ w74 HL78_ L78_l L78_u G74_ hC75_ hg76_)); (have o79_ := o57_.chg hC75_ (by first | omega | (simp; omega) | simp) (by omega)); (have o80_ := o58_.chg hC75_ (by first | omega | (simp; omega) | simp) (by omega)); (have o81_ := o59_.chg hC75_ (by omega)); (have o82_ := (hC75_.cell (p := ⟨w1.heap.size, 0, none⟩) (by first | omega | (simp; omega) | simp) (by first | omega | (simp; omega) | simp)).trans o60_); (have o83_ := (hC75_.cell (p := ⟨w1.heap.size, 1, none⟩) (by first | omega | (simp; omega) | simp) (by first | omega | (simp; omega) | simp)).trans o61_); (have o84_ := (hC75_.cell (p := ⟨w34.heap.size, 0, none⟩) (by first | omega | (simp; omega) | simp) (by first | omega | (simp; omega) | simp)).trans o62_); (have o85_ := (hC75_.cell (p := ⟨w34.heap.size, 1, none⟩) (by first | omega | (simp; omega) | simp) (by first | omega | (simp; omega) | simp)).trans o63_); (have o86_ := (hC75_.frozen (p := ⟨w34.heap.size, 0, none⟩) (by first | omega | (simp; omega) | simp) (by first | omega | (simp; omega) | simp)).trans o64_); (have o87_ := (hC75_.frozen (p := ⟨w34.heap.size, 1, none⟩) (by first | omega | (simp; omega) | simp) (by first | omega | (simp; omega) | simp)).trans o65_); (have z88_ := hC75_.size); (try simp at z88_); (have B89_ := B66_.trans (hC75_.below (by omega) (by first | omega | (simp; omega) | simp))); (clear hC75_); (have l90_ := G74_.lt))
      have hC91_ := Chg.setCell (lo := w34.heap.size) (hi := w34.heap.size + 1) w74 (p := ⟨w34.heap.size, 1, none⟩) ⟨Nat.le_refl _, Nat.lt_succ_self _⟩ (.slice (some ⟨g72_, 0, none⟩) L78_ c73_)
      have a92_ := cell_set_off o84_ (i := 1) (by omega) (.slice (some ⟨g72_, 0, none⟩) L78_ c73_)
      have a93_ := cell_set o85_ (.slice (some ⟨g72_, 0, none⟩) L78_ c73_)
      have f94_ := frozen_set o86_ ⟨w34.heap.size, 1, none⟩ (.slice (some ⟨g72_, 0, none⟩) L78_ c73_)
      have f95_ := frozen_set o87_ ⟨w34.heap.size, 1, none⟩ (.slice (some ⟨g72_, 0, none⟩) L78_ c73_)
      have o96_ := o79_.chg hC91_ (by first | omega | (simp; omega) | simp) (by omega)
      have o97_ := o80_.chg hC91_ (by first | omega | (simp; omega) | simp) (by omega)
      have o98_ := o81_.chg hC91_ (by omega)
      have o99_ := G74_.chg hC91_ (by omega)
      have o100_ := (hC91_.cell (p := ⟨w1.heap.size, 0, none⟩) (by first | omega | (simp; omega) | simp) (by first | omega | (simp; omega) | simp)).trans o82_
      have o101_ := (hC91_.cell (p := ⟨w1.heap.size, 1, none⟩) (by first | omega | (simp; omega) | simp) (by first | omega | (simp; omega) | simp)).trans o83_
      have z102_ := hC91_.size
      try simp at z102_
      have B103_ := B89_.trans (hC91_.below (by omega) (by first | omega | (simp; omega) | simp))
      clear hC91_
      obtain ⟨a, b, hab, hra, hrb⟩ := two_row (ys := (([] : List Int) ++ xs)) HOK.out (by simp) (by simp; omega)
      have hx2 : (([] : List Int) ++ ((([] : List Int) ++ xs).take 2)) = [a, b] := by rw [hab]; rfl
      rw [hx2] at o99_
      clear hab hx2
      obtain ⟨ha0, ha1⟩ := hra
      obtain ⟨hb0, hb1⟩ := hrb
      have hzs1 : w74.heap.size ≤ (w74.setCell ⟨w34.heap.size, 1, none⟩ (.slice (some ⟨g72_, 0, none⟩) L78_ c73_)).heap.size := by simp
      have hzs2 : (w74.setCell ⟨w34.heap.size, 1, none⟩ (.slice (some ⟨g72_, 0, none⟩) L78_ c73_)).heap.size ≤ w74.heap.size := by simp
      generalize (w74.setCell ⟨w34.heap.size, 1, none⟩ (.slice (some ⟨g72_, 0, none⟩) L78_ c73_)) = wz at *
      have HL2 : Hid (([a, b] : List Int).length = L78_) := by have e := o99_.ints; show _ = _; simp only [List.length_cons, List.length_nil]; omega
      have HS2 : Hid (Small [a, b]) := ⟨by simp, fun y hy => by simp only [List.mem_cons, List.not_mem_nil, or_false] at hy; rcases hy with rfl | rfl <;> omega⟩
      obtain ⟨v104_, hv104_⟩ : ∃ v, ([a, b] : List Int).sum = v := ⟨_, rfl⟩
      have bv104_ : v104_ = a + b := by rw [← hv104_]; simp only [List.sum_cons, List.sum_nil]; omega
      have Bv104_ := Lib.hid bv104_
      have bv104_1 : 0 ≤ v104_ := by omega
      have bv104_2 : v104_ ≤ 24 := by omega
      clear bv104_
      have Hv104_ := Lib.hid hv104_
      clear hv104_
      obtain ⟨m105_, hm105_⟩ : ∃ m : Int, (if v104_ < E then v104_ else E) = m := ⟨_, rfl⟩
      have hm105_x : min E v104_ = m105_ := by rw [← hm105_]; split <;> omega
      have Hm105_ := Lib.hid hm105_x
      have m105_l : m105_ ≤ E := by have e := Hm105_.out; omega
      have m105_u : m105_ ≤ v104_ := by have e := Hm105_.out; omega
      have m105_o : m105_ = E ∨ m105_ = v104_ := by have e := Hm105_.out; omega
      have g113_ : w1.heap.size < wz.heap.size := (by first | omega | (simp; omega) | simp)
      have g114_ : w34.heap.size < wz.heap.size := (by first | omega | (simp; omega) | simp)
      have g115_ : w.heap.size ≤ wz.heap.size := (by first | omega | (simp; omega) | simp)
      have g116_ : w1.heap.size ≤ wz.heap.size := (by first | omega | (simp; omega) | simp)
      have g117_ : g32_ + 1 ≤ wz.heap.size := (by first | omega | (simp; omega) | simp)
      have g118_ : g72_ + 1 ≤ wz.heap.size := (by first | omega | (simp; omega) | simp)
      have g119_ : w.heap.size ≤ wz.heap.size := (by first | omega | (simp; omega) | simp)
      go_wp2_with fail
      refine wp_region_held_drew (S := (fun w' : World => Below w.heap.size w w' ∧ wz.heap.size ≤ w'.heap.size ∧ Bytes w' (w.heap.size) A0 bs ∧ Own w' (w.heap.size) (w1.heap.size) (some ⟨b30_, f31_, none⟩) xs ∧ Grow w' g32_ c33_ (([] : List Int) ++ xs) ∧ Grow w' g72_ c73_ ([a, b]) ∧ w'.cell? ⟨w1.heap.size, 0, none⟩ = some (.int .i64 E) ∧ w'.cell? ⟨w1.heap.size, 1, none⟩ = some (.slice (some ⟨b30_, f31_, none⟩) xs.length c4_) ∧ w'.cell? ⟨w34.heap.size, 1, none⟩ = some (.slice (some ⟨g72_, 0, none⟩) L78_ c73_) ∧ wz.heap.size ≤ w'.heap.size)) (by kernel_rfl) ⟨B103_.drew, by exact (by first | omega | (simp; omega) | simp), o96_, o97_, o98_, o99_, o100_, o101_, a93_, Nat.le_refl _⟩ (fun hHeld => ?_)
      have o120_ : wz.drew.cell? ⟨w34.heap.size, 0, none⟩ = some (.int .i64 0) := a92_
      have o121_ : wz.drew.frozen? ⟨w34.heap.size, 0, none⟩ = false := f94_
      have o122_ : wz.drew.frozen? ⟨w34.heap.size, 1, none⟩ = false := f95_
      refine wpAnyH_take (i := 0) (oi := ?oi27) (v := ?vv27) ?hi27 ?hs27 ?hf27 ?ha27 ?hq27 ?hy27 hHeld ?hr27
      case hi27 => (simp only [List.getElem?_toArray, List.getElem?_cons_zero]; exact rfl)
      case hs27 => kernel_rfl
      case hf27 => kernel_rfl
      case ha27 => kernel_rfl
      case hq27 => exact fun _ _ _ h => h
      case hy27 =>
        refine Or.inl ⟨by rfl, ?_⟩
        intro w' hSw
        try dsimp only at hSw
        go_simp
        first | done | with_reducible rfl
      simp only [Act.put, List.setIfInBounds_toArray, List.set_cons_succ, List.set_cons_zero]
      refine wpAnyH_take (i := 1) (oi := ?oi28) (v := ?vv28) ?hi28 ?hs28 ?hf28 ?ha28 ?hq28 ?hy28 hHeld ?hr28
      case hi28 => (simp only [List.getElem?_toArray, List.getElem?_cons_succ, List.getElem?_cons_zero]; exact rfl)
      case hs28 => kernel_rfl
      case hf28 => kernel_rfl
      case ha28 => kernel_rfl
      case hq28 => exact fun _ _ _ h => h
      case hy28 =>
        refine Or.inl ⟨by rfl, ?_⟩
        intro w' hSw
        try dsimp only at hSw
        go_simp
        first | done | with_reducible rfl
      simp only [Act.put, List.setIfInBounds_toArray, List.set_cons_succ, List.set_cons_zero]
      refine wpAnyH_take (i := 2) (oi := ?oi29) (v := ?vv29) ?hi29 ?hs29 ?hf29 ?ha29 ?hq29 ?hy29 hHeld ?hr29
      case hi29 => (simp only [List.getElem?_toArray, List.getElem?_cons_succ, List.getElem?_cons_zero]; exact rfl)
      case hs29 => kernel_rfl
      case hf29 => kernel_rfl
      case ha29 => kernel_rfl
      case hq29 => exact fun _ _ _ h => h
      case hy29 =>
        refine Or.inl ⟨by rfl, ?_⟩
        intro w' hSw
        try dsimp only at hSw
        go_simp
        first | done | with_reducible rfl
      simp only [Act.put, List.setIfInBounds_toArray, List.set_cons_succ, List.set_cons_zero]
      refine wpAnyH_take (i := 3) (oi := ?oi30) (v := ?vv30) ?hi30 ?hs30 ?hf30 ?ha30 ?hq30 ?hy30 hHeld ?hr30
      case hi30 => (simp only [List.getElem?_toArray, List.getElem?_cons_succ, List.getElem?_cons_zero]; exact rfl)
      case hs30 => kernel_rfl
      case hf30 => kernel_rfl
      case ha30 => kernel_rfl
      case hq30 => exact fun _ _ _ h => h
      case hy30 =>
        refine Or.inl ⟨by rfl, ?_⟩
        intro w' hSw
        try dsimp only at hSw
        go_simp
        first | done | with_reducible rfl
      simp only [Act.put, List.setIfInBounds_toArray, List.set_cons_succ, List.set_cons_zero]
      refine wpAnyH_ready (rs := [4]) (by kernel_rfl) (by simp) ?_
      refine AllReadyH.cons rfl (fun K hK => ?_) AllReadyH.nil
      go_simp
      go_at_call 34
      rw [slice_n (A := (some ⟨g72_, 0, none⟩)) (n := L78_) (m := ([a, b]).length) (c := c73_) (by have e := HL2.out; first | omega | exact e.symm)]
      obtain ⟨BB, zz, k106_, k107_, k108_, k109_, k110_, k111_, k112_, zw⟩ := hHeld
      (with_reducible refine (same_is (lsumOf_any (some ⟨g72_, 0, none⟩) c73_ [a, b] _ _ _ k109_.ints HS2.out) (congrArg (Value.int .i64) Hv104_.out)).mono ?_)
      rintro e w9 ⟨rfl, rfl⟩
      refine hK.out _ _ ⟨BB, zz, k106_, k107_, k108_, k109_, k110_, k111_, k112_, zw⟩ (fun hHeld => ?_)
      clear hK K
      try simp only [Act.put, List.setIfInBounds_toArray, List.set_cons_zero, List.set_cons_succ]
      refine wpAnyH_take (i := 5) (oi := ?oi31) (v := ?vv31) ?hi31 ?hs31 ?hf31 ?ha31 ?hq31 ?hy31 hHeld ?hr31
      case hi31 => (simp only [List.getElem?_toArray, List.getElem?_cons_succ, List.getElem?_cons_zero]; exact rfl)
      case hs31 => kernel_rfl
      case hf31 => kernel_rfl
      case ha31 => kernel_rfl
      case hq31 => exact fun _ _ _ h => h
      case hy31 =>
        refine Or.inl ⟨by rfl, ?_⟩
        intro w' hSw
        try dsimp only at hSw
        go_simp
        first | done | with_reducible rfl
      simp only [Act.put, List.setIfInBounds_toArray, List.set_cons_succ, List.set_cons_zero]
      refine wpAnyH_take (i := 6) (oi := ?oi32) (v := ?vv32) ?hi32 ?hs32 ?hf32 ?ha32 ?hq32 ?hy32 hHeld ?hr32
      case hi32 => (simp only [List.getElem?_toArray, List.getElem?_cons_succ, List.getElem?_cons_zero]; exact rfl)
      case hs32 => kernel_rfl
      case hf32 => kernel_rfl
      case ha32 => kernel_rfl
      case hq32 => exact fun _ _ _ h => h
      case hy32 =>
        refine Or.inl ⟨by rfl, ?_⟩
        intro w' hSw
        try dsimp only at hSw
        go_simp
        first | done | with_reducible rfl
      simp only [Act.put, List.setIfInBounds_toArray, List.set_cons_succ, List.set_cons_zero]
      refine wpAnyH_ready (rs := [7]) (by kernel_rfl) (by simp) ?_
      refine AllReadyH.cons rfl (fun K hK => ?_) AllReadyH.nil
      obtain ⟨BB, zz, k106_, k107_, k108_, k109_, k110_, k111_, k112_, zw⟩ := hHeld
      go_simp
      have hC123_ := Chg.setCell (lo := w34.heap.size) (hi := w34.heap.size + 1) wz.drew (p := ⟨w34.heap.size, 0, none⟩) ⟨Nat.le_refl _, Nat.lt_succ_self _⟩ (.int .i64 m105_)
      have a124_ := cell_set o120_ (.int .i64 m105_)
      have f125_ := frozen_set o121_ ⟨w34.heap.size, 0, none⟩ (.int .i64 m105_)
      have f126_ := frozen_set o122_ ⟨w34.heap.size, 0, none⟩ (.int .i64 m105_)
      refine hK.out _ _ ⟨BB.trans (hC123_.below (by omega) (by first | omega | (simp; omega) | simp)), Nat.le_trans zz hC123_.size, k106_.chg hC123_ (by first | omega | (simp; omega) | simp) (by omega), k107_.chg hC123_ (by first | omega | (simp; omega) | simp) (by omega), k108_.chg hC123_ (by omega), k109_.chg hC123_ (by omega), (hC123_.cell (p := ⟨w1.heap.size, 0, none⟩) (by first | omega | (simp; omega) | simp) (by first | omega | (simp; omega) | simp)).trans k110_, (hC123_.cell (p := ⟨w1.heap.size, 1, none⟩) (by first | omega | (simp; omega) | simp) (by first | omega | (simp; omega) | simp)).trans k111_, cell_set_off k112_ (i := 0) (by omega) (.int .i64 m105_), Nat.le_trans zw hC123_.size⟩ (fun hHeld => ?_)
      clear zw k112_ k111_ k110_ k109_ k108_ k107_ k106_ zz BB
      clear hK K
      try simp only [Act.put, List.setIfInBounds_toArray, List.set_cons_zero, List.set_cons_succ]
      refine wpAnyH_done (by kernel_rfl) ?_ _
      obtain ⟨BB, zz, k106_, k107_, k108_, k109_, k110_, k111_, k112_, zw⟩ := hHeld
      have k127_ := BB
      clear BB
      have k128_ := zz
      clear zz
      have k129_ := zw
      clear zw
      have HTC : Hid (caseOkB m105_ [a, b] = true) := by show _ = _; rw [← Hm105_.out, Bv104_.out]; exact two_case (by omega) ⟨ha0, ha1⟩ ⟨hb0, hb1⟩
      have hm45 : 0 ≤ m105_ ∧ m105_ ≤ a + b := by have e := Hm105_.out; have e2 := Bv104_.out; omega
      obtain ⟨hm450, hm451⟩ := hm45
      have HLH : Hid ((halfAw m105_ [a, b]).length = 2) := by show _ = _; rw [halfAw_length]; rfl
      have hlh1 : (halfAw m105_ [a, b]).length ≤ 2 := by have e := HLH.out; omega
      have hlh2 : 2 ≤ (halfAw m105_ [a, b]).length := by have e := HLH.out; omega
      go_wp2_with fail
      rw [slice_n (A := (some ⟨g72_, 0, none⟩)) (n := L78_) (m := ([a, b]).length) (c := c73_) (by have e := HL2.out; first | omega | exact e.symm)]
      refine (implHalfAwards_yes m105_ (some ⟨g72_, 0, none⟩) c73_ ([a, b]) _ _ _ k109_.ints (by first | omega | (simp; omega) | simp) HTC.out).mono ?_
      rintro e w130 ⟨A131_, c132_, rfl, ho133_, hb130_⟩
      have o134_ := k106_.below hb130_ (by first | omega | (simp; omega) | simp)
      have o135_ := k107_.below hb130_ (by first | omega | (simp; omega) | simp)
      have o136_ := k108_.below hb130_ (by first | omega | (simp; omega) | simp)
      have o137_ := k109_.below hb130_ (by first | omega | (simp; omega) | simp)
      have o138_ := (hb130_.cell (p := ⟨w1.heap.size, 0, none⟩) (by first | omega | (simp; omega) | simp)).trans k110_
      have o139_ := (hb130_.cell (p := ⟨w1.heap.size, 1, none⟩) (by first | omega | (simp; omega) | simp)).trans k111_
      have o140_ := (hb130_.cell (p := ⟨w34.heap.size, 0, none⟩) (by first | omega | (simp; omega) | simp)).trans a124_
      have o141_ := (hb130_.cell (p := ⟨w34.heap.size, 1, none⟩) (by first | omega | (simp; omega) | simp)).trans k112_
      have o142_ := (hb130_.frozen (p := ⟨w34.heap.size, 0, none⟩) (by first | omega | (simp; omega) | simp)).trans f125_
      have o143_ := (hb130_.frozen (p := ⟨w34.heap.size, 1, none⟩) (by first | omega | (simp; omega) | simp)).trans f126_
      have z144_ := hb130_.size
      have B145_ := k127_.trans (hb130_.mono (by first | omega | (simp; omega) | simp))
      clear hb130_
      have HPIN : Hid (pairIn (48 * a) (48 * b) (48 * m105_) = true) := two_pair ⟨ha0, ha1⟩ ⟨hb0, hb1⟩ hm450 hm451
      have c146_ : w130.cell? ⟨g72_, 0, none⟩ = some (.int .i64 a) := o137_.at_ 0 (by simp)
      have c146_i : (0 : Int) < (L78_ : Int) := by have e := HL2.out; simp only [List.length_cons, List.length_nil] at e; omega
      have c146_n : 0 < L78_ := by omega
      have c147_ : w130.cell? ⟨g72_, 1, none⟩ = some (.int .i64 b) := o137_.at_ 1 (by simp)
      have c147_i : (1 : Int) < (L78_ : Int) := by have e := HL2.out; simp only [List.length_cons, List.length_nil] at e; omega
      have c147_n : 1 < L78_ := by omega
      have hw149_ : IntKind.i64.wrap (48 * a) = (48 * a) := IntWalk.i64_in _ (by omega)
      have hw150_ : IntKind.i64.wrap (48 * b) = (48 * b) := IntWalk.i64_in _ (by omega)
      have hw151_ : IntKind.i64.wrap (48 * m105_) = (48 * m105_) := IntWalk.i64_in _ (by omega)
      have g165_ : w1.heap.size < w130.heap.size := (by first | omega | (simp; omega) | simp)
      have g166_ : w34.heap.size < w130.heap.size := (by first | omega | (simp; omega) | simp)
      have g167_ : w.heap.size ≤ w130.heap.size := (by first | omega | (simp; omega) | simp)
      have g168_ : w1.heap.size ≤ w130.heap.size := (by first | omega | (simp; omega) | simp)
      have g169_ : g32_ + 1 ≤ w130.heap.size := (by first | omega | (simp; omega) | simp)
      have g170_ : g72_ + 1 ≤ w130.heap.size := (by first | omega | (simp; omega) | simp)
      have g171_ : w130.heap.size ≤ w130.heap.size := (by first | omega | (simp; omega) | simp)
      have g172_ : g72_ < w130.heap.size := (by first | omega | (simp; omega) | simp)
      have g173_ : g72_ < w130.heap.size := (by first | omega | (simp; omega) | simp)
      have g174_ : w.heap.size ≤ w130.heap.size := (by first | omega | (simp; omega) | simp)
      go_wp2_with fail
      refine wp_region_held_drew (S := (fun w' : World => Below w.heap.size w w' ∧ w130.heap.size ≤ w'.heap.size ∧ Bytes w' (w.heap.size) A0 bs ∧ Own w' (w.heap.size) (w1.heap.size) (some ⟨b30_, f31_, none⟩) xs ∧ Grow w' g32_ c33_ (([] : List Int) ++ xs) ∧ Grow w' g72_ c73_ ([a, b]) ∧ Own w' ((wz.drew.setCell ⟨w34.heap.size, 0, none⟩ (.int .i64 m105_)).heap.size) (w130.heap.size) A131_ (halfAw m105_ [a, b]) ∧ w'.cell? ⟨w1.heap.size, 0, none⟩ = some (.int .i64 E) ∧ w'.cell? ⟨w1.heap.size, 1, none⟩ = some (.slice (some ⟨b30_, f31_, none⟩) xs.length c4_) ∧ w'.cell? ⟨w34.heap.size, 0, none⟩ = some (.int .i64 m105_) ∧ w'.cell? ⟨w34.heap.size, 1, none⟩ = some (.slice (some ⟨g72_, 0, none⟩) L78_ c73_) ∧ w'.frozen? ⟨w34.heap.size, 0, none⟩ = false ∧ w'.frozen? ⟨w34.heap.size, 1, none⟩ = false ∧ w'.cell? ⟨g72_, 0, none⟩ = some (.int .i64 a) ∧ w'.cell? ⟨g72_, 1, none⟩ = some (.int .i64 b) ∧ w130.heap.size ≤ w'.heap.size)) (by kernel_rfl) ⟨B145_.drew, by exact (by first | omega | (simp; omega) | simp), o134_, o135_, o136_, o137_, ho133_, o138_, o139_, o140_, o141_, o142_, o143_, c146_, c147_, Nat.le_refl _⟩ (fun hHeld => ?_)
      refine wpAnyH_take (i := 0) (oi := ?oi33) (v := ?vv33) ?hi33 ?hs33 ?hf33 ?ha33 ?hq33 ?hy33 hHeld ?hr33
      case hi33 => (simp only [List.getElem?_toArray, List.getElem?_cons_zero]; exact rfl)
      case hs33 => kernel_rfl
      case hf33 => kernel_rfl
      case ha33 => kernel_rfl
      case hq33 => exact fun _ _ _ h => h
      case hy33 =>
        refine Or.inl ⟨by rfl, ?_⟩
        intro w' hSw
        try dsimp only at hSw
        go_simp
        first | done | with_reducible rfl
      simp only [Act.put, List.setIfInBounds_toArray, List.set_cons_succ, List.set_cons_zero]
      refine wpAnyH_take (i := 1) (oi := ?oi34) (v := ?vv34) ?hi34 ?hs34 ?hf34 ?ha34 ?hq34 ?hy34 hHeld ?hr34
      case hi34 => (simp only [List.getElem?_toArray, List.getElem?_cons_succ, List.getElem?_cons_zero]; exact rfl)
      case hs34 => kernel_rfl
      case hf34 => kernel_rfl
      case ha34 => kernel_rfl
      case hq34 => exact fun _ _ _ h => h
      case hy34 =>
        refine Or.inl ⟨by rfl, ?_⟩
        intro w' hSw
        try dsimp only at hSw
        go_simp
        first | done | with_reducible rfl
      simp only [Act.put, List.setIfInBounds_toArray, List.set_cons_succ, List.set_cons_zero]
      refine wpAnyH_take (i := 2) (oi := ?oi35) (v := ?vv35) ?hi35 ?hs35 ?hf35 ?ha35 ?hq35 ?hy35 hHeld ?hr35
      case hi35 => (simp only [List.getElem?_toArray, List.getElem?_cons_succ, List.getElem?_cons_zero]; exact rfl)
      case hs35 => kernel_rfl
      case hf35 => kernel_rfl
      case ha35 => kernel_rfl
      case hq35 => exact fun _ _ _ h => h
      case hy35 =>
        refine Or.inl ⟨by rfl, ?_⟩
        intro w' hSw
        try dsimp only at hSw
        go_simp
        first | done | with_reducible rfl
      simp only [Act.put, List.setIfInBounds_toArray, List.set_cons_succ, List.set_cons_zero]
      refine wpAnyH_take (i := 3) (oi := ?oi36) (v := ?vv36) ?hi36 ?hs36 ?hf36 ?ha36 ?hq36 ?hy36 hHeld ?hr36
      case hi36 => (simp only [List.getElem?_toArray, List.getElem?_cons_succ, List.getElem?_cons_zero]; exact rfl)
      case hs36 => kernel_rfl
      case hf36 => kernel_rfl
      case ha36 => kernel_rfl
      case hq36 => exact fun _ _ _ h => h
      case hy36 =>
        refine Or.inl ⟨by rfl, ?_⟩
        intro w' hSw
        try dsimp only at hSw
        go_simp
        first | done | with_reducible rfl
      simp only [Act.put, List.setIfInBounds_toArray, List.set_cons_succ, List.set_cons_zero]
      refine wpAnyH_take (i := 4) (oi := ?oi37) (v := ?vv37) ?hi37 ?hs37 ?hf37 ?ha37 ?hq37 ?hy37 hHeld ?hr37
      case hi37 => (simp only [List.getElem?_toArray, List.getElem?_cons_succ, List.getElem?_cons_zero]; exact rfl)
      case hs37 => kernel_rfl
      case hf37 => kernel_rfl
      case ha37 => kernel_rfl
      case hq37 => exact fun _ _ _ h => h
      case hy37 =>
        refine Or.inl ⟨by rfl, ?_⟩
        intro w' hSw
        try dsimp only at hSw
        go_simp
        first | done | with_reducible rfl
      simp only [Act.put, List.setIfInBounds_toArray, List.set_cons_succ, List.set_cons_zero]
      refine wpAnyH_take (i := 5) (oi := ?oi38) (v := ?vv38) ?hi38 ?hs38 ?hf38 ?ha38 ?hq38 ?hy38 hHeld ?hr38
      case hi38 => (simp only [List.getElem?_toArray, List.getElem?_cons_succ, List.getElem?_cons_zero]; exact rfl)
      case hs38 => kernel_rfl
      case hf38 => kernel_rfl
      case ha38 => kernel_rfl
      case hq38 => exact fun _ _ _ h => h
      case hy38 =>
        refine Or.inl ⟨by rfl, ?_⟩
        intro w' hSw
        try dsimp only at hSw
        go_simp
        first | done | with_reducible rfl
      simp only [Act.put, List.setIfInBounds_toArray, List.set_cons_succ, List.set_cons_zero]
      refine wpAnyH_take (i := 6) (oi := ?oi39) (v := ?vv39) ?hi39 ?hs39 ?hf39 ?ha39 ?hq39 ?hy39 hHeld ?hr39
      case hi39 => (simp only [List.getElem?_toArray, List.getElem?_cons_succ, List.getElem?_cons_zero]; exact rfl)
      case hs39 => kernel_rfl
      case hf39 => kernel_rfl
      case ha39 => kernel_rfl
      case hq39 => exact fun _ _ _ h => h
      case hy39 =>
        refine Or.inl ⟨by rfl, ?_⟩
        intro w' hSw
        try dsimp only at hSw
        go_simp
        first | done | with_reducible rfl
      simp only [Act.put, List.setIfInBounds_toArray, List.set_cons_succ, List.set_cons_zero]
      refine wpAnyH_take (i := 7) (oi := ?oi40) (v := ?vv40) ?hi40 ?hs40 ?hf40 ?ha40 ?hq40 ?hy40 hHeld ?hr40
      case hi40 => (simp only [List.getElem?_toArray, List.getElem?_cons_succ, List.getElem?_cons_zero]; exact rfl)
      case hs40 => kernel_rfl
      case hf40 => kernel_rfl
      case ha40 => kernel_rfl
      case hq40 => exact fun _ _ _ h => h
      case hy40 =>
        refine Or.inl ⟨by rfl, ?_⟩
        intro w' hSw
        try dsimp only at hSw
        go_simp
        first | done | with_reducible rfl
      simp only [Act.put, List.setIfInBounds_toArray, List.set_cons_succ, List.set_cons_zero]
      refine wpAnyH_take (i := 8) (oi := ?oi41) (v := ?vv41) ?hi41 ?hs41 ?hf41 ?ha41 ?hq41 ?hy41 hHeld ?hr41
      case hi41 => (simp only [List.getElem?_toArray, List.getElem?_cons_succ, List.getElem?_cons_zero]; exact rfl)
      case hs41 => kernel_rfl
      case hf41 => kernel_rfl
      case ha41 => kernel_rfl
      case hq41 => exact fun _ _ _ h => h
      case hy41 =>
        refine Or.inl ⟨by rfl, ?_⟩
        intro w' hSw
        try dsimp only at hSw
        go_simp
        first | done | with_reducible rfl
      simp only [Act.put, List.setIfInBounds_toArray, List.set_cons_succ, List.set_cons_zero]
      refine wpAnyH_take (i := 9) (oi := ?oi42) (v := ?vv42) ?hi42 ?hs42 ?hf42 ?ha42 ?hq42 ?hy42 hHeld ?hr42
      case hi42 => (simp only [List.getElem?_toArray, List.getElem?_cons_succ, List.getElem?_cons_zero]; exact rfl)
      case hs42 => kernel_rfl
      case hf42 => kernel_rfl
      case ha42 => kernel_rfl
      case hq42 => exact fun _ _ _ h => h
      case hy42 =>
        refine Or.inl ⟨by rfl, ?_⟩
        intro w' hSw
        try dsimp only at hSw
        go_simp
        first | done | with_reducible rfl
      simp only [Act.put, List.setIfInBounds_toArray, List.set_cons_succ, List.set_cons_zero]
      refine wpAnyH_take (i := 10) (oi := ?oi43) (v := ?vv43) ?hi43 ?hs43 ?hf43 ?ha43 ?hq43 ?hy43 hHeld ?hr43
      case hi43 => (simp only [List.getElem?_toArray, List.getElem?_cons_succ, List.getElem?_cons_zero]; exact rfl)
      case hs43 => kernel_rfl
      case hf43 => kernel_rfl
      case ha43 => kernel_rfl
      case hq43 => exact fun _ _ _ h => h
      case hy43 =>
        refine Or.inl ⟨by rfl, ?_⟩
        intro w' hSw
        try dsimp only at hSw
        go_simp
        first | done | with_reducible rfl
      simp only [Act.put, List.setIfInBounds_toArray, List.set_cons_succ, List.set_cons_zero]
      refine wpAnyH_take (i := 11) (oi := ?oi44) (v := ?vv44) ?hi44 ?hs44 ?hf44 ?ha44 ?hq44 ?hy44 hHeld ?hr44
      case hi44 => (simp only [List.getElem?_toArray, List.getElem?_cons_succ, List.getElem?_cons_zero]; exact rfl)
      case hs44 => kernel_rfl
      case hf44 => kernel_rfl
      case ha44 => kernel_rfl
      case hq44 => exact fun _ _ _ h => h
      case hy44 =>
        refine Or.inl ⟨by rfl, ?_⟩
        intro w' hSw
        try dsimp only at hSw
        go_simp
        first | done | with_reducible rfl
      simp only [Act.put, List.setIfInBounds_toArray, List.set_cons_succ, List.set_cons_zero]
      refine wpAnyH_take (i := 12) (oi := ?oi45) (v := ?vv45) ?hi45 ?hs45 ?hf45 ?ha45 ?hq45 ?hy45 hHeld ?hr45
      case hi45 => (simp only [List.getElem?_toArray, List.getElem?_cons_succ, List.getElem?_cons_zero]; exact rfl)
      case hs45 => kernel_rfl
      case hf45 => kernel_rfl
      case ha45 => kernel_rfl
      case hq45 => exact fun _ _ _ h => h
      case hy45 =>
        refine Or.inl ⟨by rfl, ?_⟩
        intro w' hSw
        try dsimp only at hSw
        go_simp
        first | done | with_reducible rfl
      simp only [Act.put, List.setIfInBounds_toArray, List.set_cons_succ, List.set_cons_zero]
      refine wpAnyH_ready (rs := [13]) (by kernel_rfl) (by simp) ?_
      refine AllReadyH.cons rfl (fun K hK => ?_) AllReadyH.nil
      go_simp
      go_at_call 49
      obtain ⟨BB, zz, k152_, k153_, k154_, k155_, k156_, k157_, k158_, k159_, k160_, k161_, k162_, q163_, q164_, zw⟩ := hHeld
      (with_reducible refine (pair_in (48 * a) (48 * b) (48 * m105_) _ HPIN.out).mono ?_)
      rintro e w175 ⟨PA, PB, hpa, hpb, rfl, hb148_⟩
      have HPA := Lib.hid hpa
      have HPB := Lib.hid hpb
      clear hpa hpb
      refine hK.out _ _ ⟨BB.trans (hb148_.mono (by omega)), Nat.le_trans zz hb148_.size, k152_.below hb148_ (by first | omega | (simp; omega) | simp), k153_.below hb148_ (by first | omega | (simp; omega) | simp), k154_.below hb148_ (by first | omega | (simp; omega) | simp), k155_.below hb148_ (by first | omega | (simp; omega) | simp), k156_.below hb148_ (by first | omega | (simp; omega) | simp), (hb148_.cell (p := ⟨w1.heap.size, 0, none⟩) (by first | omega | (simp; omega) | simp)).trans k157_, (hb148_.cell (p := ⟨w1.heap.size, 1, none⟩) (by first | omega | (simp; omega) | simp)).trans k158_, (hb148_.cell (p := ⟨w34.heap.size, 0, none⟩) (by first | omega | (simp; omega) | simp)).trans k159_, (hb148_.cell (p := ⟨w34.heap.size, 1, none⟩) (by first | omega | (simp; omega) | simp)).trans k160_, (hb148_.frozen (p := ⟨w34.heap.size, 0, none⟩) (by first | omega | (simp; omega) | simp)).trans k161_, (hb148_.frozen (p := ⟨w34.heap.size, 1, none⟩) (by first | omega | (simp; omega) | simp)).trans k162_, (hb148_.cell (by show g72_ < _; omega)).trans q163_, (hb148_.cell (by show g72_ < _; omega)).trans q164_, Nat.le_trans zw hb148_.size⟩ (fun hHeld => ?_)
      clear hb148_ zw q164_ q163_ k162_ k161_ k160_ k159_ k158_ k157_ k156_ k155_ k154_ k153_ k152_ zz BB
      clear hK K
      try simp only [Act.put, List.setIfInBounds_toArray, List.set_cons_zero, List.set_cons_succ]
      refine wpAnyH_take (i := 14) (oi := ?oi46) (v := ?vv46) ?hi46 ?hs46 ?hf46 ?ha46 ?hq46 ?hy46 hHeld ?hr46
      case hi46 => (simp only [List.getElem?_toArray, List.getElem?_cons_succ, List.getElem?_cons_zero]; exact rfl)
      case hs46 => kernel_rfl
      case hf46 => kernel_rfl
      case ha46 => kernel_rfl
      case hq46 => exact fun _ _ _ h => h
      case hy46 =>
        refine Or.inl ⟨by rfl, ?_⟩
        intro w' hSw
        try dsimp only at hSw
        go_simp
        first | done | with_reducible rfl
      simp only [Act.put, List.setIfInBounds_toArray, List.set_cons_succ, List.set_cons_zero]
      refine wpAnyH_take (i := 15) (oi := ?oi47) (v := ?vv47) ?hi47 ?hs47 ?hf47 ?ha47 ?hq47 ?hy47 hHeld ?hr47
      case hi47 => (simp only [List.getElem?_toArray, List.getElem?_cons_succ, List.getElem?_cons_zero]; exact rfl)
      case hs47 => kernel_rfl
      case hf47 => kernel_rfl
      case ha47 => kernel_rfl
      case hq47 => exact fun _ _ _ h => h
      case hy47 =>
        refine Or.inl ⟨by rfl, ?_⟩
        intro w' hSw
        try dsimp only at hSw
        go_simp
        first | done | with_reducible rfl
      simp only [Act.put, List.setIfInBounds_toArray, List.set_cons_succ, List.set_cons_zero]
      refine wpAnyH_take (i := 16) (oi := ?oi48) (v := ?vv48) ?hi48 ?hs48 ?hf48 ?ha48 ?hq48 ?hy48 hHeld ?hr48
      case hi48 => (simp only [List.getElem?_toArray, List.getElem?_cons_succ, List.getElem?_cons_zero]; exact rfl)
      case hs48 => kernel_rfl
      case hf48 => kernel_rfl
      case ha48 => kernel_rfl
      case hq48 => exact fun _ _ _ h => h
      case hy48 =>
        refine Or.inl ⟨by rfl, ?_⟩
        intro w' hSw
        try dsimp only at hSw
        go_simp
        first | done | with_reducible rfl
      simp only [Act.put, List.setIfInBounds_toArray, List.set_cons_succ, List.set_cons_zero]
      refine wpAnyH_take (i := 17) (oi := ?oi49) (v := ?vv49) ?hi49 ?hs49 ?hf49 ?ha49 ?hq49 ?hy49 hHeld ?hr49
      case hi49 => (simp only [List.getElem?_toArray, List.getElem?_cons_succ, List.getElem?_cons_zero]; exact rfl)
      case hs49 => kernel_rfl
      case hf49 => kernel_rfl
      case ha49 => kernel_rfl
      case hq49 => exact fun _ _ _ h => h
      case hy49 =>
        refine Or.inl ⟨by rfl, ?_⟩
        intro w' hSw
        try dsimp only at hSw
        go_simp
        first | done | with_reducible rfl
      simp only [Act.put, List.setIfInBounds_toArray, List.set_cons_succ, List.set_cons_zero]
      refine wpAnyH_take (i := 18) (oi := ?oi50) (v := ?vv50) ?hi50 ?hs50 ?hf50 ?ha50 ?hq50 ?hy50 hHeld ?hr50
      case hi50 => (simp only [List.getElem?_toArray, List.getElem?_cons_succ, List.getElem?_cons_zero]; exact rfl)
      case hs50 => kernel_rfl
      case hf50 => kernel_rfl
      case ha50 => kernel_rfl
      case hq50 => exact fun _ _ _ h => h
      case hy50 =>
        refine Or.inl ⟨by rfl, ?_⟩
        intro w' hSw
        try dsimp only at hSw
        go_simp
        first | done | with_reducible rfl
      simp only [Act.put, List.setIfInBounds_toArray, List.set_cons_succ, List.set_cons_zero]
      refine wpAnyH_take (i := 19) (oi := ?oi51) (v := ?vv51) ?hi51 ?hs51 ?hf51 ?ha51 ?hq51 ?hy51 hHeld ?hr51
      case hi51 => (simp only [List.getElem?_toArray, List.getElem?_cons_succ, List.getElem?_cons_zero]; exact rfl)
      case hs51 => kernel_rfl
      case hf51 => kernel_rfl
      case ha51 => kernel_rfl
      case hq51 => exact fun _ _ _ h => h
      case hy51 =>
        refine Or.inl ⟨by rfl, ?_⟩
        intro w' hSw
        try dsimp only at hSw
        go_simp
        first | done | with_reducible rfl
      simp only [Act.put, List.setIfInBounds_toArray, List.set_cons_succ, List.set_cons_zero]
      refine wpAnyH_take (i := 20) (oi := ?oi52) (v := ?vv52) ?hi52 ?hs52 ?hf52 ?ha52 ?hq52 ?hy52 hHeld ?hr52
      case hi52 => (simp only [List.getElem?_toArray, List.getElem?_cons_succ, List.getElem?_cons_zero]; exact rfl)
      case hs52 => kernel_rfl
      case hf52 => kernel_rfl
      case ha52 => kernel_rfl
      case hq52 => exact fun _ _ _ h => h
      case hy52 =>
        refine Or.inl ⟨by rfl, ?_⟩
        intro w' hSw
        try dsimp only at hSw
        go_simp
        first | done | with_reducible rfl
      simp only [Act.put, List.setIfInBounds_toArray, List.set_cons_succ, List.set_cons_zero]
      refine wpAnyH_done (by kernel_rfl) ?_ _
      obtain ⟨BB, zz, k152_, k153_, k154_, k155_, k156_, k157_, k158_, k159_, k160_, k161_, k162_, q163_, q164_, zw⟩ := hHeld
      clear hw149_ hw150_ hw151_
      have k176_ := BB
      clear BB
      have k177_ := zz
      clear zz
      have k178_ := zw
      clear zw
      go_wp2_with fail
      refine (alive_any _).mono ?_
      rintro e w179 ⟨rfl, hb179_⟩
      have o180_ := k152_.below hb179_ (by first | omega | (simp; omega) | simp)
      have o181_ := k153_.below hb179_ (by first | omega | (simp; omega) | simp)
      have o182_ := k154_.below hb179_ (by first | omega | (simp; omega) | simp)
      have o183_ := k155_.below hb179_ (by first | omega | (simp; omega) | simp)
      have o184_ := k156_.below hb179_ (by first | omega | (simp; omega) | simp)
      have o185_ := (hb179_.cell (p := ⟨w1.heap.size, 0, none⟩) (by first | omega | (simp; omega) | simp)).trans k157_
      have o186_ := (hb179_.cell (p := ⟨w1.heap.size, 1, none⟩) (by first | omega | (simp; omega) | simp)).trans k158_
      have o187_ := (hb179_.cell (p := ⟨w34.heap.size, 0, none⟩) (by first | omega | (simp; omega) | simp)).trans k159_
      have o188_ := (hb179_.cell (p := ⟨w34.heap.size, 1, none⟩) (by first | omega | (simp; omega) | simp)).trans k160_
      have o189_ := (hb179_.frozen (p := ⟨w34.heap.size, 0, none⟩) (by first | omega | (simp; omega) | simp)).trans k161_
      have o190_ := (hb179_.frozen (p := ⟨w34.heap.size, 1, none⟩) (by first | omega | (simp; omega) | simp)).trans k162_
      have z191_ := hb179_.size
      have B192_ := k176_.trans (hb179_.mono (by first | omega | (simp; omega) | simp))
      clear hb179_
      have h193_ : ((halfAw m105_ [a, b]).length : Int) = 2 := by omega
      have h193_b : (((halfAw m105_ [a, b]).length : Int) == 2) = true := by simpa using h193_
      have h193_n : (((halfAw m105_ [a, b]).length : Int) != 2) = false := by simpa using h193_
      have h193_le : ((halfAw m105_ [a, b]).length : Int) ≤ 2 := by omega
      have h193_ge : 2 ≤ ((halfAw m105_ [a, b]).length : Int) := by omega
      have Hh193_ := Lib.hid h193_
      clear h193_
      obtain ⟨b194_, f195_, rfl, b194_l, b194_h, -⟩ := o184_.ints (by have e := HLH.out; omega)
      have c196_ : w179.cell? ⟨b194_, f195_, none⟩ = some (.int .i64 ((halfAw m105_ [a, b]).getD 0 0)) := o184_.ints.at2 0 (by first | omega | (simp; omega) | simp)
      have c196_i : 0 < ((halfAw m105_ [a, b]).length : Int) := by omega
      have c196_j : (0 : Int) ≤ 0 := by omega
      have c196_n : 0 < (halfAw m105_ [a, b]).length := by omega
      have v197_g := half_rg HTC.out 0
      obtain ⟨v197_, hv197_⟩ : ∃ v, v = (halfAw m105_ [a, b]).getD 0 0 := ⟨_, rfl⟩
      rw [← hv197_] at c196_ v197_g
      have Hv197_ := Lib.hid hv197_
      clear hv197_
      obtain ⟨v197_g1, v197_g2⟩ := v197_g
      have h198_ : (2 * v197_) = PA := by rw [Hv197_.out, HPA.out]; exact (half_two HTC.out).1
      have h198_b : ((2 * v197_) == PA) = true := by simpa using h198_
      have h198_n : ((2 * v197_) != PA) = false := by simpa using h198_
      have h198_le : (2 * v197_) ≤ PA := by omega
      have h198_ge : PA ≤ (2 * v197_) := by omega
      have Hh198_ := Lib.hid h198_
      clear h198_
      have c199_ : w179.cell? ⟨b194_, f195_ + 1, none⟩ = some (.int .i64 ((halfAw m105_ [a, b]).getD 1 0)) := o184_.ints.at2 1 (by first | omega | (simp; omega) | simp)
      have c199_i : 1 < ((halfAw m105_ [a, b]).length : Int) := by omega
      have c199_j : (0 : Int) ≤ 1 := by omega
      have c199_n : 1 < (halfAw m105_ [a, b]).length := by omega
      have v200_g := half_rg HTC.out 1
      obtain ⟨v200_, hv200_⟩ : ∃ v, v = (halfAw m105_ [a, b]).getD 1 0 := ⟨_, rfl⟩
      rw [← hv200_] at c199_ v200_g
      have Hv200_ := Lib.hid hv200_
      clear hv200_
      obtain ⟨v200_g1, v200_g2⟩ := v200_g
      have h201_ : (2 * v200_) = PB := by rw [Hv200_.out, HPB.out]; exact (half_two HTC.out).2
      have h201_b : ((2 * v200_) == PB) = true := by simpa using h201_
      have h201_n : ((2 * v200_) != PB) = false := by simpa using h201_
      have h201_le : (2 * v200_) ≤ PB := by omega
      have h201_ge : PB ≤ (2 * v200_) := by omega
      have Hh201_ := Lib.hid h201_
      clear h201_
      go_wp2_with fail
      rw [slice_n (A := (some ⟨g72_, 0, none⟩)) (n := L78_) (m := ([a, b]).length) (c := c73_) (by have e := HL2.out; first | omega | exact e.symm)]
      refine (implArrivalAwards_any m105_ (some ⟨g72_, 0, none⟩) c73_ ([a, b]) _ _ _ o183_.ints (by first | omega | (simp; omega) | simp) (by simp)).mono ?_
      rintro e w202 ⟨A203_, c204_, rfl, ho205_, hb202_⟩
      have o206_ := o180_.below hb202_ (by first | omega | (simp; omega) | simp)
      have o207_ := o181_.below hb202_ (by first | omega | (simp; omega) | simp)
      have o208_ := o182_.below hb202_ (by first | omega | (simp; omega) | simp)
      have o209_ := o183_.below hb202_ (by first | omega | (simp; omega) | simp)
      have o210_ := o184_.below hb202_ (by first | omega | (simp; omega) | simp)
      have o211_ := (hb202_.cell (p := ⟨w1.heap.size, 0, none⟩) (by first | omega | (simp; omega) | simp)).trans o185_
      have o212_ := (hb202_.cell (p := ⟨w1.heap.size, 1, none⟩) (by first | omega | (simp; omega) | simp)).trans o186_
      have o213_ := (hb202_.cell (p := ⟨w34.heap.size, 0, none⟩) (by first | omega | (simp; omega) | simp)).trans o187_
      have o214_ := (hb202_.cell (p := ⟨w34.heap.size, 1, none⟩) (by first | omega | (simp; omega) | simp)).trans o188_
      have o215_ := (hb202_.frozen (p := ⟨w34.heap.size, 0, none⟩) (by first | omega | (simp; omega) | simp)).trans o189_
      have o216_ := (hb202_.frozen (p := ⟨w34.heap.size, 1, none⟩) (by first | omega | (simp; omega) | simp)).trans o190_
      have z217_ := hb202_.size
      have B218_ := B192_.trans (hb202_.mono (by first | omega | (simp; omega) | simp))
      clear hb202_
      have H219_ : Hid ((arrRow m105_ ([a, b])) = (halfAw m105_ [a, b])) := by show _ = _; rw [arrRow_yes HTC.out, arr_two HTC.out]
      go_wp2_with fail
      refine (sameInts_yes A203_ (some ⟨b194_, f195_, none⟩) c204_ c132_ (arrRow m105_ ([a, b])) (halfAw m105_ [a, b]) _ _ _ _ _ ho205_.ints o210_.ints (by have e := arrRow_len m105_ ([a, b]); omega) H219_.out).mono ?_
      rintro e w220 ⟨rfl, hb220_⟩
      have o221_ := o206_.below hb220_ (by first | omega | (simp; omega) | simp)
      have o222_ := o207_.below hb220_ (by first | omega | (simp; omega) | simp)
      have o223_ := o208_.below hb220_ (by first | omega | (simp; omega) | simp)
      have o224_ := o209_.below hb220_ (by first | omega | (simp; omega) | simp)
      have o225_ := o210_.below hb220_ (by first | omega | (simp; omega) | simp)
      have o226_ := ho205_.below hb220_ (by first | omega | (simp; omega) | simp)
      have o227_ := (hb220_.cell (p := ⟨w1.heap.size, 0, none⟩) (by first | omega | (simp; omega) | simp)).trans o211_
      have o228_ := (hb220_.cell (p := ⟨w1.heap.size, 1, none⟩) (by first | omega | (simp; omega) | simp)).trans o212_
      have o229_ := (hb220_.cell (p := ⟨w34.heap.size, 0, none⟩) (by first | omega | (simp; omega) | simp)).trans o213_
      have o230_ := (hb220_.cell (p := ⟨w34.heap.size, 1, none⟩) (by first | omega | (simp; omega) | simp)).trans o214_
      have o231_ := (hb220_.frozen (p := ⟨w34.heap.size, 0, none⟩) (by first | omega | (simp; omega) | simp)).trans o215_
      have o232_ := (hb220_.frozen (p := ⟨w34.heap.size, 1, none⟩) (by first | omega | (simp; omega) | simp)).trans o216_
      have z233_ := hb220_.size
      have B234_ := B218_.trans (hb220_.mono (by first | omega | (simp; omega) | simp))
      clear hb220_
      go_wp2
      go_ret
      exact ⟨ret_bool (by first | exact rfl | exact h201_b.trans rfl), B234_⟩
  · have H14_ : Hid (caseOkB E xs = false) := by show _ = _; simpa using h14_
    clear h14_
    go_wp2_with fail
    refine (specCaseOk_any E A3_ c4_ xs _ _ _ o10_.ints (by first | omega | (simp; omega) | simp) (by omega)).mono ?_
    rintro e w15 ⟨he, hb15_⟩
    rw [H14_.out] at he
    subst he
    have o16_ := o9_.below hb15_ (by first | omega | (simp; omega) | simp)
    have o17_ := o10_.below hb15_ (by first | omega | (simp; omega) | simp)
    have o18_ := (hb15_.cell (p := ⟨w1.heap.size, 0, none⟩) (by first | omega | (simp; omega) | simp)).trans a12_
    have o19_ := (hb15_.cell (p := ⟨w1.heap.size, 1, none⟩) (by first | omega | (simp; omega) | simp)).trans a13_
    have z20_ := hb15_.size
    try simp at z20_
    have B21_ := B11_.trans (hb15_.mono (by first | omega | (simp; omega) | simp))
    clear hb15_
    go_wp2_with fail
    refine (implCaseOk_any E A3_ c4_ xs _ _ _ o17_.ints (by first | omega | (simp; omega) | simp) (by omega)).mono ?_
    rintro e w22 ⟨he, hb22_⟩
    rw [H14_.out] at he
    subst he
    have o23_ := o16_.below hb22_ (by first | omega | (simp; omega) | simp)
    have o24_ := o17_.below hb22_ (by first | omega | (simp; omega) | simp)
    have o25_ := (hb22_.cell (p := ⟨w1.heap.size, 0, none⟩) (by first | omega | (simp; omega) | simp)).trans o18_
    have o26_ := (hb22_.cell (p := ⟨w1.heap.size, 1, none⟩) (by first | omega | (simp; omega) | simp)).trans o19_
    have z27_ := hb22_.size
    have B28_ := B21_.trans (hb22_.mono (by first | omega | (simp; omega) | simp))
    clear hb22_
    go_wp2_with fail
    refine (alive_any _).mono ?_
    rintro e w29 ⟨rfl, hb29_⟩
    have o30_ := o23_.below hb29_ (by first | omega | (simp; omega) | simp)
    have o31_ := o24_.below hb29_ (by first | omega | (simp; omega) | simp)
    have o32_ := (hb29_.cell (p := ⟨w1.heap.size, 0, none⟩) (by first | omega | (simp; omega) | simp)).trans o25_
    have o33_ := (hb29_.cell (p := ⟨w1.heap.size, 1, none⟩) (by first | omega | (simp; omega) | simp)).trans o26_
    have z34_ := hb29_.size
    have B35_ := B28_.trans (hb29_.mono (by first | omega | (simp; omega) | simp))
    clear hb29_
    go_wp2
    go_ret
    exact ⟨ret_bool rfl, B35_⟩

set_option maxRecDepth 10000 in
set_option maxHeartbeats 400000 in
theorem fnHalfTwo_big (A0 : Option Addr) (c0 : Nat) (bs : List Int) (w : World) (hl : ¬ bs.length ≤ 1048576) (hm : bs.length ≤ 9223372036854775807) :
    Calls Try.prog 10 #[.slice A0 bs.length c0] w fun e w' => e = .returned (.bool true) ∧ Below w.heap.size w w' := by
  go_enter Try.func10, Try.ntmps10
  go_wp2
  go_ret
  exact ⟨rfl, Below.refl _ _⟩

theorem fnHalfTwo_all (A0 : Option Addr) (c0 : Nat) (bs : List Int) (w : World) (h0 : Bytes w w.heap.size A0 bs) (hm : bs.length ≤ 9223372036854775807) (hc0 : bs.length ≤ c0) :
    Calls Try.prog 10 #[.slice A0 bs.length c0] w fun e w' => e = .returned (.bool true) ∧ Below w.heap.size w w' := by
  by_cases hl : bs.length ≤ 1048576
  · exact fnHalfTwo_walk A0 c0 bs w h0 hl hc0
  · exact fnHalfTwo_big A0 c0 bs w hl hm

end Go.Proofs.Ytmkmipgboecdaaa
