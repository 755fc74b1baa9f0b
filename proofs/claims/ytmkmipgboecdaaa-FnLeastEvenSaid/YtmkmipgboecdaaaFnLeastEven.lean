/-
  The law of the least even awards returns true for every two codes, and writes nothing that was there. No condition.
-/
import Derived.Test.YtmkmipgboecdaaaGA
import Derived.Test.YtmkmipgboecdaaaDraw7
import Derived.Test.YtmkmipgboecdaaaArr7
import Derived.Test.YtmkmipgboecdaaaSpec7C
import Derived.Test.YtmkmipgboecdaaaGame7I
import Derived.Test.YtmkmipgboecdaaaGB
import Derived.Test.YtmkmipgboecdaaaGC
import Derived.Test.YtmkmipgboecdaaaHalfI
import Derived.Test.YtmkmipgboecdaaaMore2
import Derived.Test.YtmkmipgboecdaaaDrawE
import Derived.Test.YtmkmipgboecdaaaGD
import Derived.Test.YtmkmipgboecdaaaGE
import Derived.Test.YtmkmipgboecdaaaFx
import Derived.Deep.RegionHeld3
namespace Go.Proofs.Ytmkmipgboecdaaa
open Go.RowKit

set_option maxRecDepth 10000 in
set_option maxHeartbeats 4000000 in
theorem fnLeastEven_walk (A0 : Option Addr) (c0 : Nat) (bs : List Int) (B0 : Option Addr) (d0 : Nat) (ds : List Int) (w : World) (h0 : Bytes w w.heap.size A0 bs) (h1 : Bytes w w.heap.size B0 ds) (hl : bs.length ≤ 1048576) (hl1 : ds.length ≤ 1048576) (hc0 : bs.length ≤ c0) (hd0 : ds.length ≤ d0) :
    Calls Try.prog 9 #[.slice A0 bs.length c0, .slice B0 ds.length d0] w fun e w' => e = .returned (.bool true) ∧ Below w.heap.size w w' := by
  have hlm : bs.length ≤ 9223372036854775807 := by omega
  have hlm1 : ds.length ≤ 9223372036854775807 := by omega
  go_enter Try.func9, Try.ntmps9
  have Htrue : Hid True := trivial
  have hc0u := hc0
  have h0u := h0
  have hlmu := hlm
  have hd0u := hd0
  have h1u := h1
  have hlm1u := hlm1
  go_wp2_with fail
  refine (drawEvenLosses_any A0 c0 bs _ (h0.more (by first | omega | (simp; omega) | simp)) hlm hc0).mono ?_
  rintro e w1 ⟨E, A3_, c4_, xs, hx5, rfl, ho5_, hb2_⟩
  have o6_ := h0.below hb2_ (by first | omega | (simp; omega) | simp)
  have o7_ := h1.below hb2_ (by first | omega | (simp; omega) | simp)
  have z8_ := hb2_.size
  have B9_ := (Below.refl w.heap.size w).trans (hb2_.mono (by first | omega | (simp; omega) | simp))
  clear hb2_
  have hlbsxs : xs.length ≤ 1152921504606846976 := by omega
  have o10_ := o6_.below ((Below.refl _ _).alloc (Nat.le_refl _) (.cells #[.int .i64 E, .slice A3_ xs.length c4_] 25)) (by first | omega | (simp; omega) | simp)
  have o11_ := o7_.below ((Below.refl _ _).alloc (Nat.le_refl _) (.cells #[.int .i64 E, .slice A3_ xs.length c4_] 25)) (by first | omega | (simp; omega) | simp)
  have o12_ := ho5_.alloc (by first | omega | (simp; omega) | simp) (.cells #[.int .i64 E, .slice A3_ xs.length c4_] 25)
  have B13_ := B9_.alloc (by first | omega | (simp; omega) | simp) (.cells #[.int .i64 E, .slice A3_ xs.length c4_] 25)
  have a14_ : (w1.alloc (.cells #[.int .i64 E, .slice A3_ xs.length c4_] 25)).cell? ⟨w1.heap.size, 0, none⟩ = some (.int .i64 E) := by simp [go_sem]
  have a15_ : (w1.alloc (.cells #[.int .i64 E, .slice A3_ xs.length c4_] 25)).cell? ⟨w1.heap.size, 1, none⟩ = some (.slice A3_ xs.length c4_) := by simp [go_sem]
  go_wp2_with fail
  refine (implEvenLosses_any E A3_ c4_ xs _ _ _ o12_.ints (by first | omega | (simp; omega) | simp) (by omega)).mono ?_
  rintro e w16 ⟨A17_, c18_, rfl, ho19_, hb16_⟩
  have ho19_ : Own w16 (w1.heap.size + 1) w16.heap.size A17_ (evenLos E xs) := ho19_.more (by simp) (Nat.le_refl _)
  have o20_ := o10_.below hb16_ (by first | omega | (simp; omega) | simp)
  have o21_ := o11_.below hb16_ (by first | omega | (simp; omega) | simp)
  have o22_ := o12_.below hb16_ (by first | omega | (simp; omega) | simp)
  have o23_ := (hb16_.cell (p := ⟨w1.heap.size, 0, none⟩) (by first | omega | (simp; omega) | simp)).trans a14_
  have o24_ := (hb16_.cell (p := ⟨w1.heap.size, 1, none⟩) (by first | omega | (simp; omega) | simp)).trans a15_
  have z25_ := hb16_.size
  try simp at z25_
  have B26_ := B13_.trans (hb16_.mono (by first | omega | (simp; omega) | simp))
  clear hb16_
  by_cases h27_ : ((evenLos E xs).length : Int) = 0
  · have h27_b : (((evenLos E xs).length : Int) == 0) = true := by simpa using h27_
    have h27_n : (((evenLos E xs).length : Int) != 0) = false := by simpa using h27_
    have h27_le : ((evenLos E xs).length : Int) ≤ 0 := by omega
    have h27_ge : 0 ≤ ((evenLos E xs).length : Int) := by omega
    have Hh27_ := Lib.hid h27_
    clear h27_
    go_wp2_with fail
    refine (specEvenLosses_any E A3_ c4_ xs _ _ _ o22_.ints (by first | omega | (simp; omega) | simp) (by omega)).mono ?_
    rintro e w28 ⟨A29_, c30_, rfl, ho31_, hb28_⟩
    have o32_ := o20_.below hb28_ (by first | omega | (simp; omega) | simp)
    have o33_ := o21_.below hb28_ (by first | omega | (simp; omega) | simp)
    have o34_ := o22_.below hb28_ (by first | omega | (simp; omega) | simp)
    have o35_ := ho19_.below hb28_ (by first | omega | (simp; omega) | simp)
    have o36_ := (hb28_.cell (p := ⟨w1.heap.size, 0, none⟩) (by first | omega | (simp; omega) | simp)).trans o23_
    have o37_ := (hb28_.cell (p := ⟨w1.heap.size, 1, none⟩) (by first | omega | (simp; omega) | simp)).trans o24_
    have z38_ := hb28_.size
    have B39_ := B26_.trans (hb28_.mono (by first | omega | (simp; omega) | simp))
    clear hb28_
    have h40_ : ((evenLos E xs).length : Int) = 0 := Hh27_.out
    have h40_b : (((evenLos E xs).length : Int) == 0) = true := by simpa using h40_
    have h40_n : (((evenLos E xs).length : Int) != 0) = false := by simpa using h40_
    have h40_le : ((evenLos E xs).length : Int) ≤ 0 := by omega
    have h40_ge : 0 ≤ ((evenLos E xs).length : Int) := by omega
    have Hh40_ := Lib.hid h40_
    clear h40_
    go_wp2_with fail
    refine (alive_any _).mono ?_
    rintro e w41 ⟨rfl, hb41_⟩
    have o42_ := o32_.below hb41_ (by first | omega | (simp; omega) | simp)
    have o43_ := o33_.below hb41_ (by first | omega | (simp; omega) | simp)
    have o44_ := o34_.below hb41_ (by first | omega | (simp; omega) | simp)
    have o45_ := o35_.below hb41_ (by first | omega | (simp; omega) | simp)
    have o46_ := ho31_.below hb41_ (by first | omega | (simp; omega) | simp)
    have o47_ := (hb41_.cell (p := ⟨w1.heap.size, 0, none⟩) (by first | omega | (simp; omega) | simp)).trans o36_
    have o48_ := (hb41_.cell (p := ⟨w1.heap.size, 1, none⟩) (by first | omega | (simp; omega) | simp)).trans o37_
    have z49_ := hb41_.size
    have B50_ := B39_.trans (hb41_.mono (by first | omega | (simp; omega) | simp))
    clear hb41_
    go_wp2
    go_ret
    exact ⟨ret_bool (by first | exact rfl | exact h40_b.trans rfl), B50_⟩
  · have h27_b : (((evenLos E xs).length : Int) == 0) = false := by simpa using h27_
    have h27_n : (((evenLos E xs).length : Int) != 0) = true := by simpa using h27_
    have HOK : Hid (caseOkB E xs = true) := evenLos_some (E := E) (xs := xs) (by omega)
    have hbd := caseOk_bd HOK.out
    have HEL : Hid (evenLos E xs = evenLo E xs) := evenLos_yes HOK.out
    have HSL : Hid (Small (evenLos E xs)) := by show Small _; rw [HEL.out]; exact aw_small' ((awardsB_iff _ _ _).1 ((keepsB_iff _ _ _).1 (keeps_lo HOK.out)).1)
    have HSH : Hid (Small (halfAw E xs)) := aw_small' (half_aw HOK.out)
    have HSR : Hid (Small (arrRow E xs)) := arr_small HOK.out
    have HSE : Hid (Small (evenAw E xs)) := aw_small' ((awardsB_iff _ _ _).1 ((keepsB_iff _ _ _).1 (keeps_aw HOK.out)).1)
    go_wp2_with fail
    refine (drawLossesOf_any B0 d0 ds _ (o21_.more (by first | omega | (simp; omega) | simp)) hlm1 hd0).mono ?_
    rintro e w28 ⟨E2, A30_, c31_, A33_, c34_, xs2, ys, hx52, hy52, hyb2, rfl, ho32_, ho35_, hb29_⟩
    have o36_ := o20_.below hb29_ (by first | omega | (simp; omega) | simp)
    have o37_ := o21_.below hb29_ (by first | omega | (simp; omega) | simp)
    have o38_ := o22_.below hb29_ (by first | omega | (simp; omega) | simp)
    have o39_ := ho19_.below hb29_ (by first | omega | (simp; omega) | simp)
    have o40_ := (hb29_.cell (p := ⟨w1.heap.size, 0, none⟩) (by first | omega | (simp; omega) | simp)).trans o23_
    have o41_ := (hb29_.cell (p := ⟨w1.heap.size, 1, none⟩) (by first | omega | (simp; omega) | simp)).trans o24_
    have z42_ := hb29_.size
    have B43_ := B26_.trans (hb29_.mono (by first | omega | (simp; omega) | simp))
    clear hb29_
    have hldsxs2 : xs2.length ≤ 1152921504606846976 := by omega
    have hldsys : ys.length ≤ 1152921504606846976 := by omega
    have HSY : Hid (Small ys) := ⟨by omega, fun y hy => by have e := hyb2 y hy; omega⟩
    have o44_ := o36_.below ((Below.refl _ _).alloc (Nat.le_refl _) (.cells #[.int .i64 E2, .slice A30_ xs2.length c31_] 25)) (by first | omega | (simp; omega) | simp)
    have o45_ := o37_.below ((Below.refl _ _).alloc (Nat.le_refl _) (.cells #[.int .i64 E2, .slice A30_ xs2.length c31_] 25)) (by first | omega | (simp; omega) | simp)
    have o46_ := o38_.alloc (by first | omega | (simp; omega) | simp) (.cells #[.int .i64 E2, .slice A30_ xs2.length c31_] 25)
    have o47_ := o39_.alloc (by first | omega | (simp; omega) | simp) (.cells #[.int .i64 E2, .slice A30_ xs2.length c31_] 25)
    have o48_ := ho32_.alloc (by first | omega | (simp; omega) | simp) (.cells #[.int .i64 E2, .slice A30_ xs2.length c31_] 25)
    have o49_ := ho35_.alloc (by first | omega | (simp; omega) | simp) (.cells #[.int .i64 E2, .slice A30_ xs2.length c31_] 25)
    have o50_ := cell_alloc (o := (.cells #[.int .i64 E2, .slice A30_ xs2.length c31_] 25)) o40_ (by first | omega | (simp; omega) | simp)
    have o51_ := cell_alloc (o := (.cells #[.int .i64 E2, .slice A30_ xs2.length c31_] 25)) o41_ (by first | omega | (simp; omega) | simp)
    have B52_ := B43_.alloc (by first | omega | (simp; omega) | simp) (.cells #[.int .i64 E2, .slice A30_ xs2.length c31_] 25)
    have a53_ : (w28.alloc (.cells #[.int .i64 E2, .slice A30_ xs2.length c31_] 25)).cell? ⟨w28.heap.size, 0, none⟩ = some (.int .i64 E2) := by simp [go_sem]
    have a54_ : (w28.alloc (.cells #[.int .i64 E2, .slice A30_ xs2.length c31_] 25)).cell? ⟨w28.heap.size, 1, none⟩ = some (.slice A30_ xs2.length c31_) := by simp [go_sem]
    by_cases h55_ : keepsB E xs ys = true
    · have H55_ := Lib.hid h55_
      clear h55_
      have H56_ : Hid (More ys (evenLos E xs)) := by show More _ _; rw [HEL.out]; exact more_least H55_.out
      have H60_ : Hid (More (halfAw E xs) (evenLos E xs)) := by show More _ _; rw [HEL.out]; exact more_least (half_keeps HOK.out)
      have H64_ : Hid (More (arrRow E xs) (evenLos E xs)) := by show More _ _; rw [HEL.out, arrRow_yes HOK.out]; exact more_least (arr_keepsB HOK.out)
      have H71_ : Hid (More (evenAw E xs) (halfAw E xs)) := evenAw_more (half_aw HOK.out)
      have g82_ : w1.heap.size < (w28.alloc (.cells #[.int .i64 E2, .slice A30_ xs2.length c31_] 25)).heap.size := (by first | omega | (simp; omega) | simp)
      have g83_ : w28.heap.size < (w28.alloc (.cells #[.int .i64 E2, .slice A30_ xs2.length c31_] 25)).heap.size := (by first | omega | (simp; omega) | simp)
      have g84_ : w.heap.size ≤ (w28.alloc (.cells #[.int .i64 E2, .slice A30_ xs2.length c31_] 25)).heap.size := (by first | omega | (simp; omega) | simp)
      have g85_ : w.heap.size ≤ (w28.alloc (.cells #[.int .i64 E2, .slice A30_ xs2.length c31_] 25)).heap.size := (by first | omega | (simp; omega) | simp)
      have g86_ : w1.heap.size ≤ (w28.alloc (.cells #[.int .i64 E2, .slice A30_ xs2.length c31_] 25)).heap.size := (by first | omega | (simp; omega) | simp)
      have g87_ : w16.heap.size ≤ (w28.alloc (.cells #[.int .i64 E2, .slice A30_ xs2.length c31_] 25)).heap.size := (by first | omega | (simp; omega) | simp)
      have g88_ : w28.heap.size ≤ (w28.alloc (.cells #[.int .i64 E2, .slice A30_ xs2.length c31_] 25)).heap.size := (by first | omega | (simp; omega) | simp)
      have g89_ : w28.heap.size ≤ (w28.alloc (.cells #[.int .i64 E2, .slice A30_ xs2.length c31_] 25)).heap.size := (by first | omega | (simp; omega) | simp)
      have g90_ : w.heap.size ≤ (w28.alloc (.cells #[.int .i64 E2, .slice A30_ xs2.length c31_] 25)).heap.size := (by first | omega | (simp; omega) | simp)
      go_wp2_with fail
      refine wp_region_held_drew (S := (fun w' : World => Below w.heap.size w w' ∧ w28.heap.size + 1 ≤ w'.heap.size ∧ Bytes w' (w.heap.size) A0 bs ∧ Bytes w' (w.heap.size) B0 ds ∧ Own w' (w.heap.size) (w1.heap.size) A3_ xs ∧ Own w' (w1.heap.size + 1) (w16.heap.size) A17_ (evenLos E xs) ∧ Own w' (w16.heap.size) (w28.heap.size) A30_ xs2 ∧ Own w' (w16.heap.size) (w28.heap.size) A33_ ys ∧ w'.cell? ⟨w1.heap.size, 0, none⟩ = some (.int .i64 E) ∧ w'.cell? ⟨w1.heap.size, 1, none⟩ = some (.slice A3_ xs.length c4_) ∧ w'.cell? ⟨w28.heap.size, 0, none⟩ = some (.int .i64 E2) ∧ w'.cell? ⟨w28.heap.size, 1, none⟩ = some (.slice A30_ xs2.length c31_) ∧ (w28.alloc (.cells #[.int .i64 E2, .slice A30_ xs2.length c31_] 25)).heap.size ≤ w'.heap.size)) (by kernel_rfl) ⟨B52_.drew, by exact (by first | omega | (simp; omega) | simp), o44_, o45_, o46_, o47_, o48_, o49_, o50_, o51_, a53_, a54_, Nat.le_refl _⟩ (fun hHeld => ?_)
      refine wpAnyH_ready (rs := [0]) (by kernel_rfl) (by simp) ?_
      refine AllReadyH.cons rfl (fun K hK => ?_) AllReadyH.nil
      go_simp
      go_at_call 19
      obtain ⟨BB, zz, k72_, k73_, k74_, k75_, k76_, k77_, k78_, k79_, k80_, k81_, zw⟩ := hHeld
      (with_reducible refine (alive_any _).mono ?_)
      rintro e w91 ⟨rfl, hb9⟩
      refine hK.out _ _ ⟨BB.trans (hb9.mono (by omega)), Nat.le_trans zz hb9.size, k72_.below hb9 (by first | omega | (simp; omega) | simp), k73_.below hb9 (by first | omega | (simp; omega) | simp), k74_.below hb9 (by first | omega | (simp; omega) | simp), k75_.below hb9 (by first | omega | (simp; omega) | simp), k76_.below hb9 (by first | omega | (simp; omega) | simp), k77_.below hb9 (by first | omega | (simp; omega) | simp), (hb9.cell (p := ⟨w1.heap.size, 0, none⟩) (by first | omega | (simp; omega) | simp)).trans k78_, (hb9.cell (p := ⟨w1.heap.size, 1, none⟩) (by first | omega | (simp; omega) | simp)).trans k79_, (hb9.cell (p := ⟨w28.heap.size, 0, none⟩) (by first | omega | (simp; omega) | simp)).trans k80_, (hb9.cell (p := ⟨w28.heap.size, 1, none⟩) (by first | omega | (simp; omega) | simp)).trans k81_, Nat.le_trans zw hb9.size⟩ (fun hHeld => ?_)
      clear hb9 zw k81_ k80_ k79_ k78_ k77_ k76_ k75_ k74_ k73_ k72_ zz BB
      clear hK K
      try simp only [Act.put, List.setIfInBounds_toArray, List.set_cons_zero, List.set_cons_succ]
      refine wpAnyH_take (i := 1) (oi := ?oi1) (v := ?vv1) ?hi1 ?hs1 ?hf1 ?ha1 ?hq1 ?hy1 hHeld ?hr1
      case hi1 => (simp only [List.getElem?_toArray, List.getElem?_cons_succ, List.getElem?_cons_zero]; exact rfl)
      case hs1 => kernel_rfl
      case hf1 => kernel_rfl
      case ha1 => kernel_rfl
      case hq1 => exact fun _ _ _ h => h
      case hy1 =>
        refine Or.inl ⟨by rfl, ?_⟩
        intro w' hSw
        try dsimp only at hSw
        go_simp
        first | done | with_reducible rfl
      simp only [Act.put, List.setIfInBounds_toArray, List.set_cons_succ, List.set_cons_zero]
      refine wpAnyH_take (i := 2) (oi := ?oi2) (v := ?vv2) ?hi2 ?hs2 ?hf2 ?ha2 ?hq2 ?hy2 hHeld ?hr2
      case hi2 => (simp only [List.getElem?_toArray, List.getElem?_cons_succ, List.getElem?_cons_zero]; exact rfl)
      case hs2 => kernel_rfl
      case hf2 => kernel_rfl
      case ha2 => kernel_rfl
      case hq2 => exact fun _ _ _ h => h
      case hy2 =>
        refine Or.inl ⟨by rfl, ?_⟩
        intro w' hSw
        try dsimp only at hSw
        go_simp
        first | done | with_reducible rfl
      simp only [Act.put, List.setIfInBounds_toArray, List.set_cons_succ, List.set_cons_zero]
      refine wpAnyH_take (i := 3) (oi := ?oi3) (v := ?vv3) ?hi3 ?hs3 ?hf3 ?ha3 ?hq3 ?hy3 hHeld ?hr3
      case hi3 => (simp only [List.getElem?_toArray, List.getElem?_cons_succ, List.getElem?_cons_zero]; exact rfl)
      case hs3 => kernel_rfl
      case hf3 => kernel_rfl
      case ha3 => kernel_rfl
      case hq3 => exact fun _ _ _ h => h
      case hy3 =>
        refine Or.inl ⟨by rfl, ?_⟩
        intro w' hSw
        try dsimp only at hSw
        go_simp
        first | done | with_reducible rfl
      simp only [Act.put, List.setIfInBounds_toArray, List.set_cons_succ, List.set_cons_zero]
      refine wpAnyH_ready (rs := [4]) (by kernel_rfl) (by simp) ?_
      refine AllReadyH.cons rfl (fun K hK => ?_) AllReadyH.nil
      go_simp
      go_at_call 28
      obtain ⟨BB, zz, k72_, k73_, k74_, k75_, k76_, k77_, k78_, k79_, k80_, k81_, zw⟩ := hHeld
      (with_reducible refine (below_is (implKeepsOrder_any E A3_ c4_ xs A33_ c34_ ys _ _ _ k74_.ints (by first | omega | (simp; omega) | simp) (by omega) _ _ k77_.ints (by first | omega | (simp; omega) | simp) (by omega)) (congrArg Value.bool H55_.out)).mono ?_)
      rintro e w92 ⟨rfl, hb9⟩
      refine hK.out _ _ ⟨BB.trans (hb9.mono (by omega)), Nat.le_trans zz hb9.size, k72_.below hb9 (by first | omega | (simp; omega) | simp), k73_.below hb9 (by first | omega | (simp; omega) | simp), k74_.below hb9 (by first | omega | (simp; omega) | simp), k75_.below hb9 (by first | omega | (simp; omega) | simp), k76_.below hb9 (by first | omega | (simp; omega) | simp), k77_.below hb9 (by first | omega | (simp; omega) | simp), (hb9.cell (p := ⟨w1.heap.size, 0, none⟩) (by first | omega | (simp; omega) | simp)).trans k78_, (hb9.cell (p := ⟨w1.heap.size, 1, none⟩) (by first | omega | (simp; omega) | simp)).trans k79_, (hb9.cell (p := ⟨w28.heap.size, 0, none⟩) (by first | omega | (simp; omega) | simp)).trans k80_, (hb9.cell (p := ⟨w28.heap.size, 1, none⟩) (by first | omega | (simp; omega) | simp)).trans k81_, Nat.le_trans zw hb9.size⟩ (fun hHeld => ?_)
      clear hb9 zw k81_ k80_ k79_ k78_ k77_ k76_ k75_ k74_ k73_ k72_ zz BB
      clear hK K
      try simp only [Act.put, List.setIfInBounds_toArray, List.set_cons_zero, List.set_cons_succ]
      refine wpAnyH_take (i := 5) (oi := ?oi4) (v := ?vv4) ?hi4 ?hs4 ?hf4 ?ha4 ?hq4 ?hy4 hHeld ?hr4
      case hi4 => (simp only [List.getElem?_toArray, List.getElem?_cons_succ, List.getElem?_cons_zero]; exact rfl)
      case hs4 => kernel_rfl
      case hf4 => kernel_rfl
      case ha4 => kernel_rfl
      case hq4 => exact fun _ _ _ h => h
      case hy4 =>
        refine Or.inl ⟨by rfl, ?_⟩
        intro w' hSw
        try dsimp only at hSw
        go_simp
        first | done | with_reducible rfl
      simp only [Act.put, List.setIfInBounds_toArray, List.set_cons_succ, List.set_cons_zero]
      refine wpAnyH_take (i := 6) (oi := ?oi5) (v := ?vv5) ?hi5 ?hs5 ?hf5 ?ha5 ?hq5 ?hy5 hHeld ?hr5
      case hi5 => (simp only [List.getElem?_toArray, List.getElem?_cons_succ, List.getElem?_cons_zero]; exact rfl)
      case hs5 => kernel_rfl
      case hf5 => kernel_rfl
      case ha5 => kernel_rfl
      case hq5 => exact fun _ _ _ h => h
      case hy5 =>
        refine Or.inl ⟨by rfl, ?_⟩
        intro w' hSw
        try dsimp only at hSw
        go_simp
        first | done | with_reducible rfl
      simp only [Act.put, List.setIfInBounds_toArray, List.set_cons_succ, List.set_cons_zero]
      refine wpAnyH_take (i := 7) (oi := ?oi6) (v := ?vv6) ?hi6 ?hs6 ?hf6 ?ha6 ?hq6 ?hy6 hHeld ?hr6
      case hi6 => (simp only [List.getElem?_toArray, List.getElem?_cons_succ, List.getElem?_cons_zero]; exact rfl)
      case hs6 => kernel_rfl
      case hf6 => kernel_rfl
      case ha6 => kernel_rfl
      case hq6 => exact fun _ _ _ h => h
      case hy6 =>
        refine Or.inl ⟨by rfl, ?_⟩
        intro w' hSw
        try dsimp only at hSw
        go_simp
        first | done | with_reducible rfl
      simp only [Act.put, List.setIfInBounds_toArray, List.set_cons_succ, List.set_cons_zero]
      refine wpAnyH_take (i := 8) (oi := ?oi7) (v := ?vv7) ?hi7 ?hs7 ?hf7 ?ha7 ?hq7 ?hy7 hHeld ?hr7
      case hi7 => (simp only [List.getElem?_toArray, List.getElem?_cons_succ, List.getElem?_cons_zero]; exact rfl)
      case hs7 => kernel_rfl
      case hf7 => kernel_rfl
      case ha7 => kernel_rfl
      case hq7 => exact fun _ _ _ h => h
      case hy7 =>
        refine Or.inl ⟨by rfl, ?_⟩
        intro w' hSw
        try dsimp only at hSw
        go_simp
        first | done | with_reducible rfl
      simp only [Act.put, List.setIfInBounds_toArray, List.set_cons_succ, List.set_cons_zero]
      refine wpAnyH_ready (rs := [9]) (by kernel_rfl) (by simp) ?_
      refine AllReadyH.cons rfl (fun K hK => ?_) AllReadyH.nil
      go_simp
      go_at_call 45
      obtain ⟨BB, zz, k72_, k73_, k74_, k75_, k76_, k77_, k78_, k79_, k80_, k81_, zw⟩ := hHeld
      (with_reducible refine (implMoreEven_yes A33_ c34_ ys A17_ c18_ (evenLos E xs) _ _ _ k77_.ints (by first | omega | (simp; omega) | simp) _ _ k75_.ints (by first | omega | (simp; omega) | simp) HSY.out HSL.out H56_.out).mono ?_)
      rintro e w93 ⟨rfl, hb9⟩
      refine hK.out _ _ ⟨BB.trans (hb9.mono (by omega)), Nat.le_trans zz hb9.size, k72_.below hb9 (by first | omega | (simp; omega) | simp), k73_.below hb9 (by first | omega | (simp; omega) | simp), k74_.below hb9 (by first | omega | (simp; omega) | simp), k75_.below hb9 (by first | omega | (simp; omega) | simp), k76_.below hb9 (by first | omega | (simp; omega) | simp), k77_.below hb9 (by first | omega | (simp; omega) | simp), (hb9.cell (p := ⟨w1.heap.size, 0, none⟩) (by first | omega | (simp; omega) | simp)).trans k78_, (hb9.cell (p := ⟨w1.heap.size, 1, none⟩) (by first | omega | (simp; omega) | simp)).trans k79_, (hb9.cell (p := ⟨w28.heap.size, 0, none⟩) (by first | omega | (simp; omega) | simp)).trans k80_, (hb9.cell (p := ⟨w28.heap.size, 1, none⟩) (by first | omega | (simp; omega) | simp)).trans k81_, Nat.le_trans zw hb9.size⟩ (fun hHeld => ?_)
      clear hb9 zw k81_ k80_ k79_ k78_ k77_ k76_ k75_ k74_ k73_ k72_ zz BB
      clear hK K
      try simp only [Act.put, List.setIfInBounds_toArray, List.set_cons_zero, List.set_cons_succ]
      refine wpAnyH_take (i := 10) (oi := ?oi8) (v := ?vv8) ?hi8 ?hs8 ?hf8 ?ha8 ?hq8 ?hy8 hHeld ?hr8
      case hi8 => (simp only [List.getElem?_toArray, List.getElem?_cons_succ, List.getElem?_cons_zero]; exact rfl)
      case hs8 => kernel_rfl
      case hf8 => kernel_rfl
      case ha8 => kernel_rfl
      case hq8 => exact fun _ _ _ h => h
      case hy8 =>
        refine Or.inl ⟨by rfl, ?_⟩
        intro w' hSw
        try dsimp only at hSw
        go_simp
        first | done | with_reducible rfl
      simp only [Act.put, List.setIfInBounds_toArray, List.set_cons_succ, List.set_cons_zero]
      refine wpAnyH_take (i := 11) (oi := ?oi9) (v := ?vv9) ?hi9 ?hs9 ?hf9 ?ha9 ?hq9 ?hy9 hHeld ?hr9
      case hi9 => (simp only [List.getElem?_toArray, List.getElem?_cons_succ, List.getElem?_cons_zero]; exact rfl)
      case hs9 => kernel_rfl
      case hf9 => kernel_rfl
      case ha9 => kernel_rfl
      case hq9 => exact fun _ _ _ h => h
      case hy9 =>
        refine Or.inl ⟨by rfl, ?_⟩
        intro w' hSw
        try dsimp only at hSw
        go_simp
        first | done | with_reducible rfl
      simp only [Act.put, List.setIfInBounds_toArray, List.set_cons_succ, List.set_cons_zero]
      refine wpAnyH_take (i := 12) (oi := ?oi10) (v := ?vv10) ?hi10 ?hs10 ?hf10 ?ha10 ?hq10 ?hy10 hHeld ?hr10
      case hi10 => (simp only [List.getElem?_toArray, List.getElem?_cons_succ, List.getElem?_cons_zero]; exact rfl)
      case hs10 => kernel_rfl
      case hf10 => kernel_rfl
      case ha10 => kernel_rfl
      case hq10 => exact fun _ _ _ h => h
      case hy10 =>
        refine Or.inl ⟨by rfl, ?_⟩
        intro w' hSw
        try dsimp only at hSw
        go_simp
        first | done | with_reducible rfl
      simp only [Act.put, List.setIfInBounds_toArray, List.set_cons_succ, List.set_cons_zero]
      refine wpAnyH_take (i := 14) (oi := ?oi11) (v := ?vv11) ?hi11 ?hs11 ?hf11 ?ha11 ?hq11 ?hy11 hHeld ?hr11
      case hi11 => (simp only [List.getElem?_toArray, List.getElem?_cons_succ, List.getElem?_cons_zero]; exact rfl)
      case hs11 => kernel_rfl
      case hf11 => kernel_rfl
      case ha11 => kernel_rfl
      case hq11 => exact fun _ _ _ h => h
      case hy11 =>
        refine Or.inl ⟨by rfl, ?_⟩
        intro w' hSw
        try dsimp only at hSw
        go_simp
        first | done | with_reducible rfl
      simp only [Act.put, List.setIfInBounds_toArray, List.set_cons_succ, List.set_cons_zero]
      refine wpAnyH_ready (rs := [13]) (by kernel_rfl) (by simp) ?_
      refine AllReadyH.cons rfl (fun K hK => ?_) AllReadyH.nil
      go_simp
      go_at_call 40
      obtain ⟨BB, zz, k72_, k73_, k74_, k75_, k76_, k77_, k78_, k79_, k80_, k81_, zw⟩ := hHeld
      (with_reducible refine (implHalfAwards_yes E A3_ c4_ xs _ _ _ k74_.ints (by first | omega | (simp; omega) | simp) HOK.out).mono ?_)
      rintro e w94 ⟨A57_, c58_, rfl, ho59_, hb9⟩
      have ho59_ := ho59_.more (lo' := w28.heap.size + 1) (by omega) (Nat.le_refl _)
      refine hK.out _ _ ⟨BB.trans (hb9.mono (by omega)), Nat.le_trans zz hb9.size, k72_.below hb9 (by first | omega | (simp; omega) | simp), k73_.below hb9 (by first | omega | (simp; omega) | simp), k74_.below hb9 (by first | omega | (simp; omega) | simp), k75_.below hb9 (by first | omega | (simp; omega) | simp), k76_.below hb9 (by first | omega | (simp; omega) | simp), k77_.below hb9 (by first | omega | (simp; omega) | simp), (hb9.cell (p := ⟨w1.heap.size, 0, none⟩) (by first | omega | (simp; omega) | simp)).trans k78_, (hb9.cell (p := ⟨w1.heap.size, 1, none⟩) (by first | omega | (simp; omega) | simp)).trans k79_, (hb9.cell (p := ⟨w28.heap.size, 0, none⟩) (by first | omega | (simp; omega) | simp)).trans k80_, (hb9.cell (p := ⟨w28.heap.size, 1, none⟩) (by first | omega | (simp; omega) | simp)).trans k81_, Nat.le_trans zw hb9.size⟩ (fun hHeld => ?_)
      clear hb9 zw k81_ k80_ k79_ k78_ k77_ k76_ k75_ k74_ k73_ k72_ zz BB
      clear hK K
      try simp only [Act.put, List.setIfInBounds_toArray, List.set_cons_zero, List.set_cons_succ]
      refine wpAnyH_ready (rs := [15]) (by kernel_rfl) (by simp) ?_
      refine AllReadyH.cons rfl (fun K hK => ?_) AllReadyH.nil
      go_simp
      go_at_call 45
      obtain ⟨BB, zz, k72_, k73_, k74_, k75_, k76_, k77_, k78_, k79_, k80_, k81_, zw⟩ := hHeld
      (with_reducible refine (implMoreEven_yes A57_ c58_ (halfAw E xs) A17_ c18_ (evenLos E xs) _ _ _ ho59_.ints (by first | omega | (simp; omega) | simp) _ _ k75_.ints (by first | omega | (simp; omega) | simp) HSH.out HSL.out H60_.out).mono ?_)
      rintro e w95 ⟨rfl, hb9⟩
      have ho59_ := ho59_.below hb9 (Nat.le_refl _)
      have ho59_ := ho59_.more (Nat.le_refl _) hb9.size
      refine hK.out _ _ ⟨BB.trans (hb9.mono (by omega)), Nat.le_trans zz hb9.size, k72_.below hb9 (by first | omega | (simp; omega) | simp), k73_.below hb9 (by first | omega | (simp; omega) | simp), k74_.below hb9 (by first | omega | (simp; omega) | simp), k75_.below hb9 (by first | omega | (simp; omega) | simp), k76_.below hb9 (by first | omega | (simp; omega) | simp), k77_.below hb9 (by first | omega | (simp; omega) | simp), (hb9.cell (p := ⟨w1.heap.size, 0, none⟩) (by first | omega | (simp; omega) | simp)).trans k78_, (hb9.cell (p := ⟨w1.heap.size, 1, none⟩) (by first | omega | (simp; omega) | simp)).trans k79_, (hb9.cell (p := ⟨w28.heap.size, 0, none⟩) (by first | omega | (simp; omega) | simp)).trans k80_, (hb9.cell (p := ⟨w28.heap.size, 1, none⟩) (by first | omega | (simp; omega) | simp)).trans k81_, Nat.le_trans zw hb9.size⟩ (fun hHeld => ?_)
      clear hb9 zw k81_ k80_ k79_ k78_ k77_ k76_ k75_ k74_ k73_ k72_ zz BB
      clear hK K
      try simp only [Act.put, List.setIfInBounds_toArray, List.set_cons_zero, List.set_cons_succ]
      refine wpAnyH_take (i := 16) (oi := ?oi12) (v := ?vv12) ?hi12 ?hs12 ?hf12 ?ha12 ?hq12 ?hy12 hHeld ?hr12
      case hi12 => (simp only [List.getElem?_toArray, List.getElem?_cons_succ, List.getElem?_cons_zero]; exact rfl)
      case hs12 => kernel_rfl
      case hf12 => kernel_rfl
      case ha12 => kernel_rfl
      case hq12 => exact fun _ _ _ h => h
      case hy12 =>
        refine Or.inl ⟨by rfl, ?_⟩
        intro w' hSw
        try dsimp only at hSw
        go_simp
        first | done | with_reducible rfl
      simp only [Act.put, List.setIfInBounds_toArray, List.set_cons_succ, List.set_cons_zero]
      refine wpAnyH_take (i := 17) (oi := ?oi13) (v := ?vv13) ?hi13 ?hs13 ?hf13 ?ha13 ?hq13 ?hy13 hHeld ?hr13
      case hi13 => (simp only [List.getElem?_toArray, List.getElem?_cons_succ, List.getElem?_cons_zero]; exact rfl)
      case hs13 => kernel_rfl
      case hf13 => kernel_rfl
      case ha13 => kernel_rfl
      case hq13 => exact fun _ _ _ h => h
      case hy13 =>
        refine Or.inl ⟨by rfl, ?_⟩
        intro w' hSw
        try dsimp only at hSw
        go_simp
        first | done | with_reducible rfl
      simp only [Act.put, List.setIfInBounds_toArray, List.set_cons_succ, List.set_cons_zero]
      refine wpAnyH_take (i := 18) (oi := ?oi14) (v := ?vv14) ?hi14 ?hs14 ?hf14 ?ha14 ?hq14 ?hy14 hHeld ?hr14
      case hi14 => (simp only [List.getElem?_toArray, List.getElem?_cons_succ, List.getElem?_cons_zero]; exact rfl)
      case hs14 => kernel_rfl
      case hf14 => kernel_rfl
      case ha14 => kernel_rfl
      case hq14 => exact fun _ _ _ h => h
      case hy14 =>
        refine Or.inl ⟨by rfl, ?_⟩
        intro w' hSw
        try dsimp only at hSw
        go_simp
        first | done | with_reducible rfl
      simp only [Act.put, List.setIfInBounds_toArray, List.set_cons_succ, List.set_cons_zero]
      refine wpAnyH_take (i := 20) (oi := ?oi15) (v := ?vv15) ?hi15 ?hs15 ?hf15 ?ha15 ?hq15 ?hy15 hHeld ?hr15
      case hi15 => (simp only [List.getElem?_toArray, List.getElem?_cons_succ, List.getElem?_cons_zero]; exact rfl)
      case hs15 => kernel_rfl
      case hf15 => kernel_rfl
      case ha15 => kernel_rfl
      case hq15 => exact fun _ _ _ h => h
      case hy15 =>
        refine Or.inl ⟨by rfl, ?_⟩
        intro w' hSw
        try dsimp only at hSw
        go_simp
        first | done | with_reducible rfl
      simp only [Act.put, List.setIfInBounds_toArray, List.set_cons_succ, List.set_cons_zero]
      refine wpAnyH_ready (rs := [19]) (by kernel_rfl) (by simp) ?_
      refine AllReadyH.cons rfl (fun K hK => ?_) AllReadyH.nil
      go_simp
      go_at_call 24
      obtain ⟨BB, zz, k72_, k73_, k74_, k75_, k76_, k77_, k78_, k79_, k80_, k81_, zw⟩ := hHeld
      (with_reducible refine (implArrivalAwards_any E A3_ c4_ xs _ _ _ k74_.ints (by first | omega | (simp; omega) | simp) (by omega)).mono ?_)
      rintro e w96 ⟨A61_, c62_, rfl, ho63_, hb9⟩
      have ho63_ := ho63_.more (lo' := w28.heap.size + 1) (by omega) (Nat.le_refl _)
      have ho59_ := ho59_.below hb9 (Nat.le_refl _)
      have ho59_ := ho59_.more (Nat.le_refl _) hb9.size
      refine hK.out _ _ ⟨BB.trans (hb9.mono (by omega)), Nat.le_trans zz hb9.size, k72_.below hb9 (by first | omega | (simp; omega) | simp), k73_.below hb9 (by first | omega | (simp; omega) | simp), k74_.below hb9 (by first | omega | (simp; omega) | simp), k75_.below hb9 (by first | omega | (simp; omega) | simp), k76_.below hb9 (by first | omega | (simp; omega) | simp), k77_.below hb9 (by first | omega | (simp; omega) | simp), (hb9.cell (p := ⟨w1.heap.size, 0, none⟩) (by first | omega | (simp; omega) | simp)).trans k78_, (hb9.cell (p := ⟨w1.heap.size, 1, none⟩) (by first | omega | (simp; omega) | simp)).trans k79_, (hb9.cell (p := ⟨w28.heap.size, 0, none⟩) (by first | omega | (simp; omega) | simp)).trans k80_, (hb9.cell (p := ⟨w28.heap.size, 1, none⟩) (by first | omega | (simp; omega) | simp)).trans k81_, Nat.le_trans zw hb9.size⟩ (fun hHeld => ?_)
      clear hb9 zw k81_ k80_ k79_ k78_ k77_ k76_ k75_ k74_ k73_ k72_ zz BB
      clear hK K
      try simp only [Act.put, List.setIfInBounds_toArray, List.set_cons_zero, List.set_cons_succ]
      refine wpAnyH_ready (rs := [21]) (by kernel_rfl) (by simp) ?_
      refine AllReadyH.cons rfl (fun K hK => ?_) AllReadyH.nil
      go_simp
      go_at_call 45
      obtain ⟨BB, zz, k72_, k73_, k74_, k75_, k76_, k77_, k78_, k79_, k80_, k81_, zw⟩ := hHeld
      (with_reducible refine (implMoreEven_yes A61_ c62_ (arrRow E xs) A17_ c18_ (evenLos E xs) _ _ _ ho63_.ints (by first | omega | (simp; omega) | simp) _ _ k75_.ints (by first | omega | (simp; omega) | simp) HSR.out HSL.out H64_.out).mono ?_)
      rintro e w97 ⟨rfl, hb9⟩
      have ho59_ := ho59_.below hb9 (Nat.le_refl _)
      have ho59_ := ho59_.more (Nat.le_refl _) hb9.size
      have ho63_ := ho63_.below hb9 (Nat.le_refl _)
      have ho63_ := ho63_.more (Nat.le_refl _) hb9.size
      refine hK.out _ _ ⟨BB.trans (hb9.mono (by omega)), Nat.le_trans zz hb9.size, k72_.below hb9 (by first | omega | (simp; omega) | simp), k73_.below hb9 (by first | omega | (simp; omega) | simp), k74_.below hb9 (by first | omega | (simp; omega) | simp), k75_.below hb9 (by first | omega | (simp; omega) | simp), k76_.below hb9 (by first | omega | (simp; omega) | simp), k77_.below hb9 (by first | omega | (simp; omega) | simp), (hb9.cell (p := ⟨w1.heap.size, 0, none⟩) (by first | omega | (simp; omega) | simp)).trans k78_, (hb9.cell (p := ⟨w1.heap.size, 1, none⟩) (by first | omega | (simp; omega) | simp)).trans k79_, (hb9.cell (p := ⟨w28.heap.size, 0, none⟩) (by first | omega | (simp; omega) | simp)).trans k80_, (hb9.cell (p := ⟨w28.heap.size, 1, none⟩) (by first | omega | (simp; omega) | simp)).trans k81_, Nat.le_trans zw hb9.size⟩ (fun hHeld => ?_)
      clear hb9 zw k81_ k80_ k79_ k78_ k77_ k76_ k75_ k74_ k73_ k72_ zz BB
      clear hK K
      try simp only [Act.put, List.setIfInBounds_toArray, List.set_cons_zero, List.set_cons_succ]
      refine wpAnyH_take (i := 22) (oi := ?oi16) (v := ?vv16) ?hi16 ?hs16 ?hf16 ?ha16 ?hq16 ?hy16 hHeld ?hr16
      case hi16 => (simp only [List.getElem?_toArray, List.getElem?_cons_succ, List.getElem?_cons_zero]; exact rfl)
      case hs16 => kernel_rfl
      case hf16 => kernel_rfl
      case ha16 => kernel_rfl
      case hq16 => exact fun _ _ _ h => h
      case hy16 =>
        refine Or.inl ⟨by rfl, ?_⟩
        intro w' hSw
        try dsimp only at hSw
        go_simp
        first | done | with_reducible rfl
      simp only [Act.put, List.setIfInBounds_toArray, List.set_cons_succ, List.set_cons_zero]
      refine wpAnyH_take (i := 23) (oi := ?oi17) (v := ?vv17) ?hi17 ?hs17 ?hf17 ?ha17 ?hq17 ?hy17 hHeld ?hr17
      case hi17 => (simp only [List.getElem?_toArray, List.getElem?_cons_succ, List.getElem?_cons_zero]; exact rfl)
      case hs17 => kernel_rfl
      case hf17 => kernel_rfl
      case ha17 => kernel_rfl
      case hq17 => exact fun _ _ _ h => h
      case hy17 =>
        refine Or.inl ⟨by rfl, ?_⟩
        intro w' hSw
        try dsimp only at hSw
        go_simp
        first | done | with_reducible rfl
      simp only [Act.put, List.setIfInBounds_toArray, List.set_cons_succ, List.set_cons_zero]
      refine wpAnyH_take (i := 24) (oi := ?oi18) (v := ?vv18) ?hi18 ?hs18 ?hf18 ?ha18 ?hq18 ?hy18 hHeld ?hr18
      case hi18 => (simp only [List.getElem?_toArray, List.getElem?_cons_succ, List.getElem?_cons_zero]; exact rfl)
      case hs18 => kernel_rfl
      case hf18 => kernel_rfl
      case ha18 => kernel_rfl
      case hq18 => exact fun _ _ _ h => h
      case hy18 =>
        refine Or.inl ⟨by rfl, ?_⟩
        intro w' hSw
        try dsimp only at hSw
        go_simp
        first | done | with_reducible rfl
      simp only [Act.put, List.setIfInBounds_toArray, List.set_cons_succ, List.set_cons_zero]
      refine wpAnyH_take (i := 26) (oi := ?oi19) (v := ?vv19) ?hi19 ?hs19 ?hf19 ?ha19 ?hq19 ?hy19 hHeld ?hr19
      case hi19 => (simp only [List.getElem?_toArray, List.getElem?_cons_succ, List.getElem?_cons_zero]; exact rfl)
      case hs19 => kernel_rfl
      case hf19 => kernel_rfl
      case ha19 => kernel_rfl
      case hq19 => exact fun _ _ _ h => h
      case hy19 =>
        refine Or.inl ⟨by rfl, ?_⟩
        intro w' hSw
        try dsimp only at hSw
        go_simp
        first | done | with_reducible rfl
      simp only [Act.put, List.setIfInBounds_toArray, List.set_cons_succ, List.set_cons_zero]
      refine wpAnyH_ready (rs := [25]) (by kernel_rfl) (by simp) ?_
      refine AllReadyH.cons rfl (fun K hK => ?_) AllReadyH.nil
      go_simp
      go_at_call 46
      obtain ⟨BB, zz, k72_, k73_, k74_, k75_, k76_, k77_, k78_, k79_, k80_, k81_, zw⟩ := hHeld
      (with_reducible refine (implEvenAwards_yes E A3_ c4_ xs _ _ _ k74_.ints (by first | omega | (simp; omega) | simp) HOK.out).mono ?_)
      rintro e w98 ⟨A65_, c66_, rfl, ho67_, hb9⟩
      have ho67_ := ho67_.more (lo' := w28.heap.size + 1) (by omega) (Nat.le_refl _)
      have ho59_ := ho59_.below hb9 (Nat.le_refl _)
      have ho59_ := ho59_.more (Nat.le_refl _) hb9.size
      have ho63_ := ho63_.below hb9 (Nat.le_refl _)
      have ho63_ := ho63_.more (Nat.le_refl _) hb9.size
      refine hK.out _ _ ⟨BB.trans (hb9.mono (by omega)), Nat.le_trans zz hb9.size, k72_.below hb9 (by first | omega | (simp; omega) | simp), k73_.below hb9 (by first | omega | (simp; omega) | simp), k74_.below hb9 (by first | omega | (simp; omega) | simp), k75_.below hb9 (by first | omega | (simp; omega) | simp), k76_.below hb9 (by first | omega | (simp; omega) | simp), k77_.below hb9 (by first | omega | (simp; omega) | simp), (hb9.cell (p := ⟨w1.heap.size, 0, none⟩) (by first | omega | (simp; omega) | simp)).trans k78_, (hb9.cell (p := ⟨w1.heap.size, 1, none⟩) (by first | omega | (simp; omega) | simp)).trans k79_, (hb9.cell (p := ⟨w28.heap.size, 0, none⟩) (by first | omega | (simp; omega) | simp)).trans k80_, (hb9.cell (p := ⟨w28.heap.size, 1, none⟩) (by first | omega | (simp; omega) | simp)).trans k81_, Nat.le_trans zw hb9.size⟩ (fun hHeld => ?_)
      clear hb9 zw k81_ k80_ k79_ k78_ k77_ k76_ k75_ k74_ k73_ k72_ zz BB
      clear hK K
      try simp only [Act.put, List.setIfInBounds_toArray, List.set_cons_zero, List.set_cons_succ]
      refine wpAnyH_ready (rs := [27]) (by kernel_rfl) (by simp) ?_
      refine AllReadyH.cons rfl (fun K hK => ?_) AllReadyH.nil
      go_simp
      go_at_call 40
      obtain ⟨BB, zz, k72_, k73_, k74_, k75_, k76_, k77_, k78_, k79_, k80_, k81_, zw⟩ := hHeld
      (with_reducible refine (implHalfAwards_yes E A3_ c4_ xs _ _ _ k74_.ints (by first | omega | (simp; omega) | simp) HOK.out).mono ?_)
      rintro e w99 ⟨A68_, c69_, rfl, ho70_, hb9⟩
      have ho70_ := ho70_.more (lo' := w28.heap.size + 1) (by omega) (Nat.le_refl _)
      have ho59_ := ho59_.below hb9 (Nat.le_refl _)
      have ho59_ := ho59_.more (Nat.le_refl _) hb9.size
      have ho63_ := ho63_.below hb9 (Nat.le_refl _)
      have ho63_ := ho63_.more (Nat.le_refl _) hb9.size
      have ho67_ := ho67_.below hb9 (Nat.le_refl _)
      have ho67_ := ho67_.more (Nat.le_refl _) hb9.size
      refine hK.out _ _ ⟨BB.trans (hb9.mono (by omega)), Nat.le_trans zz hb9.size, k72_.below hb9 (by first | omega | (simp; omega) | simp), k73_.below hb9 (by first | omega | (simp; omega) | simp), k74_.below hb9 (by first | omega | (simp; omega) | simp), k75_.below hb9 (by first | omega | (simp; omega) | simp), k76_.below hb9 (by first | omega | (simp; omega) | simp), k77_.below hb9 (by first | omega | (simp; omega) | simp), (hb9.cell (p := ⟨w1.heap.size, 0, none⟩) (by first | omega | (simp; omega) | simp)).trans k78_, (hb9.cell (p := ⟨w1.heap.size, 1, none⟩) (by first | omega | (simp; omega) | simp)).trans k79_, (hb9.cell (p := ⟨w28.heap.size, 0, none⟩) (by first | omega | (simp; omega) | simp)).trans k80_, (hb9.cell (p := ⟨w28.heap.size, 1, none⟩) (by first | omega | (simp; omega) | simp)).trans k81_, Nat.le_trans zw hb9.size⟩ (fun hHeld => ?_)
      clear hb9 zw k81_ k80_ k79_ k78_ k77_ k76_ k75_ k74_ k73_ k72_ zz BB
      clear hK K
      try simp only [Act.put, List.setIfInBounds_toArray, List.set_cons_zero, List.set_cons_succ]
      refine wpAnyH_ready (rs := [28]) (by kernel_rfl) (by simp) ?_
      refine AllReadyH.cons rfl (fun K hK => ?_) AllReadyH.nil
      go_simp
      go_at_call 45
      obtain ⟨BB, zz, k72_, k73_, k74_, k75_, k76_, k77_, k78_, k79_, k80_, k81_, zw⟩ := hHeld
      (with_reducible refine (implMoreEven_yes A65_ c66_ (evenAw E xs) A68_ c69_ (halfAw E xs) _ _ _ ho67_.ints (by first | omega | (simp; omega) | simp) _ _ ho70_.ints (by first | omega | (simp; omega) | simp) HSE.out HSH.out H71_.out).mono ?_)
      rintro e w100 ⟨rfl, hb9⟩
      have ho59_ := ho59_.below hb9 (Nat.le_refl _)
      have ho59_ := ho59_.more (Nat.le_refl _) hb9.size
      have ho63_ := ho63_.below hb9 (Nat.le_refl _)
      have ho63_ := ho63_.more (Nat.le_refl _) hb9.size
      have ho67_ := ho67_.below hb9 (Nat.le_refl _)
      have ho67_ := ho67_.more (Nat.le_refl _) hb9.size
      have ho70_ := ho70_.below hb9 (Nat.le_refl _)
      have ho70_ := ho70_.more (Nat.le_refl _) hb9.size
      refine hK.out _ _ ⟨BB.trans (hb9.mono (by omega)), Nat.le_trans zz hb9.size, k72_.below hb9 (by first | omega | (simp; omega) | simp), k73_.below hb9 (by first | omega | (simp; omega) | simp), k74_.below hb9 (by first | omega | (simp; omega) | simp), k75_.below hb9 (by first | omega | (simp; omega) | simp), k76_.below hb9 (by first | omega | (simp; omega) | simp), k77_.below hb9 (by first | omega | (simp; omega) | simp), (hb9.cell (p := ⟨w1.heap.size, 0, none⟩) (by first | omega | (simp; omega) | simp)).trans k78_, (hb9.cell (p := ⟨w1.heap.size, 1, none⟩) (by first | omega | (simp; omega) | simp)).trans k79_, (hb9.cell (p := ⟨w28.heap.size, 0, none⟩) (by first | omega | (simp; omega) | simp)).trans k80_, (hb9.cell (p := ⟨w28.heap.size, 1, none⟩) (by first | omega | (simp; omega) | simp)).trans k81_, Nat.le_trans zw hb9.size⟩ (fun hHeld => ?_)
      clear hb9 zw k81_ k80_ k79_ k78_ k77_ k76_ k75_ k74_ k73_ k72_ zz BB
      clear hK K
      try simp only [Act.put, List.setIfInBounds_toArray, List.set_cons_zero, List.set_cons_succ]
      refine wpAnyH_take (i := 29) (oi := ?oi20) (v := ?vv20) ?hi20 ?hs20 ?hf20 ?ha20 ?hq20 ?hy20 hHeld ?hr20
      case hi20 => (simp only [List.getElem?_toArray, List.getElem?_cons_succ, List.getElem?_cons_zero]; exact rfl)
      case hs20 => kernel_rfl
      case hf20 => kernel_rfl
      case ha20 => kernel_rfl
      case hq20 => exact fun _ _ _ h => h
      case hy20 =>
        refine Or.inl ⟨by rfl, ?_⟩
        intro w' hSw
        try dsimp only at hSw
        go_simp
        first | done | with_reducible rfl
      simp only [Act.put, List.setIfInBounds_toArray, List.set_cons_succ, List.set_cons_zero]
      refine wpAnyH_take (i := 30) (oi := ?oi21) (v := ?vv21) ?hi21 ?hs21 ?hf21 ?ha21 ?hq21 ?hy21 hHeld ?hr21
      case hi21 => (simp only [List.getElem?_toArray, List.getElem?_cons_succ, List.getElem?_cons_zero]; exact rfl)
      case hs21 => kernel_rfl
      case hf21 => kernel_rfl
      case ha21 => kernel_rfl
      case hq21 => exact fun _ _ _ h => h
      case hy21 =>
        refine Or.inl ⟨by rfl, ?_⟩
        intro w' hSw
        try dsimp only at hSw
        go_simp
        first | done | with_reducible rfl
      simp only [Act.put, List.setIfInBounds_toArray, List.set_cons_succ, List.set_cons_zero]
      refine wpAnyH_take (i := 31) (oi := ?oi22) (v := ?vv22) ?hi22 ?hs22 ?hf22 ?ha22 ?hq22 ?hy22 hHeld ?hr22
      case hi22 => (simp only [List.getElem?_toArray, List.getElem?_cons_succ, List.getElem?_cons_zero]; exact rfl)
      case hs22 => kernel_rfl
      case hf22 => kernel_rfl
      case ha22 => kernel_rfl
      case hq22 => exact fun _ _ _ h => h
      case hy22 =>
        refine Or.inl ⟨by rfl, ?_⟩
        intro w' hSw
        try dsimp only at hSw
        go_simp
        first | done | with_reducible rfl
      simp only [Act.put, List.setIfInBounds_toArray, List.set_cons_succ, List.set_cons_zero]
      refine wpAnyH_done (by kernel_rfl) ?_ _
      obtain ⟨BB, zz, k72_, k73_, k74_, k75_, k76_, k77_, k78_, k79_, k80_, k81_, zw⟩ := hHeld
      have k101_ := BB
      clear BB
      have k102_ := zz
      clear zz
      have k103_ := zw
      clear zw
      go_wp2
      go_ret
      exact ⟨ret_bool (by first | exact rfl | exact h27_b.trans rfl), k101_⟩
    · have H55_ : Hid (keepsB E xs ys = false) := by show _ = _; simpa using h55_
      clear h55_
      have H59_ : Hid (More (halfAw E xs) (evenLos E xs)) := by show More _ _; rw [HEL.out]; exact more_least (half_keeps HOK.out)
      have H63_ : Hid (More (arrRow E xs) (evenLos E xs)) := by show More _ _; rw [HEL.out, arrRow_yes HOK.out]; exact more_least (arr_keepsB HOK.out)
      have H70_ : Hid (More (evenAw E xs) (halfAw E xs)) := evenAw_more (half_aw HOK.out)
      have g81_ : w1.heap.size < (w28.alloc (.cells #[.int .i64 E2, .slice A30_ xs2.length c31_] 25)).heap.size := (by first | omega | (simp; omega) | simp)
      have g82_ : w28.heap.size < (w28.alloc (.cells #[.int .i64 E2, .slice A30_ xs2.length c31_] 25)).heap.size := (by first | omega | (simp; omega) | simp)
      have g83_ : w.heap.size ≤ (w28.alloc (.cells #[.int .i64 E2, .slice A30_ xs2.length c31_] 25)).heap.size := (by first | omega | (simp; omega) | simp)
      have g84_ : w.heap.size ≤ (w28.alloc (.cells #[.int .i64 E2, .slice A30_ xs2.length c31_] 25)).heap.size := (by first | omega | (simp; omega) | simp)
      have g85_ : w1.heap.size ≤ (w28.alloc (.cells #[.int .i64 E2, .slice A30_ xs2.length c31_] 25)).heap.size := (by first | omega | (simp; omega) | simp)
      have g86_ : w16.heap.size ≤ (w28.alloc (.cells #[.int .i64 E2, .slice A30_ xs2.length c31_] 25)).heap.size := (by first | omega | (simp; omega) | simp)
      have g87_ : w28.heap.size ≤ (w28.alloc (.cells #[.int .i64 E2, .slice A30_ xs2.length c31_] 25)).heap.size := (by first | omega | (simp; omega) | simp)
      have g88_ : w28.heap.size ≤ (w28.alloc (.cells #[.int .i64 E2, .slice A30_ xs2.length c31_] 25)).heap.size := (by first | omega | (simp; omega) | simp)
      have g89_ : w.heap.size ≤ (w28.alloc (.cells #[.int .i64 E2, .slice A30_ xs2.length c31_] 25)).heap.size := (by first | omega | (simp; omega) | simp)
      go_wp2_with fail
      refine wp_region_held_drew (S := (fun w' : World => Below w.heap.size w w' ∧ w28.heap.size + 1 ≤ w'.heap.size ∧ Bytes w' (w.heap.size) A0 bs ∧ Bytes w' (w.heap.size) B0 ds ∧ Own w' (w.heap.size) (w1.heap.size) A3_ xs ∧ Own w' (w1.heap.size + 1) (w16.heap.size) A17_ (evenLos E xs) ∧ Own w' (w16.heap.size) (w28.heap.size) A30_ xs2 ∧ Own w' (w16.heap.size) (w28.heap.size) A33_ ys ∧ w'.cell? ⟨w1.heap.size, 0, none⟩ = some (.int .i64 E) ∧ w'.cell? ⟨w1.heap.size, 1, none⟩ = some (.slice A3_ xs.length c4_) ∧ w'.cell? ⟨w28.heap.size, 0, none⟩ = some (.int .i64 E2) ∧ w'.cell? ⟨w28.heap.size, 1, none⟩ = some (.slice A30_ xs2.length c31_) ∧ (w28.alloc (.cells #[.int .i64 E2, .slice A30_ xs2.length c31_] 25)).heap.size ≤ w'.heap.size)) (by kernel_rfl) ⟨B52_.drew, by exact (by first | omega | (simp; omega) | simp), o44_, o45_, o46_, o47_, o48_, o49_, o50_, o51_, a53_, a54_, Nat.le_refl _⟩ (fun hHeld => ?_)
      refine wpAnyH_ready (rs := [0]) (by kernel_rfl) (by simp) ?_
      refine AllReadyH.cons rfl (fun K hK => ?_) AllReadyH.nil
      go_simp
      go_at_call 19
      obtain ⟨BB, zz, k71_, k72_, k73_, k74_, k75_, k76_, k77_, k78_, k79_, k80_, zw⟩ := hHeld
      (with_reducible refine (alive_any _).mono ?_)
      rintro e w90 ⟨rfl, hb9⟩
      refine hK.out _ _ ⟨BB.trans (hb9.mono (by omega)), Nat.le_trans zz hb9.size, k71_.below hb9 (by first | omega | (simp; omega) | simp), k72_.below hb9 (by first | omega | (simp; omega) | simp), k73_.below hb9 (by first | omega | (simp; omega) | simp), k74_.below hb9 (by first | omega | (simp; omega) | simp), k75_.below hb9 (by first | omega | (simp; omega) | simp), k76_.below hb9 (by first | omega | (simp; omega) | simp), (hb9.cell (p := ⟨w1.heap.size, 0, none⟩) (by first | omega | (simp; omega) | simp)).trans k77_, (hb9.cell (p := ⟨w1.heap.size, 1, none⟩) (by first | omega | (simp; omega) | simp)).trans k78_, (hb9.cell (p := ⟨w28.heap.size, 0, none⟩) (by first | omega | (simp; omega) | simp)).trans k79_, (hb9.cell (p := ⟨w28.heap.size, 1, none⟩) (by first | omega | (simp; omega) | simp)).trans k80_, Nat.le_trans zw hb9.size⟩ (fun hHeld => ?_)
      clear hb9 zw k80_ k79_ k78_ k77_ k76_ k75_ k74_ k73_ k72_ k71_ zz BB
      clear hK K
      try simp only [Act.put, List.setIfInBounds_toArray, List.set_cons_zero, List.set_cons_succ]
      refine wpAnyH_take (i := 1) (oi := ?oi23) (v := ?vv23) ?hi23 ?hs23 ?hf23 ?ha23 ?hq23 ?hy23 hHeld ?hr23
      case hi23 => (simp only [List.getElem?_toArray, List.getElem?_cons_succ, List.getElem?_cons_zero]; exact rfl)
      case hs23 => kernel_rfl
      case hf23 => kernel_rfl
      case ha23 => kernel_rfl
      case hq23 => exact fun _ _ _ h => h
      case hy23 =>
        refine Or.inl ⟨by rfl, ?_⟩
        intro w' hSw
        try dsimp only at hSw
        go_simp
        first | done | with_reducible rfl
      simp only [Act.put, List.setIfInBounds_toArray, List.set_cons_succ, List.set_cons_zero]
      refine wpAnyH_take (i := 2) (oi := ?oi24) (v := ?vv24) ?hi24 ?hs24 ?hf24 ?ha24 ?hq24 ?hy24 hHeld ?hr24
      case hi24 => (simp only [List.getElem?_toArray, List.getElem?_cons_succ, List.getElem?_cons_zero]; exact rfl)
      case hs24 => kernel_rfl
      case hf24 => kernel_rfl
      case ha24 => kernel_rfl
      case hq24 => exact fun _ _ _ h => h
      case hy24 =>
        refine Or.inl ⟨by rfl, ?_⟩
        intro w' hSw
        try dsimp only at hSw
        go_simp
        first | done | with_reducible rfl
      simp only [Act.put, List.setIfInBounds_toArray, List.set_cons_succ, List.set_cons_zero]
      refine wpAnyH_take (i := 3) (oi := ?oi25) (v := ?vv25) ?hi25 ?hs25 ?hf25 ?ha25 ?hq25 ?hy25 hHeld ?hr25
      case hi25 => (simp only [List.getElem?_toArray, List.getElem?_cons_succ, List.getElem?_cons_zero]; exact rfl)
      case hs25 => kernel_rfl
      case hf25 => kernel_rfl
      case ha25 => kernel_rfl
      case hq25 => exact fun _ _ _ h => h
      case hy25 =>
        refine Or.inl ⟨by rfl, ?_⟩
        intro w' hSw
        try dsimp only at hSw
        go_simp
        first | done | with_reducible rfl
      simp only [Act.put, List.setIfInBounds_toArray, List.set_cons_succ, List.set_cons_zero]
      refine wpAnyH_ready (rs := [4]) (by kernel_rfl) (by simp) ?_
      refine AllReadyH.cons rfl (fun K hK => ?_) AllReadyH.nil
      go_simp
      go_at_call 28
      obtain ⟨BB, zz, k71_, k72_, k73_, k74_, k75_, k76_, k77_, k78_, k79_, k80_, zw⟩ := hHeld
      (with_reducible refine (below_is (implKeepsOrder_any E A3_ c4_ xs A33_ c34_ ys _ _ _ k73_.ints (by first | omega | (simp; omega) | simp) (by omega) _ _ k76_.ints (by first | omega | (simp; omega) | simp) (by omega)) (congrArg Value.bool H55_.out)).mono ?_)
      rintro e w91 ⟨rfl, hb9⟩
      refine hK.out _ _ ⟨BB.trans (hb9.mono (by omega)), Nat.le_trans zz hb9.size, k71_.below hb9 (by first | omega | (simp; omega) | simp), k72_.below hb9 (by first | omega | (simp; omega) | simp), k73_.below hb9 (by first | omega | (simp; omega) | simp), k74_.below hb9 (by first | omega | (simp; omega) | simp), k75_.below hb9 (by first | omega | (simp; omega) | simp), k76_.below hb9 (by first | omega | (simp; omega) | simp), (hb9.cell (p := ⟨w1.heap.size, 0, none⟩) (by first | omega | (simp; omega) | simp)).trans k77_, (hb9.cell (p := ⟨w1.heap.size, 1, none⟩) (by first | omega | (simp; omega) | simp)).trans k78_, (hb9.cell (p := ⟨w28.heap.size, 0, none⟩) (by first | omega | (simp; omega) | simp)).trans k79_, (hb9.cell (p := ⟨w28.heap.size, 1, none⟩) (by first | omega | (simp; omega) | simp)).trans k80_, Nat.le_trans zw hb9.size⟩ (fun hHeld => ?_)
      clear hb9 zw k80_ k79_ k78_ k77_ k76_ k75_ k74_ k73_ k72_ k71_ zz BB
      clear hK K
      try simp only [Act.put, List.setIfInBounds_toArray, List.set_cons_zero, List.set_cons_succ]
      refine wpAnyH_take (i := 5) (oi := ?oi26) (v := ?vv26) ?hi26 ?hs26 ?hf26 ?ha26 ?hq26 ?hy26 hHeld ?hr26
      case hi26 => (simp only [List.getElem?_toArray, List.getElem?_cons_succ, List.getElem?_cons_zero]; exact rfl)
      case hs26 => kernel_rfl
      case hf26 => kernel_rfl
      case ha26 => kernel_rfl
      case hq26 => exact fun _ _ _ h => h
      case hy26 =>
        refine Or.inl ⟨by rfl, ?_⟩
        intro w' hSw
        try dsimp only at hSw
        go_simp
        first | done | with_reducible rfl
      simp only [Act.put, List.setIfInBounds_toArray, List.set_cons_succ, List.set_cons_zero]
      refine wpAnyH_take (i := 6) (oi := ?oi27) (v := ?vv27) ?hi27 ?hs27 ?hf27 ?ha27 ?hq27 ?hy27 hHeld ?hr27
      case hi27 => (simp only [List.getElem?_toArray, List.getElem?_cons_succ, List.getElem?_cons_zero]; exact rfl)
      case hs27 => kernel_rfl
      case hf27 => kernel_rfl
      case ha27 => kernel_rfl
      case hq27 => exact fun _ _ _ h => h
      case hy27 =>
        refine Or.inl ⟨by rfl, ?_⟩
        intro w' hSw
        try dsimp only at hSw
        go_simp
        first | done | with_reducible rfl
      simp only [Act.put, List.setIfInBounds_toArray, List.set_cons_succ, List.set_cons_zero]
      refine wpAnyH_take (i := 7) (oi := ?oi28) (v := undef) ?hi28 ?hs28 ?hf28 ?ha28 ?hq28 ?hy28 hHeld ?hr28
      case hi28 => (simp only [List.getElem?_toArray, List.getElem?_cons_succ, List.getElem?_cons_zero]; exact rfl)
      case hs28 => kernel_rfl
      case hf28 => kernel_rfl
      case ha28 => kernel_rfl
      case hq28 => exact fun _ _ _ h => h
      case hy28 => exact Or.inr ⟨by rfl, rfl⟩
      simp only [Act.put, List.setIfInBounds_toArray, List.set_cons_succ, List.set_cons_zero]
      refine wpAnyH_take (i := 8) (oi := ?oi29) (v := undef) ?hi29 ?hs29 ?hf29 ?ha29 ?hq29 ?hy29 hHeld ?hr29
      case hi29 => (simp only [List.getElem?_toArray, List.getElem?_cons_succ, List.getElem?_cons_zero]; exact rfl)
      case hs29 => kernel_rfl
      case hf29 => kernel_rfl
      case ha29 => kernel_rfl
      case hq29 => exact fun _ _ _ h => h
      case hy29 => exact Or.inr ⟨by rfl, rfl⟩
      simp only [Act.put, List.setIfInBounds_toArray, List.set_cons_succ, List.set_cons_zero]
      refine wpAnyH_take (i := 9) (oi := ?oi30) (v := undef) ?hi30 ?hs30 ?hf30 ?ha30 ?hq30 ?hy30 hHeld ?hr30
      case hi30 => (simp only [List.getElem?_toArray, List.getElem?_cons_succ, List.getElem?_cons_zero]; exact rfl)
      case hs30 => kernel_rfl
      case hf30 => kernel_rfl
      case ha30 => kernel_rfl
      case hq30 => exact fun _ _ _ h => h
      case hy30 => exact Or.inr ⟨by rfl, rfl⟩
      simp only [Act.put, List.setIfInBounds_toArray, List.set_cons_succ, List.set_cons_zero]
      refine wpAnyH_take (i := 10) (oi := ?oi31) (v := ?vv31) ?hi31 ?hs31 ?hf31 ?ha31 ?hq31 ?hy31 hHeld ?hr31
      case hi31 => (simp only [List.getElem?_toArray, List.getElem?_cons_succ, List.getElem?_cons_zero]; exact rfl)
      case hs31 => kernel_rfl
      case hf31 => kernel_rfl
      case ha31 => kernel_rfl
      case hq31 => exact fun _ _ _ h => h
      case hy31 =>
        refine Or.inl ⟨by rfl, ?_⟩
        intro w' hSw
        try dsimp only at hSw
        go_simp
        first | done | with_reducible rfl
      simp only [Act.put, List.setIfInBounds_toArray, List.set_cons_succ, List.set_cons_zero]
      refine wpAnyH_take (i := 11) (oi := ?oi32) (v := ?vv32) ?hi32 ?hs32 ?hf32 ?ha32 ?hq32 ?hy32 hHeld ?hr32
      case hi32 => (simp only [List.getElem?_toArray, List.getElem?_cons_succ, List.getElem?_cons_zero]; exact rfl)
      case hs32 => kernel_rfl
      case hf32 => kernel_rfl
      case ha32 => kernel_rfl
      case hq32 => exact fun _ _ _ h => h
      case hy32 =>
        refine Or.inl ⟨by rfl, ?_⟩
        intro w' hSw
        try dsimp only at hSw
        go_simp
        first | done | with_reducible rfl
      simp only [Act.put, List.setIfInBounds_toArray, List.set_cons_succ, List.set_cons_zero]
      refine wpAnyH_take (i := 12) (oi := ?oi33) (v := ?vv33) ?hi33 ?hs33 ?hf33 ?ha33 ?hq33 ?hy33 hHeld ?hr33
      case hi33 => (simp only [List.getElem?_toArray, List.getElem?_cons_succ, List.getElem?_cons_zero]; exact rfl)
      case hs33 => kernel_rfl
      case hf33 => kernel_rfl
      case ha33 => kernel_rfl
      case hq33 => exact fun _ _ _ h => h
      case hy33 =>
        refine Or.inl ⟨by rfl, ?_⟩
        intro w' hSw
        try dsimp only at hSw
        go_simp
        first | done | with_reducible rfl
      simp only [Act.put, List.setIfInBounds_toArray, List.set_cons_succ, List.set_cons_zero]
      refine wpAnyH_take (i := 14) (oi := ?oi34) (v := ?vv34) ?hi34 ?hs34 ?hf34 ?ha34 ?hq34 ?hy34 hHeld ?hr34
      case hi34 => (simp only [List.getElem?_toArray, List.getElem?_cons_succ, List.getElem?_cons_zero]; exact rfl)
      case hs34 => kernel_rfl
      case hf34 => kernel_rfl
      case ha34 => kernel_rfl
      case hq34 => exact fun _ _ _ h => h
      case hy34 =>
        refine Or.inl ⟨by rfl, ?_⟩
        intro w' hSw
        try dsimp only at hSw
        go_simp
        first | done | with_reducible rfl
      simp only [Act.put, List.setIfInBounds_toArray, List.set_cons_succ, List.set_cons_zero]
      refine wpAnyH_ready (rs := [13]) (by kernel_rfl) (by simp) ?_
      refine AllReadyH.cons rfl (fun K hK => ?_) AllReadyH.nil
      go_simp
      go_at_call 40
      obtain ⟨BB, zz, k71_, k72_, k73_, k74_, k75_, k76_, k77_, k78_, k79_, k80_, zw⟩ := hHeld
      (with_reducible refine (implHalfAwards_yes E A3_ c4_ xs _ _ _ k73_.ints (by first | omega | (simp; omega) | simp) HOK.out).mono ?_)
      rintro e w92 ⟨A56_, c57_, rfl, ho58_, hb9⟩
      have ho58_ := ho58_.more (lo' := w28.heap.size + 1) (by omega) (Nat.le_refl _)
      refine hK.out _ _ ⟨BB.trans (hb9.mono (by omega)), Nat.le_trans zz hb9.size, k71_.below hb9 (by first | omega | (simp; omega) | simp), k72_.below hb9 (by first | omega | (simp; omega) | simp), k73_.below hb9 (by first | omega | (simp; omega) | simp), k74_.below hb9 (by first | omega | (simp; omega) | simp), k75_.below hb9 (by first | omega | (simp; omega) | simp), k76_.below hb9 (by first | omega | (simp; omega) | simp), (hb9.cell (p := ⟨w1.heap.size, 0, none⟩) (by first | omega | (simp; omega) | simp)).trans k77_, (hb9.cell (p := ⟨w1.heap.size, 1, none⟩) (by first | omega | (simp; omega) | simp)).trans k78_, (hb9.cell (p := ⟨w28.heap.size, 0, none⟩) (by first | omega | (simp; omega) | simp)).trans k79_, (hb9.cell (p := ⟨w28.heap.size, 1, none⟩) (by first | omega | (simp; omega) | simp)).trans k80_, Nat.le_trans zw hb9.size⟩ (fun hHeld => ?_)
      clear hb9 zw k80_ k79_ k78_ k77_ k76_ k75_ k74_ k73_ k72_ k71_ zz BB
      clear hK K
      try simp only [Act.put, List.setIfInBounds_toArray, List.set_cons_zero, List.set_cons_succ]
      refine wpAnyH_ready (rs := [15]) (by kernel_rfl) (by simp) ?_
      refine AllReadyH.cons rfl (fun K hK => ?_) AllReadyH.nil
      go_simp
      go_at_call 45
      obtain ⟨BB, zz, k71_, k72_, k73_, k74_, k75_, k76_, k77_, k78_, k79_, k80_, zw⟩ := hHeld
      (with_reducible refine (implMoreEven_yes A56_ c57_ (halfAw E xs) A17_ c18_ (evenLos E xs) _ _ _ ho58_.ints (by first | omega | (simp; omega) | simp) _ _ k74_.ints (by first | omega | (simp; omega) | simp) HSH.out HSL.out H59_.out).mono ?_)
      rintro e w93 ⟨rfl, hb9⟩
      have ho58_ := ho58_.below hb9 (Nat.le_refl _)
      have ho58_ := ho58_.more (Nat.le_refl _) hb9.size
      refine hK.out _ _ ⟨BB.trans (hb9.mono (by omega)), Nat.le_trans zz hb9.size, k71_.below hb9 (by first | omega | (simp; omega) | simp), k72_.below hb9 (by first | omega | (simp; omega) | simp), k73_.below hb9 (by first | omega | (simp; omega) | simp), k74_.below hb9 (by first | omega | (simp; omega) | simp), k75_.below hb9 (by first | omega | (simp; omega) | simp), k76_.below hb9 (by first | omega | (simp; omega) | simp), (hb9.cell (p := ⟨w1.heap.size, 0, none⟩) (by first | omega | (simp; omega) | simp)).trans k77_, (hb9.cell (p := ⟨w1.heap.size, 1, none⟩) (by first | omega | (simp; omega) | simp)).trans k78_, (hb9.cell (p := ⟨w28.heap.size, 0, none⟩) (by first | omega | (simp; omega) | simp)).trans k79_, (hb9.cell (p := ⟨w28.heap.size, 1, none⟩) (by first | omega | (simp; omega) | simp)).trans k80_, Nat.le_trans zw hb9.size⟩ (fun hHeld => ?_)
      clear hb9 zw k80_ k79_ k78_ k77_ k76_ k75_ k74_ k73_ k72_ k71_ zz BB
      clear hK K
      try simp only [Act.put, List.setIfInBounds_toArray, List.set_cons_zero, List.set_cons_succ]
      refine wpAnyH_take (i := 16) (oi := ?oi35) (v := ?vv35) ?hi35 ?hs35 ?hf35 ?ha35 ?hq35 ?hy35 hHeld ?hr35
      case hi35 => (simp only [List.getElem?_toArray, List.getElem?_cons_succ, List.getElem?_cons_zero]; exact rfl)
      case hs35 => kernel_rfl
      case hf35 => kernel_rfl
      case ha35 => kernel_rfl
      case hq35 => exact fun _ _ _ h => h
      case hy35 =>
        refine Or.inl ⟨by rfl, ?_⟩
        intro w' hSw
        try dsimp only at hSw
        go_simp
        first | done | with_reducible rfl
      simp only [Act.put, List.setIfInBounds_toArray, List.set_cons_succ, List.set_cons_zero]
      refine wpAnyH_take (i := 17) (oi := ?oi36) (v := ?vv36) ?hi36 ?hs36 ?hf36 ?ha36 ?hq36 ?hy36 hHeld ?hr36
      case hi36 => (simp only [List.getElem?_toArray, List.getElem?_cons_succ, List.getElem?_cons_zero]; exact rfl)
      case hs36 => kernel_rfl
      case hf36 => kernel_rfl
      case ha36 => kernel_rfl
      case hq36 => exact fun _ _ _ h => h
      case hy36 =>
        refine Or.inl ⟨by rfl, ?_⟩
        intro w' hSw
        try dsimp only at hSw
        go_simp
        first | done | with_reducible rfl
      simp only [Act.put, List.setIfInBounds_toArray, List.set_cons_succ, List.set_cons_zero]
      refine wpAnyH_take (i := 18) (oi := ?oi37) (v := ?vv37) ?hi37 ?hs37 ?hf37 ?ha37 ?hq37 ?hy37 hHeld ?hr37
      case hi37 => (simp only [List.getElem?_toArray, List.getElem?_cons_succ, List.getElem?_cons_zero]; exact rfl)
      case hs37 => kernel_rfl
      case hf37 => kernel_rfl
      case ha37 => kernel_rfl
      case hq37 => exact fun _ _ _ h => h
      case hy37 =>
        refine Or.inl ⟨by rfl, ?_⟩
        intro w' hSw
        try dsimp only at hSw
        go_simp
        first | done | with_reducible rfl
      simp only [Act.put, List.setIfInBounds_toArray, List.set_cons_succ, List.set_cons_zero]
      refine wpAnyH_take (i := 20) (oi := ?oi38) (v := ?vv38) ?hi38 ?hs38 ?hf38 ?ha38 ?hq38 ?hy38 hHeld ?hr38
      case hi38 => (simp only [List.getElem?_toArray, List.getElem?_cons_succ, List.getElem?_cons_zero]; exact rfl)
      case hs38 => kernel_rfl
      case hf38 => kernel_rfl
      case ha38 => kernel_rfl
      case hq38 => exact fun _ _ _ h => h
      case hy38 =>
        refine Or.inl ⟨by rfl, ?_⟩
        intro w' hSw
        try dsimp only at hSw
        go_simp
        first | done | with_reducible rfl
      simp only [Act.put, List.setIfInBounds_toArray, List.set_cons_succ, List.set_cons_zero]
      refine wpAnyH_ready (rs := [19]) (by kernel_rfl) (by simp) ?_
      refine AllReadyH.cons rfl (fun K hK => ?_) AllReadyH.nil
      go_simp
      go_at_call 24
      obtain ⟨BB, zz, k71_, k72_, k73_, k74_, k75_, k76_, k77_, k78_, k79_, k80_, zw⟩ := hHeld
      (with_reducible refine (implArrivalAwards_any E A3_ c4_ xs _ _ _ k73_.ints (by first | omega | (simp; omega) | simp) (by omega)).mono ?_)
      rintro e w94 ⟨A60_, c61_, rfl, ho62_, hb9⟩
      have ho62_ := ho62_.more (lo' := w28.heap.size + 1) (by omega) (Nat.le_refl _)
      have ho58_ := ho58_.below hb9 (Nat.le_refl _)
      have ho58_ := ho58_.more (Nat.le_refl _) hb9.size
      refine hK.out _ _ ⟨BB.trans (hb9.mono (by omega)), Nat.le_trans zz hb9.size, k71_.below hb9 (by first | omega | (simp; omega) | simp), k72_.below hb9 (by first | omega | (simp; omega) | simp), k73_.below hb9 (by first | omega | (simp; omega) | simp), k74_.below hb9 (by first | omega | (simp; omega) | simp), k75_.below hb9 (by first | omega | (simp; omega) | simp), k76_.below hb9 (by first | omega | (simp; omega) | simp), (hb9.cell (p := ⟨w1.heap.size, 0, none⟩) (by first | omega | (simp; omega) | simp)).trans k77_, (hb9.cell (p := ⟨w1.heap.size, 1, none⟩) (by first | omega | (simp; omega) | simp)).trans k78_, (hb9.cell (p := ⟨w28.heap.size, 0, none⟩) (by first | omega | (simp; omega) | simp)).trans k79_, (hb9.cell (p := ⟨w28.heap.size, 1, none⟩) (by first | omega | (simp; omega) | simp)).trans k80_, Nat.le_trans zw hb9.size⟩ (fun hHeld => ?_)
      clear hb9 zw k80_ k79_ k78_ k77_ k76_ k75_ k74_ k73_ k72_ k71_ zz BB
      clear hK K
      try simp only [Act.put, List.setIfInBounds_toArray, List.set_cons_zero, List.set_cons_succ]
      refine wpAnyH_ready (rs := [21]) (by kernel_rfl) (by simp) ?_
      refine AllReadyH.cons rfl (fun K hK => ?_) AllReadyH.nil
      go_simp
      go_at_call 45
      obtain ⟨BB, zz, k71_, k72_, k73_, k74_, k75_, k76_, k77_, k78_, k79_, k80_, zw⟩ := hHeld
      (with_reducible refine (implMoreEven_yes A60_ c61_ (arrRow E xs) A17_ c18_ (evenLos E xs) _ _ _ ho62_.ints (by first | omega | (simp; omega) | simp) _ _ k74_.ints (by first | omega | (simp; omega) | simp) HSR.out HSL.out H63_.out).mono ?_)
      rintro e w95 ⟨rfl, hb9⟩
      have ho58_ := ho58_.below hb9 (Nat.le_refl _)
      have ho58_ := ho58_.more (Nat.le_refl _) hb9.size
      have ho62_ := ho62_.below hb9 (Nat.le_refl _)
      have ho62_ := ho62_.more (Nat.le_refl _) hb9.size
      refine hK.out _ _ ⟨BB.trans (hb9.mono (by omega)), Nat.le_trans zz hb9.size, k71_.below hb9 (by first | omega | (simp; omega) | simp), k72_.below hb9 (by first | omega | (simp; omega) | simp), k73_.below hb9 (by first | omega | (simp; omega) | simp), k74_.below hb9 (by first | omega | (simp; omega) | simp), k75_.below hb9 (by first | omega | (simp; omega) | simp), k76_.below hb9 (by first | omega | (simp; omega) | simp), (hb9.cell (p := ⟨w1.heap.size, 0, none⟩) (by first | omega | (simp; omega) | simp)).trans k77_, (hb9.cell (p := ⟨w1.heap.size, 1, none⟩) (by first | omega | (simp; omega) | simp)).trans k78_, (hb9.cell (p := ⟨w28.heap.size, 0, none⟩) (by first | omega | (simp; omega) | simp)).trans k79_, (hb9.cell (p := ⟨w28.heap.size, 1, none⟩) (by first | omega | (simp; omega) | simp)).trans k80_, Nat.le_trans zw hb9.size⟩ (fun hHeld => ?_)
      clear hb9 zw k80_ k79_ k78_ k77_ k76_ k75_ k74_ k73_ k72_ k71_ zz BB
      clear hK K
      try simp only [Act.put, List.setIfInBounds_toArray, List.set_cons_zero, List.set_cons_succ]
      refine wpAnyH_take (i := 22) (oi := ?oi39) (v := ?vv39) ?hi39 ?hs39 ?hf39 ?ha39 ?hq39 ?hy39 hHeld ?hr39
      case hi39 => (simp only [List.getElem?_toArray, List.getElem?_cons_succ, List.getElem?_cons_zero]; exact rfl)
      case hs39 => kernel_rfl
      case hf39 => kernel_rfl
      case ha39 => kernel_rfl
      case hq39 => exact fun _ _ _ h => h
      case hy39 =>
        refine Or.inl ⟨by rfl, ?_⟩
        intro w' hSw
        try dsimp only at hSw
        go_simp
        first | done | with_reducible rfl
      simp only [Act.put, List.setIfInBounds_toArray, List.set_cons_succ, List.set_cons_zero]
      refine wpAnyH_take (i := 23) (oi := ?oi40) (v := ?vv40) ?hi40 ?hs40 ?hf40 ?ha40 ?hq40 ?hy40 hHeld ?hr40
      case hi40 => (simp only [List.getElem?_toArray, List.getElem?_cons_succ, List.getElem?_cons_zero]; exact rfl)
      case hs40 => kernel_rfl
      case hf40 => kernel_rfl
      case ha40 => kernel_rfl
      case hq40 => exact fun _ _ _ h => h
      case hy40 =>
        refine Or.inl ⟨by rfl, ?_⟩
        intro w' hSw
        try dsimp only at hSw
        go_simp
        first | done | with_reducible rfl
      simp only [Act.put, List.setIfInBounds_toArray, List.set_cons_succ, List.set_cons_zero]
      refine wpAnyH_take (i := 24) (oi := ?oi41) (v := ?vv41) ?hi41 ?hs41 ?hf41 ?ha41 ?hq41 ?hy41 hHeld ?hr41
      case hi41 => (simp only [List.getElem?_toArray, List.getElem?_cons_succ, List.getElem?_cons_zero]; exact rfl)
      case hs41 => kernel_rfl
      case hf41 => kernel_rfl
      case ha41 => kernel_rfl
      case hq41 => exact fun _ _ _ h => h
      case hy41 =>
        refine Or.inl ⟨by rfl, ?_⟩
        intro w' hSw
        try dsimp only at hSw
        go_simp
        first | done | with_reducible rfl
      simp only [Act.put, List.setIfInBounds_toArray, List.set_cons_succ, List.set_cons_zero]
      refine wpAnyH_take (i := 26) (oi := ?oi42) (v := ?vv42) ?hi42 ?hs42 ?hf42 ?ha42 ?hq42 ?hy42 hHeld ?hr42
      case hi42 => (simp only [List.getElem?_toArray, List.getElem?_cons_succ, List.getElem?_cons_zero]; exact rfl)
      case hs42 => kernel_rfl
      case hf42 => kernel_rfl
      case ha42 => kernel_rfl
      case hq42 => exact fun _ _ _ h => h
      case hy42 =>
        refine Or.inl ⟨by rfl, ?_⟩
        intro w' hSw
        try dsimp only at hSw
        go_simp
        first | done | with_reducible rfl
      simp only [Act.put, List.setIfInBounds_toArray, List.set_cons_succ, List.set_cons_zero]
      refine wpAnyH_ready (rs := [25]) (by kernel_rfl) (by simp) ?_
      refine AllReadyH.cons rfl (fun K hK => ?_) AllReadyH.nil
      go_simp
      go_at_call 46
      obtain ⟨BB, zz, k71_, k72_, k73_, k74_, k75_, k76_, k77_, k78_, k79_, k80_, zw⟩ := hHeld
      (with_reducible refine (implEvenAwards_yes E A3_ c4_ xs _ _ _ k73_.ints (by first | omega | (simp; omega) | simp) HOK.out).mono ?_)
      rintro e w96 ⟨A64_, c65_, rfl, ho66_, hb9⟩
      have ho66_ := ho66_.more (lo' := w28.heap.size + 1) (by omega) (Nat.le_refl _)
      have ho58_ := ho58_.below hb9 (Nat.le_refl _)
      have ho58_ := ho58_.more (Nat.le_refl _) hb9.size
      have ho62_ := ho62_.below hb9 (Nat.le_refl _)
      have ho62_ := ho62_.more (Nat.le_refl _) hb9.size
      refine hK.out _ _ ⟨BB.trans (hb9.mono (by omega)), Nat.le_trans zz hb9.size, k71_.below hb9 (by first | omega | (simp; omega) | simp), k72_.below hb9 (by first | omega | (simp; omega) | simp), k73_.below hb9 (by first | omega | (simp; omega) | simp), k74_.below hb9 (by first | omega | (simp; omega) | simp), k75_.below hb9 (by first | omega | (simp; omega) | simp), k76_.below hb9 (by first | omega | (simp; omega) | simp), (hb9.cell (p := ⟨w1.heap.size, 0, none⟩) (by first | omega | (simp; omega) | simp)).trans k77_, (hb9.cell (p := ⟨w1.heap.size, 1, none⟩) (by first | omega | (simp; omega) | simp)).trans k78_, (hb9.cell (p := ⟨w28.heap.size, 0, none⟩) (by first | omega | (simp; omega) | simp)).trans k79_, (hb9.cell (p := ⟨w28.heap.size, 1, none⟩) (by first | omega | (simp; omega) | simp)).trans k80_, Nat.le_trans zw hb9.size⟩ (fun hHeld => ?_)
      clear hb9 zw k80_ k79_ k78_ k77_ k76_ k75_ k74_ k73_ k72_ k71_ zz BB
      clear hK K
      try simp only [Act.put, List.setIfInBounds_toArray, List.set_cons_zero, List.set_cons_succ]
      refine wpAnyH_ready (rs := [27]) (by kernel_rfl) (by simp) ?_
      refine AllReadyH.cons rfl (fun K hK => ?_) AllReadyH.nil
      go_simp
      go_at_call 40
      obtain ⟨BB, zz, k71_, k72_, k73_, k74_, k75_, k76_, k77_, k78_, k79_, k80_, zw⟩ := hHeld
      (with_reducible refine (implHalfAwards_yes E A3_ c4_ xs _ _ _ k73_.ints (by first | omega | (simp; omega) | simp) HOK.out).mono ?_)
      rintro e w97 ⟨A67_, c68_, rfl, ho69_, hb9⟩
      have ho69_ := ho69_.more (lo' := w28.heap.size + 1) (by omega) (Nat.le_refl _)
      have ho58_ := ho58_.below hb9 (Nat.le_refl _)
      have ho58_ := ho58_.more (Nat.le_refl _) hb9.size
      have ho62_ := ho62_.below hb9 (Nat.le_refl _)
      have ho62_ := ho62_.more (Nat.le_refl _) hb9.size
      have ho66_ := ho66_.below hb9 (Nat.le_refl _)
      have ho66_ := ho66_.more (Nat.le_refl _) hb9.size
      refine hK.out _ _ ⟨BB.trans (hb9.mono (by omega)), Nat.le_trans zz hb9.size, k71_.below hb9 (by first | omega | (simp; omega) | simp), k72_.below hb9 (by first | omega | (simp; omega) | simp), k73_.below hb9 (by first | omega | (simp; omega) | simp), k74_.below hb9 (by first | omega | (simp; omega) | simp), k75_.below hb9 (by first | omega | (simp; omega) | simp), k76_.below hb9 (by first | omega | (simp; omega) | simp), (hb9.cell (p := ⟨w1.heap.size, 0, none⟩) (by first | omega | (simp; omega) | simp)).trans k77_, (hb9.cell (p := ⟨w1.heap.size, 1, none⟩) (by first | omega | (simp; omega) | simp)).trans k78_, (hb9.cell (p := ⟨w28.heap.size, 0, none⟩) (by first | omega | (simp; omega) | simp)).trans k79_, (hb9.cell (p := ⟨w28.heap.size, 1, none⟩) (by first | omega | (simp; omega) | simp)).trans k80_, Nat.le_trans zw hb9.size⟩ (fun hHeld => ?_)
      clear hb9 zw k80_ k79_ k78_ k77_ k76_ k75_ k74_ k73_ k72_ k71_ zz BB
      clear hK K
      try simp only [Act.put, List.setIfInBounds_toArray, List.set_cons_zero, List.set_cons_succ]
      refine wpAnyH_ready (rs := [28]) (by kernel_rfl) (by simp) ?_
      refine AllReadyH.cons rfl (fun K hK => ?_) AllReadyH.nil
      go_simp
      go_at_call 45
      obtain ⟨BB, zz, k71_, k72_, k73_, k74_, k75_, k76_, k77_, k78_, k79_, k80_, zw⟩ := hHeld
      (with_reducible refine (implMoreEven_yes A64_ c65_ (evenAw E xs) A67_ c68_ (halfAw E xs) _ _ _ ho66_.ints (by first | omega | (simp; omega) | simp) _ _ ho69_.ints (by first | omega | (simp; omega) | simp) HSE.out HSH.out H70_.out).mono ?_)
      rintro e w98 ⟨rfl, hb9⟩
      have ho58_ := ho58_.below hb9 (Nat.le_refl _)
      have ho58_ := ho58_.more (Nat.le_refl _) hb9.size
      have ho62_ := ho62_.below hb9 (Nat.le_refl _)
      have ho62_ := ho62_.more (Nat.le_refl _) hb9.size
      have ho66_ := ho66_.below hb9 (Nat.le_refl _)
      have ho66_ := ho66_.more (Nat.le_refl _) hb9.size
      have ho69_ := ho69_.below hb9 (Nat.le_refl _)
      have ho69_ := ho69_.more (Nat.le_refl _) hb9.size
      refine hK.out _ _ ⟨BB.trans (hb9.mono (by omega)), Nat.le_trans zz hb9.size, k71_.below hb9 (by first | omega | (simp; omega) | simp), k72_.below hb9 (by first | omega | (simp; omega) | simp), k73_.below hb9 (by first | omega | (simp; omega) | simp), k74_.below hb9 (by first | omega | (simp; omega) | simp), k75_.below hb9 (by first | omega | (simp; omega) | simp), k76_.below hb9 (by first | omega | (simp; omega) | simp), (hb9.cell (p := ⟨w1.heap.size, 0, none⟩) (by first | omega | (simp; omega) | simp)).trans k77_, (hb9.cell (p := ⟨w1.heap.size, 1, none⟩) (by first | omega | (simp; omega) | simp)).trans k78_, (hb9.cell (p := ⟨w28.heap.size, 0, none⟩) (by first | omega | (simp; omega) | simp)).trans k79_, (hb9.cell (p := ⟨w28.heap.size, 1, none⟩) (by first | omega | (simp; omega) | simp)).trans k80_, Nat.le_trans zw hb9.size⟩ (fun hHeld => ?_)
      clear hb9 zw k80_ k79_ k78_ k77_ k76_ k75_ k74_ k73_ k72_ k71_ zz BB
      clear hK K
      try simp only [Act.put, List.setIfInBounds_toArray, List.set_cons_zero, List.set_cons_succ]
      refine wpAnyH_take (i := 29) (oi := ?oi43) (v := ?vv43) ?hi43 ?hs43 ?hf43 ?ha43 ?hq43 ?hy43 hHeld ?hr43
      case hi43 => (simp only [List.getElem?_toArray, List.getElem?_cons_succ, List.getElem?_cons_zero]; exact rfl)
      case hs43 => kernel_rfl
      case hf43 => kernel_rfl
      case ha43 => kernel_rfl
      case hq43 => exact fun _ _ _ h => h
      case hy43 =>
        refine Or.inl ⟨by rfl, ?_⟩
        intro w' hSw
        try dsimp only at hSw
        go_simp
        first | done | with_reducible rfl
      simp only [Act.put, List.setIfInBounds_toArray, List.set_cons_succ, List.set_cons_zero]
      refine wpAnyH_take (i := 30) (oi := ?oi44) (v := ?vv44) ?hi44 ?hs44 ?hf44 ?ha44 ?hq44 ?hy44 hHeld ?hr44
      case hi44 => (simp only [List.getElem?_toArray, List.getElem?_cons_succ, List.getElem?_cons_zero]; exact rfl)
      case hs44 => kernel_rfl
      case hf44 => kernel_rfl
      case ha44 => kernel_rfl
      case hq44 => exact fun _ _ _ h => h
      case hy44 =>
        refine Or.inl ⟨by rfl, ?_⟩
        intro w' hSw
        try dsimp only at hSw
        go_simp
        first | done | with_reducible rfl
      simp only [Act.put, List.setIfInBounds_toArray, List.set_cons_succ, List.set_cons_zero]
      refine wpAnyH_take (i := 31) (oi := ?oi45) (v := ?vv45) ?hi45 ?hs45 ?hf45 ?ha45 ?hq45 ?hy45 hHeld ?hr45
      case hi45 => (simp only [List.getElem?_toArray, List.getElem?_cons_succ, List.getElem?_cons_zero]; exact rfl)
      case hs45 => kernel_rfl
      case hf45 => kernel_rfl
      case ha45 => kernel_rfl
      case hq45 => exact fun _ _ _ h => h
      case hy45 =>
        refine Or.inl ⟨by rfl, ?_⟩
        intro w' hSw
        try dsimp only at hSw
        go_simp
        first | done | with_reducible rfl
      simp only [Act.put, List.setIfInBounds_toArray, List.set_cons_succ, List.set_cons_zero]
      refine wpAnyH_done (by kernel_rfl) ?_ _
      obtain ⟨BB, zz, k71_, k72_, k73_, k74_, k75_, k76_, k77_, k78_, k79_, k80_, zw⟩ := hHeld
      have k99_ := BB
      clear BB
      have k100_ := zz
      clear zz
      have k101_ := zw
      clear zw
      go_wp2
      go_ret
      exact ⟨ret_bool (by first | exact rfl | exact h27_b.trans rfl), k99_⟩

set_option maxRecDepth 10000 in
set_option maxHeartbeats 400000 in
theorem fnLeastEven_big (A0 : Option Addr) (c0 : Nat) (bs : List Int) (B0 : Option Addr) (d0 : Nat) (ds : List Int) (w : World) (hl : ¬ bs.length ≤ 1048576) (hm : bs.length ≤ 9223372036854775807) :
    Calls Try.prog 9 #[.slice A0 bs.length c0, .slice B0 ds.length d0] w fun e w' => e = .returned (.bool true) ∧ Below w.heap.size w w' := by
  go_enter Try.func9, Try.ntmps9
  go_wp2
  go_ret
  exact ⟨rfl, Below.refl _ _⟩

set_option maxRecDepth 10000 in
set_option maxHeartbeats 400000 in
theorem fnLeastEven_big2 (A0 : Option Addr) (c0 : Nat) (bs : List Int) (B0 : Option Addr) (d0 : Nat) (ds : List Int) (w : World) (hl : bs.length ≤ 1048576) (hl1 : ¬ ds.length ≤ 1048576) (hm : ds.length ≤ 9223372036854775807) :
    Calls Try.prog 9 #[.slice A0 bs.length c0, .slice B0 ds.length d0] w fun e w' => e = .returned (.bool true) ∧ Below w.heap.size w w' := by
  go_enter Try.func9, Try.ntmps9
  go_wp2
  go_ret
  exact ⟨rfl, Below.refl _ _⟩

theorem fnLeastEven_all (A0 : Option Addr) (c0 : Nat) (bs : List Int) (B0 : Option Addr) (d0 : Nat) (ds : List Int) (w : World) (h0 : Bytes w w.heap.size A0 bs) (h1 : Bytes w w.heap.size B0 ds) (hm : bs.length ≤ 9223372036854775807) (hm1 : ds.length ≤ 9223372036854775807) (hc0 : bs.length ≤ c0) (hd0 : ds.length ≤ d0) :
    Calls Try.prog 9 #[.slice A0 bs.length c0, .slice B0 ds.length d0] w fun e w' => e = .returned (.bool true) ∧ Below w.heap.size w w' := by
  by_cases hl : bs.length ≤ 1048576
  · by_cases hl1 : ds.length ≤ 1048576
    · exact fnLeastEven_walk A0 c0 bs B0 d0 ds w h0 h1 hl hl1 hc0 hd0
    · exact fnLeastEven_big2 A0 c0 bs B0 d0 ds w hl hl1 hm1
  · exact fnLeastEven_big A0 c0 bs B0 d0 ds w hl hm

end Go.Proofs.Ytmkmipgboecdaaa
