/-
  The law of OrderAwards returns true for every code, and writes nothing that was there. No condition.
-/
import Derived.Test.YtmkmipgboecdaaaGA
import Derived.Test.YtmkmipgboecdaaaDraw7
import Derived.Test.YtmkmipgboecdaaaArr7
import Derived.Test.YtmkmipgboecdaaaSpec7C
import Derived.Test.YtmkmipgboecdaaaGame7I
import Derived.Test.YtmkmipgboecdaaaGB
import Derived.Test.YtmkmipgboecdaaaGC
import Derived.Test.YtmkmipgboecdaaaFx
import Derived.Deep.RegionHeld3
namespace Go.Proofs.Ytmkmipgboecdaaa
open Go.RowKit

set_option maxRecDepth 10000 in
set_option maxHeartbeats 2000000 in
theorem fnOrderAwards_walk (A0 : Option Addr) (c0 : Nat) (bs : List Int) (w : World) (h0 : Bytes w w.heap.size A0 bs) (hl : bs.length ≤ 1048576) (hc0 : bs.length ≤ c0) :
    Calls Try.prog 3 #[.slice A0 bs.length c0] w fun e w' => e = .returned (.bool true) ∧ Below w.heap.size w w' := by
  have hlm : bs.length ≤ 9223372036854775807 := by omega
  go_enter Try.func3, Try.ntmps3
  have Htrue : Hid True := trivial
  have hc0u := hc0
  have h0u := h0
  have hlmu := hlm
  go_wp2_with fail
  refine (drawOrderAwards_any A0 c0 bs _ (h0.more (by first | omega | (simp; omega) | simp)) hlm hc0).mono ?_
  rintro e w1 ⟨E, A3_, c4_, A6_, c7_, xs, os, hx5, hy6, rfl, ho5_, ho8_, hb2_⟩
  have o9_ := h0.below hb2_ (by first | omega | (simp; omega) | simp)
  have z10_ := hb2_.size
  have B11_ := (Below.refl w.heap.size w).trans (hb2_.mono (by first | omega | (simp; omega) | simp))
  clear hb2_
  have hlbsxs : xs.length ≤ 1152921504606846976 := by omega
  have hlbsos : os.length ≤ 1152921504606846976 := by omega
  have o12_ := o9_.below ((Below.refl _ _).alloc (Nat.le_refl _) (.cells #[.int .i64 E, .slice A3_ xs.length c4_] 25)) (by first | omega | (simp; omega) | simp)
  have o13_ := ho5_.alloc (by first | omega | (simp; omega) | simp) (.cells #[.int .i64 E, .slice A3_ xs.length c4_] 25)
  have o14_ := ho8_.alloc (by first | omega | (simp; omega) | simp) (.cells #[.int .i64 E, .slice A3_ xs.length c4_] 25)
  have B15_ := B11_.alloc (by first | omega | (simp; omega) | simp) (.cells #[.int .i64 E, .slice A3_ xs.length c4_] 25)
  have a16_ : (w1.alloc (.cells #[.int .i64 E, .slice A3_ xs.length c4_] 25)).cell? ⟨w1.heap.size, 0, none⟩ = some (.int .i64 E) := by simp [go_sem]
  have a17_ : (w1.alloc (.cells #[.int .i64 E, .slice A3_ xs.length c4_] 25)).cell? ⟨w1.heap.size, 1, none⟩ = some (.slice A3_ xs.length c4_) := by simp [go_sem]
  go_wp2_with fail
  refine (implOrderAwards_any E A3_ c4_ xs A6_ c7_ os _ _ _ o13_.ints (by first | omega | (simp; omega) | simp) (by omega) _ _ o14_.ints (by first | omega | (simp; omega) | simp) (by omega)).mono ?_
  rintro e w18 ⟨A19_, c20_, rfl, ho21_, hb18_⟩
  have ho21_ : Own w18 (w1.heap.size + 1) w18.heap.size A19_ (ordRow E xs os) := ho21_.more (by simp) (Nat.le_refl _)
  have o22_ := o12_.below hb18_ (by first | omega | (simp; omega) | simp)
  have o23_ := o13_.below hb18_ (by first | omega | (simp; omega) | simp)
  have o24_ := o14_.below hb18_ (by first | omega | (simp; omega) | simp)
  have o25_ := (hb18_.cell (p := ⟨w1.heap.size, 0, none⟩) (by first | omega | (simp; omega) | simp)).trans a16_
  have o26_ := (hb18_.cell (p := ⟨w1.heap.size, 1, none⟩) (by first | omega | (simp; omega) | simp)).trans a17_
  have z27_ := hb18_.size
  try simp at z27_
  have B28_ := B15_.trans (hb18_.mono (by first | omega | (simp; omega) | simp))
  clear hb18_
  go_wp2_with fail
  refine (specOrderAwards_any E A3_ c4_ xs A6_ c7_ os _ _ _ o23_.ints (by first | omega | (simp; omega) | simp) (by omega) _ _ o24_.ints (by first | omega | (simp; omega) | simp) (by omega)).mono ?_
  rintro e w29 ⟨A30_, c31_, rfl, ho32_, hb29_⟩
  have o33_ := o22_.below hb29_ (by first | omega | (simp; omega) | simp)
  have o34_ := o23_.below hb29_ (by first | omega | (simp; omega) | simp)
  have o35_ := o24_.below hb29_ (by first | omega | (simp; omega) | simp)
  have o36_ := ho21_.below hb29_ (by first | omega | (simp; omega) | simp)
  have o37_ := (hb29_.cell (p := ⟨w1.heap.size, 0, none⟩) (by first | omega | (simp; omega) | simp)).trans o25_
  have o38_ := (hb29_.cell (p := ⟨w1.heap.size, 1, none⟩) (by first | omega | (simp; omega) | simp)).trans o26_
  have z39_ := hb29_.size
  have B40_ := B28_.trans (hb29_.mono (by first | omega | (simp; omega) | simp))
  clear hb29_
  go_wp2_with fail
  refine (sameInts_yes A19_ A30_ c20_ c31_ (ordRow E xs os) (ordRow E xs os) _ _ _ _ _ o36_.ints ho32_.ints (by have e := ordRow_len E xs os; omega) rfl).mono ?_
  rintro e w41 ⟨rfl, hb41_⟩
  have o42_ := o33_.below hb41_ (by first | omega | (simp; omega) | simp)
  have o43_ := o34_.below hb41_ (by first | omega | (simp; omega) | simp)
  have o44_ := o35_.below hb41_ (by first | omega | (simp; omega) | simp)
  have o45_ := o36_.below hb41_ (by first | omega | (simp; omega) | simp)
  have o46_ := ho32_.below hb41_ (by first | omega | (simp; omega) | simp)
  have o47_ := (hb41_.cell (p := ⟨w1.heap.size, 0, none⟩) (by first | omega | (simp; omega) | simp)).trans o37_
  have o48_ := (hb41_.cell (p := ⟨w1.heap.size, 1, none⟩) (by first | omega | (simp; omega) | simp)).trans o38_
  have z49_ := hb41_.size
  have B50_ := B40_.trans (hb41_.mono (by first | omega | (simp; omega) | simp))
  clear hb41_
  by_cases h51_ : ((ordRow E xs os).length : Int) = 0
  · have h51_b : (((ordRow E xs os).length : Int) == 0) = true := by simpa using h51_
    have h51_n : (((ordRow E xs os).length : Int) != 0) = false := by simpa using h51_
    have h51_le : ((ordRow E xs os).length : Int) ≤ 0 := by omega
    have h51_ge : 0 ≤ ((ordRow E xs os).length : Int) := by omega
    have Hh51_ := Lib.hid h51_
    clear h51_
    go_wp2_with fail
    refine (alive_any _).mono ?_
    rintro e w52 ⟨rfl, hb52_⟩
    have o53_ := o42_.below hb52_ (by first | omega | (simp; omega) | simp)
    have o54_ := o43_.below hb52_ (by first | omega | (simp; omega) | simp)
    have o55_ := o44_.below hb52_ (by first | omega | (simp; omega) | simp)
    have o56_ := o45_.below hb52_ (by first | omega | (simp; omega) | simp)
    have o57_ := o46_.below hb52_ (by first | omega | (simp; omega) | simp)
    have o58_ := (hb52_.cell (p := ⟨w1.heap.size, 0, none⟩) (by first | omega | (simp; omega) | simp)).trans o47_
    have o59_ := (hb52_.cell (p := ⟨w1.heap.size, 1, none⟩) (by first | omega | (simp; omega) | simp)).trans o48_
    have z60_ := hb52_.size
    have B61_ := B50_.trans (hb52_.mono (by first | omega | (simp; omega) | simp))
    clear hb52_
    go_wp2
    go_ret
    exact ⟨ret_bool (by first | exact rfl | exact h51_b.trans rfl), B61_⟩
  · have h51_b : (((ordRow E xs os).length : Int) == 0) = false := by simpa using h51_
    have h51_n : (((ordRow E xs os).length : Int) != 0) = true := by simpa using h51_
    have hso := ordRow_some (E := E) (xs := xs) (os := os) (by omega)
    have HOK : Hid (caseOkB E xs = true) := hso.1
    have hbd := caseOk_bd HOK.out
    have HOB : Hid (orderB xs.length os = true) := hso.2
    clear hso
    have HRW : Hid (ordRow E xs os = ordAw E xs os) := ordRow_yes HOK.out HOB.out
    have HAW : Hid (awardsB E xs (ordRow E xs os) = true) := by show _ = _; rw [HRW.out]; exact (awardsB_iff _ _ _).2 (ordAw_aw HOK.out HOB.out)
    have hoi := order_iff HOB.out
    have HOT : Hid (OrdTo os xs.length os.length) := hoi.2
    have hol1 : os.length ≤ xs.length := by have e := hoi.1; omega
    have hol2 : xs.length ≤ os.length := by have e := hoi.1; omega
    clear hoi
    have HLO : Hid ((ordRow E xs os).length = xs.length) := by show _ = _; rw [HRW.out, ordAw_length]
    have hlo1 : (ordRow E xs os).length ≤ xs.length := by have e := HLO.out; omega
    have hlo2 : xs.length ≤ (ordRow E xs os).length := by have e := HLO.out; omega
    have HLL : Hid ((lossesRow xs (ordRow E xs os)).length = xs.length) := by show _ = _; rw [lossesRow_length HLO.out, HLO.out]
    have o52_ := o42_.below ((Below.refl _ _).alloc (Nat.le_refl _) (.cells #[] 3)) (by first | omega | (simp; omega) | simp)
    have o53_ := o43_.alloc (by first | omega | (simp; omega) | simp) (.cells #[] 3)
    have o54_ := o44_.alloc (by first | omega | (simp; omega) | simp) (.cells #[] 3)
    have o55_ := o45_.alloc (by first | omega | (simp; omega) | simp) (.cells #[] 3)
    have o56_ := o46_.alloc (by first | omega | (simp; omega) | simp) (.cells #[] 3)
    have o57_ := cell_alloc (o := (.cells #[] 3)) o47_ (by first | omega | (simp; omega) | simp)
    have o58_ := cell_alloc (o := (.cells #[] 3)) o48_ (by first | omega | (simp; omega) | simp)
    have B59_ := B50_.alloc (by first | omega | (simp; omega) | simp) (.cells #[] 3)
    have G60_ : Grow (w41.alloc (.cells #[] 3)) (w41.heap.size) 0 ([] : List Int) := by have e := grow_lit w41 ([] : List Int) (by simp); (try simp only [hsz] at e); exact e
    have l61_ := G60_.lt
    have HL62_ : Hid (([] : List Int).length = 0) := rfl
    go_wp2
    go_loopw [7, 6] (fun i v wr => ∃ k : Nat, ∃ g cg : Nat, i = .int .i64 k ∧ v = .slice (some ⟨g, 0, none⟩) k cg ∧ (k ≤ os.length) ∧ w1.heap.size ≤ g ∧ Grow wr g cg ((os.take k).reverse) ∧ Below w.heap.size w wr ∧ w41.heap.size + 1 ≤ wr.heap.size ∧ Bytes wr (w.heap.size) A0 bs ∧ Own wr (w.heap.size) (w1.heap.size) A3_ xs ∧ Own wr (w.heap.size) (w1.heap.size) A6_ os ∧ Own wr (w1.heap.size + 1) (w18.heap.size) A19_ (ordRow E xs os) ∧ Own wr (w18.heap.size) (w29.heap.size) A30_ (ordRow E xs os) ∧ wr.cell? ⟨w1.heap.size, 0, none⟩ = some (.int .i64 E) ∧ wr.cell? ⟨w1.heap.size, 1, none⟩ = some (.slice A3_ xs.length c4_)) (fun i v _ => os.length - (intOf i).toNat)
    case atStart => exact ⟨0, w41.heap.size, 0, rfl, (slice_n (by first | rfl | omega | simp)), by omega, (by omega), G60_, B59_, (by first | omega | (simp; omega) | simp), o52_, o53_, o54_, o55_, o56_, o57_, o58_⟩
    case round =>
      obtain ⟨k, g, cg, rfl, rfl, hk, glb, G64_, k65_, k66_, k67_, k68_, k69_, k70_, k71_, k72_, k73_⟩ := hrel
      obtain ⟨w63, rfl⟩ : ∃ x, x = wr := ⟨_, rfl⟩
      have HL74_ : Hid (((os.take k).reverse).length = k) := (by show _ = _; rw [List.length_reverse, List.length_take]; omega)
      have l75_ := G64_.lt
      by_cases hlt0 : k < os.length
      · obtain ⟨b76_, f77_, rfl, b76_l, b76_h, -⟩ := k69_.ints (by omega)
        have c78_ : w63.cell? ⟨b76_, f77_ + k, none⟩ = some (.int .i64 (os.getD k 0)) := k69_.ints.at2 k (by first | omega | (simp; omega) | simp)
        have c78_i : (k : Int) < (os.length : Int) := by omega
        have c78_j : (0 : Int) ≤ (k : Int) := by omega
        have v79_g := ord_rg HOT.out (k := k) (by omega)
        obtain ⟨v79_, hv79_⟩ : ∃ v, v = os.getD k 0 := ⟨_, rfl⟩
        rw [← hv79_] at c78_ v79_g
        have Hv79_ := Lib.hid hv79_
        clear hv79_
        obtain ⟨v79_g1, v79_g2⟩ := v79_g
        have o80_ := k67_.below ((Below.refl _ _).alloc (Nat.le_refl _) (.cells #[.int .i64 v79_] 3)) (by first | omega | (simp; omega) | simp)
        have o81_ := k68_.alloc (by first | omega | (simp; omega) | simp) (.cells #[.int .i64 v79_] 3)
        have o82_ := k69_.alloc (by first | omega | (simp; omega) | simp) (.cells #[.int .i64 v79_] 3)
        have o83_ := k70_.alloc (by first | omega | (simp; omega) | simp) (.cells #[.int .i64 v79_] 3)
        have o84_ := k71_.alloc (by first | omega | (simp; omega) | simp) (.cells #[.int .i64 v79_] 3)
        have o85_ := G64_.alloc (.cells #[.int .i64 v79_] 3)
        have o86_ := cell_alloc (o := (.cells #[.int .i64 v79_] 3)) k72_ (by first | omega | (simp; omega) | simp)
        have o87_ := cell_alloc (o := (.cells #[.int .i64 v79_] 3)) k73_ (by first | omega | (simp; omega) | simp)
        have B88_ := k65_.alloc (by first | omega | (simp; omega) | simp) (.cells #[.int .i64 v79_] 3)
        have G89_ : Grow (w63.alloc (.cells #[.int .i64 v79_] 3)) (w63.heap.size) 1 ([v79_] : List Int) := by have e := grow_lit w63 ([v79_] : List Int) (by simp); (try simp only [hsz] at e); exact e
        have l90_ := G89_.lt
        have HL91_ : Hid (([v79_] : List Int).length = 1) := rfl
        go_upto_region 12 with (at_builtin; (refine append_grL (by rfl) _ _ (by rfl) (xs := ([v79_] : List Int)) (ys := ((os.take k).reverse)) (by rfl) (by have e := HL91_.out; omega) G89_ (by rfl) (by have e := HL74_.out; omega) (o85_.ints.read) (by omega) ?_; intro g92_ c93_ L98_ w94 HL98_ L98_l L98_u G94_ hC95_ hg96_))
        have o99_ := o80_.chg hC95_ (by first | omega | (simp; omega) | simp) (by omega)
        have o100_ := o81_.chg hC95_ (by first | omega | (simp; omega) | simp) (by omega)
        have o101_ := o82_.chg hC95_ (by first | omega | (simp; omega) | simp) (by omega)
        have o102_ := o83_.chg hC95_ (by first | omega | (simp; omega) | simp) (by omega)
        have o103_ := o84_.chg hC95_ (by first | omega | (simp; omega) | simp) (by omega)
        have o104_ := o85_.chg hC95_ (by omega)
        have o105_ := (hC95_.cell (p := ⟨w1.heap.size, 0, none⟩) (by first | omega | (simp; omega) | simp) (by first | omega | (simp; omega))).trans o86_
        have o106_ := (hC95_.cell (p := ⟨w1.heap.size, 1, none⟩) (by first | omega | (simp; omega) | simp) (by first | omega | (simp; omega))).trans o87_
        have z107_ := hC95_.size
        try simp at z107_
        have B108_ := B88_.trans (hC95_.below (by omega) (by first | omega | (simp; omega) | simp))
        clear hC95_
        have l109_ := G94_.lt
        go_wp2
        go_roundw
        case rel => exact ⟨k + 1, g92_, c93_, by go_num, (slice_n (by first | rfl | omega | simp)), by omega, (by omega), (by rw [take_rev_succ (show k < os.length by omega) Hv79_.out]; exact G94_), B108_, (by first | omega | (simp; omega) | simp), o99_, o100_, o101_, o102_, o103_, o105_, o106_⟩
        case measure => simp [intOf] <;> omega
      · obtain rfl : k = os.length := by omega
        have GRV : Grow w63 g cg os.reverse := by have e := G64_; rw [List.take_length] at e; exact e
        have HLRV : Hid (os.reverse.length = os.length) := List.length_reverse
        go_wp2_with fail
        refine (implOtherCase_yes E A3_ c4_ xs _ _ _ k68_.ints (by first | omega | (simp; omega) | simp) HOK.out).mono ?_
        rintro e w76 ⟨A77_, c78_, rfl, ho79_, hb76_⟩
        have o80_ := k67_.below hb76_ (by first | omega | (simp; omega) | simp)
        have o81_ := k68_.below hb76_ (by first | omega | (simp; omega) | simp)
        have o82_ := k69_.below hb76_ (by first | omega | (simp; omega) | simp)
        have o83_ := k70_.below hb76_ (by first | omega | (simp; omega) | simp)
        have o84_ := k71_.below hb76_ (by first | omega | (simp; omega) | simp)
        have o85_ := GRV.below hb76_ (by first | omega | (simp; omega) | simp)
        have o86_ := (hb76_.cell (p := ⟨w1.heap.size, 0, none⟩) (by first | omega | (simp; omega) | simp)).trans k72_
        have o87_ := (hb76_.cell (p := ⟨w1.heap.size, 1, none⟩) (by first | omega | (simp; omega) | simp)).trans k73_
        have z88_ := hb76_.size
        have B89_ := k65_.trans (hb76_.mono (by first | omega | (simp; omega) | simp))
        clear hb76_
        have o90_ := o80_.below ((Below.refl _ _).alloc (Nat.le_refl _) (.cells #[.int .i64 (xs.sum - E), .slice A77_ xs.length c78_] 25)) (by first | omega | (simp; omega) | simp)
        have o91_ := o81_.alloc (by first | omega | (simp; omega) | simp) (.cells #[.int .i64 (xs.sum - E), .slice A77_ xs.length c78_] 25)
        have o92_ := o82_.alloc (by first | omega | (simp; omega) | simp) (.cells #[.int .i64 (xs.sum - E), .slice A77_ xs.length c78_] 25)
        have o93_ := o83_.alloc (by first | omega | (simp; omega) | simp) (.cells #[.int .i64 (xs.sum - E), .slice A77_ xs.length c78_] 25)
        have o94_ := o84_.alloc (by first | omega | (simp; omega) | simp) (.cells #[.int .i64 (xs.sum - E), .slice A77_ xs.length c78_] 25)
        have o95_ := o85_.alloc (.cells #[.int .i64 (xs.sum - E), .slice A77_ xs.length c78_] 25)
        have o96_ := ho79_.alloc (by first | omega | (simp; omega) | simp) (.cells #[.int .i64 (xs.sum - E), .slice A77_ xs.length c78_] 25)
        have o97_ := cell_alloc (o := (.cells #[.int .i64 (xs.sum - E), .slice A77_ xs.length c78_] 25)) o86_ (by first | omega | (simp; omega) | simp)
        have o98_ := cell_alloc (o := (.cells #[.int .i64 (xs.sum - E), .slice A77_ xs.length c78_] 25)) o87_ (by first | omega | (simp; omega) | simp)
        have B99_ := B89_.alloc (by first | omega | (simp; omega) | simp) (.cells #[.int .i64 (xs.sum - E), .slice A77_ xs.length c78_] 25)
        have a100_ : (w76.alloc (.cells #[.int .i64 (xs.sum - E), .slice A77_ xs.length c78_] 25)).cell? ⟨w76.heap.size, 0, none⟩ = some (.int .i64 (xs.sum - E)) := by simp [go_sem]
        have a101_ : (w76.alloc (.cells #[.int .i64 (xs.sum - E), .slice A77_ xs.length c78_] 25)).cell? ⟨w76.heap.size, 1, none⟩ = some (.slice A77_ xs.length c78_) := by simp [go_sem]
        have H102_ : Hid (awardsB E xs (ordRow E xs os) = true) := HAW.out
        obtain ⟨b103_, f104_, rfl, b103_l, b103_h, -⟩ := o92_.ints (by omega)
        have c105_ : (w76.alloc (.cells #[.int .i64 (xs.sum - E), .slice A77_ xs.length c78_] 25)).cell? ⟨b103_, f104_, none⟩ = some (.int .i64 (os.getD 0 0)) := o92_.ints.at2 0 (by first | omega | (simp; omega) | simp)
        have c105_i : 0 < (os.length : Int) := by omega
        have c105_j : (0 : Int) ≤ 0 := by omega
        have c105_n : 0 < os.length := by omega
        have v106_g := ord_rg HOT.out (k := 0) (by omega)
        obtain ⟨v106_, hv106_⟩ : ∃ v, v = os.getD 0 0 := ⟨_, rfl⟩
        rw [← hv106_] at c105_ v106_g
        have Hv106_ := Lib.hid hv106_
        clear hv106_
        obtain ⟨v106_g1, v106_g2⟩ := v106_g
        obtain ⟨x107_, hx107_⟩ : ∃ x : Nat, v106_ = (x : Int) := ⟨(v106_).toNat, by omega⟩
        have Hx107_ := Lib.hid hx107_
        have x107_b : x107_ < (ordRow E xs os).length := by omega
        obtain ⟨b108_, f109_, rfl, b108_l, b108_h, -⟩ := o93_.ints (by omega)
        have c110_ : (w76.alloc (.cells #[.int .i64 (xs.sum - E), .slice A77_ xs.length c78_] 25)).cell? ⟨b108_, f109_ + x107_, none⟩ = some (.int .i64 ((ordRow E xs os).getD x107_ 0)) := o93_.ints.at2 x107_ (by first | omega | (simp; omega) | simp)
        have c110_i : (x107_ : Int) < ((ordRow E xs os).length : Int) := by omega
        have c110_j : (0 : Int) ≤ (x107_ : Int) := by omega
        obtain ⟨v111_, hv111_⟩ : ∃ v, v = (ordRow E xs os).getD x107_ 0 := ⟨_, rfl⟩
        rw [← hv111_] at c110_
        have Hv111_ := Lib.hid hv111_
        clear hv111_
        obtain ⟨b112_, f113_, rfl, b112_l, b112_h, -⟩ := o91_.ints (by omega)
        have c114_ : (w76.alloc (.cells #[.int .i64 (xs.sum - E), .slice A77_ xs.length c78_] 25)).cell? ⟨b112_, f113_ + x107_, none⟩ = some (.int .i64 (xs.getD x107_ 0)) := o91_.ints.at2 x107_ (by first | omega | (simp; omega) | simp)
        have c114_i : (x107_ : Int) < (xs.length : Int) := by omega
        have c114_j : (0 : Int) ≤ (x107_ : Int) := by omega
        have v115_g := case_rg HOK.out x107_
        obtain ⟨v115_, hv115_⟩ : ∃ v, v = xs.getD x107_ 0 := ⟨_, rfl⟩
        rw [← hv115_] at c114_ v115_g
        have Hv115_ := Lib.hid hv115_
        clear hv115_
        obtain ⟨v115_g1, v115_g2⟩ := v115_g
        obtain ⟨m116_, hm116_⟩ : ∃ m : Int, (if E < v115_ then E else v115_) = m := ⟨_, rfl⟩
        have hm116_x : min v115_ E = m116_ := by rw [← hm116_]; split <;> omega
        have Hm116_ := Lib.hid hm116_x
        have m116_l : m116_ ≤ v115_ := by have e := Hm116_.out; omega
        have m116_u : m116_ ≤ E := by have e := Hm116_.out; omega
        have m116_o : m116_ = v115_ ∨ m116_ = E := by have e := Hm116_.out; omega
        have h117_ : v111_ = (48 * m116_) := by have e := ordAw_first (E := E) (xs := xs) (os := os) (j := x107_) HOK.out HOB.out (by rw [← Hv106_.out]; exact Hx107_.out); rw [← HRW.out, ← Hv111_.out, ← Hv115_.out, Hm116_.out] at e; exact e
        have h117_b : (v111_ == (48 * m116_)) = true := by simpa using h117_
        have h117_n : (v111_ != (48 * m116_)) = false := by simpa using h117_
        have h117_le : v111_ ≤ (48 * m116_) := by omega
        have h117_ge : (48 * m116_) ≤ v111_ := by omega
        have Hh117_ := Lib.hid h117_
        clear h117_
        have H124_ : Hid ((lossesRow xs (ordRow E xs os)) = (ordRow (xs.sum - E) xs os.reverse)) := by show _ = _; rw [HRW.out, ordAw_back HOK.out HOB.out, ordRow_yes (other_ok HOK.out) (order_rev (by omega) (by omega) HOB.out)]
        have hw125_ : IntKind.i64.wrap (48 * m116_) = (48 * m116_) := IntWalk.i64_in _ (by omega)
        have g140_ : w1.heap.size < (w76.alloc (.cells #[.int .i64 (xs.sum - E), .slice A77_ xs.length c78_] 25)).heap.size := (by first | omega | (simp; omega) | simp)
        have g141_ : w76.heap.size < (w76.alloc (.cells #[.int .i64 (xs.sum - E), .slice A77_ xs.length c78_] 25)).heap.size := (by first | omega | (simp; omega) | simp)
        have g142_ : w.heap.size ≤ (w76.alloc (.cells #[.int .i64 (xs.sum - E), .slice A77_ xs.length c78_] 25)).heap.size := (by first | omega | (simp; omega) | simp)
        have g143_ : w1.heap.size ≤ (w76.alloc (.cells #[.int .i64 (xs.sum - E), .slice A77_ xs.length c78_] 25)).heap.size := (by first | omega | (simp; omega) | simp)
        have g144_ : w1.heap.size ≤ (w76.alloc (.cells #[.int .i64 (xs.sum - E), .slice A77_ xs.length c78_] 25)).heap.size := (by first | omega | (simp; omega) | simp)
        have g145_ : w18.heap.size ≤ (w76.alloc (.cells #[.int .i64 (xs.sum - E), .slice A77_ xs.length c78_] 25)).heap.size := (by first | omega | (simp; omega) | simp)
        have g146_ : w29.heap.size ≤ (w76.alloc (.cells #[.int .i64 (xs.sum - E), .slice A77_ xs.length c78_] 25)).heap.size := (by first | omega | (simp; omega) | simp)
        have g147_ : g + 1 ≤ (w76.alloc (.cells #[.int .i64 (xs.sum - E), .slice A77_ xs.length c78_] 25)).heap.size := (by first | omega | (simp; omega) | simp)
        have g148_ : w76.heap.size ≤ (w76.alloc (.cells #[.int .i64 (xs.sum - E), .slice A77_ xs.length c78_] 25)).heap.size := (by first | omega | (simp; omega) | simp)
        have g149_ : b112_ < (w76.alloc (.cells #[.int .i64 (xs.sum - E), .slice A77_ xs.length c78_] 25)).heap.size := (by first | omega | (simp; omega) | simp)
        have g150_ : b103_ < (w76.alloc (.cells #[.int .i64 (xs.sum - E), .slice A77_ xs.length c78_] 25)).heap.size := (by first | omega | (simp; omega) | simp)
        have g151_ : b108_ < (w76.alloc (.cells #[.int .i64 (xs.sum - E), .slice A77_ xs.length c78_] 25)).heap.size := (by first | omega | (simp; omega) | simp)
        have g152_ : w.heap.size ≤ (w76.alloc (.cells #[.int .i64 (xs.sum - E), .slice A77_ xs.length c78_] 25)).heap.size := (by first | omega | (simp; omega) | simp)
        go_wp2_with fail
        refine wp_region_held_drew (S := (fun w' : World => Below w.heap.size w w' ∧ w76.heap.size + 1 ≤ w'.heap.size ∧ Bytes w' (w.heap.size) A0 bs ∧ Own w' (w.heap.size) (w1.heap.size) (some ⟨b112_, f113_, none⟩) xs ∧ Own w' (w.heap.size) (w1.heap.size) (some ⟨b103_, f104_, none⟩) os ∧ Own w' (w1.heap.size + 1) (w18.heap.size) (some ⟨b108_, f109_, none⟩) (ordRow E xs os) ∧ Own w' (w18.heap.size) (w29.heap.size) A30_ (ordRow E xs os) ∧ Grow w' g cg os.reverse ∧ Own w' (w63.heap.size) (w76.heap.size) A77_ xs ∧ w'.cell? ⟨w1.heap.size, 0, none⟩ = some (.int .i64 E) ∧ w'.cell? ⟨w1.heap.size, 1, none⟩ = some (.slice (some ⟨b112_, f113_, none⟩) xs.length c4_) ∧ w'.cell? ⟨w76.heap.size, 0, none⟩ = some (.int .i64 (xs.sum - E)) ∧ w'.cell? ⟨w76.heap.size, 1, none⟩ = some (.slice A77_ xs.length c78_) ∧ w'.cell? ⟨b112_, f113_ + x107_, none⟩ = some (.int .i64 v115_) ∧ w'.cell? ⟨b103_, f104_, none⟩ = some (.int .i64 v106_) ∧ w'.cell? ⟨b108_, f109_ + x107_, none⟩ = some (.int .i64 v111_) ∧ (w76.alloc (.cells #[.int .i64 (xs.sum - E), .slice A77_ xs.length c78_] 25)).heap.size ≤ w'.heap.size)) (by kernel_rfl) ⟨B99_.drew, by exact (by first | omega | (simp; omega) | simp), o90_, o91_, o92_, o93_, o94_, o95_, o96_, o97_, o98_, a100_, a101_, c114_, c105_, c110_, Nat.le_refl _⟩ (fun hHeld => ?_)
        refine wpAnyH_take (i := 0) (oi := ?oi1) (v := ?vv1) ?hi1 ?hs1 ?hf1 ?ha1 ?hq1 ?hy1 hHeld ?hr1
        case hi1 => (simp only [List.getElem?_toArray, List.getElem?_cons_zero]; exact rfl)
        case hs1 => kernel_rfl
        case hf1 => kernel_rfl
        case ha1 => kernel_rfl
        case hq1 => exact fun _ _ _ h => h
        case hy1 =>
          refine Or.inl ⟨by rfl, ?_⟩
          intro w' hSw
          try dsimp only at hSw
          go_simp
          first | done | with_reducible rfl
        simp only [Act.put, List.setIfInBounds_toArray, List.set_cons_succ, List.set_cons_zero]
        refine wpAnyH_take (i := 1) (oi := ?oi2) (v := ?vv2) ?hi2 ?hs2 ?hf2 ?ha2 ?hq2 ?hy2 hHeld ?hr2
        case hi2 => (simp only [List.getElem?_toArray, List.getElem?_cons_succ, List.getElem?_cons_zero]; exact rfl)
        case hs2 => kernel_rfl
        case hf2 => kernel_rfl
        case ha2 => kernel_rfl
        case hq2 => exact fun _ _ _ h => h
        case hy2 =>
          refine Or.inl ⟨by rfl, ?_⟩
          intro w' hSw
          try dsimp only at hSw
          go_simp
          first | done | with_reducible rfl
        simp only [Act.put, List.setIfInBounds_toArray, List.set_cons_succ, List.set_cons_zero]
        refine wpAnyH_ready (rs := [2]) (by kernel_rfl) (by simp) ?_
        refine AllReadyH.cons rfl (fun K hK => ?_) AllReadyH.nil
        go_simp
        go_at_call 21
        obtain ⟨BB, zz, k126_, k127_, k128_, k129_, k130_, k131_, k132_, k133_, k134_, k135_, k136_, q137_, q138_, q139_, zw⟩ := hHeld
        (with_reducible refine (below_is (implAwardsOk_any E (some ⟨b112_, f113_, none⟩) c4_ xs (some ⟨b108_, f109_, none⟩) c20_ (ordRow E xs os) _ _ _ k127_.ints (by first | omega | (simp; omega) | simp) (by omega) _ _ k129_.ints (by first | omega | (simp; omega) | simp) (by have e := ordRow_len E xs os; omega)) (congrArg Value.bool H102_.out)).mono ?_)
        rintro e w153 ⟨rfl, hb9⟩
        refine hK.out _ _ ⟨BB.trans (hb9.mono (by omega)), Nat.le_trans zz hb9.size, k126_.below hb9 (by first | omega | (simp; omega) | simp), k127_.below hb9 (by first | omega | (simp; omega) | simp), k128_.below hb9 (by first | omega | (simp; omega) | simp), k129_.below hb9 (by first | omega | (simp; omega) | simp), k130_.below hb9 (by first | omega | (simp; omega) | simp), k131_.below hb9 (by first | omega | (simp; omega) | simp), k132_.below hb9 (by first | omega | (simp; omega) | simp), (hb9.cell (p := ⟨w1.heap.size, 0, none⟩) (by first | omega | (simp; omega) | simp)).trans k133_, (hb9.cell (p := ⟨w1.heap.size, 1, none⟩) (by first | omega | (simp; omega) | simp)).trans k134_, (hb9.cell (p := ⟨w76.heap.size, 0, none⟩) (by first | omega | (simp; omega) | simp)).trans k135_, (hb9.cell (p := ⟨w76.heap.size, 1, none⟩) (by first | omega | (simp; omega) | simp)).trans k136_, (hb9.cell (by show b112_ < _; omega)).trans q137_, (hb9.cell (by show b103_ < _; omega)).trans q138_, (hb9.cell (by show b108_ < _; omega)).trans q139_, Nat.le_trans zw hb9.size⟩ (fun hHeld => ?_)
        clear hb9 zw q139_ q138_ q137_ k136_ k135_ k134_ k133_ k132_ k131_ k130_ k129_ k128_ k127_ k126_ zz BB
        clear hK K
        try simp only [Act.put, List.setIfInBounds_toArray, List.set_cons_zero, List.set_cons_succ]
        refine wpAnyH_take (i := 3) (oi := ?oi3) (v := ?vv3) ?hi3 ?hs3 ?hf3 ?ha3 ?hq3 ?hy3 hHeld ?hr3
        case hi3 => (simp only [List.getElem?_toArray, List.getElem?_cons_succ, List.getElem?_cons_zero]; exact rfl)
        case hs3 => kernel_rfl
        case hf3 => kernel_rfl
        case ha3 => kernel_rfl
        case hq3 => exact fun _ _ _ h => h
        case hy3 =>
          refine Or.inl ⟨by rfl, ?_⟩
          intro w' hSw
          try dsimp only at hSw
          go_simp
          first | done | with_reducible rfl
        simp only [Act.put, List.setIfInBounds_toArray, List.set_cons_succ, List.set_cons_zero]
        refine wpAnyH_take (i := 4) (oi := ?oi4) (v := ?vv4) ?hi4 ?hs4 ?hf4 ?ha4 ?hq4 ?hy4 hHeld ?hr4
        case hi4 => (simp only [List.getElem?_toArray, List.getElem?_cons_succ, List.getElem?_cons_zero]; exact rfl)
        case hs4 => kernel_rfl
        case hf4 => kernel_rfl
        case ha4 => kernel_rfl
        case hq4 => exact fun _ _ _ h => h
        case hy4 =>
          refine Or.inl ⟨by rfl, ?_⟩
          intro w' hSw
          try dsimp only at hSw
          go_simp
          first | done | with_reducible rfl
        simp only [Act.put, List.setIfInBounds_toArray, List.set_cons_succ, List.set_cons_zero]
        refine wpAnyH_take (i := 5) (oi := ?oi5) (v := ?vv5) ?hi5 ?hs5 ?hf5 ?ha5 ?hq5 ?hy5 hHeld ?hr5
        case hi5 => (simp only [List.getElem?_toArray, List.getElem?_cons_succ, List.getElem?_cons_zero]; exact rfl)
        case hs5 => kernel_rfl
        case hf5 => kernel_rfl
        case ha5 => kernel_rfl
        case hq5 => exact fun _ _ _ h => h
        case hy5 =>
          refine Or.inl ⟨by rfl, ?_⟩
          intro w' hSw
          try dsimp only at hSw
          go_simp
          first | done | with_reducible rfl
        simp only [Act.put, List.setIfInBounds_toArray, List.set_cons_succ, List.set_cons_zero]
        refine wpAnyH_take (i := 6) (oi := ?oi6) (v := ?vv6) ?hi6 ?hs6 ?hf6 ?ha6 ?hq6 ?hy6 hHeld ?hr6
        case hi6 => (simp only [List.getElem?_toArray, List.getElem?_cons_succ, List.getElem?_cons_zero]; exact rfl)
        case hs6 => kernel_rfl
        case hf6 => kernel_rfl
        case ha6 => kernel_rfl
        case hq6 => exact fun _ _ _ h => h
        case hy6 =>
          refine Or.inl ⟨by rfl, ?_⟩
          intro w' hSw
          try dsimp only at hSw
          go_simp
          first | done | with_reducible rfl
        simp only [Act.put, List.setIfInBounds_toArray, List.set_cons_succ, List.set_cons_zero]
        refine wpAnyH_take (i := 7) (oi := ?oi7) (v := ?vv7) ?hi7 ?hs7 ?hf7 ?ha7 ?hq7 ?hy7 hHeld ?hr7
        case hi7 => (simp only [List.getElem?_toArray, List.getElem?_cons_succ, List.getElem?_cons_zero]; exact rfl)
        case hs7 => kernel_rfl
        case hf7 => kernel_rfl
        case ha7 => kernel_rfl
        case hq7 => exact fun _ _ _ h => h
        case hy7 =>
          refine Or.inl ⟨by rfl, ?_⟩
          intro w' hSw
          try dsimp only at hSw
          go_simp
          first | done | with_reducible rfl
        simp only [Act.put, List.setIfInBounds_toArray, List.set_cons_succ, List.set_cons_zero]
        refine wpAnyH_take (i := 8) (oi := ?oi8) (v := ?vv8) ?hi8 ?hs8 ?hf8 ?ha8 ?hq8 ?hy8 hHeld ?hr8
        case hi8 => (simp only [List.getElem?_toArray, List.getElem?_cons_succ, List.getElem?_cons_zero]; exact rfl)
        case hs8 => kernel_rfl
        case hf8 => kernel_rfl
        case ha8 => kernel_rfl
        case hq8 => exact fun _ _ _ h => h
        case hy8 =>
          refine Or.inl ⟨by rfl, ?_⟩
          intro w' hSw
          try dsimp only at hSw
          go_simp
          first | done | with_reducible rfl
        simp only [Act.put, List.setIfInBounds_toArray, List.set_cons_succ, List.set_cons_zero]
        refine wpAnyH_take (i := 9) (oi := ?oi9) (v := ?vv9) ?hi9 ?hs9 ?hf9 ?ha9 ?hq9 ?hy9 hHeld ?hr9
        case hi9 => (simp only [List.getElem?_toArray, List.getElem?_cons_succ, List.getElem?_cons_zero]; exact rfl)
        case hs9 => kernel_rfl
        case hf9 => kernel_rfl
        case ha9 => kernel_rfl
        case hq9 => exact fun _ _ _ h => h
        case hy9 =>
          refine Or.inl ⟨by rfl, ?_⟩
          intro w' hSw
          try dsimp only at hSw
          go_simp
          first | done | with_reducible rfl
        simp only [Act.put, List.setIfInBounds_toArray, List.set_cons_succ, List.set_cons_zero]
        refine wpAnyH_take (i := 10) (oi := ?oi10) (v := ?vv10) ?hi10 ?hs10 ?hf10 ?ha10 ?hq10 ?hy10 hHeld ?hr10
        case hi10 => (simp only [List.getElem?_toArray, List.getElem?_cons_succ, List.getElem?_cons_zero]; exact rfl)
        case hs10 => kernel_rfl
        case hf10 => kernel_rfl
        case ha10 => kernel_rfl
        case hq10 => exact fun _ _ _ h => h
        case hy10 =>
          refine Or.inl ⟨by rfl, ?_⟩
          intro w' hSw
          try dsimp only at hSw
          go_simp
          first | done | with_reducible rfl
        simp only [Act.put, List.setIfInBounds_toArray, List.set_cons_succ, List.set_cons_zero]
        refine wpAnyH_take (i := 11) (oi := ?oi11) (v := ?vv11) ?hi11 ?hs11 ?hf11 ?ha11 ?hq11 ?hy11 hHeld ?hr11
        case hi11 => (simp only [List.getElem?_toArray, List.getElem?_cons_succ, List.getElem?_cons_zero]; exact rfl)
        case hs11 => kernel_rfl
        case hf11 => kernel_rfl
        case ha11 => kernel_rfl
        case hq11 => exact fun _ _ _ h => h
        case hy11 =>
          refine Or.inl ⟨by rfl, ?_⟩
          intro w' hSw
          try dsimp only at hSw
          go_simp
          first | done | with_reducible rfl
        simp only [Act.put, List.setIfInBounds_toArray, List.set_cons_succ, List.set_cons_zero]
        refine wpAnyH_take (i := 12) (oi := ?oi12) (v := ?vv12) ?hi12 ?hs12 ?hf12 ?ha12 ?hq12 ?hy12 hHeld ?hr12
        case hi12 => (simp only [List.getElem?_toArray, List.getElem?_cons_succ, List.getElem?_cons_zero]; exact rfl)
        case hs12 => kernel_rfl
        case hf12 => kernel_rfl
        case ha12 => kernel_rfl
        case hq12 => exact fun _ _ _ h => h
        case hy12 =>
          refine Or.inl ⟨by rfl, ?_⟩
          intro w' hSw
          try dsimp only at hSw
          go_simp
          first | done | with_reducible rfl
        simp only [Act.put, List.setIfInBounds_toArray, List.set_cons_succ, List.set_cons_zero]
        refine wpAnyH_take (i := 13) (oi := ?oi13) (v := ?vv13) ?hi13 ?hs13 ?hf13 ?ha13 ?hq13 ?hy13 hHeld ?hr13
        case hi13 => (simp only [List.getElem?_toArray, List.getElem?_cons_succ, List.getElem?_cons_zero]; exact rfl)
        case hs13 => kernel_rfl
        case hf13 => kernel_rfl
        case ha13 => kernel_rfl
        case hq13 => exact fun _ _ _ h => h
        case hy13 =>
          refine Or.inl ⟨by rfl, ?_⟩
          intro w' hSw
          try dsimp only at hSw
          go_simp
          first | done | with_reducible rfl
        simp only [Act.put, List.setIfInBounds_toArray, List.set_cons_succ, List.set_cons_zero]
        refine wpAnyH_take (i := 14) (oi := ?oi14) (v := ?vv14) ?hi14 ?hs14 ?hf14 ?ha14 ?hq14 ?hy14 hHeld ?hr14
        case hi14 => (simp only [List.getElem?_toArray, List.getElem?_cons_succ, List.getElem?_cons_zero]; exact rfl)
        case hs14 => kernel_rfl
        case hf14 => kernel_rfl
        case ha14 => kernel_rfl
        case hq14 => exact fun _ _ _ h => h
        case hy14 =>
          refine Or.inl ⟨by rfl, ?_⟩
          intro w' hSw
          try dsimp only at hSw
          go_simp
          first | done | with_reducible rfl
        simp only [Act.put, List.setIfInBounds_toArray, List.set_cons_succ, List.set_cons_zero]
        refine wpAnyH_take (i := 15) (oi := ?oi15) (v := ?vv15) ?hi15 ?hs15 ?hf15 ?ha15 ?hq15 ?hy15 hHeld ?hr15
        case hi15 => (simp only [List.getElem?_toArray, List.getElem?_cons_succ, List.getElem?_cons_zero]; exact rfl)
        case hs15 => kernel_rfl
        case hf15 => kernel_rfl
        case ha15 => kernel_rfl
        case hq15 => exact fun _ _ _ h => h
        case hy15 =>
          refine Or.inl ⟨by rfl, ?_⟩
          intro w' hSw
          try dsimp only at hSw
          go_simp
          first | done | with_reducible rfl
        simp only [Act.put, List.setIfInBounds_toArray, List.set_cons_succ, List.set_cons_zero]
        refine wpAnyH_take (i := 16) (oi := ?oi16) (v := ?vv16) ?hi16 ?hs16 ?hf16 ?ha16 ?hq16 ?hy16 hHeld ?hr16
        case hi16 => (simp only [List.getElem?_toArray, List.getElem?_cons_succ, List.getElem?_cons_zero]; exact rfl)
        case hs16 => kernel_rfl
        case hf16 => kernel_rfl
        case ha16 => kernel_rfl
        case hq16 => exact fun _ _ _ h => h
        case hy16 =>
          refine Or.inl ⟨by rfl, ?_⟩
          intro w' hSw
          try dsimp only at hSw
          go_simp
          first | done | with_reducible rfl
        simp only [Act.put, List.setIfInBounds_toArray, List.set_cons_succ, List.set_cons_zero]
        refine wpAnyH_take (i := 17) (oi := ?oi17) (v := ?vv17) ?hi17 ?hs17 ?hf17 ?ha17 ?hq17 ?hy17 hHeld ?hr17
        case hi17 => (simp only [List.getElem?_toArray, List.getElem?_cons_succ, List.getElem?_cons_zero]; exact rfl)
        case hs17 => kernel_rfl
        case hf17 => kernel_rfl
        case ha17 => kernel_rfl
        case hq17 => exact fun _ _ _ h => h
        case hy17 =>
          refine Or.inl ⟨by rfl, ?_⟩
          intro w' hSw
          try dsimp only at hSw
          go_simp
          first | done | with_reducible rfl
        simp only [Act.put, List.setIfInBounds_toArray, List.set_cons_succ, List.set_cons_zero]
        refine wpAnyH_take (i := 18) (oi := ?oi18) (v := ?vv18) ?hi18 ?hs18 ?hf18 ?ha18 ?hq18 ?hy18 hHeld ?hr18
        case hi18 => (simp only [List.getElem?_toArray, List.getElem?_cons_succ, List.getElem?_cons_zero]; exact rfl)
        case hs18 => kernel_rfl
        case hf18 => kernel_rfl
        case ha18 => kernel_rfl
        case hq18 => exact fun _ _ _ h => h
        case hy18 =>
          refine Or.inl ⟨by rfl, ?_⟩
          intro w' hSw
          try dsimp only at hSw
          go_simp
          first | done | with_reducible rfl
        simp only [Act.put, List.setIfInBounds_toArray, List.set_cons_succ, List.set_cons_zero]
        refine wpAnyH_take (i := 19) (oi := ?oi19) (v := ?vv19) ?hi19 ?hs19 ?hf19 ?ha19 ?hq19 ?hy19 hHeld ?hr19
        case hi19 => (simp only [List.getElem?_toArray, List.getElem?_cons_succ, List.getElem?_cons_zero]; exact rfl)
        case hs19 => kernel_rfl
        case hf19 => kernel_rfl
        case ha19 => kernel_rfl
        case hq19 => exact fun _ _ _ h => h
        case hy19 =>
          refine Or.inl ⟨by rfl, ?_⟩
          intro w' hSw
          try dsimp only at hSw
          go_simp
          first | done | with_reducible rfl
        simp only [Act.put, List.setIfInBounds_toArray, List.set_cons_succ, List.set_cons_zero]
        refine wpAnyH_take (i := 20) (oi := ?oi20) (v := ?vv20) ?hi20 ?hs20 ?hf20 ?ha20 ?hq20 ?hy20 hHeld ?hr20
        case hi20 => (simp only [List.getElem?_toArray, List.getElem?_cons_succ, List.getElem?_cons_zero]; exact rfl)
        case hs20 => kernel_rfl
        case hf20 => kernel_rfl
        case ha20 => kernel_rfl
        case hq20 => exact fun _ _ _ h => h
        case hy20 =>
          refine Or.inl ⟨by rfl, ?_⟩
          intro w' hSw
          try dsimp only at hSw
          go_simp
          first | done | with_reducible rfl
        simp only [Act.put, List.setIfInBounds_toArray, List.set_cons_succ, List.set_cons_zero]
        refine wpAnyH_take (i := 21) (oi := ?oi21) (v := ?vv21) ?hi21 ?hs21 ?hf21 ?ha21 ?hq21 ?hy21 hHeld ?hr21
        case hi21 => (simp only [List.getElem?_toArray, List.getElem?_cons_succ, List.getElem?_cons_zero]; exact rfl)
        case hs21 => kernel_rfl
        case hf21 => kernel_rfl
        case ha21 => kernel_rfl
        case hq21 => exact fun _ _ _ h => h
        case hy21 =>
          refine Or.inl ⟨by rfl, ?_⟩
          intro w' hSw
          try dsimp only at hSw
          go_simp
          first | done | with_reducible rfl
        simp only [Act.put, List.setIfInBounds_toArray, List.set_cons_succ, List.set_cons_zero]
        refine wpAnyH_take (i := 22) (oi := ?oi22) (v := ?vv22) ?hi22 ?hs22 ?hf22 ?ha22 ?hq22 ?hy22 hHeld ?hr22
        case hi22 => (simp only [List.getElem?_toArray, List.getElem?_cons_succ, List.getElem?_cons_zero]; exact rfl)
        case hs22 => kernel_rfl
        case hf22 => kernel_rfl
        case ha22 => kernel_rfl
        case hq22 => exact fun _ _ _ h => h
        case hy22 =>
          refine Or.inl ⟨by rfl, ?_⟩
          intro w' hSw
          try dsimp only at hSw
          go_simp
          first | done | with_reducible rfl
        simp only [Act.put, List.setIfInBounds_toArray, List.set_cons_succ, List.set_cons_zero]
        refine wpAnyH_take (i := 23) (oi := ?oi23) (v := ?vv23) ?hi23 ?hs23 ?hf23 ?ha23 ?hq23 ?hy23 hHeld ?hr23
        case hi23 => (simp only [List.getElem?_toArray, List.getElem?_cons_succ, List.getElem?_cons_zero]; exact rfl)
        case hs23 => kernel_rfl
        case hf23 => kernel_rfl
        case ha23 => kernel_rfl
        case hq23 => exact fun _ _ _ h => h
        case hy23 =>
          refine Or.inl ⟨by rfl, ?_⟩
          intro w' hSw
          try dsimp only at hSw
          go_simp
          first | done | with_reducible rfl
        simp only [Act.put, List.setIfInBounds_toArray, List.set_cons_succ, List.set_cons_zero]
        refine wpAnyH_take (i := 24) (oi := ?oi24) (v := ?vv24) ?hi24 ?hs24 ?hf24 ?ha24 ?hq24 ?hy24 hHeld ?hr24
        case hi24 => (simp only [List.getElem?_toArray, List.getElem?_cons_succ, List.getElem?_cons_zero]; exact rfl)
        case hs24 => kernel_rfl
        case hf24 => kernel_rfl
        case ha24 => kernel_rfl
        case hq24 => exact fun _ _ _ h => h
        case hy24 =>
          refine Or.inl ⟨by rfl, ?_⟩
          intro w' hSw
          try dsimp only at hSw
          go_simp
          first | done | with_reducible rfl
        simp only [Act.put, List.setIfInBounds_toArray, List.set_cons_succ, List.set_cons_zero]
        refine wpAnyH_take (i := 25) (oi := ?oi25) (v := ?vv25) ?hi25 ?hs25 ?hf25 ?ha25 ?hq25 ?hy25 hHeld ?hr25
        case hi25 => (simp only [List.getElem?_toArray, List.getElem?_cons_succ, List.getElem?_cons_zero]; exact rfl)
        case hs25 => kernel_rfl
        case hf25 => kernel_rfl
        case ha25 => kernel_rfl
        case hq25 => exact fun _ _ _ h => h
        case hy25 =>
          refine Or.inl ⟨by rfl, ?_⟩
          intro w' hSw
          try dsimp only at hSw
          go_simp
          first | done | with_reducible rfl
        simp only [Act.put, List.setIfInBounds_toArray, List.set_cons_succ, List.set_cons_zero]
        refine wpAnyH_take (i := 26) (oi := ?oi26) (v := ?vv26) ?hi26 ?hs26 ?hf26 ?ha26 ?hq26 ?hy26 hHeld ?hr26
        case hi26 => (simp only [List.getElem?_toArray, List.getElem?_cons_succ, List.getElem?_cons_zero]; exact rfl)
        case hs26 => kernel_rfl
        case hf26 => kernel_rfl
        case ha26 => kernel_rfl
        case hq26 => exact fun _ _ _ h => h
        case hy26 =>
          refine Or.inl ⟨by rfl, ?_⟩
          intro w' hSw
          try dsimp only at hSw
          go_simp
          first | done | with_reducible rfl
        simp only [Act.put, List.setIfInBounds_toArray, List.set_cons_succ, List.set_cons_zero]
        refine wpAnyH_take (i := 27) (oi := ?oi27) (v := ?vv27) ?hi27 ?hs27 ?hf27 ?ha27 ?hq27 ?hy27 hHeld ?hr27
        case hi27 => (simp only [List.getElem?_toArray, List.getElem?_cons_succ, List.getElem?_cons_zero]; exact rfl)
        case hs27 => kernel_rfl
        case hf27 => kernel_rfl
        case ha27 => kernel_rfl
        case hq27 => exact fun _ _ _ h => h
        case hy27 =>
          refine Or.inl ⟨by rfl, ?_⟩
          intro w' hSw
          try dsimp only at hSw
          go_simp
          first | done | with_reducible rfl
        simp only [Act.put, List.setIfInBounds_toArray, List.set_cons_succ, List.set_cons_zero]
        refine wpAnyH_take (i := 28) (oi := ?oi28) (v := ?vv28) ?hi28 ?hs28 ?hf28 ?ha28 ?hq28 ?hy28 hHeld ?hr28
        case hi28 => (simp only [List.getElem?_toArray, List.getElem?_cons_succ, List.getElem?_cons_zero]; exact rfl)
        case hs28 => kernel_rfl
        case hf28 => kernel_rfl
        case ha28 => kernel_rfl
        case hq28 => exact fun _ _ _ h => h
        case hy28 =>
          refine Or.inl ⟨by rfl, ?_⟩
          intro w' hSw
          try dsimp only at hSw
          go_simp
          first | done | with_reducible rfl
        simp only [Act.put, List.setIfInBounds_toArray, List.set_cons_succ, List.set_cons_zero]
        refine wpAnyH_take (i := 30) (oi := ?oi29) (v := ?vv29) ?hi29 ?hs29 ?hf29 ?ha29 ?hq29 ?hy29 hHeld ?hr29
        case hi29 => (simp only [List.getElem?_toArray, List.getElem?_cons_succ, List.getElem?_cons_zero]; exact rfl)
        case hs29 => kernel_rfl
        case hf29 => kernel_rfl
        case ha29 => kernel_rfl
        case hq29 => exact fun _ _ _ h => h
        case hy29 =>
          refine Or.inl ⟨by rfl, ?_⟩
          intro w' hSw
          try dsimp only at hSw
          go_simp
          first | done | with_reducible rfl
        simp only [Act.put, List.setIfInBounds_toArray, List.set_cons_succ, List.set_cons_zero]
        refine wpAnyH_take (i := 31) (oi := ?oi30) (v := ?vv30) ?hi30 ?hs30 ?hf30 ?ha30 ?hq30 ?hy30 hHeld ?hr30
        case hi30 => (simp only [List.getElem?_toArray, List.getElem?_cons_succ, List.getElem?_cons_zero]; exact rfl)
        case hs30 => kernel_rfl
        case hf30 => kernel_rfl
        case ha30 => kernel_rfl
        case hq30 => exact fun _ _ _ h => h
        case hy30 =>
          refine Or.inl ⟨by rfl, ?_⟩
          intro w' hSw
          try dsimp only at hSw
          go_simp
          first | done | with_reducible rfl
        simp only [Act.put, List.setIfInBounds_toArray, List.set_cons_succ, List.set_cons_zero]
        refine wpAnyH_ready (rs := [29]) (by kernel_rfl) (by simp) ?_
        refine AllReadyH.cons rfl (fun K hK => ?_) AllReadyH.nil
        go_simp
        go_at_call 22
        obtain ⟨BB, zz, k126_, k127_, k128_, k129_, k130_, k131_, k132_, k133_, k134_, k135_, k136_, q137_, q138_, q139_, zw⟩ := hHeld
        (with_reducible refine (implLossesOf_yes E (some ⟨b112_, f113_, none⟩) c4_ xs (some ⟨b108_, f109_, none⟩) c20_ (ordRow E xs os) _ _ _ k127_.ints (by first | omega | (simp; omega) | simp) (by omega) _ _ k129_.ints (by first | omega | (simp; omega) | simp) (by have e := ordRow_len E xs os; omega) HAW.out).mono ?_)
        rintro e w154 ⟨A118_, c119_, rfl, ho120_, hb9⟩
        have ho120_ := ho120_.more (lo' := w76.heap.size + 1) (by omega) (Nat.le_refl _)
        refine hK.out _ _ ⟨BB.trans (hb9.mono (by omega)), Nat.le_trans zz hb9.size, k126_.below hb9 (by first | omega | (simp; omega) | simp), k127_.below hb9 (by first | omega | (simp; omega) | simp), k128_.below hb9 (by first | omega | (simp; omega) | simp), k129_.below hb9 (by first | omega | (simp; omega) | simp), k130_.below hb9 (by first | omega | (simp; omega) | simp), k131_.below hb9 (by first | omega | (simp; omega) | simp), k132_.below hb9 (by first | omega | (simp; omega) | simp), (hb9.cell (p := ⟨w1.heap.size, 0, none⟩) (by first | omega | (simp; omega) | simp)).trans k133_, (hb9.cell (p := ⟨w1.heap.size, 1, none⟩) (by first | omega | (simp; omega) | simp)).trans k134_, (hb9.cell (p := ⟨w76.heap.size, 0, none⟩) (by first | omega | (simp; omega) | simp)).trans k135_, (hb9.cell (p := ⟨w76.heap.size, 1, none⟩) (by first | omega | (simp; omega) | simp)).trans k136_, (hb9.cell (by show b112_ < _; omega)).trans q137_, (hb9.cell (by show b103_ < _; omega)).trans q138_, (hb9.cell (by show b108_ < _; omega)).trans q139_, Nat.le_trans zw hb9.size⟩ (fun hHeld => ?_)
        clear hb9 zw q139_ q138_ q137_ k136_ k135_ k134_ k133_ k132_ k131_ k130_ k129_ k128_ k127_ k126_ zz BB
        clear hK K
        try simp only [Act.put, List.setIfInBounds_toArray, List.set_cons_zero, List.set_cons_succ]
        refine wpAnyH_ready (rs := [32]) (by kernel_rfl) (by simp) ?_
        refine AllReadyH.cons rfl (fun K hK => ?_) AllReadyH.nil
        go_simp
        go_at_call 16
        rw [slice_n (A := (some ⟨g, 0, none⟩)) (n := os.length) (m := os.reverse.length) (c := cg) (by have e := HLRV.out; first | omega | exact e.symm)]
        obtain ⟨BB, zz, k126_, k127_, k128_, k129_, k130_, k131_, k132_, k133_, k134_, k135_, k136_, q137_, q138_, q139_, zw⟩ := hHeld
        (with_reducible refine (implOrderAwards_any (xs.sum - E) A77_ c78_ xs (some ⟨g, 0, none⟩) cg os.reverse _ _ _ k132_.ints (by first | omega | (simp; omega) | simp) (by omega) _ _ k131_.ints (by first | omega | (simp; omega) | simp) (by have e := HLRV.out; omega)).mono ?_)
        rintro e w155 ⟨A121_, c122_, rfl, ho123_, hb9⟩
        have ho123_ := ho123_.more (lo' := w76.heap.size + 1) (by omega) (Nat.le_refl _)
        have ho120_ := ho120_.below hb9 (Nat.le_refl _)
        have ho120_ := ho120_.more (Nat.le_refl _) hb9.size
        refine hK.out _ _ ⟨BB.trans (hb9.mono (by omega)), Nat.le_trans zz hb9.size, k126_.below hb9 (by first | omega | (simp; omega) | simp), k127_.below hb9 (by first | omega | (simp; omega) | simp), k128_.below hb9 (by first | omega | (simp; omega) | simp), k129_.below hb9 (by first | omega | (simp; omega) | simp), k130_.below hb9 (by first | omega | (simp; omega) | simp), k131_.below hb9 (by first | omega | (simp; omega) | simp), k132_.below hb9 (by first | omega | (simp; omega) | simp), (hb9.cell (p := ⟨w1.heap.size, 0, none⟩) (by first | omega | (simp; omega) | simp)).trans k133_, (hb9.cell (p := ⟨w1.heap.size, 1, none⟩) (by first | omega | (simp; omega) | simp)).trans k134_, (hb9.cell (p := ⟨w76.heap.size, 0, none⟩) (by first | omega | (simp; omega) | simp)).trans k135_, (hb9.cell (p := ⟨w76.heap.size, 1, none⟩) (by first | omega | (simp; omega) | simp)).trans k136_, (hb9.cell (by show b112_ < _; omega)).trans q137_, (hb9.cell (by show b103_ < _; omega)).trans q138_, (hb9.cell (by show b108_ < _; omega)).trans q139_, Nat.le_trans zw hb9.size⟩ (fun hHeld => ?_)
        clear hb9 zw q139_ q138_ q137_ k136_ k135_ k134_ k133_ k132_ k131_ k130_ k129_ k128_ k127_ k126_ zz BB
        clear hK K
        try simp only [Act.put, List.setIfInBounds_toArray, List.set_cons_zero, List.set_cons_succ]
        refine wpAnyH_ready (rs := [33]) (by kernel_rfl) (by simp) ?_
        refine AllReadyH.cons rfl (fun K hK => ?_) AllReadyH.nil
        go_simp
        go_at_call 17
        obtain ⟨BB, zz, k126_, k127_, k128_, k129_, k130_, k131_, k132_, k133_, k134_, k135_, k136_, q137_, q138_, q139_, zw⟩ := hHeld
        (with_reducible refine (sameInts_yes A118_ A121_ c119_ c122_ (lossesRow xs (ordRow E xs os)) (ordRow (xs.sum - E) xs os.reverse) _ _ _ _ _ ho120_.ints ho123_.ints (by have e := HLL.out; omega) H124_.out).mono ?_)
        rintro e w156 ⟨rfl, hb9⟩
        have ho120_ := ho120_.below hb9 (Nat.le_refl _)
        have ho120_ := ho120_.more (Nat.le_refl _) hb9.size
        have ho123_ := ho123_.below hb9 (Nat.le_refl _)
        have ho123_ := ho123_.more (Nat.le_refl _) hb9.size
        refine hK.out _ _ ⟨BB.trans (hb9.mono (by omega)), Nat.le_trans zz hb9.size, k126_.below hb9 (by first | omega | (simp; omega) | simp), k127_.below hb9 (by first | omega | (simp; omega) | simp), k128_.below hb9 (by first | omega | (simp; omega) | simp), k129_.below hb9 (by first | omega | (simp; omega) | simp), k130_.below hb9 (by first | omega | (simp; omega) | simp), k131_.below hb9 (by first | omega | (simp; omega) | simp), k132_.below hb9 (by first | omega | (simp; omega) | simp), (hb9.cell (p := ⟨w1.heap.size, 0, none⟩) (by first | omega | (simp; omega) | simp)).trans k133_, (hb9.cell (p := ⟨w1.heap.size, 1, none⟩) (by first | omega | (simp; omega) | simp)).trans k134_, (hb9.cell (p := ⟨w76.heap.size, 0, none⟩) (by first | omega | (simp; omega) | simp)).trans k135_, (hb9.cell (p := ⟨w76.heap.size, 1, none⟩) (by first | omega | (simp; omega) | simp)).trans k136_, (hb9.cell (by show b112_ < _; omega)).trans q137_, (hb9.cell (by show b103_ < _; omega)).trans q138_, (hb9.cell (by show b108_ < _; omega)).trans q139_, Nat.le_trans zw hb9.size⟩ (fun hHeld => ?_)
        clear hb9 zw q139_ q138_ q137_ k136_ k135_ k134_ k133_ k132_ k131_ k130_ k129_ k128_ k127_ k126_ zz BB
        clear hK K
        try simp only [Act.put, List.setIfInBounds_toArray, List.set_cons_zero, List.set_cons_succ]
        refine wpAnyH_take (i := 34) (oi := ?oi31) (v := ?vv31) ?hi31 ?hs31 ?hf31 ?ha31 ?hq31 ?hy31 hHeld ?hr31
        case hi31 => (simp only [List.getElem?_toArray, List.getElem?_cons_succ, List.getElem?_cons_zero]; exact rfl)
        case hs31 => kernel_rfl
        case hf31 => kernel_rfl
        case ha31 => kernel_rfl
        case hq31 => exact fun _ _ _ h => h
        case hy31 =>
          refine Or.inl ⟨by rfl, ?_⟩
          intro w' hSw
          try dsimp only at hSw
          go_simp
          first | done | with_reducible rfl
        simp only [Act.put, List.setIfInBounds_toArray, List.set_cons_succ, List.set_cons_zero]
        refine wpAnyH_take (i := 35) (oi := ?oi32) (v := ?vv32) ?hi32 ?hs32 ?hf32 ?ha32 ?hq32 ?hy32 hHeld ?hr32
        case hi32 => (simp only [List.getElem?_toArray, List.getElem?_cons_succ, List.getElem?_cons_zero]; exact rfl)
        case hs32 => kernel_rfl
        case hf32 => kernel_rfl
        case ha32 => kernel_rfl
        case hq32 => exact fun _ _ _ h => h
        case hy32 =>
          refine Or.inl ⟨by rfl, ?_⟩
          intro w' hSw
          try dsimp only at hSw
          go_simp
          first | done | with_reducible rfl
        simp only [Act.put, List.setIfInBounds_toArray, List.set_cons_succ, List.set_cons_zero]
        refine wpAnyH_done (by kernel_rfl) ?_ _
        obtain ⟨BB, zz, k126_, k127_, k128_, k129_, k130_, k131_, k132_, k133_, k134_, k135_, k136_, q137_, q138_, q139_, zw⟩ := hHeld
        clear hw125_
        have k157_ := BB
        clear BB
        have k158_ := zz
        clear zz
        have k159_ := zw
        clear zw
        go_wp2
        go_ret
        exact ⟨ret_bool (by first | exact rfl | exact h117_b.trans rfl), k157_⟩

set_option maxRecDepth 10000 in
set_option maxHeartbeats 400000 in
theorem fnOrderAwards_big (A0 : Option Addr) (c0 : Nat) (bs : List Int) (w : World) (hl : ¬ bs.length ≤ 1048576) (hm : bs.length ≤ 9223372036854775807) :
    Calls Try.prog 3 #[.slice A0 bs.length c0] w fun e w' => e = .returned (.bool true) ∧ Below w.heap.size w w' := by
  go_enter Try.func3, Try.ntmps3
  go_wp2
  go_ret
  exact ⟨rfl, Below.refl _ _⟩

theorem fnOrderAwards_all (A0 : Option Addr) (c0 : Nat) (bs : List Int) (w : World) (h0 : Bytes w w.heap.size A0 bs) (hm : bs.length ≤ 9223372036854775807) (hc0 : bs.length ≤ c0) :
    Calls Try.prog 3 #[.slice A0 bs.length c0] w fun e w' => e = .returned (.bool true) ∧ Below w.heap.size w w' := by
  by_cases hl : bs.length ≤ 1048576
  · exact fnOrderAwards_walk A0 c0 bs w h0 hl hc0
  · exact fnOrderAwards_big A0 c0 bs w hl hm

end Go.Proofs.Ytmkmipgboecdaaa
