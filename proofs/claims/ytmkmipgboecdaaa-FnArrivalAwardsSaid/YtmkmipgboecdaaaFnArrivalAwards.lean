/-
  The law of ArrivalAwards returns true for every code, and writes nothing that was there. No condition.
-/
import Derived.Test.YtmkmipgboecdaaaGA
import Derived.Test.YtmkmipgboecdaaaDraw7
import Derived.Test.YtmkmipgboecdaaaArr7
import Derived.Test.YtmkmipgboecdaaaSpec7C
import Derived.Test.YtmkmipgboecdaaaGame7I
import Derived.Test.YtmkmipgboecdaaaGB
import Derived.Test.YtmkmipgboecdaaaGC
import Derived.Test.YtmkmipgboecdaaaFx
import Derived.Deep.RegionHeld3
namespace Go.Proofs.Ytmkmipgboecdaaa
open Go.RowKit

set_option maxRecDepth 10000 in
set_option maxHeartbeats 2000000 in
theorem fnArrivalAwards_walk (A0 : Option Addr) (c0 : Nat) (bs : List Int) (w : World) (h0 : Bytes w w.heap.size A0 bs) (hl : bs.length ≤ 1048576) (hc0 : bs.length ≤ c0) :
    Calls Try.prog 4 #[.slice A0 bs.length c0] w fun e w' => e = .returned (.bool true) ∧ Below w.heap.size w w' := by
  have hlm : bs.length ≤ 9223372036854775807 := by omega
  go_enter Try.func4, Try.ntmps4
  have Htrue : Hid True := trivial
  have hc0u := hc0
  have h0u := h0
  have hlmu := hlm
  go_wp2_with fail
  refine (drawArrivalAwards_any A0 c0 bs _ (h0.more (by first | omega | (simp; omega) | simp)) hlm hc0).mono ?_
  rintro e w1 ⟨E, A3_, c4_, xs, hx5, rfl, ho5_, hb2_⟩
  have o6_ := h0.below hb2_ (by first | omega | (simp; omega) | simp)
  have z7_ := hb2_.size
  have B8_ := (Below.refl w.heap.size w).trans (hb2_.mono (by first | omega | (simp; omega) | simp))
  clear hb2_
  have hlbsxs : xs.length ≤ 1152921504606846976 := by omega
  have o9_ := o6_.below ((Below.refl _ _).alloc (Nat.le_refl _) (.cells #[.int .i64 E, .slice A3_ xs.length c4_] 25)) (by first | omega | (simp; omega) | simp)
  have o10_ := ho5_.alloc (by first | omega | (simp; omega) | simp) (.cells #[.int .i64 E, .slice A3_ xs.length c4_] 25)
  have B11_ := B8_.alloc (by first | omega | (simp; omega) | simp) (.cells #[.int .i64 E, .slice A3_ xs.length c4_] 25)
  have a12_ : (w1.alloc (.cells #[.int .i64 E, .slice A3_ xs.length c4_] 25)).cell? ⟨w1.heap.size, 0, none⟩ = some (.int .i64 E) := by simp [go_sem]
  have a13_ : (w1.alloc (.cells #[.int .i64 E, .slice A3_ xs.length c4_] 25)).cell? ⟨w1.heap.size, 1, none⟩ = some (.slice A3_ xs.length c4_) := by simp [go_sem]
  go_wp2_with fail
  refine (implArrivalAwards_any E A3_ c4_ xs _ _ _ o10_.ints (by first | omega | (simp; omega) | simp) (by omega)).mono ?_
  rintro e w14 ⟨A15_, c16_, rfl, ho17_, hb14_⟩
  have ho17_ : Own w14 (w1.heap.size + 1) w14.heap.size A15_ (arrRow E xs) := ho17_.more (by simp) (Nat.le_refl _)
  have o18_ := o9_.below hb14_ (by first | omega | (simp; omega) | simp)
  have o19_ := o10_.below hb14_ (by first | omega | (simp; omega) | simp)
  have o20_ := (hb14_.cell (p := ⟨w1.heap.size, 0, none⟩) (by first | omega | (simp; omega) | simp)).trans a12_
  have o21_ := (hb14_.cell (p := ⟨w1.heap.size, 1, none⟩) (by first | omega | (simp; omega) | simp)).trans a13_
  have z22_ := hb14_.size
  try simp at z22_
  have B23_ := B11_.trans (hb14_.mono (by first | omega | (simp; omega) | simp))
  clear hb14_
  go_wp2_with fail
  refine (specArrivalAwards_any E A3_ c4_ xs _ _ _ o19_.ints (by first | omega | (simp; omega) | simp) (by omega)).mono ?_
  rintro e w24 ⟨A25_, c26_, rfl, ho27_, hb24_⟩
  have o28_ := o18_.below hb24_ (by first | omega | (simp; omega) | simp)
  have o29_ := o19_.below hb24_ (by first | omega | (simp; omega) | simp)
  have o30_ := ho17_.below hb24_ (by first | omega | (simp; omega) | simp)
  have o31_ := (hb24_.cell (p := ⟨w1.heap.size, 0, none⟩) (by first | omega | (simp; omega) | simp)).trans o20_
  have o32_ := (hb24_.cell (p := ⟨w1.heap.size, 1, none⟩) (by first | omega | (simp; omega) | simp)).trans o21_
  have z33_ := hb24_.size
  have B34_ := B23_.trans (hb24_.mono (by first | omega | (simp; omega) | simp))
  clear hb24_
  go_wp2_with fail
  refine (sameInts_yes A15_ A25_ c16_ c26_ (arrRow E xs) (arrRow E xs) _ _ _ _ _ o30_.ints ho27_.ints (by have e := arrRow_len E xs; omega) rfl).mono ?_
  rintro e w35 ⟨rfl, hb35_⟩
  have o36_ := o28_.below hb35_ (by first | omega | (simp; omega) | simp)
  have o37_ := o29_.below hb35_ (by first | omega | (simp; omega) | simp)
  have o38_ := o30_.below hb35_ (by first | omega | (simp; omega) | simp)
  have o39_ := ho27_.below hb35_ (by first | omega | (simp; omega) | simp)
  have o40_ := (hb35_.cell (p := ⟨w1.heap.size, 0, none⟩) (by first | omega | (simp; omega) | simp)).trans o31_
  have o41_ := (hb35_.cell (p := ⟨w1.heap.size, 1, none⟩) (by first | omega | (simp; omega) | simp)).trans o32_
  have z42_ := hb35_.size
  have B43_ := B34_.trans (hb35_.mono (by first | omega | (simp; omega) | simp))
  clear hb35_
  by_cases h44_ : ((arrRow E xs).length : Int) = 0
  · have h44_b : (((arrRow E xs).length : Int) == 0) = true := by simpa using h44_
    have h44_n : (((arrRow E xs).length : Int) != 0) = false := by simpa using h44_
    have h44_le : ((arrRow E xs).length : Int) ≤ 0 := by omega
    have h44_ge : 0 ≤ ((arrRow E xs).length : Int) := by omega
    have Hh44_ := Lib.hid h44_
    clear h44_
    have H45_ : Hid (caseOkB E xs = false) := arrRow_no (by omega)
    go_wp2_with fail
    refine (implCaseOk_any E A3_ c4_ xs _ _ _ o37_.ints (by first | omega | (simp; omega) | simp) (by omega)).mono ?_
    rintro e w46 ⟨he, hb46_⟩
    rw [H45_.out] at he
    subst he
    have o47_ := o36_.below hb46_ (by first | omega | (simp; omega) | simp)
    have o48_ := o37_.below hb46_ (by first | omega | (simp; omega) | simp)
    have o49_ := o38_.below hb46_ (by first | omega | (simp; omega) | simp)
    have o50_ := o39_.below hb46_ (by first | omega | (simp; omega) | simp)
    have o51_ := (hb46_.cell (p := ⟨w1.heap.size, 0, none⟩) (by first | omega | (simp; omega) | simp)).trans o40_
    have o52_ := (hb46_.cell (p := ⟨w1.heap.size, 1, none⟩) (by first | omega | (simp; omega) | simp)).trans o41_
    have z53_ := hb46_.size
    have B54_ := B43_.trans (hb46_.mono (by first | omega | (simp; omega) | simp))
    clear hb46_
    go_wp2_with fail
    refine (alive_any _).mono ?_
    rintro e w55 ⟨rfl, hb55_⟩
    have o56_ := o47_.below hb55_ (by first | omega | (simp; omega) | simp)
    have o57_ := o48_.below hb55_ (by first | omega | (simp; omega) | simp)
    have o58_ := o49_.below hb55_ (by first | omega | (simp; omega) | simp)
    have o59_ := o50_.below hb55_ (by first | omega | (simp; omega) | simp)
    have o60_ := (hb55_.cell (p := ⟨w1.heap.size, 0, none⟩) (by first | omega | (simp; omega) | simp)).trans o51_
    have o61_ := (hb55_.cell (p := ⟨w1.heap.size, 1, none⟩) (by first | omega | (simp; omega) | simp)).trans o52_
    have z62_ := hb55_.size
    have B63_ := B54_.trans (hb55_.mono (by first | omega | (simp; omega) | simp))
    clear hb55_
    go_wp2
    go_ret
    exact ⟨ret_bool (by first | exact rfl | exact h44_b.trans rfl), B63_⟩
  · have h44_b : (((arrRow E xs).length : Int) == 0) = false := by simpa using h44_
    have h44_n : (((arrRow E xs).length : Int) != 0) = true := by simpa using h44_
    have HOK : Hid (caseOkB E xs = true) := arrRow_some (E := E) (xs := xs) (by omega)
    have hbd := caseOk_bd HOK.out
    have HRW : Hid (arrRow E xs = arr E xs) := arrRow_yes HOK.out
    have HAW : Hid (awardsB E xs (arrRow E xs) = true) := by show _ = _; rw [HRW.out]; exact (awardsB_iff _ _ _).2 (arr_aw HOK.out)
    have HLO : Hid ((arrRow E xs).length = xs.length) := by show _ = _; rw [HRW.out, arr_length]
    have hlo1 : (arrRow E xs).length ≤ xs.length := by have e := HLO.out; omega
    have hlo2 : xs.length ≤ (arrRow E xs).length := by have e := HLO.out; omega
    have HLL : Hid ((lossesRow xs (arrRow E xs)).length = xs.length) := by show _ = _; rw [lossesRow_length HLO.out, HLO.out]
    go_wp2_with fail
    refine (implOtherCase_yes E A3_ c4_ xs _ _ _ o37_.ints (by first | omega | (simp; omega) | simp) HOK.out).mono ?_
    rintro e w45 ⟨A46_, c47_, rfl, ho48_, hb45_⟩
    have o49_ := o36_.below hb45_ (by first | omega | (simp; omega) | simp)
    have o50_ := o37_.below hb45_ (by first | omega | (simp; omega) | simp)
    have o51_ := o38_.below hb45_ (by first | omega | (simp; omega) | simp)
    have o52_ := o39_.below hb45_ (by first | omega | (simp; omega) | simp)
    have o53_ := (hb45_.cell (p := ⟨w1.heap.size, 0, none⟩) (by first | omega | (simp; omega) | simp)).trans o40_
    have o54_ := (hb45_.cell (p := ⟨w1.heap.size, 1, none⟩) (by first | omega | (simp; omega) | simp)).trans o41_
    have z55_ := hb45_.size
    have B56_ := B43_.trans (hb45_.mono (by first | omega | (simp; omega) | simp))
    clear hb45_
    have o57_ := o49_.below ((Below.refl _ _).alloc (Nat.le_refl _) (.cells #[.int .i64 (xs.sum - E), .slice A46_ xs.length c47_] 25)) (by first | omega | (simp; omega) | simp)
    have o58_ := o50_.alloc (by first | omega | (simp; omega) | simp) (.cells #[.int .i64 (xs.sum - E), .slice A46_ xs.length c47_] 25)
    have o59_ := o51_.alloc (by first | omega | (simp; omega) | simp) (.cells #[.int .i64 (xs.sum - E), .slice A46_ xs.length c47_] 25)
    have o60_ := o52_.alloc (by first | omega | (simp; omega) | simp) (.cells #[.int .i64 (xs.sum - E), .slice A46_ xs.length c47_] 25)
    have o61_ := ho48_.alloc (by first | omega | (simp; omega) | simp) (.cells #[.int .i64 (xs.sum - E), .slice A46_ xs.length c47_] 25)
    have o62_ := cell_alloc (o := (.cells #[.int .i64 (xs.sum - E), .slice A46_ xs.length c47_] 25)) o53_ (by first | omega | (simp; omega) | simp)
    have o63_ := cell_alloc (o := (.cells #[.int .i64 (xs.sum - E), .slice A46_ xs.length c47_] 25)) o54_ (by first | omega | (simp; omega) | simp)
    have B64_ := B56_.alloc (by first | omega | (simp; omega) | simp) (.cells #[.int .i64 (xs.sum - E), .slice A46_ xs.length c47_] 25)
    have a65_ : (w45.alloc (.cells #[.int .i64 (xs.sum - E), .slice A46_ xs.length c47_] 25)).cell? ⟨w45.heap.size, 0, none⟩ = some (.int .i64 (xs.sum - E)) := by simp [go_sem]
    have a66_ : (w45.alloc (.cells #[.int .i64 (xs.sum - E), .slice A46_ xs.length c47_] 25)).cell? ⟨w45.heap.size, 1, none⟩ = some (.slice A46_ xs.length c47_) := by simp [go_sem]
    have H67_ : Hid (awardsB E xs (arrRow E xs) = true) := HAW.out
    have H77_ : Hid ((lossesRow xs (arrRow E xs)) = (arrRow (xs.sum - E) xs)) := by show _ = _; rw [HRW.out, arr_loss HOK.out, arrRow_yes (other_ok HOK.out)]
    have H78_ : Hid (keepsB E xs (arrRow E xs) = true) := by rw [HRW.out]; exact arr_keepsB HOK.out
    have g88_ : w1.heap.size < (w45.alloc (.cells #[.int .i64 (xs.sum - E), .slice A46_ xs.length c47_] 25)).heap.size := (by first | omega | (simp; omega) | simp)
    have g89_ : w45.heap.size < (w45.alloc (.cells #[.int .i64 (xs.sum - E), .slice A46_ xs.length c47_] 25)).heap.size := (by first | omega | (simp; omega) | simp)
    have g90_ : w.heap.size ≤ (w45.alloc (.cells #[.int .i64 (xs.sum - E), .slice A46_ xs.length c47_] 25)).heap.size := (by first | omega | (simp; omega) | simp)
    have g91_ : w1.heap.size ≤ (w45.alloc (.cells #[.int .i64 (xs.sum - E), .slice A46_ xs.length c47_] 25)).heap.size := (by first | omega | (simp; omega) | simp)
    have g92_ : w14.heap.size ≤ (w45.alloc (.cells #[.int .i64 (xs.sum - E), .slice A46_ xs.length c47_] 25)).heap.size := (by first | omega | (simp; omega) | simp)
    have g93_ : w24.heap.size ≤ (w45.alloc (.cells #[.int .i64 (xs.sum - E), .slice A46_ xs.length c47_] 25)).heap.size := (by first | omega | (simp; omega) | simp)
    have g94_ : w45.heap.size ≤ (w45.alloc (.cells #[.int .i64 (xs.sum - E), .slice A46_ xs.length c47_] 25)).heap.size := (by first | omega | (simp; omega) | simp)
    have g95_ : w.heap.size ≤ (w45.alloc (.cells #[.int .i64 (xs.sum - E), .slice A46_ xs.length c47_] 25)).heap.size := (by first | omega | (simp; omega) | simp)
    go_wp2_with fail
    refine wp_region_held_drew (S := (fun w' : World => Below w.heap.size w w' ∧ w45.heap.size + 1 ≤ w'.heap.size ∧ Bytes w' (w.heap.size) A0 bs ∧ Own w' (w.heap.size) (w1.heap.size) A3_ xs ∧ Own w' (w1.heap.size + 1) (w14.heap.size) A15_ (arrRow E xs) ∧ Own w' (w14.heap.size) (w24.heap.size) A25_ (arrRow E xs) ∧ Own w' (w35.heap.size) (w45.heap.size) A46_ xs ∧ w'.cell? ⟨w1.heap.size, 0, none⟩ = some (.int .i64 E) ∧ w'.cell? ⟨w1.heap.size, 1, none⟩ = some (.slice A3_ xs.length c4_) ∧ w'.cell? ⟨w45.heap.size, 0, none⟩ = some (.int .i64 (xs.sum - E)) ∧ w'.cell? ⟨w45.heap.size, 1, none⟩ = some (.slice A46_ xs.length c47_) ∧ (w45.alloc (.cells #[.int .i64 (xs.sum - E), .slice A46_ xs.length c47_] 25)).heap.size ≤ w'.heap.size)) (by kernel_rfl) ⟨B64_.drew, by exact (by first | omega | (simp; omega) | simp), o57_, o58_, o59_, o60_, o61_, o62_, o63_, a65_, a66_, Nat.le_refl _⟩ (fun hHeld => ?_)
    refine wpAnyH_take (i := 0) (oi := ?oi1) (v := ?vv1) ?hi1 ?hs1 ?hf1 ?ha1 ?hq1 ?hy1 hHeld ?hr1
    case hi1 => (simp only [List.getElem?_toArray, List.getElem?_cons_zero]; exact rfl)
    case hs1 => kernel_rfl
    case hf1 => kernel_rfl
    case ha1 => kernel_rfl
    case hq1 => exact fun _ _ _ h => h
    case hy1 =>
      refine Or.inl ⟨by rfl, ?_⟩
      intro w' hSw
      try dsimp only at hSw
      go_simp
      first | done | with_reducible rfl
    simp only [Act.put, List.setIfInBounds_toArray, List.set_cons_succ, List.set_cons_zero]
    refine wpAnyH_take (i := 1) (oi := ?oi2) (v := ?vv2) ?hi2 ?hs2 ?hf2 ?ha2 ?hq2 ?hy2 hHeld ?hr2
    case hi2 => (simp only [List.getElem?_toArray, List.getElem?_cons_succ, List.getElem?_cons_zero]; exact rfl)
    case hs2 => kernel_rfl
    case hf2 => kernel_rfl
    case ha2 => kernel_rfl
    case hq2 => exact fun _ _ _ h => h
    case hy2 =>
      refine Or.inl ⟨by rfl, ?_⟩
      intro w' hSw
      try dsimp only at hSw
      go_simp
      first | done | with_reducible rfl
    simp only [Act.put, List.setIfInBounds_toArray, List.set_cons_succ, List.set_cons_zero]
    refine wpAnyH_ready (rs := [2]) (by kernel_rfl) (by simp) ?_
    refine AllReadyH.cons rfl (fun K hK => ?_) AllReadyH.nil
    go_simp
    go_at_call 21
    obtain ⟨BB, zz, k79_, k80_, k81_, k82_, k83_, k84_, k85_, k86_, k87_, zw⟩ := hHeld
    (with_reducible refine (below_is (implAwardsOk_any E A3_ c4_ xs A15_ c16_ (arrRow E xs) _ _ _ k80_.ints (by first | omega | (simp; omega) | simp) (by omega) _ _ k81_.ints (by first | omega | (simp; omega) | simp) (by have e := arrRow_len E xs; omega)) (congrArg Value.bool H67_.out)).mono ?_)
    rintro e w96 ⟨rfl, hb9⟩
    refine hK.out _ _ ⟨BB.trans (hb9.mono (by omega)), Nat.le_trans zz hb9.size, k79_.below hb9 (by first | omega | (simp; omega) | simp), k80_.below hb9 (by first | omega | (simp; omega) | simp), k81_.below hb9 (by first | omega | (simp; omega) | simp), k82_.below hb9 (by first | omega | (simp; omega) | simp), k83_.below hb9 (by first | omega | (simp; omega) | simp), (hb9.cell (p := ⟨w1.heap.size, 0, none⟩) (by first | omega | (simp; omega) | simp)).trans k84_, (hb9.cell (p := ⟨w1.heap.size, 1, none⟩) (by first | omega | (simp; omega) | simp)).trans k85_, (hb9.cell (p := ⟨w45.heap.size, 0, none⟩) (by first | omega | (simp; omega) | simp)).trans k86_, (hb9.cell (p := ⟨w45.heap.size, 1, none⟩) (by first | omega | (simp; omega) | simp)).trans k87_, Nat.le_trans zw hb9.size⟩ (fun hHeld => ?_)
    clear hb9 zw k87_ k86_ k85_ k84_ k83_ k82_ k81_ k80_ k79_ zz BB
    clear hK K
    try simp only [Act.put, List.setIfInBounds_toArray, List.set_cons_zero, List.set_cons_succ]
    refine wpAnyH_take (i := 3) (oi := ?oi3) (v := ?vv3) ?hi3 ?hs3 ?hf3 ?ha3 ?hq3 ?hy3 hHeld ?hr3
    case hi3 => (simp only [List.getElem?_toArray, List.getElem?_cons_succ, List.getElem?_cons_zero]; exact rfl)
    case hs3 => kernel_rfl
    case hf3 => kernel_rfl
    case ha3 => kernel_rfl
    case hq3 => exact fun _ _ _ h => h
    case hy3 =>
      refine Or.inl ⟨by rfl, ?_⟩
      intro w' hSw
      try dsimp only at hSw
      go_simp
      first | done | with_reducible rfl
    simp only [Act.put, List.setIfInBounds_toArray, List.set_cons_succ, List.set_cons_zero]
    refine wpAnyH_take (i := 4) (oi := ?oi4) (v := ?vv4) ?hi4 ?hs4 ?hf4 ?ha4 ?hq4 ?hy4 hHeld ?hr4
    case hi4 => (simp only [List.getElem?_toArray, List.getElem?_cons_succ, List.getElem?_cons_zero]; exact rfl)
    case hs4 => kernel_rfl
    case hf4 => kernel_rfl
    case ha4 => kernel_rfl
    case hq4 => exact fun _ _ _ h => h
    case hy4 =>
      refine Or.inl ⟨by rfl, ?_⟩
      intro w' hSw
      try dsimp only at hSw
      go_simp
      first | done | with_reducible rfl
    simp only [Act.put, List.setIfInBounds_toArray, List.set_cons_succ, List.set_cons_zero]
    refine wpAnyH_take (i := 6) (oi := ?oi5) (v := ?vv5) ?hi5 ?hs5 ?hf5 ?ha5 ?hq5 ?hy5 hHeld ?hr5
    case hi5 => (simp only [List.getElem?_toArray, List.getElem?_cons_succ, List.getElem?_cons_zero]; exact rfl)
    case hs5 => kernel_rfl
    case hf5 => kernel_rfl
    case ha5 => kernel_rfl
    case hq5 => exact fun _ _ _ h => h
    case hy5 =>
      refine Or.inl ⟨by rfl, ?_⟩
      intro w' hSw
      try dsimp only at hSw
      go_simp
      first | done | with_reducible rfl
    simp only [Act.put, List.setIfInBounds_toArray, List.set_cons_succ, List.set_cons_zero]
    refine wpAnyH_ready (rs := [5]) (by kernel_rfl) (by simp) ?_
    refine AllReadyH.cons rfl (fun K hK => ?_) AllReadyH.nil
    go_simp
    go_at_call 27
    obtain ⟨BB, zz, k79_, k80_, k81_, k82_, k83_, k84_, k85_, k86_, k87_, zw⟩ := hHeld
    (with_reducible refine (implGameShares_any E A3_ c4_ xs _ _ _ k80_.ints (by first | omega | (simp; omega) | simp) (by omega)).mono ?_)
    rintro e w97 ⟨A68_, c69_, rfl, ho70_, hb9⟩
    have ho70_ := ho70_.more (lo' := w45.heap.size + 1) (by omega) (Nat.le_refl _)
    refine hK.out _ _ ⟨BB.trans (hb9.mono (by omega)), Nat.le_trans zz hb9.size, k79_.below hb9 (by first | omega | (simp; omega) | simp), k80_.below hb9 (by first | omega | (simp; omega) | simp), k81_.below hb9 (by first | omega | (simp; omega) | simp), k82_.below hb9 (by first | omega | (simp; omega) | simp), k83_.below hb9 (by first | omega | (simp; omega) | simp), (hb9.cell (p := ⟨w1.heap.size, 0, none⟩) (by first | omega | (simp; omega) | simp)).trans k84_, (hb9.cell (p := ⟨w1.heap.size, 1, none⟩) (by first | omega | (simp; omega) | simp)).trans k85_, (hb9.cell (p := ⟨w45.heap.size, 0, none⟩) (by first | omega | (simp; omega) | simp)).trans k86_, (hb9.cell (p := ⟨w45.heap.size, 1, none⟩) (by first | omega | (simp; omega) | simp)).trans k87_, Nat.le_trans zw hb9.size⟩ (fun hHeld => ?_)
    clear hb9 zw k87_ k86_ k85_ k84_ k83_ k82_ k81_ k80_ k79_ zz BB
    clear hK K
    try simp only [Act.put, List.setIfInBounds_toArray, List.set_cons_zero, List.set_cons_succ]
    refine wpAnyH_ready (rs := [7]) (by kernel_rfl) (by simp) ?_
    refine AllReadyH.cons rfl (fun K hK => ?_) AllReadyH.nil
    go_simp
    go_at_call 17
    obtain ⟨BB, zz, k79_, k80_, k81_, k82_, k83_, k84_, k85_, k86_, k87_, zw⟩ := hHeld
    (with_reducible refine (sameInts_yes A68_ A15_ c69_ c16_ (arrRow E xs) (arrRow E xs) _ _ _ _ _ ho70_.ints k81_.ints (by have e := arrRow_len E xs; omega) rfl).mono ?_)
    rintro e w98 ⟨rfl, hb9⟩
    have ho70_ := ho70_.below hb9 (Nat.le_refl _)
    have ho70_ := ho70_.more (Nat.le_refl _) hb9.size
    refine hK.out _ _ ⟨BB.trans (hb9.mono (by omega)), Nat.le_trans zz hb9.size, k79_.below hb9 (by first | omega | (simp; omega) | simp), k80_.below hb9 (by first | omega | (simp; omega) | simp), k81_.below hb9 (by first | omega | (simp; omega) | simp), k82_.below hb9 (by first | omega | (simp; omega) | simp), k83_.below hb9 (by first | omega | (simp; omega) | simp), (hb9.cell (p := ⟨w1.heap.size, 0, none⟩) (by first | omega | (simp; omega) | simp)).trans k84_, (hb9.cell (p := ⟨w1.heap.size, 1, none⟩) (by first | omega | (simp; omega) | simp)).trans k85_, (hb9.cell (p := ⟨w45.heap.size, 0, none⟩) (by first | omega | (simp; omega) | simp)).trans k86_, (hb9.cell (p := ⟨w45.heap.size, 1, none⟩) (by first | omega | (simp; omega) | simp)).trans k87_, Nat.le_trans zw hb9.size⟩ (fun hHeld => ?_)
    clear hb9 zw k87_ k86_ k85_ k84_ k83_ k82_ k81_ k80_ k79_ zz BB
    clear hK K
    try simp only [Act.put, List.setIfInBounds_toArray, List.set_cons_zero, List.set_cons_succ]
    refine wpAnyH_take (i := 8) (oi := ?oi6) (v := ?vv6) ?hi6 ?hs6 ?hf6 ?ha6 ?hq6 ?hy6 hHeld ?hr6
    case hi6 => (simp only [List.getElem?_toArray, List.getElem?_cons_succ, List.getElem?_cons_zero]; exact rfl)
    case hs6 => kernel_rfl
    case hf6 => kernel_rfl
    case ha6 => kernel_rfl
    case hq6 => exact fun _ _ _ h => h
    case hy6 =>
      refine Or.inl ⟨by rfl, ?_⟩
      intro w' hSw
      try dsimp only at hSw
      go_simp
      first | done | with_reducible rfl
    simp only [Act.put, List.setIfInBounds_toArray, List.set_cons_succ, List.set_cons_zero]
    refine wpAnyH_take (i := 9) (oi := ?oi7) (v := ?vv7) ?hi7 ?hs7 ?hf7 ?ha7 ?hq7 ?hy7 hHeld ?hr7
    case hi7 => (simp only [List.getElem?_toArray, List.getElem?_cons_succ, List.getElem?_cons_zero]; exact rfl)
    case hs7 => kernel_rfl
    case hf7 => kernel_rfl
    case ha7 => kernel_rfl
    case hq7 => exact fun _ _ _ h => h
    case hy7 =>
      refine Or.inl ⟨by rfl, ?_⟩
      intro w' hSw
      try dsimp only at hSw
      go_simp
      first | done | with_reducible rfl
    simp only [Act.put, List.setIfInBounds_toArray, List.set_cons_succ, List.set_cons_zero]
    refine wpAnyH_take (i := 10) (oi := ?oi8) (v := ?vv8) ?hi8 ?hs8 ?hf8 ?ha8 ?hq8 ?hy8 hHeld ?hr8
    case hi8 => (simp only [List.getElem?_toArray, List.getElem?_cons_succ, List.getElem?_cons_zero]; exact rfl)
    case hs8 => kernel_rfl
    case hf8 => kernel_rfl
    case ha8 => kernel_rfl
    case hq8 => exact fun _ _ _ h => h
    case hy8 =>
      refine Or.inl ⟨by rfl, ?_⟩
      intro w' hSw
      try dsimp only at hSw
      go_simp
      first | done | with_reducible rfl
    simp only [Act.put, List.setIfInBounds_toArray, List.set_cons_succ, List.set_cons_zero]
    refine wpAnyH_take (i := 11) (oi := ?oi9) (v := ?vv9) ?hi9 ?hs9 ?hf9 ?ha9 ?hq9 ?hy9 hHeld ?hr9
    case hi9 => (simp only [List.getElem?_toArray, List.getElem?_cons_succ, List.getElem?_cons_zero]; exact rfl)
    case hs9 => kernel_rfl
    case hf9 => kernel_rfl
    case ha9 => kernel_rfl
    case hq9 => exact fun _ _ _ h => h
    case hy9 =>
      refine Or.inl ⟨by rfl, ?_⟩
      intro w' hSw
      try dsimp only at hSw
      go_simp
      first | done | with_reducible rfl
    simp only [Act.put, List.setIfInBounds_toArray, List.set_cons_succ, List.set_cons_zero]
    refine wpAnyH_take (i := 12) (oi := ?oi10) (v := ?vv10) ?hi10 ?hs10 ?hf10 ?ha10 ?hq10 ?hy10 hHeld ?hr10
    case hi10 => (simp only [List.getElem?_toArray, List.getElem?_cons_succ, List.getElem?_cons_zero]; exact rfl)
    case hs10 => kernel_rfl
    case hf10 => kernel_rfl
    case ha10 => kernel_rfl
    case hq10 => exact fun _ _ _ h => h
    case hy10 =>
      refine Or.inl ⟨by rfl, ?_⟩
      intro w' hSw
      try dsimp only at hSw
      go_simp
      first | done | with_reducible rfl
    simp only [Act.put, List.setIfInBounds_toArray, List.set_cons_succ, List.set_cons_zero]
    refine wpAnyH_take (i := 13) (oi := ?oi11) (v := ?vv11) ?hi11 ?hs11 ?hf11 ?ha11 ?hq11 ?hy11 hHeld ?hr11
    case hi11 => (simp only [List.getElem?_toArray, List.getElem?_cons_succ, List.getElem?_cons_zero]; exact rfl)
    case hs11 => kernel_rfl
    case hf11 => kernel_rfl
    case ha11 => kernel_rfl
    case hq11 => exact fun _ _ _ h => h
    case hy11 =>
      refine Or.inl ⟨by rfl, ?_⟩
      intro w' hSw
      try dsimp only at hSw
      go_simp
      first | done | with_reducible rfl
    simp only [Act.put, List.setIfInBounds_toArray, List.set_cons_succ, List.set_cons_zero]
    refine wpAnyH_take (i := 14) (oi := ?oi12) (v := ?vv12) ?hi12 ?hs12 ?hf12 ?ha12 ?hq12 ?hy12 hHeld ?hr12
    case hi12 => (simp only [List.getElem?_toArray, List.getElem?_cons_succ, List.getElem?_cons_zero]; exact rfl)
    case hs12 => kernel_rfl
    case hf12 => kernel_rfl
    case ha12 => kernel_rfl
    case hq12 => exact fun _ _ _ h => h
    case hy12 =>
      refine Or.inl ⟨by rfl, ?_⟩
      intro w' hSw
      try dsimp only at hSw
      go_simp
      first | done | with_reducible rfl
    simp only [Act.put, List.setIfInBounds_toArray, List.set_cons_succ, List.set_cons_zero]
    refine wpAnyH_take (i := 16) (oi := ?oi13) (v := ?vv13) ?hi13 ?hs13 ?hf13 ?ha13 ?hq13 ?hy13 hHeld ?hr13
    case hi13 => (simp only [List.getElem?_toArray, List.getElem?_cons_succ, List.getElem?_cons_zero]; exact rfl)
    case hs13 => kernel_rfl
    case hf13 => kernel_rfl
    case ha13 => kernel_rfl
    case hq13 => exact fun _ _ _ h => h
    case hy13 =>
      refine Or.inl ⟨by rfl, ?_⟩
      intro w' hSw
      try dsimp only at hSw
      go_simp
      first | done | with_reducible rfl
    simp only [Act.put, List.setIfInBounds_toArray, List.set_cons_succ, List.set_cons_zero]
    refine wpAnyH_ready (rs := [15]) (by kernel_rfl) (by simp) ?_
    refine AllReadyH.cons rfl (fun K hK => ?_) AllReadyH.nil
    go_simp
    go_at_call 22
    obtain ⟨BB, zz, k79_, k80_, k81_, k82_, k83_, k84_, k85_, k86_, k87_, zw⟩ := hHeld
    (with_reducible refine (implLossesOf_yes E A3_ c4_ xs A15_ c16_ (arrRow E xs) _ _ _ k80_.ints (by first | omega | (simp; omega) | simp) (by omega) _ _ k81_.ints (by first | omega | (simp; omega) | simp) (by have e := arrRow_len E xs; omega) HAW.out).mono ?_)
    rintro e w99 ⟨A71_, c72_, rfl, ho73_, hb9⟩
    have ho73_ := ho73_.more (lo' := w45.heap.size + 1) (by omega) (Nat.le_refl _)
    have ho70_ := ho70_.below hb9 (Nat.le_refl _)
    have ho70_ := ho70_.more (Nat.le_refl _) hb9.size
    refine hK.out _ _ ⟨BB.trans (hb9.mono (by omega)), Nat.le_trans zz hb9.size, k79_.below hb9 (by first | omega | (simp; omega) | simp), k80_.below hb9 (by first | omega | (simp; omega) | simp), k81_.below hb9 (by first | omega | (simp; omega) | simp), k82_.below hb9 (by first | omega | (simp; omega) | simp), k83_.below hb9 (by first | omega | (simp; omega) | simp), (hb9.cell (p := ⟨w1.heap.size, 0, none⟩) (by first | omega | (simp; omega) | simp)).trans k84_, (hb9.cell (p := ⟨w1.heap.size, 1, none⟩) (by first | omega | (simp; omega) | simp)).trans k85_, (hb9.cell (p := ⟨w45.heap.size, 0, none⟩) (by first | omega | (simp; omega) | simp)).trans k86_, (hb9.cell (p := ⟨w45.heap.size, 1, none⟩) (by first | omega | (simp; omega) | simp)).trans k87_, Nat.le_trans zw hb9.size⟩ (fun hHeld => ?_)
    clear hb9 zw k87_ k86_ k85_ k84_ k83_ k82_ k81_ k80_ k79_ zz BB
    clear hK K
    try simp only [Act.put, List.setIfInBounds_toArray, List.set_cons_zero, List.set_cons_succ]
    refine wpAnyH_ready (rs := [17]) (by kernel_rfl) (by simp) ?_
    refine AllReadyH.cons rfl (fun K hK => ?_) AllReadyH.nil
    go_simp
    go_at_call 24
    obtain ⟨BB, zz, k79_, k80_, k81_, k82_, k83_, k84_, k85_, k86_, k87_, zw⟩ := hHeld
    (with_reducible refine (implArrivalAwards_any (xs.sum - E) A46_ c47_ xs _ _ _ k83_.ints (by first | omega | (simp; omega) | simp) (by omega)).mono ?_)
    rintro e w100 ⟨A74_, c75_, rfl, ho76_, hb9⟩
    have ho76_ := ho76_.more (lo' := w45.heap.size + 1) (by omega) (Nat.le_refl _)
    have ho70_ := ho70_.below hb9 (Nat.le_refl _)
    have ho70_ := ho70_.more (Nat.le_refl _) hb9.size
    have ho73_ := ho73_.below hb9 (Nat.le_refl _)
    have ho73_ := ho73_.more (Nat.le_refl _) hb9.size
    refine hK.out _ _ ⟨BB.trans (hb9.mono (by omega)), Nat.le_trans zz hb9.size, k79_.below hb9 (by first | omega | (simp; omega) | simp), k80_.below hb9 (by first | omega | (simp; omega) | simp), k81_.below hb9 (by first | omega | (simp; omega) | simp), k82_.below hb9 (by first | omega | (simp; omega) | simp), k83_.below hb9 (by first | omega | (simp; omega) | simp), (hb9.cell (p := ⟨w1.heap.size, 0, none⟩) (by first | omega | (simp; omega) | simp)).trans k84_, (hb9.cell (p := ⟨w1.heap.size, 1, none⟩) (by first | omega | (simp; omega) | simp)).trans k85_, (hb9.cell (p := ⟨w45.heap.size, 0, none⟩) (by first | omega | (simp; omega) | simp)).trans k86_, (hb9.cell (p := ⟨w45.heap.size, 1, none⟩) (by first | omega | (simp; omega) | simp)).trans k87_, Nat.le_trans zw hb9.size⟩ (fun hHeld => ?_)
    clear hb9 zw k87_ k86_ k85_ k84_ k83_ k82_ k81_ k80_ k79_ zz BB
    clear hK K
    try simp only [Act.put, List.setIfInBounds_toArray, List.set_cons_zero, List.set_cons_succ]
    refine wpAnyH_ready (rs := [18]) (by kernel_rfl) (by simp) ?_
    refine AllReadyH.cons rfl (fun K hK => ?_) AllReadyH.nil
    go_simp
    go_at_call 17
    obtain ⟨BB, zz, k79_, k80_, k81_, k82_, k83_, k84_, k85_, k86_, k87_, zw⟩ := hHeld
    (with_reducible refine (sameInts_yes A71_ A74_ c72_ c75_ (lossesRow xs (arrRow E xs)) (arrRow (xs.sum - E) xs) _ _ _ _ _ ho73_.ints ho76_.ints (by have e := HLL.out; omega) H77_.out).mono ?_)
    rintro e w101 ⟨rfl, hb9⟩
    have ho70_ := ho70_.below hb9 (Nat.le_refl _)
    have ho70_ := ho70_.more (Nat.le_refl _) hb9.size
    have ho73_ := ho73_.below hb9 (Nat.le_refl _)
    have ho73_ := ho73_.more (Nat.le_refl _) hb9.size
    have ho76_ := ho76_.below hb9 (Nat.le_refl _)
    have ho76_ := ho76_.more (Nat.le_refl _) hb9.size
    refine hK.out _ _ ⟨BB.trans (hb9.mono (by omega)), Nat.le_trans zz hb9.size, k79_.below hb9 (by first | omega | (simp; omega) | simp), k80_.below hb9 (by first | omega | (simp; omega) | simp), k81_.below hb9 (by first | omega | (simp; omega) | simp), k82_.below hb9 (by first | omega | (simp; omega) | simp), k83_.below hb9 (by first | omega | (simp; omega) | simp), (hb9.cell (p := ⟨w1.heap.size, 0, none⟩) (by first | omega | (simp; omega) | simp)).trans k84_, (hb9.cell (p := ⟨w1.heap.size, 1, none⟩) (by first | omega | (simp; omega) | simp)).trans k85_, (hb9.cell (p := ⟨w45.heap.size, 0, none⟩) (by first | omega | (simp; omega) | simp)).trans k86_, (hb9.cell (p := ⟨w45.heap.size, 1, none⟩) (by first | omega | (simp; omega) | simp)).trans k87_, Nat.le_trans zw hb9.size⟩ (fun hHeld => ?_)
    clear hb9 zw k87_ k86_ k85_ k84_ k83_ k82_ k81_ k80_ k79_ zz BB
    clear hK K
    try simp only [Act.put, List.setIfInBounds_toArray, List.set_cons_zero, List.set_cons_succ]
    refine wpAnyH_take (i := 19) (oi := ?oi14) (v := ?vv14) ?hi14 ?hs14 ?hf14 ?ha14 ?hq14 ?hy14 hHeld ?hr14
    case hi14 => (simp only [List.getElem?_toArray, List.getElem?_cons_succ, List.getElem?_cons_zero]; exact rfl)
    case hs14 => kernel_rfl
    case hf14 => kernel_rfl
    case ha14 => kernel_rfl
    case hq14 => exact fun _ _ _ h => h
    case hy14 =>
      refine Or.inl ⟨by rfl, ?_⟩
      intro w' hSw
      try dsimp only at hSw
      go_simp
      first | done | with_reducible rfl
    simp only [Act.put, List.setIfInBounds_toArray, List.set_cons_succ, List.set_cons_zero]
    refine wpAnyH_take (i := 20) (oi := ?oi15) (v := ?vv15) ?hi15 ?hs15 ?hf15 ?ha15 ?hq15 ?hy15 hHeld ?hr15
    case hi15 => (simp only [List.getElem?_toArray, List.getElem?_cons_succ, List.getElem?_cons_zero]; exact rfl)
    case hs15 => kernel_rfl
    case hf15 => kernel_rfl
    case ha15 => kernel_rfl
    case hq15 => exact fun _ _ _ h => h
    case hy15 =>
      refine Or.inl ⟨by rfl, ?_⟩
      intro w' hSw
      try dsimp only at hSw
      go_simp
      first | done | with_reducible rfl
    simp only [Act.put, List.setIfInBounds_toArray, List.set_cons_succ, List.set_cons_zero]
    refine wpAnyH_take (i := 21) (oi := ?oi16) (v := ?vv16) ?hi16 ?hs16 ?hf16 ?ha16 ?hq16 ?hy16 hHeld ?hr16
    case hi16 => (simp only [List.getElem?_toArray, List.getElem?_cons_succ, List.getElem?_cons_zero]; exact rfl)
    case hs16 => kernel_rfl
    case hf16 => kernel_rfl
    case ha16 => kernel_rfl
    case hq16 => exact fun _ _ _ h => h
    case hy16 =>
      refine Or.inl ⟨by rfl, ?_⟩
      intro w' hSw
      try dsimp only at hSw
      go_simp
      first | done | with_reducible rfl
    simp only [Act.put, List.setIfInBounds_toArray, List.set_cons_succ, List.set_cons_zero]
    refine wpAnyH_take (i := 22) (oi := ?oi17) (v := ?vv17) ?hi17 ?hs17 ?hf17 ?ha17 ?hq17 ?hy17 hHeld ?hr17
    case hi17 => (simp only [List.getElem?_toArray, List.getElem?_cons_succ, List.getElem?_cons_zero]; exact rfl)
    case hs17 => kernel_rfl
    case hf17 => kernel_rfl
    case ha17 => kernel_rfl
    case hq17 => exact fun _ _ _ h => h
    case hy17 =>
      refine Or.inl ⟨by rfl, ?_⟩
      intro w' hSw
      try dsimp only at hSw
      go_simp
      first | done | with_reducible rfl
    simp only [Act.put, List.setIfInBounds_toArray, List.set_cons_succ, List.set_cons_zero]
    refine wpAnyH_ready (rs := [23]) (by kernel_rfl) (by simp) ?_
    refine AllReadyH.cons rfl (fun K hK => ?_) AllReadyH.nil
    go_simp
    go_at_call 28
    obtain ⟨BB, zz, k79_, k80_, k81_, k82_, k83_, k84_, k85_, k86_, k87_, zw⟩ := hHeld
    (with_reducible refine (below_is (implKeepsOrder_any E A3_ c4_ xs A15_ c16_ (arrRow E xs) _ _ _ k80_.ints (by first | omega | (simp; omega) | simp) (by omega) _ _ k81_.ints (by first | omega | (simp; omega) | simp) (by have e := arrRow_len E xs; omega)) (congrArg Value.bool H78_.out)).mono ?_)
    rintro e w102 ⟨rfl, hb9⟩
    have ho70_ := ho70_.below hb9 (Nat.le_refl _)
    have ho70_ := ho70_.more (Nat.le_refl _) hb9.size
    have ho73_ := ho73_.below hb9 (Nat.le_refl _)
    have ho73_ := ho73_.more (Nat.le_refl _) hb9.size
    have ho76_ := ho76_.below hb9 (Nat.le_refl _)
    have ho76_ := ho76_.more (Nat.le_refl _) hb9.size
    refine hK.out _ _ ⟨BB.trans (hb9.mono (by omega)), Nat.le_trans zz hb9.size, k79_.below hb9 (by first | omega | (simp; omega) | simp), k80_.below hb9 (by first | omega | (simp; omega) | simp), k81_.below hb9 (by first | omega | (simp; omega) | simp), k82_.below hb9 (by first | omega | (simp; omega) | simp), k83_.below hb9 (by first | omega | (simp; omega) | simp), (hb9.cell (p := ⟨w1.heap.size, 0, none⟩) (by first | omega | (simp; omega) | simp)).trans k84_, (hb9.cell (p := ⟨w1.heap.size, 1, none⟩) (by first | omega | (simp; omega) | simp)).trans k85_, (hb9.cell (p := ⟨w45.heap.size, 0, none⟩) (by first | omega | (simp; omega) | simp)).trans k86_, (hb9.cell (p := ⟨w45.heap.size, 1, none⟩) (by first | omega | (simp; omega) | simp)).trans k87_, Nat.le_trans zw hb9.size⟩ (fun hHeld => ?_)
    clear hb9 zw k87_ k86_ k85_ k84_ k83_ k82_ k81_ k80_ k79_ zz BB
    clear hK K
    try simp only [Act.put, List.setIfInBounds_toArray, List.set_cons_zero, List.set_cons_succ]
    refine wpAnyH_take (i := 24) (oi := ?oi18) (v := ?vv18) ?hi18 ?hs18 ?hf18 ?ha18 ?hq18 ?hy18 hHeld ?hr18
    case hi18 => (simp only [List.getElem?_toArray, List.getElem?_cons_succ, List.getElem?_cons_zero]; exact rfl)
    case hs18 => kernel_rfl
    case hf18 => kernel_rfl
    case ha18 => kernel_rfl
    case hq18 => exact fun _ _ _ h => h
    case hy18 =>
      refine Or.inl ⟨by rfl, ?_⟩
      intro w' hSw
      try dsimp only at hSw
      go_simp
      first | done | with_reducible rfl
    simp only [Act.put, List.setIfInBounds_toArray, List.set_cons_succ, List.set_cons_zero]
    refine wpAnyH_take (i := 25) (oi := ?oi19) (v := ?vv19) ?hi19 ?hs19 ?hf19 ?ha19 ?hq19 ?hy19 hHeld ?hr19
    case hi19 => (simp only [List.getElem?_toArray, List.getElem?_cons_succ, List.getElem?_cons_zero]; exact rfl)
    case hs19 => kernel_rfl
    case hf19 => kernel_rfl
    case ha19 => kernel_rfl
    case hq19 => exact fun _ _ _ h => h
    case hy19 =>
      refine Or.inl ⟨by rfl, ?_⟩
      intro w' hSw
      try dsimp only at hSw
      go_simp
      first | done | with_reducible rfl
    simp only [Act.put, List.setIfInBounds_toArray, List.set_cons_succ, List.set_cons_zero]
    refine wpAnyH_done (by kernel_rfl) ?_ _
    obtain ⟨BB, zz, k79_, k80_, k81_, k82_, k83_, k84_, k85_, k86_, k87_, zw⟩ := hHeld
    have k103_ := BB
    clear BB
    have k104_ := zz
    clear zz
    have k105_ := zw
    clear zw
    go_wp2
    go_ret
    exact ⟨ret_bool (by first | exact rfl | exact h44_b.trans rfl), k103_⟩

set_option maxRecDepth 10000 in
set_option maxHeartbeats 400000 in
theorem fnArrivalAwards_big (A0 : Option Addr) (c0 : Nat) (bs : List Int) (w : World) (hl : ¬ bs.length ≤ 1048576) (hm : bs.length ≤ 9223372036854775807) :
    Calls Try.prog 4 #[.slice A0 bs.length c0] w fun e w' => e = .returned (.bool true) ∧ Below w.heap.size w w' := by
  go_enter Try.func4, Try.ntmps4
  go_wp2
  go_ret
  exact ⟨rfl, Below.refl _ _⟩

theorem fnArrivalAwards_all (A0 : Option Addr) (c0 : Nat) (bs : List Int) (w : World) (h0 : Bytes w w.heap.size A0 bs) (hm : bs.length ≤ 9223372036854775807) (hc0 : bs.length ≤ c0) :
    Calls Try.prog 4 #[.slice A0 bs.length c0] w fun e w' => e = .returned (.bool true) ∧ Below w.heap.size w w' := by
  by_cases hl : bs.length ≤ 1048576
  · exact fnArrivalAwards_walk A0 c0 bs w h0 hl hc0
  · exact fnArrivalAwards_big A0 c0 bs w hl hm

end Go.Proofs.Ytmkmipgboecdaaa
