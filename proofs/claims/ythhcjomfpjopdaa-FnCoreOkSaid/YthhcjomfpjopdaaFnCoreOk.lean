/-
  The law of CoreOk returns true for every code, and writes nothing that was there. No condition.
-/
import Derived.Test.YthhcjomfpjopdaaGA
import Derived.Test.YthhcjomfpjopdaaDrawW
import Derived.Test.YthhcjomfpjopdaaGame
import Derived.Test.YthhcjomfpjopdaaGame6I
import Derived.Test.YthhcjomfpjopdaaGB
import Derived.Test.YthhcjomfpjopdaaGE
import Derived.Test.YthhcjomfpjopdaaHalfI
import Derived.Test.YthhcjomfpjopdaaFx
import Derived.Deep.RegionHeld3
namespace Go.Proofs.Ythhcjomfpjopdaa
open Go.RowKit

set_option maxRecDepth 10000 in
set_option maxHeartbeats 2000000 in
theorem fnCoreOk_walk (A0 : Option Addr) (c0 : Nat) (bs : List Int) (w : World) (h0 : Bytes w w.heap.size A0 bs) (hl : bs.length ≤ 1048576) (hc0 : bs.length ≤ c0) :
    Calls Try.prog 4 #[.slice A0 bs.length c0] w fun e w' => e = .returned (.bool true) ∧ Below w.heap.size w w' := by
  have hlm : bs.length ≤ 9223372036854775807 := by omega
  go_enter Try.func4, Try.ntmps4
  have Htrue : Hid True := trivial
  have hc0u := hc0
  have h0u := h0
  have hlmu := hlm
  go_wp2_with fail
  refine (drawCoreOk_any A0 c0 bs _ (h0.more (by first | omega | (simp; omega) | simp)) hlm hc0).mono ?_
  rintro e w1 ⟨E, A3_, c4_, A6_, c7_, xs, ys, hx5, hy5, hyb, rfl, ho5_, ho8_, hb2_⟩
  have o9_ := h0.below hb2_ (by first | omega | (simp; omega) | simp)
  have z10_ := hb2_.size
  have B11_ := (Below.refl w.heap.size w).trans (hb2_.mono (by first | omega | (simp; omega) | simp))
  clear hb2_
  have hlbsxs : xs.length ≤ 1152921504606846976 := by omega
  have hlbsys : ys.length ≤ 1152921504606846976 := by omega
  have o12_ := o9_.below ((Below.refl _ _).alloc (Nat.le_refl _) (.cells #[.int .i64 E, .slice A3_ xs.length c4_] 25)) (by first | omega | (simp; omega) | simp)
  have o13_ := ho5_.alloc (by first | omega | (simp; omega) | simp) (.cells #[.int .i64 E, .slice A3_ xs.length c4_] 25)
  have o14_ := ho8_.alloc (by first | omega | (simp; omega) | simp) (.cells #[.int .i64 E, .slice A3_ xs.length c4_] 25)
  have B15_ := B11_.alloc (by first | omega | (simp; omega) | simp) (.cells #[.int .i64 E, .slice A3_ xs.length c4_] 25)
  have a16_ : (w1.alloc (.cells #[.int .i64 E, .slice A3_ xs.length c4_] 25)).cell? ⟨w1.heap.size, 0, none⟩ = some (.int .i64 E) := by simp [go_sem]
  have a17_ : (w1.alloc (.cells #[.int .i64 E, .slice A3_ xs.length c4_] 25)).cell? ⟨w1.heap.size, 1, none⟩ = some (.slice A3_ xs.length c4_) := by simp [go_sem]
  by_cases h18_ : coreB E xs ys = true
  · have H18_ := Lib.hid h18_
    clear h18_
    go_wp2_with fail
    refine (implCoreOk_any E A3_ c4_ xs A6_ c7_ ys _ _ _ o13_.ints (by first | omega | (simp; omega) | simp) (by omega) _ _ o14_.ints (by first | omega | (simp; omega) | simp) (by omega)).mono ?_
    rintro e w19 ⟨he, hb19_⟩
    rw [H18_.out] at he
    subst he
    have o20_ := o12_.below hb19_ (by first | omega | (simp; omega) | simp)
    have o21_ := o13_.below hb19_ (by first | omega | (simp; omega) | simp)
    have o22_ := o14_.below hb19_ (by first | omega | (simp; omega) | simp)
    have o23_ := (hb19_.cell (p := ⟨w1.heap.size, 0, none⟩) (by first | omega | (simp; omega) | simp)).trans a16_
    have o24_ := (hb19_.cell (p := ⟨w1.heap.size, 1, none⟩) (by first | omega | (simp; omega) | simp)).trans a17_
    have z25_ := hb19_.size
    try simp at z25_
    have B26_ := B15_.trans (hb19_.mono (by first | omega | (simp; omega) | simp))
    clear hb19_
    go_wp2_with fail
    refine (specCoreOk_any E A3_ c4_ xs A6_ c7_ ys _ _ _ o21_.ints (by first | omega | (simp; omega) | simp) (by omega) _ _ o22_.ints (by first | omega | (simp; omega) | simp) (by omega)).mono ?_
    rintro e w27 ⟨he, hb27_⟩
    rw [H18_.out] at he
    subst he
    have o28_ := o20_.below hb27_ (by first | omega | (simp; omega) | simp)
    have o29_ := o21_.below hb27_ (by first | omega | (simp; omega) | simp)
    have o30_ := o22_.below hb27_ (by first | omega | (simp; omega) | simp)
    have o31_ := (hb27_.cell (p := ⟨w1.heap.size, 0, none⟩) (by first | omega | (simp; omega) | simp)).trans o23_
    have o32_ := (hb27_.cell (p := ⟨w1.heap.size, 1, none⟩) (by first | omega | (simp; omega) | simp)).trans o24_
    have z33_ := hb27_.size
    have B34_ := B26_.trans (hb27_.mono (by first | omega | (simp; omega) | simp))
    clear hb27_
    have H35_ : Hid (caseOkB E xs = true) := ((coreB_iff _ _ _).1 H18_.out).1
    have HOK := H35_
    have hbd := caseOk_bd H35_.out
    go_wp2_with fail
    refine (specCaseOk_any E A3_ c4_ xs _ _ _ o29_.ints (by first | omega | (simp; omega) | simp) (by omega)).mono ?_
    rintro e w36 ⟨he, hb36_⟩
    rw [H35_.out] at he
    subst he
    have o37_ := o28_.below hb36_ (by first | omega | (simp; omega) | simp)
    have o38_ := o29_.below hb36_ (by first | omega | (simp; omega) | simp)
    have o39_ := o30_.below hb36_ (by first | omega | (simp; omega) | simp)
    have o40_ := (hb36_.cell (p := ⟨w1.heap.size, 0, none⟩) (by first | omega | (simp; omega) | simp)).trans o31_
    have o41_ := (hb36_.cell (p := ⟨w1.heap.size, 1, none⟩) (by first | omega | (simp; omega) | simp)).trans o32_
    have z42_ := hb36_.size
    have B43_ := B34_.trans (hb36_.mono (by first | omega | (simp; omega) | simp))
    clear hb36_
    have H44_ : Hid (awardsB E xs ys = true) := (core_aw HOK.out).symm.trans H18_.out
    have H48_ : Hid (coreB E xs (evenAw E xs) = true) := (core_aw HOK.out).trans ((awardsB_iff _ _ _).2 (evenAw_aw HOK.out))
    have H52_ : Hid (coreB E xs (halfAw E xs) = true) := (core_aw HOK.out).trans ((awardsB_iff _ _ _).2 (half_aw HOK.out))
    have g58_ : w1.heap.size < w36.heap.size := (by first | omega | (simp; omega) | simp)
    have g59_ : w.heap.size ≤ w36.heap.size := (by first | omega | (simp; omega) | simp)
    have g60_ : w1.heap.size ≤ w36.heap.size := (by first | omega | (simp; omega) | simp)
    have g61_ : w1.heap.size ≤ w36.heap.size := (by first | omega | (simp; omega) | simp)
    have g62_ : w.heap.size ≤ w36.heap.size := (by first | omega | (simp; omega) | simp)
    go_wp2_with fail
    refine wp_region_held_drew (S := (fun w' : World => Below w.heap.size w w' ∧ w36.heap.size ≤ w'.heap.size ∧ Bytes w' (w.heap.size) A0 bs ∧ Own w' (w.heap.size) (w1.heap.size) A3_ xs ∧ Own w' (w.heap.size) (w1.heap.size) A6_ ys ∧ w'.cell? ⟨w1.heap.size, 0, none⟩ = some (.int .i64 E) ∧ w'.cell? ⟨w1.heap.size, 1, none⟩ = some (.slice A3_ xs.length c4_) ∧ w36.heap.size ≤ w'.heap.size)) (by kernel_rfl) ⟨B43_.drew, by exact (by first | omega | (simp; omega) | simp), o37_, o38_, o39_, o40_, o41_, Nat.le_refl _⟩ (fun hHeld => ?_)
    refine wpAnyH_take (i := 0) (oi := ?oi1) (v := ?vv1) ?hi1 ?hs1 ?hf1 ?ha1 ?hq1 ?hy1 hHeld ?hr1
    case hi1 => (simp only [List.getElem?_toArray, List.getElem?_cons_zero]; exact rfl)
    case hs1 => kernel_rfl
    case hf1 => kernel_rfl
    case ha1 => kernel_rfl
    case hq1 => exact fun _ _ _ h => h
    case hy1 =>
      refine Or.inl ⟨by rfl, ?_⟩
      intro w' hSw
      try dsimp only at hSw
      go_simp
      first | done | with_reducible rfl
    simp only [Act.put, List.setIfInBounds_toArray, List.set_cons_succ, List.set_cons_zero]
    refine wpAnyH_take (i := 1) (oi := ?oi2) (v := ?vv2) ?hi2 ?hs2 ?hf2 ?ha2 ?hq2 ?hy2 hHeld ?hr2
    case hi2 => (simp only [List.getElem?_toArray, List.getElem?_cons_succ, List.getElem?_cons_zero]; exact rfl)
    case hs2 => kernel_rfl
    case hf2 => kernel_rfl
    case ha2 => kernel_rfl
    case hq2 => exact fun _ _ _ h => h
    case hy2 =>
      refine Or.inl ⟨by rfl, ?_⟩
      intro w' hSw
      try dsimp only at hSw
      go_simp
      first | done | with_reducible rfl
    simp only [Act.put, List.setIfInBounds_toArray, List.set_cons_succ, List.set_cons_zero]
    refine wpAnyH_take (i := 3) (oi := ?oi3) (v := ?vv3) ?hi3 ?hs3 ?hf3 ?ha3 ?hq3 ?hy3 hHeld ?hr3
    case hi3 => (simp only [List.getElem?_toArray, List.getElem?_cons_succ, List.getElem?_cons_zero]; exact rfl)
    case hs3 => kernel_rfl
    case hf3 => kernel_rfl
    case ha3 => kernel_rfl
    case hq3 => exact fun _ _ _ h => h
    case hy3 =>
      refine Or.inl ⟨by rfl, ?_⟩
      intro w' hSw
      try dsimp only at hSw
      go_simp
      first | done | with_reducible rfl
    simp only [Act.put, List.setIfInBounds_toArray, List.set_cons_succ, List.set_cons_zero]
    refine wpAnyH_ready (rs := [2]) (by kernel_rfl) (by simp) ?_
    refine AllReadyH.cons rfl (fun K hK => ?_) AllReadyH.nil
    go_simp
    go_at_call 22
    obtain ⟨BB, zz, k53_, k54_, k55_, k56_, k57_, zw⟩ := hHeld
    (with_reducible refine (below_is (implAwardsOk_any E A3_ c4_ xs A6_ c7_ ys _ _ _ k54_.ints (by first | omega | (simp; omega) | simp) (by omega) _ _ k55_.ints (by first | omega | (simp; omega) | simp) (by omega)) (congrArg Value.bool H44_.out)).mono ?_)
    rintro e w63 ⟨rfl, hb9⟩
    refine hK.out _ _ ⟨BB.trans (hb9.mono (by omega)), Nat.le_trans zz hb9.size, k53_.below hb9 (by first | omega | (simp; omega) | simp), k54_.below hb9 (by first | omega | (simp; omega) | simp), k55_.below hb9 (by first | omega | (simp; omega) | simp), (hb9.cell (p := ⟨w1.heap.size, 0, none⟩) (by first | omega | (simp; omega) | simp)).trans k56_, (hb9.cell (p := ⟨w1.heap.size, 1, none⟩) (by first | omega | (simp; omega) | simp)).trans k57_, Nat.le_trans zw hb9.size⟩ (fun hHeld => ?_)
    clear hb9 zw k57_ k56_ k55_ k54_ k53_ zz BB
    clear hK K
    try simp only [Act.put, List.setIfInBounds_toArray, List.set_cons_zero, List.set_cons_succ]
    refine wpAnyH_take (i := 4) (oi := ?oi4) (v := ?vv4) ?hi4 ?hs4 ?hf4 ?ha4 ?hq4 ?hy4 hHeld ?hr4
    case hi4 => (simp only [List.getElem?_toArray, List.getElem?_cons_succ, List.getElem?_cons_zero]; exact rfl)
    case hs4 => kernel_rfl
    case hf4 => kernel_rfl
    case ha4 => kernel_rfl
    case hq4 => exact fun _ _ _ h => h
    case hy4 =>
      refine Or.inl ⟨by rfl, ?_⟩
      intro w' hSw
      try dsimp only at hSw
      go_simp
      first | done | with_reducible rfl
    simp only [Act.put, List.setIfInBounds_toArray, List.set_cons_succ, List.set_cons_zero]
    refine wpAnyH_take (i := 5) (oi := ?oi5) (v := ?vv5) ?hi5 ?hs5 ?hf5 ?ha5 ?hq5 ?hy5 hHeld ?hr5
    case hi5 => (simp only [List.getElem?_toArray, List.getElem?_cons_succ, List.getElem?_cons_zero]; exact rfl)
    case hs5 => kernel_rfl
    case hf5 => kernel_rfl
    case ha5 => kernel_rfl
    case hq5 => exact fun _ _ _ h => h
    case hy5 =>
      refine Or.inl ⟨by rfl, ?_⟩
      intro w' hSw
      try dsimp only at hSw
      go_simp
      first | done | with_reducible rfl
    simp only [Act.put, List.setIfInBounds_toArray, List.set_cons_succ, List.set_cons_zero]
    refine wpAnyH_take (i := 6) (oi := ?oi6) (v := ?vv6) ?hi6 ?hs6 ?hf6 ?ha6 ?hq6 ?hy6 hHeld ?hr6
    case hi6 => (simp only [List.getElem?_toArray, List.getElem?_cons_succ, List.getElem?_cons_zero]; exact rfl)
    case hs6 => kernel_rfl
    case hf6 => kernel_rfl
    case ha6 => kernel_rfl
    case hq6 => exact fun _ _ _ h => h
    case hy6 =>
      refine Or.inl ⟨by rfl, ?_⟩
      intro w' hSw
      try dsimp only at hSw
      go_simp
      first | done | with_reducible rfl
    simp only [Act.put, List.setIfInBounds_toArray, List.set_cons_succ, List.set_cons_zero]
    refine wpAnyH_take (i := 7) (oi := ?oi7) (v := ?vv7) ?hi7 ?hs7 ?hf7 ?ha7 ?hq7 ?hy7 hHeld ?hr7
    case hi7 => (simp only [List.getElem?_toArray, List.getElem?_cons_succ, List.getElem?_cons_zero]; exact rfl)
    case hs7 => kernel_rfl
    case hf7 => kernel_rfl
    case ha7 => kernel_rfl
    case hq7 => exact fun _ _ _ h => h
    case hy7 =>
      refine Or.inl ⟨by rfl, ?_⟩
      intro w' hSw
      try dsimp only at hSw
      go_simp
      first | done | with_reducible rfl
    simp only [Act.put, List.setIfInBounds_toArray, List.set_cons_succ, List.set_cons_zero]
    refine wpAnyH_ready (rs := [8]) (by kernel_rfl) (by simp) ?_
    refine AllReadyH.cons rfl (fun K hK => ?_) AllReadyH.nil
    go_simp
    go_at_call 23
    obtain ⟨BB, zz, k53_, k54_, k55_, k56_, k57_, zw⟩ := hHeld
    (with_reducible refine (implEvenAwards_yes E A3_ c4_ xs _ _ _ k54_.ints (by first | omega | (simp; omega) | simp) HOK.out).mono ?_)
    rintro e w64 ⟨A45_, c46_, rfl, ho47_, hb9⟩
    have ho47_ := ho47_.more (lo' := w36.heap.size) (by omega) (Nat.le_refl _)
    refine hK.out _ _ ⟨BB.trans (hb9.mono (by omega)), Nat.le_trans zz hb9.size, k53_.below hb9 (by first | omega | (simp; omega) | simp), k54_.below hb9 (by first | omega | (simp; omega) | simp), k55_.below hb9 (by first | omega | (simp; omega) | simp), (hb9.cell (p := ⟨w1.heap.size, 0, none⟩) (by first | omega | (simp; omega) | simp)).trans k56_, (hb9.cell (p := ⟨w1.heap.size, 1, none⟩) (by first | omega | (simp; omega) | simp)).trans k57_, Nat.le_trans zw hb9.size⟩ (fun hHeld => ?_)
    clear hb9 zw k57_ k56_ k55_ k54_ k53_ zz BB
    clear hK K
    try simp only [Act.put, List.setIfInBounds_toArray, List.set_cons_zero, List.set_cons_succ]
    refine wpAnyH_ready (rs := [9]) (by kernel_rfl) (by simp) ?_
    refine AllReadyH.cons rfl (fun K hK => ?_) AllReadyH.nil
    go_simp
    go_at_call 19
    obtain ⟨BB, zz, k53_, k54_, k55_, k56_, k57_, zw⟩ := hHeld
    (with_reducible refine (below_is (implCoreOk_any E A3_ c4_ xs A45_ c46_ (evenAw E xs) _ _ _ k54_.ints (by first | omega | (simp; omega) | simp) (by omega) _ _ ho47_.ints (by first | omega | (simp; omega) | simp) (by rw [evenAw_length]; omega)) (congrArg Value.bool H48_.out)).mono ?_)
    rintro e w65 ⟨rfl, hb9⟩
    have ho47_ := ho47_.below hb9 (Nat.le_refl _)
    have ho47_ := ho47_.more (Nat.le_refl _) hb9.size
    refine hK.out _ _ ⟨BB.trans (hb9.mono (by omega)), Nat.le_trans zz hb9.size, k53_.below hb9 (by first | omega | (simp; omega) | simp), k54_.below hb9 (by first | omega | (simp; omega) | simp), k55_.below hb9 (by first | omega | (simp; omega) | simp), (hb9.cell (p := ⟨w1.heap.size, 0, none⟩) (by first | omega | (simp; omega) | simp)).trans k56_, (hb9.cell (p := ⟨w1.heap.size, 1, none⟩) (by first | omega | (simp; omega) | simp)).trans k57_, Nat.le_trans zw hb9.size⟩ (fun hHeld => ?_)
    clear hb9 zw k57_ k56_ k55_ k54_ k53_ zz BB
    clear hK K
    try simp only [Act.put, List.setIfInBounds_toArray, List.set_cons_zero, List.set_cons_succ]
    refine wpAnyH_take (i := 10) (oi := ?oi8) (v := ?vv8) ?hi8 ?hs8 ?hf8 ?ha8 ?hq8 ?hy8 hHeld ?hr8
    case hi8 => (simp only [List.getElem?_toArray, List.getElem?_cons_succ, List.getElem?_cons_zero]; exact rfl)
    case hs8 => kernel_rfl
    case hf8 => kernel_rfl
    case ha8 => kernel_rfl
    case hq8 => exact fun _ _ _ h => h
    case hy8 =>
      refine Or.inl ⟨by rfl, ?_⟩
      intro w' hSw
      try dsimp only at hSw
      go_simp
      first | done | with_reducible rfl
    simp only [Act.put, List.setIfInBounds_toArray, List.set_cons_succ, List.set_cons_zero]
    refine wpAnyH_take (i := 11) (oi := ?oi9) (v := ?vv9) ?hi9 ?hs9 ?hf9 ?ha9 ?hq9 ?hy9 hHeld ?hr9
    case hi9 => (simp only [List.getElem?_toArray, List.getElem?_cons_succ, List.getElem?_cons_zero]; exact rfl)
    case hs9 => kernel_rfl
    case hf9 => kernel_rfl
    case ha9 => kernel_rfl
    case hq9 => exact fun _ _ _ h => h
    case hy9 =>
      refine Or.inl ⟨by rfl, ?_⟩
      intro w' hSw
      try dsimp only at hSw
      go_simp
      first | done | with_reducible rfl
    simp only [Act.put, List.setIfInBounds_toArray, List.set_cons_succ, List.set_cons_zero]
    refine wpAnyH_take (i := 12) (oi := ?oi10) (v := ?vv10) ?hi10 ?hs10 ?hf10 ?ha10 ?hq10 ?hy10 hHeld ?hr10
    case hi10 => (simp only [List.getElem?_toArray, List.getElem?_cons_succ, List.getElem?_cons_zero]; exact rfl)
    case hs10 => kernel_rfl
    case hf10 => kernel_rfl
    case ha10 => kernel_rfl
    case hq10 => exact fun _ _ _ h => h
    case hy10 =>
      refine Or.inl ⟨by rfl, ?_⟩
      intro w' hSw
      try dsimp only at hSw
      go_simp
      first | done | with_reducible rfl
    simp only [Act.put, List.setIfInBounds_toArray, List.set_cons_succ, List.set_cons_zero]
    refine wpAnyH_take (i := 13) (oi := ?oi11) (v := ?vv11) ?hi11 ?hs11 ?hf11 ?ha11 ?hq11 ?hy11 hHeld ?hr11
    case hi11 => (simp only [List.getElem?_toArray, List.getElem?_cons_succ, List.getElem?_cons_zero]; exact rfl)
    case hs11 => kernel_rfl
    case hf11 => kernel_rfl
    case ha11 => kernel_rfl
    case hq11 => exact fun _ _ _ h => h
    case hy11 =>
      refine Or.inl ⟨by rfl, ?_⟩
      intro w' hSw
      try dsimp only at hSw
      go_simp
      first | done | with_reducible rfl
    simp only [Act.put, List.setIfInBounds_toArray, List.set_cons_succ, List.set_cons_zero]
    refine wpAnyH_ready (rs := [14]) (by kernel_rfl) (by simp) ?_
    refine AllReadyH.cons rfl (fun K hK => ?_) AllReadyH.nil
    go_simp
    go_at_call 24
    obtain ⟨BB, zz, k53_, k54_, k55_, k56_, k57_, zw⟩ := hHeld
    (with_reducible refine (implHalfAwards_yes E A3_ c4_ xs _ _ _ k54_.ints (by first | omega | (simp; omega) | simp) HOK.out).mono ?_)
    rintro e w66 ⟨A49_, c50_, rfl, ho51_, hb9⟩
    have ho51_ := ho51_.more (lo' := w36.heap.size) (by omega) (Nat.le_refl _)
    have ho47_ := ho47_.below hb9 (Nat.le_refl _)
    have ho47_ := ho47_.more (Nat.le_refl _) hb9.size
    refine hK.out _ _ ⟨BB.trans (hb9.mono (by omega)), Nat.le_trans zz hb9.size, k53_.below hb9 (by first | omega | (simp; omega) | simp), k54_.below hb9 (by first | omega | (simp; omega) | simp), k55_.below hb9 (by first | omega | (simp; omega) | simp), (hb9.cell (p := ⟨w1.heap.size, 0, none⟩) (by first | omega | (simp; omega) | simp)).trans k56_, (hb9.cell (p := ⟨w1.heap.size, 1, none⟩) (by first | omega | (simp; omega) | simp)).trans k57_, Nat.le_trans zw hb9.size⟩ (fun hHeld => ?_)
    clear hb9 zw k57_ k56_ k55_ k54_ k53_ zz BB
    clear hK K
    try simp only [Act.put, List.setIfInBounds_toArray, List.set_cons_zero, List.set_cons_succ]
    refine wpAnyH_ready (rs := [15]) (by kernel_rfl) (by simp) ?_
    refine AllReadyH.cons rfl (fun K hK => ?_) AllReadyH.nil
    go_simp
    go_at_call 19
    obtain ⟨BB, zz, k53_, k54_, k55_, k56_, k57_, zw⟩ := hHeld
    (with_reducible refine (below_is (implCoreOk_any E A3_ c4_ xs A49_ c50_ (halfAw E xs) _ _ _ k54_.ints (by first | omega | (simp; omega) | simp) (by omega) _ _ ho51_.ints (by first | omega | (simp; omega) | simp) (by rw [halfAw_length]; omega)) (congrArg Value.bool H52_.out)).mono ?_)
    rintro e w67 ⟨rfl, hb9⟩
    have ho47_ := ho47_.below hb9 (Nat.le_refl _)
    have ho47_ := ho47_.more (Nat.le_refl _) hb9.size
    have ho51_ := ho51_.below hb9 (Nat.le_refl _)
    have ho51_ := ho51_.more (Nat.le_refl _) hb9.size
    refine hK.out _ _ ⟨BB.trans (hb9.mono (by omega)), Nat.le_trans zz hb9.size, k53_.below hb9 (by first | omega | (simp; omega) | simp), k54_.below hb9 (by first | omega | (simp; omega) | simp), k55_.below hb9 (by first | omega | (simp; omega) | simp), (hb9.cell (p := ⟨w1.heap.size, 0, none⟩) (by first | omega | (simp; omega) | simp)).trans k56_, (hb9.cell (p := ⟨w1.heap.size, 1, none⟩) (by first | omega | (simp; omega) | simp)).trans k57_, Nat.le_trans zw hb9.size⟩ (fun hHeld => ?_)
    clear hb9 zw k57_ k56_ k55_ k54_ k53_ zz BB
    clear hK K
    try simp only [Act.put, List.setIfInBounds_toArray, List.set_cons_zero, List.set_cons_succ]
    refine wpAnyH_take (i := 16) (oi := ?oi12) (v := ?vv12) ?hi12 ?hs12 ?hf12 ?ha12 ?hq12 ?hy12 hHeld ?hr12
    case hi12 => (simp only [List.getElem?_toArray, List.getElem?_cons_succ, List.getElem?_cons_zero]; exact rfl)
    case hs12 => kernel_rfl
    case hf12 => kernel_rfl
    case ha12 => kernel_rfl
    case hq12 => exact fun _ _ _ h => h
    case hy12 =>
      refine Or.inl ⟨by rfl, ?_⟩
      intro w' hSw
      try dsimp only at hSw
      go_simp
      first | done | with_reducible rfl
    simp only [Act.put, List.setIfInBounds_toArray, List.set_cons_succ, List.set_cons_zero]
    refine wpAnyH_take (i := 17) (oi := ?oi13) (v := ?vv13) ?hi13 ?hs13 ?hf13 ?ha13 ?hq13 ?hy13 hHeld ?hr13
    case hi13 => (simp only [List.getElem?_toArray, List.getElem?_cons_succ, List.getElem?_cons_zero]; exact rfl)
    case hs13 => kernel_rfl
    case hf13 => kernel_rfl
    case ha13 => kernel_rfl
    case hq13 => exact fun _ _ _ h => h
    case hy13 =>
      refine Or.inl ⟨by rfl, ?_⟩
      intro w' hSw
      try dsimp only at hSw
      go_simp
      first | done | with_reducible rfl
    simp only [Act.put, List.setIfInBounds_toArray, List.set_cons_succ, List.set_cons_zero]
    refine wpAnyH_done (by kernel_rfl) ?_ _
    obtain ⟨BB, zz, k53_, k54_, k55_, k56_, k57_, zw⟩ := hHeld
    have k68_ := BB
    clear BB
    have k69_ := zz
    clear zz
    have k70_ := zw
    clear zw
    go_wp2
    go_ret
    exact ⟨ret_bool rfl, k68_⟩
  · have H18_ : Hid (coreB E xs ys = false) := by show _ = _; simpa using h18_
    clear h18_
    go_wp2_with fail
    refine (implCoreOk_any E A3_ c4_ xs A6_ c7_ ys _ _ _ o13_.ints (by first | omega | (simp; omega) | simp) (by omega) _ _ o14_.ints (by first | omega | (simp; omega) | simp) (by omega)).mono ?_
    rintro e w19 ⟨he, hb19_⟩
    rw [H18_.out] at he
    subst he
    have o20_ := o12_.below hb19_ (by first | omega | (simp; omega) | simp)
    have o21_ := o13_.below hb19_ (by first | omega | (simp; omega) | simp)
    have o22_ := o14_.below hb19_ (by first | omega | (simp; omega) | simp)
    have o23_ := (hb19_.cell (p := ⟨w1.heap.size, 0, none⟩) (by first | omega | (simp; omega) | simp)).trans a16_
    have o24_ := (hb19_.cell (p := ⟨w1.heap.size, 1, none⟩) (by first | omega | (simp; omega) | simp)).trans a17_
    have z25_ := hb19_.size
    try simp at z25_
    have B26_ := B15_.trans (hb19_.mono (by first | omega | (simp; omega) | simp))
    clear hb19_
    go_wp2_with fail
    refine (specCoreOk_any E A3_ c4_ xs A6_ c7_ ys _ _ _ o21_.ints (by first | omega | (simp; omega) | simp) (by omega) _ _ o22_.ints (by first | omega | (simp; omega) | simp) (by omega)).mono ?_
    rintro e w27 ⟨he, hb27_⟩
    rw [H18_.out] at he
    subst he
    have o28_ := o20_.below hb27_ (by first | omega | (simp; omega) | simp)
    have o29_ := o21_.below hb27_ (by first | omega | (simp; omega) | simp)
    have o30_ := o22_.below hb27_ (by first | omega | (simp; omega) | simp)
    have o31_ := (hb27_.cell (p := ⟨w1.heap.size, 0, none⟩) (by first | omega | (simp; omega) | simp)).trans o23_
    have o32_ := (hb27_.cell (p := ⟨w1.heap.size, 1, none⟩) (by first | omega | (simp; omega) | simp)).trans o24_
    have z33_ := hb27_.size
    have B34_ := B26_.trans (hb27_.mono (by first | omega | (simp; omega) | simp))
    clear hb27_
    by_cases h35_ : caseOkB E xs = true
    · have H35_ := Lib.hid h35_
      clear h35_
      have HOK := H35_
      have hbd := caseOk_bd H35_.out
      go_wp2_with fail
      refine (specCaseOk_any E A3_ c4_ xs _ _ _ o29_.ints (by first | omega | (simp; omega) | simp) (by omega)).mono ?_
      rintro e w36 ⟨he, hb36_⟩
      rw [H35_.out] at he
      subst he
      have o37_ := o28_.below hb36_ (by first | omega | (simp; omega) | simp)
      have o38_ := o29_.below hb36_ (by first | omega | (simp; omega) | simp)
      have o39_ := o30_.below hb36_ (by first | omega | (simp; omega) | simp)
      have o40_ := (hb36_.cell (p := ⟨w1.heap.size, 0, none⟩) (by first | omega | (simp; omega) | simp)).trans o31_
      have o41_ := (hb36_.cell (p := ⟨w1.heap.size, 1, none⟩) (by first | omega | (simp; omega) | simp)).trans o32_
      have z42_ := hb36_.size
      have B43_ := B34_.trans (hb36_.mono (by first | omega | (simp; omega) | simp))
      clear hb36_
      have H44_ : Hid (awardsB E xs ys = false) := (core_aw HOK.out).symm.trans H18_.out
      have H48_ : Hid (coreB E xs (evenAw E xs) = true) := (core_aw HOK.out).trans ((awardsB_iff _ _ _).2 (evenAw_aw HOK.out))
      have H52_ : Hid (coreB E xs (halfAw E xs) = true) := (core_aw HOK.out).trans ((awardsB_iff _ _ _).2 (half_aw HOK.out))
      have g58_ : w1.heap.size < w36.heap.size := (by first | omega | (simp; omega) | simp)
      have g59_ : w.heap.size ≤ w36.heap.size := (by first | omega | (simp; omega) | simp)
      have g60_ : w1.heap.size ≤ w36.heap.size := (by first | omega | (simp; omega) | simp)
      have g61_ : w1.heap.size ≤ w36.heap.size := (by first | omega | (simp; omega) | simp)
      have g62_ : w.heap.size ≤ w36.heap.size := (by first | omega | (simp; omega) | simp)
      go_wp2_with fail
      refine wp_region_held_drew (S := (fun w' : World => Below w.heap.size w w' ∧ w36.heap.size ≤ w'.heap.size ∧ Bytes w' (w.heap.size) A0 bs ∧ Own w' (w.heap.size) (w1.heap.size) A3_ xs ∧ Own w' (w.heap.size) (w1.heap.size) A6_ ys ∧ w'.cell? ⟨w1.heap.size, 0, none⟩ = some (.int .i64 E) ∧ w'.cell? ⟨w1.heap.size, 1, none⟩ = some (.slice A3_ xs.length c4_) ∧ w36.heap.size ≤ w'.heap.size)) (by kernel_rfl) ⟨B43_.drew, by exact (by first | omega | (simp; omega) | simp), o37_, o38_, o39_, o40_, o41_, Nat.le_refl _⟩ (fun hHeld => ?_)
      refine wpAnyH_take (i := 0) (oi := ?oi14) (v := ?vv14) ?hi14 ?hs14 ?hf14 ?ha14 ?hq14 ?hy14 hHeld ?hr14
      case hi14 => (simp only [List.getElem?_toArray, List.getElem?_cons_zero]; exact rfl)
      case hs14 => kernel_rfl
      case hf14 => kernel_rfl
      case ha14 => kernel_rfl
      case hq14 => exact fun _ _ _ h => h
      case hy14 =>
        refine Or.inl ⟨by rfl, ?_⟩
        intro w' hSw
        try dsimp only at hSw
        go_simp
        first | done | with_reducible rfl
      simp only [Act.put, List.setIfInBounds_toArray, List.set_cons_succ, List.set_cons_zero]
      refine wpAnyH_take (i := 1) (oi := ?oi15) (v := ?vv15) ?hi15 ?hs15 ?hf15 ?ha15 ?hq15 ?hy15 hHeld ?hr15
      case hi15 => (simp only [List.getElem?_toArray, List.getElem?_cons_succ, List.getElem?_cons_zero]; exact rfl)
      case hs15 => kernel_rfl
      case hf15 => kernel_rfl
      case ha15 => kernel_rfl
      case hq15 => exact fun _ _ _ h => h
      case hy15 =>
        refine Or.inl ⟨by rfl, ?_⟩
        intro w' hSw
        try dsimp only at hSw
        go_simp
        first | done | with_reducible rfl
      simp only [Act.put, List.setIfInBounds_toArray, List.set_cons_succ, List.set_cons_zero]
      refine wpAnyH_take (i := 3) (oi := ?oi16) (v := ?vv16) ?hi16 ?hs16 ?hf16 ?ha16 ?hq16 ?hy16 hHeld ?hr16
      case hi16 => (simp only [List.getElem?_toArray, List.getElem?_cons_succ, List.getElem?_cons_zero]; exact rfl)
      case hs16 => kernel_rfl
      case hf16 => kernel_rfl
      case ha16 => kernel_rfl
      case hq16 => exact fun _ _ _ h => h
      case hy16 =>
        refine Or.inl ⟨by rfl, ?_⟩
        intro w' hSw
        try dsimp only at hSw
        go_simp
        first | done | with_reducible rfl
      simp only [Act.put, List.setIfInBounds_toArray, List.set_cons_succ, List.set_cons_zero]
      refine wpAnyH_ready (rs := [2]) (by kernel_rfl) (by simp) ?_
      refine AllReadyH.cons rfl (fun K hK => ?_) AllReadyH.nil
      go_simp
      go_at_call 22
      obtain ⟨BB, zz, k53_, k54_, k55_, k56_, k57_, zw⟩ := hHeld
      (with_reducible refine (below_is (implAwardsOk_any E A3_ c4_ xs A6_ c7_ ys _ _ _ k54_.ints (by first | omega | (simp; omega) | simp) (by omega) _ _ k55_.ints (by first | omega | (simp; omega) | simp) (by omega)) (congrArg Value.bool H44_.out)).mono ?_)
      rintro e w63 ⟨rfl, hb9⟩
      refine hK.out _ _ ⟨BB.trans (hb9.mono (by omega)), Nat.le_trans zz hb9.size, k53_.below hb9 (by first | omega | (simp; omega) | simp), k54_.below hb9 (by first | omega | (simp; omega) | simp), k55_.below hb9 (by first | omega | (simp; omega) | simp), (hb9.cell (p := ⟨w1.heap.size, 0, none⟩) (by first | omega | (simp; omega) | simp)).trans k56_, (hb9.cell (p := ⟨w1.heap.size, 1, none⟩) (by first | omega | (simp; omega) | simp)).trans k57_, Nat.le_trans zw hb9.size⟩ (fun hHeld => ?_)
      clear hb9 zw k57_ k56_ k55_ k54_ k53_ zz BB
      clear hK K
      try simp only [Act.put, List.setIfInBounds_toArray, List.set_cons_zero, List.set_cons_succ]
      refine wpAnyH_take (i := 4) (oi := ?oi17) (v := ?vv17) ?hi17 ?hs17 ?hf17 ?ha17 ?hq17 ?hy17 hHeld ?hr17
      case hi17 => (simp only [List.getElem?_toArray, List.getElem?_cons_succ, List.getElem?_cons_zero]; exact rfl)
      case hs17 => kernel_rfl
      case hf17 => kernel_rfl
      case ha17 => kernel_rfl
      case hq17 => exact fun _ _ _ h => h
      case hy17 =>
        refine Or.inl ⟨by rfl, ?_⟩
        intro w' hSw
        try dsimp only at hSw
        go_simp
        first | done | with_reducible rfl
      simp only [Act.put, List.setIfInBounds_toArray, List.set_cons_succ, List.set_cons_zero]
      refine wpAnyH_take (i := 5) (oi := ?oi18) (v := ?vv18) ?hi18 ?hs18 ?hf18 ?ha18 ?hq18 ?hy18 hHeld ?hr18
      case hi18 => (simp only [List.getElem?_toArray, List.getElem?_cons_succ, List.getElem?_cons_zero]; exact rfl)
      case hs18 => kernel_rfl
      case hf18 => kernel_rfl
      case ha18 => kernel_rfl
      case hq18 => exact fun _ _ _ h => h
      case hy18 =>
        refine Or.inl ⟨by rfl, ?_⟩
        intro w' hSw
        try dsimp only at hSw
        go_simp
        first | done | with_reducible rfl
      simp only [Act.put, List.setIfInBounds_toArray, List.set_cons_succ, List.set_cons_zero]
      refine wpAnyH_take (i := 6) (oi := ?oi19) (v := ?vv19) ?hi19 ?hs19 ?hf19 ?ha19 ?hq19 ?hy19 hHeld ?hr19
      case hi19 => (simp only [List.getElem?_toArray, List.getElem?_cons_succ, List.getElem?_cons_zero]; exact rfl)
      case hs19 => kernel_rfl
      case hf19 => kernel_rfl
      case ha19 => kernel_rfl
      case hq19 => exact fun _ _ _ h => h
      case hy19 =>
        refine Or.inl ⟨by rfl, ?_⟩
        intro w' hSw
        try dsimp only at hSw
        go_simp
        first | done | with_reducible rfl
      simp only [Act.put, List.setIfInBounds_toArray, List.set_cons_succ, List.set_cons_zero]
      refine wpAnyH_take (i := 7) (oi := ?oi20) (v := ?vv20) ?hi20 ?hs20 ?hf20 ?ha20 ?hq20 ?hy20 hHeld ?hr20
      case hi20 => (simp only [List.getElem?_toArray, List.getElem?_cons_succ, List.getElem?_cons_zero]; exact rfl)
      case hs20 => kernel_rfl
      case hf20 => kernel_rfl
      case ha20 => kernel_rfl
      case hq20 => exact fun _ _ _ h => h
      case hy20 =>
        refine Or.inl ⟨by rfl, ?_⟩
        intro w' hSw
        try dsimp only at hSw
        go_simp
        first | done | with_reducible rfl
      simp only [Act.put, List.setIfInBounds_toArray, List.set_cons_succ, List.set_cons_zero]
      refine wpAnyH_ready (rs := [8]) (by kernel_rfl) (by simp) ?_
      refine AllReadyH.cons rfl (fun K hK => ?_) AllReadyH.nil
      go_simp
      go_at_call 23
      obtain ⟨BB, zz, k53_, k54_, k55_, k56_, k57_, zw⟩ := hHeld
      (with_reducible refine (implEvenAwards_yes E A3_ c4_ xs _ _ _ k54_.ints (by first | omega | (simp; omega) | simp) HOK.out).mono ?_)
      rintro e w64 ⟨A45_, c46_, rfl, ho47_, hb9⟩
      have ho47_ := ho47_.more (lo' := w36.heap.size) (by omega) (Nat.le_refl _)
      refine hK.out _ _ ⟨BB.trans (hb9.mono (by omega)), Nat.le_trans zz hb9.size, k53_.below hb9 (by first | omega | (simp; omega) | simp), k54_.below hb9 (by first | omega | (simp; omega) | simp), k55_.below hb9 (by first | omega | (simp; omega) | simp), (hb9.cell (p := ⟨w1.heap.size, 0, none⟩) (by first | omega | (simp; omega) | simp)).trans k56_, (hb9.cell (p := ⟨w1.heap.size, 1, none⟩) (by first | omega | (simp; omega) | simp)).trans k57_, Nat.le_trans zw hb9.size⟩ (fun hHeld => ?_)
      clear hb9 zw k57_ k56_ k55_ k54_ k53_ zz BB
      clear hK K
      try simp only [Act.put, List.setIfInBounds_toArray, List.set_cons_zero, List.set_cons_succ]
      refine wpAnyH_ready (rs := [9]) (by kernel_rfl) (by simp) ?_
      refine AllReadyH.cons rfl (fun K hK => ?_) AllReadyH.nil
      go_simp
      go_at_call 19
      obtain ⟨BB, zz, k53_, k54_, k55_, k56_, k57_, zw⟩ := hHeld
      (with_reducible refine (below_is (implCoreOk_any E A3_ c4_ xs A45_ c46_ (evenAw E xs) _ _ _ k54_.ints (by first | omega | (simp; omega) | simp) (by omega) _ _ ho47_.ints (by first | omega | (simp; omega) | simp) (by rw [evenAw_length]; omega)) (congrArg Value.bool H48_.out)).mono ?_)
      rintro e w65 ⟨rfl, hb9⟩
      have ho47_ := ho47_.below hb9 (Nat.le_refl _)
      have ho47_ := ho47_.more (Nat.le_refl _) hb9.size
      refine hK.out _ _ ⟨BB.trans (hb9.mono (by omega)), Nat.le_trans zz hb9.size, k53_.below hb9 (by first | omega | (simp; omega) | simp), k54_.below hb9 (by first | omega | (simp; omega) | simp), k55_.below hb9 (by first | omega | (simp; omega) | simp), (hb9.cell (p := ⟨w1.heap.size, 0, none⟩) (by first | omega | (simp; omega) | simp)).trans k56_, (hb9.cell (p := ⟨w1.heap.size, 1, none⟩) (by first | omega | (simp; omega) | simp)).trans k57_, Nat.le_trans zw hb9.size⟩ (fun hHeld => ?_)
      clear hb9 zw k57_ k56_ k55_ k54_ k53_ zz BB
      clear hK K
      try simp only [Act.put, List.setIfInBounds_toArray, List.set_cons_zero, List.set_cons_succ]
      refine wpAnyH_take (i := 10) (oi := ?oi21) (v := ?vv21) ?hi21 ?hs21 ?hf21 ?ha21 ?hq21 ?hy21 hHeld ?hr21
      case hi21 => (simp only [List.getElem?_toArray, List.getElem?_cons_succ, List.getElem?_cons_zero]; exact rfl)
      case hs21 => kernel_rfl
      case hf21 => kernel_rfl
      case ha21 => kernel_rfl
      case hq21 => exact fun _ _ _ h => h
      case hy21 =>
        refine Or.inl ⟨by rfl, ?_⟩
        intro w' hSw
        try dsimp only at hSw
        go_simp
        first | done | with_reducible rfl
      simp only [Act.put, List.setIfInBounds_toArray, List.set_cons_succ, List.set_cons_zero]
      refine wpAnyH_take (i := 11) (oi := ?oi22) (v := ?vv22) ?hi22 ?hs22 ?hf22 ?ha22 ?hq22 ?hy22 hHeld ?hr22
      case hi22 => (simp only [List.getElem?_toArray, List.getElem?_cons_succ, List.getElem?_cons_zero]; exact rfl)
      case hs22 => kernel_rfl
      case hf22 => kernel_rfl
      case ha22 => kernel_rfl
      case hq22 => exact fun _ _ _ h => h
      case hy22 =>
        refine Or.inl ⟨by rfl, ?_⟩
        intro w' hSw
        try dsimp only at hSw
        go_simp
        first | done | with_reducible rfl
      simp only [Act.put, List.setIfInBounds_toArray, List.set_cons_succ, List.set_cons_zero]
      refine wpAnyH_take (i := 12) (oi := ?oi23) (v := ?vv23) ?hi23 ?hs23 ?hf23 ?ha23 ?hq23 ?hy23 hHeld ?hr23
      case hi23 => (simp only [List.getElem?_toArray, List.getElem?_cons_succ, List.getElem?_cons_zero]; exact rfl)
      case hs23 => kernel_rfl
      case hf23 => kernel_rfl
      case ha23 => kernel_rfl
      case hq23 => exact fun _ _ _ h => h
      case hy23 =>
        refine Or.inl ⟨by rfl, ?_⟩
        intro w' hSw
        try dsimp only at hSw
        go_simp
        first | done | with_reducible rfl
      simp only [Act.put, List.setIfInBounds_toArray, List.set_cons_succ, List.set_cons_zero]
      refine wpAnyH_take (i := 13) (oi := ?oi24) (v := ?vv24) ?hi24 ?hs24 ?hf24 ?ha24 ?hq24 ?hy24 hHeld ?hr24
      case hi24 => (simp only [List.getElem?_toArray, List.getElem?_cons_succ, List.getElem?_cons_zero]; exact rfl)
      case hs24 => kernel_rfl
      case hf24 => kernel_rfl
      case ha24 => kernel_rfl
      case hq24 => exact fun _ _ _ h => h
      case hy24 =>
        refine Or.inl ⟨by rfl, ?_⟩
        intro w' hSw
        try dsimp only at hSw
        go_simp
        first | done | with_reducible rfl
      simp only [Act.put, List.setIfInBounds_toArray, List.set_cons_succ, List.set_cons_zero]
      refine wpAnyH_ready (rs := [14]) (by kernel_rfl) (by simp) ?_
      refine AllReadyH.cons rfl (fun K hK => ?_) AllReadyH.nil
      go_simp
      go_at_call 24
      obtain ⟨BB, zz, k53_, k54_, k55_, k56_, k57_, zw⟩ := hHeld
      (with_reducible refine (implHalfAwards_yes E A3_ c4_ xs _ _ _ k54_.ints (by first | omega | (simp; omega) | simp) HOK.out).mono ?_)
      rintro e w66 ⟨A49_, c50_, rfl, ho51_, hb9⟩
      have ho51_ := ho51_.more (lo' := w36.heap.size) (by omega) (Nat.le_refl _)
      have ho47_ := ho47_.below hb9 (Nat.le_refl _)
      have ho47_ := ho47_.more (Nat.le_refl _) hb9.size
      refine hK.out _ _ ⟨BB.trans (hb9.mono (by omega)), Nat.le_trans zz hb9.size, k53_.below hb9 (by first | omega | (simp; omega) | simp), k54_.below hb9 (by first | omega | (simp; omega) | simp), k55_.below hb9 (by first | omega | (simp; omega) | simp), (hb9.cell (p := ⟨w1.heap.size, 0, none⟩) (by first | omega | (simp; omega) | simp)).trans k56_, (hb9.cell (p := ⟨w1.heap.size, 1, none⟩) (by first | omega | (simp; omega) | simp)).trans k57_, Nat.le_trans zw hb9.size⟩ (fun hHeld => ?_)
      clear hb9 zw k57_ k56_ k55_ k54_ k53_ zz BB
      clear hK K
      try simp only [Act.put, List.setIfInBounds_toArray, List.set_cons_zero, List.set_cons_succ]
      refine wpAnyH_ready (rs := [15]) (by kernel_rfl) (by simp) ?_
      refine AllReadyH.cons rfl (fun K hK => ?_) AllReadyH.nil
      go_simp
      go_at_call 19
      obtain ⟨BB, zz, k53_, k54_, k55_, k56_, k57_, zw⟩ := hHeld
      (with_reducible refine (below_is (implCoreOk_any E A3_ c4_ xs A49_ c50_ (halfAw E xs) _ _ _ k54_.ints (by first | omega | (simp; omega) | simp) (by omega) _ _ ho51_.ints (by first | omega | (simp; omega) | simp) (by rw [halfAw_length]; omega)) (congrArg Value.bool H52_.out)).mono ?_)
      rintro e w67 ⟨rfl, hb9⟩
      have ho47_ := ho47_.below hb9 (Nat.le_refl _)
      have ho47_ := ho47_.more (Nat.le_refl _) hb9.size
      have ho51_ := ho51_.below hb9 (Nat.le_refl _)
      have ho51_ := ho51_.more (Nat.le_refl _) hb9.size
      refine hK.out _ _ ⟨BB.trans (hb9.mono (by omega)), Nat.le_trans zz hb9.size, k53_.below hb9 (by first | omega | (simp; omega) | simp), k54_.below hb9 (by first | omega | (simp; omega) | simp), k55_.below hb9 (by first | omega | (simp; omega) | simp), (hb9.cell (p := ⟨w1.heap.size, 0, none⟩) (by first | omega | (simp; omega) | simp)).trans k56_, (hb9.cell (p := ⟨w1.heap.size, 1, none⟩) (by first | omega | (simp; omega) | simp)).trans k57_, Nat.le_trans zw hb9.size⟩ (fun hHeld => ?_)
      clear hb9 zw k57_ k56_ k55_ k54_ k53_ zz BB
      clear hK K
      try simp only [Act.put, List.setIfInBounds_toArray, List.set_cons_zero, List.set_cons_succ]
      refine wpAnyH_take (i := 16) (oi := ?oi25) (v := ?vv25) ?hi25 ?hs25 ?hf25 ?ha25 ?hq25 ?hy25 hHeld ?hr25
      case hi25 => (simp only [List.getElem?_toArray, List.getElem?_cons_succ, List.getElem?_cons_zero]; exact rfl)
      case hs25 => kernel_rfl
      case hf25 => kernel_rfl
      case ha25 => kernel_rfl
      case hq25 => exact fun _ _ _ h => h
      case hy25 =>
        refine Or.inl ⟨by rfl, ?_⟩
        intro w' hSw
        try dsimp only at hSw
        go_simp
        first | done | with_reducible rfl
      simp only [Act.put, List.setIfInBounds_toArray, List.set_cons_succ, List.set_cons_zero]
      refine wpAnyH_take (i := 17) (oi := ?oi26) (v := ?vv26) ?hi26 ?hs26 ?hf26 ?ha26 ?hq26 ?hy26 hHeld ?hr26
      case hi26 => (simp only [List.getElem?_toArray, List.getElem?_cons_succ, List.getElem?_cons_zero]; exact rfl)
      case hs26 => kernel_rfl
      case hf26 => kernel_rfl
      case ha26 => kernel_rfl
      case hq26 => exact fun _ _ _ h => h
      case hy26 =>
        refine Or.inl ⟨by rfl, ?_⟩
        intro w' hSw
        try dsimp only at hSw
        go_simp
        first | done | with_reducible rfl
      simp only [Act.put, List.setIfInBounds_toArray, List.set_cons_succ, List.set_cons_zero]
      refine wpAnyH_done (by kernel_rfl) ?_ _
      obtain ⟨BB, zz, k53_, k54_, k55_, k56_, k57_, zw⟩ := hHeld
      have k68_ := BB
      clear BB
      have k69_ := zz
      clear zz
      have k70_ := zw
      clear zw
      go_wp2
      go_ret
      exact ⟨ret_bool rfl, k68_⟩
    · have H35_ : Hid (caseOkB E xs = false) := by show _ = _; simpa using h35_
      clear h35_
      go_wp2_with fail
      refine (specCaseOk_any E A3_ c4_ xs _ _ _ o29_.ints (by first | omega | (simp; omega) | simp) (by omega)).mono ?_
      rintro e w36 ⟨he, hb36_⟩
      rw [H35_.out] at he
      subst he
      have o37_ := o28_.below hb36_ (by first | omega | (simp; omega) | simp)
      have o38_ := o29_.below hb36_ (by first | omega | (simp; omega) | simp)
      have o39_ := o30_.below hb36_ (by first | omega | (simp; omega) | simp)
      have o40_ := (hb36_.cell (p := ⟨w1.heap.size, 0, none⟩) (by first | omega | (simp; omega) | simp)).trans o31_
      have o41_ := (hb36_.cell (p := ⟨w1.heap.size, 1, none⟩) (by first | omega | (simp; omega) | simp)).trans o32_
      have z42_ := hb36_.size
      have B43_ := B34_.trans (hb36_.mono (by first | omega | (simp; omega) | simp))
      clear hb36_
      go_wp2_with fail
      refine (alive_any _).mono ?_
      rintro e w44 ⟨rfl, hb44_⟩
      have o45_ := o37_.below hb44_ (by first | omega | (simp; omega) | simp)
      have o46_ := o38_.below hb44_ (by first | omega | (simp; omega) | simp)
      have o47_ := o39_.below hb44_ (by first | omega | (simp; omega) | simp)
      have o48_ := (hb44_.cell (p := ⟨w1.heap.size, 0, none⟩) (by first | omega | (simp; omega) | simp)).trans o40_
      have o49_ := (hb44_.cell (p := ⟨w1.heap.size, 1, none⟩) (by first | omega | (simp; omega) | simp)).trans o41_
      have z50_ := hb44_.size
      have B51_ := B43_.trans (hb44_.mono (by first | omega | (simp; omega) | simp))
      clear hb44_
      go_wp2
      go_ret
      exact ⟨ret_bool rfl, B51_⟩

set_option maxRecDepth 10000 in
set_option maxHeartbeats 400000 in
theorem fnCoreOk_big (A0 : Option Addr) (c0 : Nat) (bs : List Int) (w : World) (hl : ¬ bs.length ≤ 1048576) (hm : bs.length ≤ 9223372036854775807) :
    Calls Try.prog 4 #[.slice A0 bs.length c0] w fun e w' => e = .returned (.bool true) ∧ Below w.heap.size w w' := by
  go_enter Try.func4, Try.ntmps4
  go_wp2
  go_ret
  exact ⟨rfl, Below.refl _ _⟩

theorem fnCoreOk_all (A0 : Option Addr) (c0 : Nat) (bs : List Int) (w : World) (h0 : Bytes w w.heap.size A0 bs) (hm : bs.length ≤ 9223372036854775807) (hc0 : bs.length ≤ c0) :
    Calls Try.prog 4 #[.slice A0 bs.length c0] w fun e w' => e = .returned (.bool true) ∧ Below w.heap.size w w' := by
  by_cases hl : bs.length ≤ 1048576
  · exact fnCoreOk_walk A0 c0 bs w h0 hl hc0
  · exact fnCoreOk_big A0 c0 bs w hl hm

end Go.Proofs.Ythhcjomfpjopdaa
