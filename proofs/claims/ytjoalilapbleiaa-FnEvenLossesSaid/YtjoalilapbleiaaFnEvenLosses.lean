/-
  The law of even losses returns true for every two codes, and writes nothing that was there. No condition.
-/
import Derived.Test.YtjoalilapbleiaaDrawE
import Derived.Test.YtjoalilapbleiaaDrawL
import Derived.Test.YtjoalilapbleiaaLawLeaf
import Derived.Test.YtjoalilapbleiaaEvenLaw2
import Derived.Test.YtjoalilapbleiaaSpecFns
import Derived.Test.YtjoalilapbleiaaMore2
import Derived.Test.YtjoalilapbleiaaAwLaw
import Derived.Test.YtjoalilapbleiaaOtherCase
import Derived.Deep.RegionHeld3
namespace Go.Proofs.Ytjoalilapbleiaa
open Go.RowKit

set_option maxRecDepth 10000 in
set_option maxHeartbeats 4000000 in
theorem fnEvenLosses_walk (A0 : Option Addr) (c0 : Nat) (bs : List Int) (B0 : Option Addr) (d0 : Nat) (ds : List Int) (w : World) (h0 : Bytes w w.heap.size A0 bs) (h1 : Bytes w w.heap.size B0 ds) (hl : bs.length ≤ 1048576) (hl1 : ds.length ≤ 1048576) (hc0 : bs.length ≤ c0) (hd0 : ds.length ≤ d0) :
    Calls Try.prog 5 #[.slice A0 bs.length c0, .slice B0 ds.length d0] w fun e w' => e = .returned (.bool true) ∧ Below w.heap.size w w' := by
  have hlm : bs.length ≤ 9223372036854775807 := by omega
  have hlm1 : ds.length ≤ 9223372036854775807 := by omega
  go_enter Try.func5, Try.ntmps5
  go_wp2_with fail
  refine (drawEvenLosses_any A0 c0 bs _ h0 hlm hc0).mono ?_
  rintro e w1 ⟨E, A1, c1, xs, hx5, rfl, ho1, hb1⟩
  have hz1 := hb1.size
  have B2 := (Below.refl w.heap.size w).trans (hb1.mono (by first | omega | (simp; omega) | simp))
  clear hb1
  have x3 := new2 w1 (.int .i64 E) (.slice A1 xs.length c1) 25
  have o4 := ho1.alloc (by omega) (.cells #[.int .i64 E, .slice A1 xs.length c1] 25)
  have B5 := B2.alloc (by omega) (.cells #[.int .i64 E, .slice A1 xs.length c1] 25)
  have hl5 : xs.length ≤ 1152921504606846976 := by omega
  obtain ⟨a6, a6'⟩ := x3
  by_cases hok : caseOkB E xs = true
  · have hok' := hok
    have HO := Lib.hid hok'
    have hbd := caseOk_bd hok'
    have hsm := caseOk_small hok'
    have HP := Lib.hid (other_ok hok')
    have HAW := Lib.hid (evenAw_aw HO.out)
    have HLW := Lib.hid (evenLo_aw HO.out)
    have HXW := Lib.hid (evenAw_aw HP.out)
    have hLr : (evenLo E xs).length ≤ 1152921504606846976 := by rw [evenLo_length]; omega
    have hLx : (evenAw (xs.sum - E) xs).length ≤ 1152921504606846976 := by rw [evenAw_length]; omega
    have hLa : (evenAw E xs).length ≤ 1152921504606846976 := by rw [evenAw_length]; omega
    have hb0 : (((evenLo E xs).length : Int) == 0) = false := beq_eq_false_iff_ne.2 (by rw [evenLo_length]; omega)
    clear hok hok'
    go_wp2_with fail
    refine (implEvenLosses_yes E A1 c1 xs _ _ _ o4.ints (by first | omega | (simp; omega) | simp) HO.out).mono ?_
    rintro e w2 ⟨A2, c2, rfl, ho2, hb2⟩
    have hp2 : Own w2 (w1.heap.size + 1) w2.heap.size A2 (evenLo E xs) := ho2.more (by simp) (Nat.le_refl _)
    obtain ⟨a7, a7'⟩ := keep2 hb2 ⟨a6, a6'⟩ (by first | omega | (simp; omega) | simp)
    have o8 := o4.below hb2 (by first | omega | (simp; omega) | simp)
    have hz9 := hb2.size
    simp at hz9
    have B10 := B5.trans (hb2.mono (by first | omega | (simp; omega) | simp))
    clear hb2
    have z11 : w1.heap.size < w2.heap.size := by omega
    go_wp2_with fail
    refine (specEvenLosses_yes E A1 c1 xs _ _ _ o8.ints (by first | omega | (simp; omega) | simp) HO.out).mono ?_
    rintro e w3 ⟨A3, c3, rfl, ho3, hb3⟩
    obtain ⟨a12, a12'⟩ := keep2 hb3 ⟨a7, a7'⟩ (by first | omega | (simp; omega) | simp)
    have o13 := o8.below hb3 (by first | omega | (simp; omega) | simp)
    have o14 := hp2.below hb3 (by first | omega | (simp; omega) | simp)
    have hz15 := hb3.size
    have B16 := B10.trans (hb3.mono (by first | omega | (simp; omega) | simp))
    clear hb3
    have z17 : w1.heap.size < w3.heap.size := by omega
    go_wp2_with fail
    refine (sameInts_below A2 A3 c2 c3 (evenLo E xs) _ _ _ _ _ o14.ints ho3.ints hLr).mono ?_
    rintro e w4 ⟨rfl, hb4⟩
    obtain ⟨a18, a18'⟩ := keep2 hb4 ⟨a12, a12'⟩ (by first | omega | (simp; omega) | simp)
    have o19 := o13.below hb4 (by first | omega | (simp; omega) | simp)
    have o20 := o14.below hb4 (by first | omega | (simp; omega) | simp)
    have o21 := ho3.below hb4 (by first | omega | (simp; omega) | simp)
    have hz22 := hb4.size
    have B23 := B16.trans (hb4.mono (by first | omega | (simp; omega) | simp))
    clear hb4
    have z24 : w1.heap.size < w4.heap.size := by omega
    go_wp2_with fail
    refine (implOtherCase_yes E A1 c1 xs _ _ _ o19.ints (by first | omega | (simp; omega) | simp) HO.out).mono ?_
    rintro e w5 ⟨A5, c5, rfl, ho5, hb5⟩
    obtain ⟨a25, a25'⟩ := keep2 hb5 ⟨a18, a18'⟩ (by first | omega | (simp; omega) | simp)
    have o26 := o19.below hb5 (by first | omega | (simp; omega) | simp)
    have o27 := o20.below hb5 (by first | omega | (simp; omega) | simp)
    have o28 := o21.below hb5 (by first | omega | (simp; omega) | simp)
    have hz29 := hb5.size
    have B30 := B23.trans (hb5.mono (by first | omega | (simp; omega) | simp))
    clear hb5
    have z31 : w1.heap.size < w5.heap.size := by omega
    have x32 := new2 w5 (.int .i64 (xs.sum - E)) (.slice A5 xs.length c5) 25
    have q33 := keep2 ((Below.refl w5.heap.size w5).alloc (Nat.le_refl _) (.cells #[.int .i64 (xs.sum - E), .slice A5 xs.length c5] 25)) ⟨a25, a25'⟩ (by omega)
    have o34 := o26.alloc (by omega) (.cells #[.int .i64 (xs.sum - E), .slice A5 xs.length c5] 25)
    have o35 := o27.alloc (by omega) (.cells #[.int .i64 (xs.sum - E), .slice A5 xs.length c5] 25)
    have o36 := o28.alloc (by omega) (.cells #[.int .i64 (xs.sum - E), .slice A5 xs.length c5] 25)
    have o37 := ho5.alloc (by omega) (.cells #[.int .i64 (xs.sum - E), .slice A5 xs.length c5] 25)
    have B38 := B30.alloc (by omega) (.cells #[.int .i64 (xs.sum - E), .slice A5 xs.length c5] 25)
    obtain ⟨a39, a39'⟩ := q33
    obtain ⟨a40, a40'⟩ := x32
    go_wp2_with fail
    refine (implLosses_even E A1 c1 xs A2 c2 _ _ _ o34.ints (by first | omega | (simp; omega) | simp) hl5 _ _ o35.ints (by first | omega | (simp; omega) | simp) HO.out).mono ?_
    rintro e w6 ⟨A6, c6, rfl, ho6, hb6⟩
    have hp6 : Own w6 (w5.heap.size + 1) w6.heap.size A6 (evenAw (xs.sum - E) xs) := ho6.more (by simp) (Nat.le_refl _)
    obtain ⟨a41, a41'⟩ := keep2 hb6 ⟨a39, a39'⟩ (by first | omega | (simp; omega) | simp)
    obtain ⟨a42, a42'⟩ := keep2 hb6 ⟨a40, a40'⟩ (by first | omega | (simp; omega) | simp)
    have o43 := o34.below hb6 (by first | omega | (simp; omega) | simp)
    have o44 := o35.below hb6 (by first | omega | (simp; omega) | simp)
    have o45 := o36.below hb6 (by first | omega | (simp; omega) | simp)
    have o46 := o37.below hb6 (by first | omega | (simp; omega) | simp)
    have hz47 := hb6.size
    simp at hz47
    have B48 := B38.trans (hb6.mono (by first | omega | (simp; omega) | simp))
    clear hb6
    have z49 : w1.heap.size < w6.heap.size := by omega
    have z50 : w5.heap.size < w6.heap.size := by omega
    go_wp2_with fail
    refine (drawLossesOf_any B0 d0 ds _ ((h1.below B48 (Nat.le_refl _)).more (hi' := w6.heap.size) (by first | omega | (simp; omega) | simp)) hlm1 hd0).mono ?_
    rintro e w7 ⟨E2, A7, c7, D7, d7, xs2, ys, hx52, hy5, hyb, rfl, ho7, hq7, hb7⟩
    obtain ⟨a51, a51'⟩ := keep2 hb7 ⟨a41, a41'⟩ (by first | omega | (simp; omega) | simp)
    obtain ⟨a52, a52'⟩ := keep2 hb7 ⟨a42, a42'⟩ (by first | omega | (simp; omega) | simp)
    have o53 := o43.below hb7 (by first | omega | (simp; omega) | simp)
    have o54 := o44.below hb7 (by first | omega | (simp; omega) | simp)
    have o55 := o45.below hb7 (by first | omega | (simp; omega) | simp)
    have o56 := o46.below hb7 (by first | omega | (simp; omega) | simp)
    have o57 := hp6.below hb7 (by first | omega | (simp; omega) | simp)
    have hz58 := hb7.size
    have B59 := B48.trans (hb7.mono (by first | omega | (simp; omega) | simp))
    clear hb7
    have z60 : w1.heap.size < w7.heap.size := by omega
    have z61 : w5.heap.size < w7.heap.size := by omega
    have x62 := new2 w7 (.int .i64 E2) (.slice A7 xs2.length c7) 25
    have q63 := keep2 ((Below.refl w7.heap.size w7).alloc (Nat.le_refl _) (.cells #[.int .i64 E2, .slice A7 xs2.length c7] 25)) ⟨a51, a51'⟩ (by omega)
    have q64 := keep2 ((Below.refl w7.heap.size w7).alloc (Nat.le_refl _) (.cells #[.int .i64 E2, .slice A7 xs2.length c7] 25)) ⟨a52, a52'⟩ (by omega)
    have o65 := o53.alloc (by omega) (.cells #[.int .i64 E2, .slice A7 xs2.length c7] 25)
    have o66 := o54.alloc (by omega) (.cells #[.int .i64 E2, .slice A7 xs2.length c7] 25)
    have o67 := o55.alloc (by omega) (.cells #[.int .i64 E2, .slice A7 xs2.length c7] 25)
    have o68 := o56.alloc (by omega) (.cells #[.int .i64 E2, .slice A7 xs2.length c7] 25)
    have o69 := o57.alloc (by omega) (.cells #[.int .i64 E2, .slice A7 xs2.length c7] 25)
    have o70 := hq7.alloc (by omega) (.cells #[.int .i64 E2, .slice A7 xs2.length c7] 25)
    have B71 := B59.alloc (by omega) (.cells #[.int .i64 E2, .slice A7 xs2.length c7] 25)
    obtain ⟨a72, a72'⟩ := q63
    obtain ⟨a73, a73'⟩ := q64
    obtain ⟨a74, a74'⟩ := x62
    by_cases haw : awardsB E xs ys = true
    · have HAY := Lib.hid haw
      clear haw
      have hYl : ys.length ≤ 1152921504606846976 := by omega
      go_wp2_with fail
      have hWW : w.heap.size ≤ (w7.alloc (.cells #[.int .i64 E2, .slice A7 xs2.length c7] 25)).heap.size := by first | omega | (simp; omega) | simp
      have g_c : w1.heap.size < (w7.alloc (.cells #[.int .i64 E2, .slice A7 xs2.length c7] 25)).heap.size := by first | omega | (simp; omega) | simp
      have g_o : w5.heap.size < (w7.alloc (.cells #[.int .i64 E2, .slice A7 xs2.length c7] 25)).heap.size := by first | omega | (simp; omega) | simp
      have g_kc : w1.heap.size ≤ (w7.alloc (.cells #[.int .i64 E2, .slice A7 xs2.length c7] 25)).heap.size := by first | omega | (simp; omega) | simp
      have g_ko : w5.heap.size ≤ (w7.alloc (.cells #[.int .i64 E2, .slice A7 xs2.length c7] 25)).heap.size := by first | omega | (simp; omega) | simp
      have g_kl : w6.heap.size ≤ (w7.alloc (.cells #[.int .i64 E2, .slice A7 xs2.length c7] 25)).heap.size := by first | omega | (simp; omega) | simp
      have g_kd : w7.heap.size ≤ (w7.alloc (.cells #[.int .i64 E2, .slice A7 xs2.length c7] 25)).heap.size := by first | omega | (simp; omega) | simp
      have g_kr : w2.heap.size ≤ (w7.alloc (.cells #[.int .i64 E2, .slice A7 xs2.length c7] 25)).heap.size := by first | omega | (simp; omega) | simp
      refine wp_region_held_drew (S := (fun w' : World => w'.cell? ⟨w1.heap.size, 0, none⟩ = some (.int .i64 E) ∧ w'.cell? ⟨w1.heap.size, 1, none⟩ = some (.slice A1 xs.length c1) ∧ w'.cell? ⟨w5.heap.size, 0, none⟩ = some (.int .i64 (xs.sum - E)) ∧ w'.cell? ⟨w5.heap.size, 1, none⟩ = some (.slice A5 xs.length c5) ∧ Ints w' (w.heap.size) (w1.heap.size) (A1) (xs) ∧ Ints w' (w4.heap.size) (w5.heap.size) (A5) (xs) ∧ Ints w' (w5.heap.size + 1) (w6.heap.size) (A6) (evenAw (xs.sum - E) xs) ∧ Ints w' (w6.heap.size) (w7.heap.size) (D7) (ys) ∧ Ints w' (w1.heap.size + 1) (w2.heap.size) (A2) (evenLo E xs) ∧ (w7.alloc (.cells #[.int .i64 E2, .slice A7 xs2.length c7] 25)).heap.size ≤ w'.heap.size ∧ Below w.heap.size w w')) (by kernel_rfl) ⟨a72, a72', a73, a73', o65.ints, o68.ints, o69.ints, o70.ints, o66.ints, Nat.le_refl _, B71.drew⟩ (fun hHeld => ?_)
      refine wpAnyH_take (i := 0) (oi := ?oi1) (v := ?vv1) ?hi1 ?hs1 ?hf1 ?ha1 ?hq1 ?hy1 hHeld ?hr1
      case hi1 => (simp only [List.getElem?_toArray, List.getElem?_cons_zero]; exact rfl)
      case hs1 => kernel_rfl
      case hf1 => kernel_rfl
      case ha1 => kernel_rfl
      case hq1 => exact fun _ _ _ h => h
      case hy1 =>
        refine Or.inl ⟨by rfl, ?_⟩
        intro w' hSw
        try dsimp only at hSw
        go_simp
        first | done | with_reducible rfl
      simp only [Act.put, List.setIfInBounds_toArray, List.set_cons_succ, List.set_cons_zero]
      refine wpAnyH_take (i := 1) (oi := ?oi2) (v := ?vv2) ?hi2 ?hs2 ?hf2 ?ha2 ?hq2 ?hy2 hHeld ?hr2
      case hi2 => (simp only [List.getElem?_toArray, List.getElem?_cons_succ, List.getElem?_cons_zero]; exact rfl)
      case hs2 => kernel_rfl
      case hf2 => kernel_rfl
      case ha2 => kernel_rfl
      case hq2 => exact fun _ _ _ h => h
      case hy2 =>
        refine Or.inl ⟨by rfl, ?_⟩
        intro w' hSw
        try dsimp only at hSw
        go_simp
        first | done | with_reducible rfl
      simp only [Act.put, List.setIfInBounds_toArray, List.set_cons_succ, List.set_cons_zero]
      refine wpAnyH_take (i := 2) (oi := ?oi3) (v := ?vv3) ?hi3 ?hs3 ?hf3 ?ha3 ?hq3 ?hy3 hHeld ?hr3
      case hi3 => (simp only [List.getElem?_toArray, List.getElem?_cons_succ, List.getElem?_cons_zero]; exact rfl)
      case hs3 => kernel_rfl
      case hf3 => kernel_rfl
      case ha3 => kernel_rfl
      case hq3 => exact fun _ _ _ h => h
      case hy3 =>
        refine Or.inl ⟨by rfl, ?_⟩
        intro w' hSw
        try dsimp only at hSw
        go_simp
        first | done | with_reducible rfl
      simp only [Act.put, List.setIfInBounds_toArray, List.set_cons_succ, List.set_cons_zero]
      refine wpAnyH_take (i := 3) (oi := ?oi4) (v := ?vv4) ?hi4 ?hs4 ?hf4 ?ha4 ?hq4 ?hy4 hHeld ?hr4
      case hi4 => (simp only [List.getElem?_toArray, List.getElem?_cons_succ, List.getElem?_cons_zero]; exact rfl)
      case hs4 => kernel_rfl
      case hf4 => kernel_rfl
      case ha4 => kernel_rfl
      case hq4 => exact fun _ _ _ h => h
      case hy4 =>
        refine Or.inl ⟨by rfl, ?_⟩
        intro w' hSw
        try dsimp only at hSw
        go_simp
        first | done | with_reducible rfl
      simp only [Act.put, List.setIfInBounds_toArray, List.set_cons_succ, List.set_cons_zero]
      refine wpAnyH_ready (rs := [4]) (by kernel_rfl) (by simp) ?_
      refine AllReadyH.cons rfl (fun K hK => ?_) AllReadyH.nil
      go_simp
      go_at_call 21
      obtain ⟨y0, y1, y2, y3, kc, ko, kl, kd, kr, zz, BB⟩ := hHeld
      (with_reducible refine (implAwardsOk_is E A1 c1 xs A2 c2 (evenLo E xs) _ _ _ kc (by omega) hl5 _ _ kr (by omega) hLr ((awardsB_iff _ _ _).2 HLW.out)).mono ?_)
      rintro e w8_ ⟨rfl, hb9⟩
      refine hK.out _ _ ⟨(keep2 hb9 ⟨y0, y1⟩ (by omega)).1, (keep2 hb9 ⟨y0, y1⟩ (by omega)).2, (keep2 hb9 ⟨y2, y3⟩ (by omega)).1, (keep2 hb9 ⟨y2, y3⟩ (by omega)).2, kc.below hb9 (by omega), ko.below hb9 (by omega), kl.below hb9 (by omega), kd.below hb9 (by omega), kr.below hb9 (by omega), Nat.le_trans zz hb9.size, BB.trans (hb9.mono (by omega))⟩ (fun hHeld => ?_)
      clear hb9 BB zz kr kd kl ko kc y3 y2 y1 y0
      clear hK K
      try simp only [Act.put, List.setIfInBounds_toArray, List.set_cons_zero, List.set_cons_succ]
      refine wpAnyH_take (i := 5) (oi := ?oi5) (v := ?vv5) ?hi5 ?hs5 ?hf5 ?ha5 ?hq5 ?hy5 hHeld ?hr5
      case hi5 => (simp only [List.getElem?_toArray, List.getElem?_cons_succ, List.getElem?_cons_zero]; exact rfl)
      case hs5 => kernel_rfl
      case hf5 => kernel_rfl
      case ha5 => kernel_rfl
      case hq5 => exact fun _ _ _ h => h
      case hy5 =>
        refine Or.inl ⟨by rfl, ?_⟩
        intro w' hSw
        try dsimp only at hSw
        go_simp
        first | done | with_reducible rfl
      simp only [Act.put, List.setIfInBounds_toArray, List.set_cons_succ, List.set_cons_zero]
      refine wpAnyH_take (i := 6) (oi := ?oi6) (v := ?vv6) ?hi6 ?hs6 ?hf6 ?ha6 ?hq6 ?hy6 hHeld ?hr6
      case hi6 => (simp only [List.getElem?_toArray, List.getElem?_cons_succ, List.getElem?_cons_zero]; exact rfl)
      case hs6 => kernel_rfl
      case hf6 => kernel_rfl
      case ha6 => kernel_rfl
      case hq6 => exact fun _ _ _ h => h
      case hy6 =>
        refine Or.inl ⟨by rfl, ?_⟩
        intro w' hSw
        try dsimp only at hSw
        go_simp
        first | done | with_reducible rfl
      simp only [Act.put, List.setIfInBounds_toArray, List.set_cons_succ, List.set_cons_zero]
      refine wpAnyH_take (i := 7) (oi := ?oi7) (v := ?vv7) ?hi7 ?hs7 ?hf7 ?ha7 ?hq7 ?hy7 hHeld ?hr7
      case hi7 => (simp only [List.getElem?_toArray, List.getElem?_cons_succ, List.getElem?_cons_zero]; exact rfl)
      case hs7 => kernel_rfl
      case hf7 => kernel_rfl
      case ha7 => kernel_rfl
      case hq7 => exact fun _ _ _ h => h
      case hy7 =>
        refine Or.inl ⟨by rfl, ?_⟩
        intro w' hSw
        try dsimp only at hSw
        go_simp
        first | done | with_reducible rfl
      simp only [Act.put, List.setIfInBounds_toArray, List.set_cons_succ, List.set_cons_zero]
      refine wpAnyH_take (i := 8) (oi := ?oi8) (v := ?vv8) ?hi8 ?hs8 ?hf8 ?ha8 ?hq8 ?hy8 hHeld ?hr8
      case hi8 => (simp only [List.getElem?_toArray, List.getElem?_cons_succ, List.getElem?_cons_zero]; exact rfl)
      case hs8 => kernel_rfl
      case hf8 => kernel_rfl
      case ha8 => kernel_rfl
      case hq8 => exact fun _ _ _ h => h
      case hy8 =>
        refine Or.inl ⟨by rfl, ?_⟩
        intro w' hSw
        try dsimp only at hSw
        go_simp
        first | done | with_reducible rfl
      simp only [Act.put, List.setIfInBounds_toArray, List.set_cons_succ, List.set_cons_zero]
      refine wpAnyH_ready (rs := [9]) (by kernel_rfl) (by simp) ?_
      refine AllReadyH.cons rfl (fun K hK => ?_) AllReadyH.nil
      go_simp
      go_at_call 15
      obtain ⟨y0, y1, y2, y3, kc, ko, kl, kd, kr, zz, BB⟩ := hHeld
      (with_reducible refine (implEvenAwards_yes (xs.sum - E) A5 c5 xs _ _ _ ko (by omega) HP.out).mono ?_)
      rintro e w9_ ⟨Ae, ce, rfl, hoe, hb9⟩
      refine hK.out _ _ ⟨(keep2 hb9 ⟨y0, y1⟩ (by omega)).1, (keep2 hb9 ⟨y0, y1⟩ (by omega)).2, (keep2 hb9 ⟨y2, y3⟩ (by omega)).1, (keep2 hb9 ⟨y2, y3⟩ (by omega)).2, kc.below hb9 (by omega), ko.below hb9 (by omega), kl.below hb9 (by omega), kd.below hb9 (by omega), kr.below hb9 (by omega), Nat.le_trans zz hb9.size, BB.trans (hb9.mono (by omega))⟩ (fun hHeld => ?_)
      clear hb9 BB zz kr kd kl ko kc y3 y2 y1 y0
      clear hK K
      try simp only [Act.put, List.setIfInBounds_toArray, List.set_cons_zero, List.set_cons_succ]
      refine wpAnyH_ready (rs := [10]) (by kernel_rfl) (by simp) ?_
      refine AllReadyH.cons rfl (fun K hK => ?_) AllReadyH.nil
      go_simp
      go_at_call 13
      obtain ⟨y0, y1, y2, y3, kc, ko, kl, kd, kr, zz, BB⟩ := hHeld
      (with_reducible refine (sameInts_below A6 Ae c6 ce (evenAw (xs.sum - E) xs) _ _ _ _ _ kl hoe.ints hLx).mono ?_)
      rintro e w10_ ⟨rfl, hb9⟩
      have hoe := hoe.below hb9 (Nat.le_refl _)
      have hoe := hoe.more (Nat.le_refl _) hb9.size
      refine hK.out _ _ ⟨(keep2 hb9 ⟨y0, y1⟩ (by omega)).1, (keep2 hb9 ⟨y0, y1⟩ (by omega)).2, (keep2 hb9 ⟨y2, y3⟩ (by omega)).1, (keep2 hb9 ⟨y2, y3⟩ (by omega)).2, kc.below hb9 (by omega), ko.below hb9 (by omega), kl.below hb9 (by omega), kd.below hb9 (by omega), kr.below hb9 (by omega), Nat.le_trans zz hb9.size, BB.trans (hb9.mono (by omega))⟩ (fun hHeld => ?_)
      clear hb9 BB zz kr kd kl ko kc y3 y2 y1 y0
      clear hK K
      try simp only [Act.put, List.setIfInBounds_toArray, List.set_cons_zero, List.set_cons_succ]
      refine wpAnyH_take (i := 11) (oi := ?oi9) (v := ?vv9) ?hi9 ?hs9 ?hf9 ?ha9 ?hq9 ?hy9 hHeld ?hr9
      case hi9 => (simp only [List.getElem?_toArray, List.getElem?_cons_succ, List.getElem?_cons_zero]; exact rfl)
      case hs9 => kernel_rfl
      case hf9 => kernel_rfl
      case ha9 => kernel_rfl
      case hq9 => exact fun _ _ _ h => h
      case hy9 =>
        refine Or.inl ⟨by rfl, ?_⟩
        intro w' hSw
        try dsimp only at hSw
        go_simp
        first | done | with_reducible rfl
      simp only [Act.put, List.setIfInBounds_toArray, List.set_cons_succ, List.set_cons_zero]
      refine wpAnyH_take (i := 12) (oi := ?oi10) (v := ?vv10) ?hi10 ?hs10 ?hf10 ?ha10 ?hq10 ?hy10 hHeld ?hr10
      case hi10 => (simp only [List.getElem?_toArray, List.getElem?_cons_succ, List.getElem?_cons_zero]; exact rfl)
      case hs10 => kernel_rfl
      case hf10 => kernel_rfl
      case ha10 => kernel_rfl
      case hq10 => exact fun _ _ _ h => h
      case hy10 =>
        refine Or.inl ⟨by rfl, ?_⟩
        intro w' hSw
        try dsimp only at hSw
        go_simp
        first | done | with_reducible rfl
      simp only [Act.put, List.setIfInBounds_toArray, List.set_cons_succ, List.set_cons_zero]
      refine wpAnyH_take (i := 13) (oi := ?oi11) (v := ?vv11) ?hi11 ?hs11 ?hf11 ?ha11 ?hq11 ?hy11 hHeld ?hr11
      case hi11 => (simp only [List.getElem?_toArray, List.getElem?_cons_succ, List.getElem?_cons_zero]; exact rfl)
      case hs11 => kernel_rfl
      case hf11 => kernel_rfl
      case ha11 => kernel_rfl
      case hq11 => exact fun _ _ _ h => h
      case hy11 =>
        refine Or.inl ⟨by rfl, ?_⟩
        intro w' hSw
        try dsimp only at hSw
        go_simp
        first | done | with_reducible rfl
      simp only [Act.put, List.setIfInBounds_toArray, List.set_cons_succ, List.set_cons_zero]
      refine wpAnyH_take (i := 14) (oi := ?oi12) (v := ?vv12) ?hi12 ?hs12 ?hf12 ?ha12 ?hq12 ?hy12 hHeld ?hr12
      case hi12 => (simp only [List.getElem?_toArray, List.getElem?_cons_succ, List.getElem?_cons_zero]; exact rfl)
      case hs12 => kernel_rfl
      case hf12 => kernel_rfl
      case ha12 => kernel_rfl
      case hq12 => exact fun _ _ _ h => h
      case hy12 =>
        refine Or.inl ⟨by rfl, ?_⟩
        intro w' hSw
        try dsimp only at hSw
        go_simp
        first | done | with_reducible rfl
      simp only [Act.put, List.setIfInBounds_toArray, List.set_cons_succ, List.set_cons_zero]
      refine wpAnyH_ready (rs := [15]) (by kernel_rfl) (by simp) ?_
      refine AllReadyH.cons rfl (fun K hK => ?_) AllReadyH.nil
      go_simp
      go_at_call 21
      obtain ⟨y0, y1, y2, y3, kc, ko, kl, kd, kr, zz, BB⟩ := hHeld
      (with_reducible refine (implAwardsOk_is E A1 c1 xs D7 d7 (ys) _ _ _ kc (by omega) hl5 _ _ kd (by omega) hYl HAY.out).mono ?_)
      rintro e w11_ ⟨rfl, hb9⟩
      have hoe := hoe.below hb9 (Nat.le_refl _)
      have hoe := hoe.more (Nat.le_refl _) hb9.size
      refine hK.out _ _ ⟨(keep2 hb9 ⟨y0, y1⟩ (by omega)).1, (keep2 hb9 ⟨y0, y1⟩ (by omega)).2, (keep2 hb9 ⟨y2, y3⟩ (by omega)).1, (keep2 hb9 ⟨y2, y3⟩ (by omega)).2, kc.below hb9 (by omega), ko.below hb9 (by omega), kl.below hb9 (by omega), kd.below hb9 (by omega), kr.below hb9 (by omega), Nat.le_trans zz hb9.size, BB.trans (hb9.mono (by omega))⟩ (fun hHeld => ?_)
      clear hb9 BB zz kr kd kl ko kc y3 y2 y1 y0
      clear hK K
      try simp only [Act.put, List.setIfInBounds_toArray, List.set_cons_zero, List.set_cons_succ]
      refine wpAnyH_take (i := 16) (oi := ?oi13) (v := ?vv13) ?hi13 ?hs13 ?hf13 ?ha13 ?hq13 ?hy13 hHeld ?hr13
      case hi13 => (simp only [List.getElem?_toArray, List.getElem?_cons_succ, List.getElem?_cons_zero]; exact rfl)
      case hs13 => kernel_rfl
      case hf13 => kernel_rfl
      case ha13 => kernel_rfl
      case hq13 => exact fun _ _ _ h => h
      case hy13 =>
        refine Or.inl ⟨by rfl, ?_⟩
        intro w' hSw
        try dsimp only at hSw
        go_simp
        first | done | with_reducible rfl
      simp only [Act.put, List.setIfInBounds_toArray, List.set_cons_succ, List.set_cons_zero]
      refine wpAnyH_take (i := 17) (oi := ?oi14) (v := ?vv14) ?hi14 ?hs14 ?hf14 ?ha14 ?hq14 ?hy14 hHeld ?hr14
      case hi14 => (simp only [List.getElem?_toArray, List.getElem?_cons_succ, List.getElem?_cons_zero]; exact rfl)
      case hs14 => kernel_rfl
      case hf14 => kernel_rfl
      case ha14 => kernel_rfl
      case hq14 => exact fun _ _ _ h => h
      case hy14 =>
        refine Or.inl ⟨by rfl, ?_⟩
        intro w' hSw
        try dsimp only at hSw
        go_simp
        first | done | with_reducible rfl
      simp only [Act.put, List.setIfInBounds_toArray, List.set_cons_succ, List.set_cons_zero]
      refine wpAnyH_take (i := 18) (oi := ?oi15) (v := ?vv15) ?hi15 ?hs15 ?hf15 ?ha15 ?hq15 ?hy15 hHeld ?hr15
      case hi15 => (simp only [List.getElem?_toArray, List.getElem?_cons_succ, List.getElem?_cons_zero]; exact rfl)
      case hs15 => kernel_rfl
      case hf15 => kernel_rfl
      case ha15 => kernel_rfl
      case hq15 => exact fun _ _ _ h => h
      case hy15 =>
        refine Or.inl ⟨by rfl, ?_⟩
        intro w' hSw
        try dsimp only at hSw
        go_simp
        first | done | with_reducible rfl
      simp only [Act.put, List.setIfInBounds_toArray, List.set_cons_succ, List.set_cons_zero]
      refine wpAnyH_take (i := 19) (oi := ?oi16) (v := ?vv16) ?hi16 ?hs16 ?hf16 ?ha16 ?hq16 ?hy16 hHeld ?hr16
      case hi16 => (simp only [List.getElem?_toArray, List.getElem?_cons_succ, List.getElem?_cons_zero]; exact rfl)
      case hs16 => kernel_rfl
      case hf16 => kernel_rfl
      case ha16 => kernel_rfl
      case hq16 => exact fun _ _ _ h => h
      case hy16 =>
        refine Or.inl ⟨by rfl, ?_⟩
        intro w' hSw
        try dsimp only at hSw
        go_simp
        first | done | with_reducible rfl
      simp only [Act.put, List.setIfInBounds_toArray, List.set_cons_succ, List.set_cons_zero]
      refine wpAnyH_take (i := 20) (oi := ?oi17) (v := ?vv17) ?hi17 ?hs17 ?hf17 ?ha17 ?hq17 ?hy17 hHeld ?hr17
      case hi17 => (simp only [List.getElem?_toArray, List.getElem?_cons_succ, List.getElem?_cons_zero]; exact rfl)
      case hs17 => kernel_rfl
      case hf17 => kernel_rfl
      case ha17 => kernel_rfl
      case hq17 => exact fun _ _ _ h => h
      case hy17 =>
        refine Or.inl ⟨by rfl, ?_⟩
        intro w' hSw
        try dsimp only at hSw
        go_simp
        first | done | with_reducible rfl
      simp only [Act.put, List.setIfInBounds_toArray, List.set_cons_succ, List.set_cons_zero]
      refine wpAnyH_ready (rs := [21]) (by kernel_rfl) (by simp) ?_
      refine AllReadyH.cons rfl (fun K hK => ?_) AllReadyH.nil
      go_simp
      go_at_call 26
      obtain ⟨y0, y1, y2, y3, kc, ko, kl, kd, kr, zz, BB⟩ := hHeld
      (with_reducible refine (implLossesOf_yes E A1 c1 xs D7 d7 ys _ _ _ kc (by omega) hl5 _ _ kd (by omega) hYl HAY.out).mono ?_)
      rintro e w12_ ⟨Am, cm, rfl, hom, hb9⟩
      have hoe := hoe.below hb9 (Nat.le_refl _)
      have hoe := hoe.more (Nat.le_refl _) hb9.size
      refine hK.out _ _ ⟨(keep2 hb9 ⟨y0, y1⟩ (by omega)).1, (keep2 hb9 ⟨y0, y1⟩ (by omega)).2, (keep2 hb9 ⟨y2, y3⟩ (by omega)).1, (keep2 hb9 ⟨y2, y3⟩ (by omega)).2, kc.below hb9 (by omega), ko.below hb9 (by omega), kl.below hb9 (by omega), kd.below hb9 (by omega), kr.below hb9 (by omega), Nat.le_trans zz hb9.size, BB.trans (hb9.mono (by omega))⟩ (fun hHeld => ?_)
      clear hb9 BB zz kr kd kl ko kc y3 y2 y1 y0
      clear hK K
      try simp only [Act.put, List.setIfInBounds_toArray, List.set_cons_zero, List.set_cons_succ]
      refine wpAnyH_ready (rs := [22]) (by kernel_rfl) (by simp) ?_
      refine AllReadyH.cons rfl (fun K hK => ?_) AllReadyH.nil
      go_simp
      go_at_call 22
      obtain ⟨y0, y1, y2, y3, kc, ko, kl, kd, kr, zz, BB⟩ := hHeld
      (with_reducible refine (implMoreEven_yes A6 c6 (evenAw (xs.sum - E) xs) Am cm (lossesRow xs ys) _ _ _ kl (by omega) _ _ hom.ints (by omega) (aw_small' HXW.out) (aw_small' (loss_aw ((awardsB_iff _ _ _).1 HAY.out))) (evenLo_more ((awardsB_iff _ _ _).1 HAY.out))).mono ?_)
      rintro e w13_ ⟨rfl, hb9⟩
      have hoe := hoe.below hb9 (Nat.le_refl _)
      have hoe := hoe.more (Nat.le_refl _) hb9.size
      have hom := hom.below hb9 (Nat.le_refl _)
      have hom := hom.more (Nat.le_refl _) hb9.size
      refine hK.out _ _ ⟨(keep2 hb9 ⟨y0, y1⟩ (by omega)).1, (keep2 hb9 ⟨y0, y1⟩ (by omega)).2, (keep2 hb9 ⟨y2, y3⟩ (by omega)).1, (keep2 hb9 ⟨y2, y3⟩ (by omega)).2, kc.below hb9 (by omega), ko.below hb9 (by omega), kl.below hb9 (by omega), kd.below hb9 (by omega), kr.below hb9 (by omega), Nat.le_trans zz hb9.size, BB.trans (hb9.mono (by omega))⟩ (fun hHeld => ?_)
      clear hb9 BB zz kr kd kl ko kc y3 y2 y1 y0
      clear hK K
      try simp only [Act.put, List.setIfInBounds_toArray, List.set_cons_zero, List.set_cons_succ]
      refine wpAnyH_take (i := 23) (oi := ?oi18) (v := ?vv18) ?hi18 ?hs18 ?hf18 ?ha18 ?hq18 ?hy18 hHeld ?hr18
      case hi18 => (simp only [List.getElem?_toArray, List.getElem?_cons_succ, List.getElem?_cons_zero]; exact rfl)
      case hs18 => kernel_rfl
      case hf18 => kernel_rfl
      case ha18 => kernel_rfl
      case hq18 => exact fun _ _ _ h => h
      case hy18 =>
        refine Or.inl ⟨by rfl, ?_⟩
        intro w' hSw
        try dsimp only at hSw
        go_simp
        first | done | with_reducible rfl
      simp only [Act.put, List.setIfInBounds_toArray, List.set_cons_succ, List.set_cons_zero]
      refine wpAnyH_take (i := 24) (oi := ?oi19) (v := ?vv19) ?hi19 ?hs19 ?hf19 ?ha19 ?hq19 ?hy19 hHeld ?hr19
      case hi19 => (simp only [List.getElem?_toArray, List.getElem?_cons_succ, List.getElem?_cons_zero]; exact rfl)
      case hs19 => kernel_rfl
      case hf19 => kernel_rfl
      case ha19 => kernel_rfl
      case hq19 => exact fun _ _ _ h => h
      case hy19 =>
        refine Or.inl ⟨by rfl, ?_⟩
        intro w' hSw
        try dsimp only at hSw
        go_simp
        first | done | with_reducible rfl
      simp only [Act.put, List.setIfInBounds_toArray, List.set_cons_succ, List.set_cons_zero]
      refine wpAnyH_take (i := 25) (oi := ?oi20) (v := ?vv20) ?hi20 ?hs20 ?hf20 ?ha20 ?hq20 ?hy20 hHeld ?hr20
      case hi20 => (simp only [List.getElem?_toArray, List.getElem?_cons_succ, List.getElem?_cons_zero]; exact rfl)
      case hs20 => kernel_rfl
      case hf20 => kernel_rfl
      case ha20 => kernel_rfl
      case hq20 => exact fun _ _ _ h => h
      case hy20 =>
        refine Or.inl ⟨by rfl, ?_⟩
        intro w' hSw
        try dsimp only at hSw
        go_simp
        first | done | with_reducible rfl
      simp only [Act.put, List.setIfInBounds_toArray, List.set_cons_succ, List.set_cons_zero]
      refine wpAnyH_take (i := 26) (oi := ?oi21) (v := ?vv21) ?hi21 ?hs21 ?hf21 ?ha21 ?hq21 ?hy21 hHeld ?hr21
      case hi21 => (simp only [List.getElem?_toArray, List.getElem?_cons_succ, List.getElem?_cons_zero]; exact rfl)
      case hs21 => kernel_rfl
      case hf21 => kernel_rfl
      case ha21 => kernel_rfl
      case hq21 => exact fun _ _ _ h => h
      case hy21 =>
        refine Or.inl ⟨by rfl, ?_⟩
        intro w' hSw
        try dsimp only at hSw
        go_simp
        first | done | with_reducible rfl
      simp only [Act.put, List.setIfInBounds_toArray, List.set_cons_succ, List.set_cons_zero]
      refine wpAnyH_take (i := 27) (oi := ?oi22) (v := ?vv22) ?hi22 ?hs22 ?hf22 ?ha22 ?hq22 ?hy22 hHeld ?hr22
      case hi22 => (simp only [List.getElem?_toArray, List.getElem?_cons_succ, List.getElem?_cons_zero]; exact rfl)
      case hs22 => kernel_rfl
      case hf22 => kernel_rfl
      case ha22 => kernel_rfl
      case hq22 => exact fun _ _ _ h => h
      case hy22 =>
        refine Or.inl ⟨by rfl, ?_⟩
        intro w' hSw
        try dsimp only at hSw
        go_simp
        first | done | with_reducible rfl
      simp only [Act.put, List.setIfInBounds_toArray, List.set_cons_succ, List.set_cons_zero]
      refine wpAnyH_take (i := 28) (oi := ?oi23) (v := ?vv23) ?hi23 ?hs23 ?hf23 ?ha23 ?hq23 ?hy23 hHeld ?hr23
      case hi23 => (simp only [List.getElem?_toArray, List.getElem?_cons_succ, List.getElem?_cons_zero]; exact rfl)
      case hs23 => kernel_rfl
      case hf23 => kernel_rfl
      case ha23 => kernel_rfl
      case hq23 => exact fun _ _ _ h => h
      case hy23 =>
        refine Or.inl ⟨by rfl, ?_⟩
        intro w' hSw
        try dsimp only at hSw
        go_simp
        first | done | with_reducible rfl
      simp only [Act.put, List.setIfInBounds_toArray, List.set_cons_succ, List.set_cons_zero]
      refine wpAnyH_ready (rs := [29]) (by kernel_rfl) (by simp) ?_
      refine AllReadyH.cons rfl (fun K hK => ?_) AllReadyH.nil
      go_simp
      go_at_call 15
      obtain ⟨y0, y1, y2, y3, kc, ko, kl, kd, kr, zz, BB⟩ := hHeld
      (with_reducible refine (implEvenAwards_yes E A1 c1 xs _ _ _ kc (by omega) HO.out).mono ?_)
      rintro e w14_ ⟨Ax, cx, rfl, hox, hb9⟩
      have hoe := hoe.below hb9 (Nat.le_refl _)
      have hoe := hoe.more (Nat.le_refl _) hb9.size
      have hom := hom.below hb9 (Nat.le_refl _)
      have hom := hom.more (Nat.le_refl _) hb9.size
      refine hK.out _ _ ⟨(keep2 hb9 ⟨y0, y1⟩ (by omega)).1, (keep2 hb9 ⟨y0, y1⟩ (by omega)).2, (keep2 hb9 ⟨y2, y3⟩ (by omega)).1, (keep2 hb9 ⟨y2, y3⟩ (by omega)).2, kc.below hb9 (by omega), ko.below hb9 (by omega), kl.below hb9 (by omega), kd.below hb9 (by omega), kr.below hb9 (by omega), Nat.le_trans zz hb9.size, BB.trans (hb9.mono (by omega))⟩ (fun hHeld => ?_)
      clear hb9 BB zz kr kd kl ko kc y3 y2 y1 y0
      clear hK K
      try simp only [Act.put, List.setIfInBounds_toArray, List.set_cons_zero, List.set_cons_succ]
      refine wpAnyH_ready (rs := [30]) (by kernel_rfl) (by simp) ?_
      refine AllReadyH.cons rfl (fun K hK => ?_) AllReadyH.nil
      go_simp
      go_at_call 26
      obtain ⟨y0, y1, y2, y3, kc, ko, kl, kd, kr, zz, BB⟩ := hHeld
      (with_reducible refine (implLossesOf_yes E A1 c1 xs Ax cx (evenAw E xs) _ _ _ kc (by omega) hl5 _ _ hox.ints (by omega) hLa ((awardsB_iff _ _ _).2 HAW.out)).mono ?_)
      rintro e w15_ ⟨Az, cz, rfl, hoz, hb9⟩
      have hoe := hoe.below hb9 (Nat.le_refl _)
      have hoe := hoe.more (Nat.le_refl _) hb9.size
      have hom := hom.below hb9 (Nat.le_refl _)
      have hom := hom.more (Nat.le_refl _) hb9.size
      have hox := hox.below hb9 (Nat.le_refl _)
      have hox := hox.more (Nat.le_refl _) hb9.size
      refine hK.out _ _ ⟨(keep2 hb9 ⟨y0, y1⟩ (by omega)).1, (keep2 hb9 ⟨y0, y1⟩ (by omega)).2, (keep2 hb9 ⟨y2, y3⟩ (by omega)).1, (keep2 hb9 ⟨y2, y3⟩ (by omega)).2, kc.below hb9 (by omega), ko.below hb9 (by omega), kl.below hb9 (by omega), kd.below hb9 (by omega), kr.below hb9 (by omega), Nat.le_trans zz hb9.size, BB.trans (hb9.mono (by omega))⟩ (fun hHeld => ?_)
      clear hb9 BB zz kr kd kl ko kc y3 y2 y1 y0
      clear hK K
      try simp only [Act.put, List.setIfInBounds_toArray, List.set_cons_zero, List.set_cons_succ]
      refine wpAnyH_ready (rs := [31]) (by kernel_rfl) (by simp) ?_
      refine AllReadyH.cons rfl (fun K hK => ?_) AllReadyH.nil
      go_simp
      go_at_call 22
      obtain ⟨y0, y1, y2, y3, kc, ko, kl, kd, kr, zz, BB⟩ := hHeld
      (with_reducible refine (implMoreEven_yes A6 c6 (evenAw (xs.sum - E) xs) Az cz (lossesRow xs (evenAw E xs)) _ _ _ kl (by omega) _ _ hoz.ints (by omega) (aw_small' HXW.out) (aw_small' (loss_aw HAW.out)) (evenLo_more HAW.out)).mono ?_)
      rintro e w16_ ⟨rfl, hb9⟩
      have hoe := hoe.below hb9 (Nat.le_refl _)
      have hoe := hoe.more (Nat.le_refl _) hb9.size
      have hom := hom.below hb9 (Nat.le_refl _)
      have hom := hom.more (Nat.le_refl _) hb9.size
      have hox := hox.below hb9 (Nat.le_refl _)
      have hox := hox.more (Nat.le_refl _) hb9.size
      have hoz := hoz.below hb9 (Nat.le_refl _)
      have hoz := hoz.more (Nat.le_refl _) hb9.size
      refine hK.out _ _ ⟨(keep2 hb9 ⟨y0, y1⟩ (by omega)).1, (keep2 hb9 ⟨y0, y1⟩ (by omega)).2, (keep2 hb9 ⟨y2, y3⟩ (by omega)).1, (keep2 hb9 ⟨y2, y3⟩ (by omega)).2, kc.below hb9 (by omega), ko.below hb9 (by omega), kl.below hb9 (by omega), kd.below hb9 (by omega), kr.below hb9 (by omega), Nat.le_trans zz hb9.size, BB.trans (hb9.mono (by omega))⟩ (fun hHeld => ?_)
      clear hb9 BB zz kr kd kl ko kc y3 y2 y1 y0
      clear hK K
      try simp only [Act.put, List.setIfInBounds_toArray, List.set_cons_zero, List.set_cons_succ]
      refine wpAnyH_take (i := 32) (oi := ?oi24) (v := ?vv24) ?hi24 ?hs24 ?hf24 ?ha24 ?hq24 ?hy24 hHeld ?hr24
      case hi24 => (simp only [List.getElem?_toArray, List.getElem?_cons_succ, List.getElem?_cons_zero]; exact rfl)
      case hs24 => kernel_rfl
      case hf24 => kernel_rfl
      case ha24 => kernel_rfl
      case hq24 => exact fun _ _ _ h => h
      case hy24 =>
        refine Or.inl ⟨by rfl, ?_⟩
        intro w' hSw
        try dsimp only at hSw
        go_simp
        first | done | with_reducible rfl
      simp only [Act.put, List.setIfInBounds_toArray, List.set_cons_succ, List.set_cons_zero]
      refine wpAnyH_take (i := 33) (oi := ?oi25) (v := ?vv25) ?hi25 ?hs25 ?hf25 ?ha25 ?hq25 ?hy25 hHeld ?hr25
      case hi25 => (simp only [List.getElem?_toArray, List.getElem?_cons_succ, List.getElem?_cons_zero]; exact rfl)
      case hs25 => kernel_rfl
      case hf25 => kernel_rfl
      case ha25 => kernel_rfl
      case hq25 => exact fun _ _ _ h => h
      case hy25 =>
        refine Or.inl ⟨by rfl, ?_⟩
        intro w' hSw
        try dsimp only at hSw
        go_simp
        first | done | with_reducible rfl
      simp only [Act.put, List.setIfInBounds_toArray, List.set_cons_succ, List.set_cons_zero]
      refine wpAnyH_done (by kernel_rfl) ?_ _
      obtain ⟨y0, y1, y2, y3, kc, ko, kl, kd, kr, zz, BB⟩ := hHeld
      go_wp2
      go_ret
      exact ⟨rfl, BB⟩
    · have HAY : Hid (awardsB E xs ys = false) := by show _ = _; simpa using haw
      clear haw
      have hYl : ys.length ≤ 1152921504606846976 := by omega
      go_wp2_with fail
      have hWW : w.heap.size ≤ (w7.alloc (.cells #[.int .i64 E2, .slice A7 xs2.length c7] 25)).heap.size := by first | omega | (simp; omega) | simp
      have g_c : w1.heap.size < (w7.alloc (.cells #[.int .i64 E2, .slice A7 xs2.length c7] 25)).heap.size := by first | omega | (simp; omega) | simp
      have g_o : w5.heap.size < (w7.alloc (.cells #[.int .i64 E2, .slice A7 xs2.length c7] 25)).heap.size := by first | omega | (simp; omega) | simp
      have g_kc : w1.heap.size ≤ (w7.alloc (.cells #[.int .i64 E2, .slice A7 xs2.length c7] 25)).heap.size := by first | omega | (simp; omega) | simp
      have g_ko : w5.heap.size ≤ (w7.alloc (.cells #[.int .i64 E2, .slice A7 xs2.length c7] 25)).heap.size := by first | omega | (simp; omega) | simp
      have g_kl : w6.heap.size ≤ (w7.alloc (.cells #[.int .i64 E2, .slice A7 xs2.length c7] 25)).heap.size := by first | omega | (simp; omega) | simp
      have g_kd : w7.heap.size ≤ (w7.alloc (.cells #[.int .i64 E2, .slice A7 xs2.length c7] 25)).heap.size := by first | omega | (simp; omega) | simp
      have g_kr : w2.heap.size ≤ (w7.alloc (.cells #[.int .i64 E2, .slice A7 xs2.length c7] 25)).heap.size := by first | omega | (simp; omega) | simp
      refine wp_region_held_drew (S := (fun w' : World => w'.cell? ⟨w1.heap.size, 0, none⟩ = some (.int .i64 E) ∧ w'.cell? ⟨w1.heap.size, 1, none⟩ = some (.slice A1 xs.length c1) ∧ w'.cell? ⟨w5.heap.size, 0, none⟩ = some (.int .i64 (xs.sum - E)) ∧ w'.cell? ⟨w5.heap.size, 1, none⟩ = some (.slice A5 xs.length c5) ∧ Ints w' (w.heap.size) (w1.heap.size) (A1) (xs) ∧ Ints w' (w4.heap.size) (w5.heap.size) (A5) (xs) ∧ Ints w' (w5.heap.size + 1) (w6.heap.size) (A6) (evenAw (xs.sum - E) xs) ∧ Ints w' (w6.heap.size) (w7.heap.size) (D7) (ys) ∧ Ints w' (w1.heap.size + 1) (w2.heap.size) (A2) (evenLo E xs) ∧ (w7.alloc (.cells #[.int .i64 E2, .slice A7 xs2.length c7] 25)).heap.size ≤ w'.heap.size ∧ Below w.heap.size w w')) (by kernel_rfl) ⟨a72, a72', a73, a73', o65.ints, o68.ints, o69.ints, o70.ints, o66.ints, Nat.le_refl _, B71.drew⟩ (fun hHeld => ?_)
      refine wpAnyH_take (i := 0) (oi := ?oi26) (v := ?vv26) ?hi26 ?hs26 ?hf26 ?ha26 ?hq26 ?hy26 hHeld ?hr26
      case hi26 => (simp only [List.getElem?_toArray, List.getElem?_cons_zero]; exact rfl)
      case hs26 => kernel_rfl
      case hf26 => kernel_rfl
      case ha26 => kernel_rfl
      case hq26 => exact fun _ _ _ h => h
      case hy26 =>
        refine Or.inl ⟨by rfl, ?_⟩
        intro w' hSw
        try dsimp only at hSw
        go_simp
        first | done | with_reducible rfl
      simp only [Act.put, List.setIfInBounds_toArray, List.set_cons_succ, List.set_cons_zero]
      refine wpAnyH_take (i := 1) (oi := ?oi27) (v := ?vv27) ?hi27 ?hs27 ?hf27 ?ha27 ?hq27 ?hy27 hHeld ?hr27
      case hi27 => (simp only [List.getElem?_toArray, List.getElem?_cons_succ, List.getElem?_cons_zero]; exact rfl)
      case hs27 => kernel_rfl
      case hf27 => kernel_rfl
      case ha27 => kernel_rfl
      case hq27 => exact fun _ _ _ h => h
      case hy27 =>
        refine Or.inl ⟨by rfl, ?_⟩
        intro w' hSw
        try dsimp only at hSw
        go_simp
        first | done | with_reducible rfl
      simp only [Act.put, List.setIfInBounds_toArray, List.set_cons_succ, List.set_cons_zero]
      refine wpAnyH_take (i := 2) (oi := ?oi28) (v := ?vv28) ?hi28 ?hs28 ?hf28 ?ha28 ?hq28 ?hy28 hHeld ?hr28
      case hi28 => (simp only [List.getElem?_toArray, List.getElem?_cons_succ, List.getElem?_cons_zero]; exact rfl)
      case hs28 => kernel_rfl
      case hf28 => kernel_rfl
      case ha28 => kernel_rfl
      case hq28 => exact fun _ _ _ h => h
      case hy28 =>
        refine Or.inl ⟨by rfl, ?_⟩
        intro w' hSw
        try dsimp only at hSw
        go_simp
        first | done | with_reducible rfl
      simp only [Act.put, List.setIfInBounds_toArray, List.set_cons_succ, List.set_cons_zero]
      refine wpAnyH_take (i := 3) (oi := ?oi29) (v := ?vv29) ?hi29 ?hs29 ?hf29 ?ha29 ?hq29 ?hy29 hHeld ?hr29
      case hi29 => (simp only [List.getElem?_toArray, List.getElem?_cons_succ, List.getElem?_cons_zero]; exact rfl)
      case hs29 => kernel_rfl
      case hf29 => kernel_rfl
      case ha29 => kernel_rfl
      case hq29 => exact fun _ _ _ h => h
      case hy29 =>
        refine Or.inl ⟨by rfl, ?_⟩
        intro w' hSw
        try dsimp only at hSw
        go_simp
        first | done | with_reducible rfl
      simp only [Act.put, List.setIfInBounds_toArray, List.set_cons_succ, List.set_cons_zero]
      refine wpAnyH_ready (rs := [4]) (by kernel_rfl) (by simp) ?_
      refine AllReadyH.cons rfl (fun K hK => ?_) AllReadyH.nil
      go_simp
      go_at_call 21
      obtain ⟨y0, y1, y2, y3, kc, ko, kl, kd, kr, zz, BB⟩ := hHeld
      (with_reducible refine (implAwardsOk_is E A1 c1 xs A2 c2 (evenLo E xs) _ _ _ kc (by omega) hl5 _ _ kr (by omega) hLr ((awardsB_iff _ _ _).2 HLW.out)).mono ?_)
      rintro e w8_ ⟨rfl, hb9⟩
      refine hK.out _ _ ⟨(keep2 hb9 ⟨y0, y1⟩ (by omega)).1, (keep2 hb9 ⟨y0, y1⟩ (by omega)).2, (keep2 hb9 ⟨y2, y3⟩ (by omega)).1, (keep2 hb9 ⟨y2, y3⟩ (by omega)).2, kc.below hb9 (by omega), ko.below hb9 (by omega), kl.below hb9 (by omega), kd.below hb9 (by omega), kr.below hb9 (by omega), Nat.le_trans zz hb9.size, BB.trans (hb9.mono (by omega))⟩ (fun hHeld => ?_)
      clear hb9 BB zz kr kd kl ko kc y3 y2 y1 y0
      clear hK K
      try simp only [Act.put, List.setIfInBounds_toArray, List.set_cons_zero, List.set_cons_succ]
      refine wpAnyH_take (i := 5) (oi := ?oi30) (v := ?vv30) ?hi30 ?hs30 ?hf30 ?ha30 ?hq30 ?hy30 hHeld ?hr30
      case hi30 => (simp only [List.getElem?_toArray, List.getElem?_cons_succ, List.getElem?_cons_zero]; exact rfl)
      case hs30 => kernel_rfl
      case hf30 => kernel_rfl
      case ha30 => kernel_rfl
      case hq30 => exact fun _ _ _ h => h
      case hy30 =>
        refine Or.inl ⟨by rfl, ?_⟩
        intro w' hSw
        try dsimp only at hSw
        go_simp
        first | done | with_reducible rfl
      simp only [Act.put, List.setIfInBounds_toArray, List.set_cons_succ, List.set_cons_zero]
      refine wpAnyH_take (i := 6) (oi := ?oi31) (v := ?vv31) ?hi31 ?hs31 ?hf31 ?ha31 ?hq31 ?hy31 hHeld ?hr31
      case hi31 => (simp only [List.getElem?_toArray, List.getElem?_cons_succ, List.getElem?_cons_zero]; exact rfl)
      case hs31 => kernel_rfl
      case hf31 => kernel_rfl
      case ha31 => kernel_rfl
      case hq31 => exact fun _ _ _ h => h
      case hy31 =>
        refine Or.inl ⟨by rfl, ?_⟩
        intro w' hSw
        try dsimp only at hSw
        go_simp
        first | done | with_reducible rfl
      simp only [Act.put, List.setIfInBounds_toArray, List.set_cons_succ, List.set_cons_zero]
      refine wpAnyH_take (i := 7) (oi := ?oi32) (v := ?vv32) ?hi32 ?hs32 ?hf32 ?ha32 ?hq32 ?hy32 hHeld ?hr32
      case hi32 => (simp only [List.getElem?_toArray, List.getElem?_cons_succ, List.getElem?_cons_zero]; exact rfl)
      case hs32 => kernel_rfl
      case hf32 => kernel_rfl
      case ha32 => kernel_rfl
      case hq32 => exact fun _ _ _ h => h
      case hy32 =>
        refine Or.inl ⟨by rfl, ?_⟩
        intro w' hSw
        try dsimp only at hSw
        go_simp
        first | done | with_reducible rfl
      simp only [Act.put, List.setIfInBounds_toArray, List.set_cons_succ, List.set_cons_zero]
      refine wpAnyH_take (i := 8) (oi := ?oi33) (v := ?vv33) ?hi33 ?hs33 ?hf33 ?ha33 ?hq33 ?hy33 hHeld ?hr33
      case hi33 => (simp only [List.getElem?_toArray, List.getElem?_cons_succ, List.getElem?_cons_zero]; exact rfl)
      case hs33 => kernel_rfl
      case hf33 => kernel_rfl
      case ha33 => kernel_rfl
      case hq33 => exact fun _ _ _ h => h
      case hy33 =>
        refine Or.inl ⟨by rfl, ?_⟩
        intro w' hSw
        try dsimp only at hSw
        go_simp
        first | done | with_reducible rfl
      simp only [Act.put, List.setIfInBounds_toArray, List.set_cons_succ, List.set_cons_zero]
      refine wpAnyH_ready (rs := [9]) (by kernel_rfl) (by simp) ?_
      refine AllReadyH.cons rfl (fun K hK => ?_) AllReadyH.nil
      go_simp
      go_at_call 15
      obtain ⟨y0, y1, y2, y3, kc, ko, kl, kd, kr, zz, BB⟩ := hHeld
      (with_reducible refine (implEvenAwards_yes (xs.sum - E) A5 c5 xs _ _ _ ko (by omega) HP.out).mono ?_)
      rintro e w9_ ⟨Ae, ce, rfl, hoe, hb9⟩
      refine hK.out _ _ ⟨(keep2 hb9 ⟨y0, y1⟩ (by omega)).1, (keep2 hb9 ⟨y0, y1⟩ (by omega)).2, (keep2 hb9 ⟨y2, y3⟩ (by omega)).1, (keep2 hb9 ⟨y2, y3⟩ (by omega)).2, kc.below hb9 (by omega), ko.below hb9 (by omega), kl.below hb9 (by omega), kd.below hb9 (by omega), kr.below hb9 (by omega), Nat.le_trans zz hb9.size, BB.trans (hb9.mono (by omega))⟩ (fun hHeld => ?_)
      clear hb9 BB zz kr kd kl ko kc y3 y2 y1 y0
      clear hK K
      try simp only [Act.put, List.setIfInBounds_toArray, List.set_cons_zero, List.set_cons_succ]
      refine wpAnyH_ready (rs := [10]) (by kernel_rfl) (by simp) ?_
      refine AllReadyH.cons rfl (fun K hK => ?_) AllReadyH.nil
      go_simp
      go_at_call 13
      obtain ⟨y0, y1, y2, y3, kc, ko, kl, kd, kr, zz, BB⟩ := hHeld
      (with_reducible refine (sameInts_below A6 Ae c6 ce (evenAw (xs.sum - E) xs) _ _ _ _ _ kl hoe.ints hLx).mono ?_)
      rintro e w10_ ⟨rfl, hb9⟩
      have hoe := hoe.below hb9 (Nat.le_refl _)
      have hoe := hoe.more (Nat.le_refl _) hb9.size
      refine hK.out _ _ ⟨(keep2 hb9 ⟨y0, y1⟩ (by omega)).1, (keep2 hb9 ⟨y0, y1⟩ (by omega)).2, (keep2 hb9 ⟨y2, y3⟩ (by omega)).1, (keep2 hb9 ⟨y2, y3⟩ (by omega)).2, kc.below hb9 (by omega), ko.below hb9 (by omega), kl.below hb9 (by omega), kd.below hb9 (by omega), kr.below hb9 (by omega), Nat.le_trans zz hb9.size, BB.trans (hb9.mono (by omega))⟩ (fun hHeld => ?_)
      clear hb9 BB zz kr kd kl ko kc y3 y2 y1 y0
      clear hK K
      try simp only [Act.put, List.setIfInBounds_toArray, List.set_cons_zero, List.set_cons_succ]
      refine wpAnyH_take (i := 11) (oi := ?oi34) (v := ?vv34) ?hi34 ?hs34 ?hf34 ?ha34 ?hq34 ?hy34 hHeld ?hr34
      case hi34 => (simp only [List.getElem?_toArray, List.getElem?_cons_succ, List.getElem?_cons_zero]; exact rfl)
      case hs34 => kernel_rfl
      case hf34 => kernel_rfl
      case ha34 => kernel_rfl
      case hq34 => exact fun _ _ _ h => h
      case hy34 =>
        refine Or.inl ⟨by rfl, ?_⟩
        intro w' hSw
        try dsimp only at hSw
        go_simp
        first | done | with_reducible rfl
      simp only [Act.put, List.setIfInBounds_toArray, List.set_cons_succ, List.set_cons_zero]
      refine wpAnyH_take (i := 12) (oi := ?oi35) (v := ?vv35) ?hi35 ?hs35 ?hf35 ?ha35 ?hq35 ?hy35 hHeld ?hr35
      case hi35 => (simp only [List.getElem?_toArray, List.getElem?_cons_succ, List.getElem?_cons_zero]; exact rfl)
      case hs35 => kernel_rfl
      case hf35 => kernel_rfl
      case ha35 => kernel_rfl
      case hq35 => exact fun _ _ _ h => h
      case hy35 =>
        refine Or.inl ⟨by rfl, ?_⟩
        intro w' hSw
        try dsimp only at hSw
        go_simp
        first | done | with_reducible rfl
      simp only [Act.put, List.setIfInBounds_toArray, List.set_cons_succ, List.set_cons_zero]
      refine wpAnyH_take (i := 13) (oi := ?oi36) (v := ?vv36) ?hi36 ?hs36 ?hf36 ?ha36 ?hq36 ?hy36 hHeld ?hr36
      case hi36 => (simp only [List.getElem?_toArray, List.getElem?_cons_succ, List.getElem?_cons_zero]; exact rfl)
      case hs36 => kernel_rfl
      case hf36 => kernel_rfl
      case ha36 => kernel_rfl
      case hq36 => exact fun _ _ _ h => h
      case hy36 =>
        refine Or.inl ⟨by rfl, ?_⟩
        intro w' hSw
        try dsimp only at hSw
        go_simp
        first | done | with_reducible rfl
      simp only [Act.put, List.setIfInBounds_toArray, List.set_cons_succ, List.set_cons_zero]
      refine wpAnyH_take (i := 14) (oi := ?oi37) (v := ?vv37) ?hi37 ?hs37 ?hf37 ?ha37 ?hq37 ?hy37 hHeld ?hr37
      case hi37 => (simp only [List.getElem?_toArray, List.getElem?_cons_succ, List.getElem?_cons_zero]; exact rfl)
      case hs37 => kernel_rfl
      case hf37 => kernel_rfl
      case ha37 => kernel_rfl
      case hq37 => exact fun _ _ _ h => h
      case hy37 =>
        refine Or.inl ⟨by rfl, ?_⟩
        intro w' hSw
        try dsimp only at hSw
        go_simp
        first | done | with_reducible rfl
      simp only [Act.put, List.setIfInBounds_toArray, List.set_cons_succ, List.set_cons_zero]
      refine wpAnyH_ready (rs := [15]) (by kernel_rfl) (by simp) ?_
      refine AllReadyH.cons rfl (fun K hK => ?_) AllReadyH.nil
      go_simp
      go_at_call 21
      obtain ⟨y0, y1, y2, y3, kc, ko, kl, kd, kr, zz, BB⟩ := hHeld
      (with_reducible refine (implAwardsOk_is E A1 c1 xs D7 d7 (ys) _ _ _ kc (by omega) hl5 _ _ kd (by omega) hYl HAY.out).mono ?_)
      rintro e w11_ ⟨rfl, hb9⟩
      have hoe := hoe.below hb9 (Nat.le_refl _)
      have hoe := hoe.more (Nat.le_refl _) hb9.size
      refine hK.out _ _ ⟨(keep2 hb9 ⟨y0, y1⟩ (by omega)).1, (keep2 hb9 ⟨y0, y1⟩ (by omega)).2, (keep2 hb9 ⟨y2, y3⟩ (by omega)).1, (keep2 hb9 ⟨y2, y3⟩ (by omega)).2, kc.below hb9 (by omega), ko.below hb9 (by omega), kl.below hb9 (by omega), kd.below hb9 (by omega), kr.below hb9 (by omega), Nat.le_trans zz hb9.size, BB.trans (hb9.mono (by omega))⟩ (fun hHeld => ?_)
      clear hb9 BB zz kr kd kl ko kc y3 y2 y1 y0
      clear hK K
      try simp only [Act.put, List.setIfInBounds_toArray, List.set_cons_zero, List.set_cons_succ]
      refine wpAnyH_take (i := 16) (oi := ?oi38) (v := ?vv38) ?hi38 ?hs38 ?hf38 ?ha38 ?hq38 ?hy38 hHeld ?hr38
      case hi38 => (simp only [List.getElem?_toArray, List.getElem?_cons_succ, List.getElem?_cons_zero]; exact rfl)
      case hs38 => kernel_rfl
      case hf38 => kernel_rfl
      case ha38 => kernel_rfl
      case hq38 => exact fun _ _ _ h => h
      case hy38 =>
        refine Or.inl ⟨by rfl, ?_⟩
        intro w' hSw
        try dsimp only at hSw
        go_simp
        first | done | with_reducible rfl
      simp only [Act.put, List.setIfInBounds_toArray, List.set_cons_succ, List.set_cons_zero]
      refine wpAnyH_take (i := 17) (oi := ?oi39) (v := ?vv39) ?hi39 ?hs39 ?hf39 ?ha39 ?hq39 ?hy39 hHeld ?hr39
      case hi39 => (simp only [List.getElem?_toArray, List.getElem?_cons_succ, List.getElem?_cons_zero]; exact rfl)
      case hs39 => kernel_rfl
      case hf39 => kernel_rfl
      case ha39 => kernel_rfl
      case hq39 => exact fun _ _ _ h => h
      case hy39 =>
        refine Or.inl ⟨by rfl, ?_⟩
        intro w' hSw
        try dsimp only at hSw
        go_simp
        first | done | with_reducible rfl
      simp only [Act.put, List.setIfInBounds_toArray, List.set_cons_succ, List.set_cons_zero]
      refine wpAnyH_take (i := 18) (oi := ?oi40) (v := undef) ?hi40 ?hs40 ?hf40 ?ha40 ?hq40 ?hy40 hHeld ?hr40
      case hi40 => (simp only [List.getElem?_toArray, List.getElem?_cons_succ, List.getElem?_cons_zero]; exact rfl)
      case hs40 => kernel_rfl
      case hf40 => kernel_rfl
      case ha40 => kernel_rfl
      case hq40 => exact fun _ _ _ h => h
      case hy40 => exact Or.inr ⟨by rfl, rfl⟩
      simp only [Act.put, List.setIfInBounds_toArray, List.set_cons_succ, List.set_cons_zero]
      refine wpAnyH_take (i := 19) (oi := ?oi41) (v := undef) ?hi41 ?hs41 ?hf41 ?ha41 ?hq41 ?hy41 hHeld ?hr41
      case hi41 => (simp only [List.getElem?_toArray, List.getElem?_cons_succ, List.getElem?_cons_zero]; exact rfl)
      case hs41 => kernel_rfl
      case hf41 => kernel_rfl
      case ha41 => kernel_rfl
      case hq41 => exact fun _ _ _ h => h
      case hy41 => exact Or.inr ⟨by rfl, rfl⟩
      simp only [Act.put, List.setIfInBounds_toArray, List.set_cons_succ, List.set_cons_zero]
      refine wpAnyH_take (i := 20) (oi := ?oi42) (v := undef) ?hi42 ?hs42 ?hf42 ?ha42 ?hq42 ?hy42 hHeld ?hr42
      case hi42 => (simp only [List.getElem?_toArray, List.getElem?_cons_succ, List.getElem?_cons_zero]; exact rfl)
      case hs42 => kernel_rfl
      case hf42 => kernel_rfl
      case ha42 => kernel_rfl
      case hq42 => exact fun _ _ _ h => h
      case hy42 => exact Or.inr ⟨by rfl, rfl⟩
      simp only [Act.put, List.setIfInBounds_toArray, List.set_cons_succ, List.set_cons_zero]
      refine wpAnyH_take (i := 21) (oi := ?oi43) (v := undef) ?hi43 ?hs43 ?hf43 ?ha43 ?hq43 ?hy43 hHeld ?hr43
      case hi43 => (simp only [List.getElem?_toArray, List.getElem?_cons_succ, List.getElem?_cons_zero]; exact rfl)
      case hs43 => kernel_rfl
      case hf43 => kernel_rfl
      case ha43 => kernel_rfl
      case hq43 => exact fun _ _ _ h => h
      case hy43 => exact Or.inr ⟨by rfl, rfl⟩
      simp only [Act.put, List.setIfInBounds_toArray, List.set_cons_succ, List.set_cons_zero]
      refine wpAnyH_take (i := 22) (oi := ?oi44) (v := undef) ?hi44 ?hs44 ?hf44 ?ha44 ?hq44 ?hy44 hHeld ?hr44
      case hi44 => (simp only [List.getElem?_toArray, List.getElem?_cons_succ, List.getElem?_cons_zero]; exact rfl)
      case hs44 => kernel_rfl
      case hf44 => kernel_rfl
      case ha44 => kernel_rfl
      case hq44 => exact fun _ _ _ h => h
      case hy44 => exact Or.inr ⟨by rfl, rfl⟩
      simp only [Act.put, List.setIfInBounds_toArray, List.set_cons_succ, List.set_cons_zero]
      refine wpAnyH_take (i := 23) (oi := ?oi45) (v := ?vv45) ?hi45 ?hs45 ?hf45 ?ha45 ?hq45 ?hy45 hHeld ?hr45
      case hi45 => (simp only [List.getElem?_toArray, List.getElem?_cons_succ, List.getElem?_cons_zero]; exact rfl)
      case hs45 => kernel_rfl
      case hf45 => kernel_rfl
      case ha45 => kernel_rfl
      case hq45 => exact fun _ _ _ h => h
      case hy45 =>
        refine Or.inl ⟨by rfl, ?_⟩
        intro w' hSw
        try dsimp only at hSw
        go_simp
        first | done | with_reducible rfl
      simp only [Act.put, List.setIfInBounds_toArray, List.set_cons_succ, List.set_cons_zero]
      refine wpAnyH_take (i := 24) (oi := ?oi46) (v := ?vv46) ?hi46 ?hs46 ?hf46 ?ha46 ?hq46 ?hy46 hHeld ?hr46
      case hi46 => (simp only [List.getElem?_toArray, List.getElem?_cons_succ, List.getElem?_cons_zero]; exact rfl)
      case hs46 => kernel_rfl
      case hf46 => kernel_rfl
      case ha46 => kernel_rfl
      case hq46 => exact fun _ _ _ h => h
      case hy46 =>
        refine Or.inl ⟨by rfl, ?_⟩
        intro w' hSw
        try dsimp only at hSw
        go_simp
        first | done | with_reducible rfl
      simp only [Act.put, List.setIfInBounds_toArray, List.set_cons_succ, List.set_cons_zero]
      refine wpAnyH_take (i := 25) (oi := ?oi47) (v := ?vv47) ?hi47 ?hs47 ?hf47 ?ha47 ?hq47 ?hy47 hHeld ?hr47
      case hi47 => (simp only [List.getElem?_toArray, List.getElem?_cons_succ, List.getElem?_cons_zero]; exact rfl)
      case hs47 => kernel_rfl
      case hf47 => kernel_rfl
      case ha47 => kernel_rfl
      case hq47 => exact fun _ _ _ h => h
      case hy47 =>
        refine Or.inl ⟨by rfl, ?_⟩
        intro w' hSw
        try dsimp only at hSw
        go_simp
        first | done | with_reducible rfl
      simp only [Act.put, List.setIfInBounds_toArray, List.set_cons_succ, List.set_cons_zero]
      refine wpAnyH_take (i := 26) (oi := ?oi48) (v := ?vv48) ?hi48 ?hs48 ?hf48 ?ha48 ?hq48 ?hy48 hHeld ?hr48
      case hi48 => (simp only [List.getElem?_toArray, List.getElem?_cons_succ, List.getElem?_cons_zero]; exact rfl)
      case hs48 => kernel_rfl
      case hf48 => kernel_rfl
      case ha48 => kernel_rfl
      case hq48 => exact fun _ _ _ h => h
      case hy48 =>
        refine Or.inl ⟨by rfl, ?_⟩
        intro w' hSw
        try dsimp only at hSw
        go_simp
        first | done | with_reducible rfl
      simp only [Act.put, List.setIfInBounds_toArray, List.set_cons_succ, List.set_cons_zero]
      refine wpAnyH_take (i := 27) (oi := ?oi49) (v := ?vv49) ?hi49 ?hs49 ?hf49 ?ha49 ?hq49 ?hy49 hHeld ?hr49
      case hi49 => (simp only [List.getElem?_toArray, List.getElem?_cons_succ, List.getElem?_cons_zero]; exact rfl)
      case hs49 => kernel_rfl
      case hf49 => kernel_rfl
      case ha49 => kernel_rfl
      case hq49 => exact fun _ _ _ h => h
      case hy49 =>
        refine Or.inl ⟨by rfl, ?_⟩
        intro w' hSw
        try dsimp only at hSw
        go_simp
        first | done | with_reducible rfl
      simp only [Act.put, List.setIfInBounds_toArray, List.set_cons_succ, List.set_cons_zero]
      refine wpAnyH_take (i := 28) (oi := ?oi50) (v := ?vv50) ?hi50 ?hs50 ?hf50 ?ha50 ?hq50 ?hy50 hHeld ?hr50
      case hi50 => (simp only [List.getElem?_toArray, List.getElem?_cons_succ, List.getElem?_cons_zero]; exact rfl)
      case hs50 => kernel_rfl
      case hf50 => kernel_rfl
      case ha50 => kernel_rfl
      case hq50 => exact fun _ _ _ h => h
      case hy50 =>
        refine Or.inl ⟨by rfl, ?_⟩
        intro w' hSw
        try dsimp only at hSw
        go_simp
        first | done | with_reducible rfl
      simp only [Act.put, List.setIfInBounds_toArray, List.set_cons_succ, List.set_cons_zero]
      refine wpAnyH_ready (rs := [29]) (by kernel_rfl) (by simp) ?_
      refine AllReadyH.cons rfl (fun K hK => ?_) AllReadyH.nil
      go_simp
      go_at_call 15
      obtain ⟨y0, y1, y2, y3, kc, ko, kl, kd, kr, zz, BB⟩ := hHeld
      (with_reducible refine (implEvenAwards_yes E A1 c1 xs _ _ _ kc (by omega) HO.out).mono ?_)
      rintro e w12_ ⟨Ax, cx, rfl, hox, hb9⟩
      have hoe := hoe.below hb9 (Nat.le_refl _)
      have hoe := hoe.more (Nat.le_refl _) hb9.size
      refine hK.out _ _ ⟨(keep2 hb9 ⟨y0, y1⟩ (by omega)).1, (keep2 hb9 ⟨y0, y1⟩ (by omega)).2, (keep2 hb9 ⟨y2, y3⟩ (by omega)).1, (keep2 hb9 ⟨y2, y3⟩ (by omega)).2, kc.below hb9 (by omega), ko.below hb9 (by omega), kl.below hb9 (by omega), kd.below hb9 (by omega), kr.below hb9 (by omega), Nat.le_trans zz hb9.size, BB.trans (hb9.mono (by omega))⟩ (fun hHeld => ?_)
      clear hb9 BB zz kr kd kl ko kc y3 y2 y1 y0
      clear hK K
      try simp only [Act.put, List.setIfInBounds_toArray, List.set_cons_zero, List.set_cons_succ]
      refine wpAnyH_ready (rs := [30]) (by kernel_rfl) (by simp) ?_
      refine AllReadyH.cons rfl (fun K hK => ?_) AllReadyH.nil
      go_simp
      go_at_call 26
      obtain ⟨y0, y1, y2, y3, kc, ko, kl, kd, kr, zz, BB⟩ := hHeld
      (with_reducible refine (implLossesOf_yes E A1 c1 xs Ax cx (evenAw E xs) _ _ _ kc (by omega) hl5 _ _ hox.ints (by omega) hLa ((awardsB_iff _ _ _).2 HAW.out)).mono ?_)
      rintro e w13_ ⟨Az, cz, rfl, hoz, hb9⟩
      have hoe := hoe.below hb9 (Nat.le_refl _)
      have hoe := hoe.more (Nat.le_refl _) hb9.size
      have hox := hox.below hb9 (Nat.le_refl _)
      have hox := hox.more (Nat.le_refl _) hb9.size
      refine hK.out _ _ ⟨(keep2 hb9 ⟨y0, y1⟩ (by omega)).1, (keep2 hb9 ⟨y0, y1⟩ (by omega)).2, (keep2 hb9 ⟨y2, y3⟩ (by omega)).1, (keep2 hb9 ⟨y2, y3⟩ (by omega)).2, kc.below hb9 (by omega), ko.below hb9 (by omega), kl.below hb9 (by omega), kd.below hb9 (by omega), kr.below hb9 (by omega), Nat.le_trans zz hb9.size, BB.trans (hb9.mono (by omega))⟩ (fun hHeld => ?_)
      clear hb9 BB zz kr kd kl ko kc y3 y2 y1 y0
      clear hK K
      try simp only [Act.put, List.setIfInBounds_toArray, List.set_cons_zero, List.set_cons_succ]
      refine wpAnyH_ready (rs := [31]) (by kernel_rfl) (by simp) ?_
      refine AllReadyH.cons rfl (fun K hK => ?_) AllReadyH.nil
      go_simp
      go_at_call 22
      obtain ⟨y0, y1, y2, y3, kc, ko, kl, kd, kr, zz, BB⟩ := hHeld
      (with_reducible refine (implMoreEven_yes A6 c6 (evenAw (xs.sum - E) xs) Az cz (lossesRow xs (evenAw E xs)) _ _ _ kl (by omega) _ _ hoz.ints (by omega) (aw_small' HXW.out) (aw_small' (loss_aw HAW.out)) (evenLo_more HAW.out)).mono ?_)
      rintro e w14_ ⟨rfl, hb9⟩
      have hoe := hoe.below hb9 (Nat.le_refl _)
      have hoe := hoe.more (Nat.le_refl _) hb9.size
      have hox := hox.below hb9 (Nat.le_refl _)
      have hox := hox.more (Nat.le_refl _) hb9.size
      have hoz := hoz.below hb9 (Nat.le_refl _)
      have hoz := hoz.more (Nat.le_refl _) hb9.size
      refine hK.out _ _ ⟨(keep2 hb9 ⟨y0, y1⟩ (by omega)).1, (keep2 hb9 ⟨y0, y1⟩ (by omega)).2, (keep2 hb9 ⟨y2, y3⟩ (by omega)).1, (keep2 hb9 ⟨y2, y3⟩ (by omega)).2, kc.below hb9 (by omega), ko.below hb9 (by omega), kl.below hb9 (by omega), kd.below hb9 (by omega), kr.below hb9 (by omega), Nat.le_trans zz hb9.size, BB.trans (hb9.mono (by omega))⟩ (fun hHeld => ?_)
      clear hb9 BB zz kr kd kl ko kc y3 y2 y1 y0
      clear hK K
      try simp only [Act.put, List.setIfInBounds_toArray, List.set_cons_zero, List.set_cons_succ]
      refine wpAnyH_take (i := 32) (oi := ?oi51) (v := ?vv51) ?hi51 ?hs51 ?hf51 ?ha51 ?hq51 ?hy51 hHeld ?hr51
      case hi51 => (simp only [List.getElem?_toArray, List.getElem?_cons_succ, List.getElem?_cons_zero]; exact rfl)
      case hs51 => kernel_rfl
      case hf51 => kernel_rfl
      case ha51 => kernel_rfl
      case hq51 => exact fun _ _ _ h => h
      case hy51 =>
        refine Or.inl ⟨by rfl, ?_⟩
        intro w' hSw
        try dsimp only at hSw
        go_simp
        first | done | with_reducible rfl
      simp only [Act.put, List.setIfInBounds_toArray, List.set_cons_succ, List.set_cons_zero]
      refine wpAnyH_take (i := 33) (oi := ?oi52) (v := ?vv52) ?hi52 ?hs52 ?hf52 ?ha52 ?hq52 ?hy52 hHeld ?hr52
      case hi52 => (simp only [List.getElem?_toArray, List.getElem?_cons_succ, List.getElem?_cons_zero]; exact rfl)
      case hs52 => kernel_rfl
      case hf52 => kernel_rfl
      case ha52 => kernel_rfl
      case hq52 => exact fun _ _ _ h => h
      case hy52 =>
        refine Or.inl ⟨by rfl, ?_⟩
        intro w' hSw
        try dsimp only at hSw
        go_simp
        first | done | with_reducible rfl
      simp only [Act.put, List.setIfInBounds_toArray, List.set_cons_succ, List.set_cons_zero]
      refine wpAnyH_done (by kernel_rfl) ?_ _
      obtain ⟨y0, y1, y2, y3, kc, ko, kl, kd, kr, zz, BB⟩ := hHeld
      go_wp2
      go_ret
      exact ⟨rfl, BB⟩
  · have hok' : caseOkB E xs = false := by simpa using hok
    have HO := Lib.hid hok'
    clear hok hok'
    go_wp2_with fail
    refine (implEvenLosses_no E A1 c1 xs _ _ _ o4.ints (by first | omega | (simp; omega) | simp) hl5 HO.out).mono ?_
    rintro e w2 ⟨A2, c2, rfl, ho2, hb2⟩
    have hp2 : Own w2 (w1.heap.size + 1) w2.heap.size A2 (([] : List Int)) := ho2.more (by simp) (Nat.le_refl _)
    obtain ⟨a7, a7'⟩ := keep2 hb2 ⟨a6, a6'⟩ (by first | omega | (simp; omega) | simp)
    have o8 := o4.below hb2 (by first | omega | (simp; omega) | simp)
    have hz9 := hb2.size
    simp at hz9
    have B10 := B5.trans (hb2.mono (by first | omega | (simp; omega) | simp))
    clear hb2
    have z11 : w1.heap.size < w2.heap.size := by omega
    go_wp2_with fail
    refine (specEvenLosses_no E A1 c1 xs _ _ _ o8.ints (by first | omega | (simp; omega) | simp) hl5 HO.out).mono ?_
    rintro e w3 ⟨A3, c3, rfl, ho3, hb3⟩
    obtain ⟨a12, a12'⟩ := keep2 hb3 ⟨a7, a7'⟩ (by first | omega | (simp; omega) | simp)
    have o13 := o8.below hb3 (by first | omega | (simp; omega) | simp)
    have o14 := hp2.below hb3 (by first | omega | (simp; omega) | simp)
    have hz15 := hb3.size
    have B16 := B10.trans (hb3.mono (by first | omega | (simp; omega) | simp))
    clear hb3
    have z17 : w1.heap.size < w3.heap.size := by omega
    go_wp2_with fail
    refine (sameInts_below A2 A3 c2 c3 ([] : List Int) _ 0 0 0 0 Ints.nil Ints.nil (by simp)).mono ?_
    rintro e w4 ⟨rfl, hb4⟩
    obtain ⟨a18, a18'⟩ := keep2 hb4 ⟨a12, a12'⟩ (by first | omega | (simp; omega) | simp)
    have o19 := o13.below hb4 (by first | omega | (simp; omega) | simp)
    have o20 := o14.below hb4 (by first | omega | (simp; omega) | simp)
    have o21 := ho3.below hb4 (by first | omega | (simp; omega) | simp)
    have hz22 := hb4.size
    have B23 := B16.trans (hb4.mono (by first | omega | (simp; omega) | simp))
    clear hb4
    have z24 : w1.heap.size < w4.heap.size := by omega
    go_wp2_with fail
    refine (implCaseOk_no (E) (A1) c1 xs _ _ _ o19.ints (by first | omega | (simp; omega) | simp) (by first | omega | simp) HO.out).mono ?_
    rintro e w5 ⟨rfl, hb5⟩
    obtain ⟨a25, a25'⟩ := keep2 hb5 ⟨a18, a18'⟩ (by first | omega | (simp; omega) | simp)
    have o26 := o19.below hb5 (by first | omega | (simp; omega) | simp)
    have o27 := o20.below hb5 (by first | omega | (simp; omega) | simp)
    have o28 := o21.below hb5 (by first | omega | (simp; omega) | simp)
    have hz29 := hb5.size
    have B30 := B23.trans (hb5.mono (by first | omega | (simp; omega) | simp))
    clear hb5
    have z31 : w1.heap.size < w5.heap.size := by omega
    go_wp2_with fail
    refine (alive_any _).mono ?_
    rintro e w6 ⟨rfl, hb6⟩
    obtain ⟨a32, a32'⟩ := keep2 hb6 ⟨a25, a25'⟩ (by first | omega | (simp; omega) | simp)
    have o33 := o26.below hb6 (by first | omega | (simp; omega) | simp)
    have o34 := o27.below hb6 (by first | omega | (simp; omega) | simp)
    have o35 := o28.below hb6 (by first | omega | (simp; omega) | simp)
    have hz36 := hb6.size
    have B37 := B30.trans (hb6.mono (by first | omega | (simp; omega) | simp))
    clear hb6
    have z38 : w1.heap.size < w6.heap.size := by omega
    go_wp2
    go_ret
    exact ⟨rfl, B37⟩

set_option maxRecDepth 10000 in
set_option maxHeartbeats 400000 in
theorem fnEvenLosses_big (A0 : Option Addr) (c0 : Nat) (bs : List Int) (B0 : Option Addr) (d0 : Nat) (ds : List Int) (w : World) (hl : ¬ bs.length ≤ 1048576) (hm : bs.length ≤ 9223372036854775807) :
    Calls Try.prog 5 #[.slice A0 bs.length c0, .slice B0 ds.length d0] w fun e w' => e = .returned (.bool true) ∧ Below w.heap.size w w' := by
  go_enter Try.func5, Try.ntmps5
  go_wp2
  go_ret
  exact ⟨rfl, Below.refl _ _⟩

set_option maxRecDepth 10000 in
set_option maxHeartbeats 400000 in
theorem fnEvenLosses_big2 (A0 : Option Addr) (c0 : Nat) (bs : List Int) (B0 : Option Addr) (d0 : Nat) (ds : List Int) (w : World) (hl : bs.length ≤ 1048576) (hl1 : ¬ ds.length ≤ 1048576) (hm : ds.length ≤ 9223372036854775807) :
    Calls Try.prog 5 #[.slice A0 bs.length c0, .slice B0 ds.length d0] w fun e w' => e = .returned (.bool true) ∧ Below w.heap.size w w' := by
  go_enter Try.func5, Try.ntmps5
  go_wp2
  go_ret
  exact ⟨rfl, Below.refl _ _⟩

theorem fnEvenLosses_all (A0 : Option Addr) (c0 : Nat) (bs : List Int) (B0 : Option Addr) (d0 : Nat) (ds : List Int) (w : World) (h0 : Bytes w w.heap.size A0 bs) (h1 : Bytes w w.heap.size B0 ds) (hm : bs.length ≤ 9223372036854775807) (hm1 : ds.length ≤ 9223372036854775807) (hc0 : bs.length ≤ c0) (hd0 : ds.length ≤ d0) :
    Calls Try.prog 5 #[.slice A0 bs.length c0, .slice B0 ds.length d0] w fun e w' => e = .returned (.bool true) ∧ Below w.heap.size w w' := by
  by_cases hl : bs.length ≤ 1048576
  · by_cases hl1 : ds.length ≤ 1048576
    · exact fnEvenLosses_walk A0 c0 bs B0 d0 ds w h0 h1 hl hl1 hc0 hd0
    · exact fnEvenLosses_big2 A0 c0 bs B0 d0 ds w hl hl1 hm1
  · exact fnEvenLosses_big A0 c0 bs B0 d0 ds w hl hm

end Go.Proofs.Ytjoalilapbleiaa
