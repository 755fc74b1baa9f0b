/-
  The law of half awards returns true for every two codes, and writes nothing that was there. No condition.
-/
import Derived.Test.YtngalomfljoomaaDrawP
import Derived.Test.YtngalomfljoomaaGD
import Derived.Test.YtngalomfljoomaaGA
import Derived.Test.YtngalomfljoomaaGC
import Derived.Test.YtngalomfljoomaaAgreeI
import Derived.Test.YtngalomfljoomaaHalfI
import Derived.Test.YtngalomfljoomaaGB
import Derived.Test.YtngalomfljoomaaGE
import Derived.Deep.RegionHeld3
namespace Go.Proofs.Ytngalomfljoomaa
open Go.RowKit

set_option maxRecDepth 10000 in
set_option maxHeartbeats 4000000 in
theorem fnHalfAwards_walk (A0 : Option Addr) (c0 : Nat) (bs : List Int) (B0 : Option Addr) (d0 : Nat) (ds : List Int) (w : World) (h0 : Bytes w w.heap.size A0 bs) (h1 : Bytes w w.heap.size B0 ds) (hl : bs.length ≤ 1048576) (hl1 : ds.length ≤ 1048576) (hc0 : bs.length ≤ c0) (hd0 : ds.length ≤ d0) :
    Calls Try.prog 3 #[.slice A0 bs.length c0, .slice B0 ds.length d0] w fun e w' => e = .returned (.bool true) ∧ Below w.heap.size w w' := by
  have hlm : bs.length ≤ 9223372036854775807 := by omega
  have hlm1 : ds.length ≤ 9223372036854775807 := by omega
  go_enter Try.func3, Try.ntmps3
  go_wp2_with fail
  refine (drawHalfAwards_any A0 c0 bs _ h0 hlm hc0).mono ?_
  rintro e w1 ⟨E, A1, c1, xs, hx5, rfl, ho1, hb1⟩
  have hz1 := hb1.size
  have B2 := (Below.refl w.heap.size w).trans (hb1.mono (by first | omega | (simp; omega) | simp))
  clear hb1
  have x3 := new2 w1 (.int .i64 E) (.slice A1 xs.length c1) 25
  have o4 := ho1.alloc (by omega) (.cells #[.int .i64 E, .slice A1 xs.length c1] 25)
  have B5 := B2.alloc (by omega) (.cells #[.int .i64 E, .slice A1 xs.length c1] 25)
  have hl5 : xs.length ≤ 1152921504606846976 := by omega
  obtain ⟨a6, a6'⟩ := x3
  by_cases hok : caseOkB E xs = true
  · have hok' := hok
    have HO := Lib.hid hok'
    have hbd := caseOk_bd hok'
    have hsm := caseOk_small hok'
    have HP := Lib.hid (other_ok hok')
    obtain ⟨H, hH⟩ : ∃ H, H = halfAw E xs := ⟨_, rfl⟩
    obtain ⟨G, hG⟩ : ∃ G, G = evenAw E xs := ⟨_, rfl⟩
    have HE : Hid (halfAw E xs = H) := hH.symm
    have HHl : Hid (H.length = xs.length) := by show _ = _; rw [hH, halfAw_length]
    have HGl : Hid (G.length = xs.length) := by show _ = _; rw [hG, evenAw_length]
    have HAG : Hid (agreeB E xs H = true) := by show _ = _; rw [hH]; exact half_agree hok'
    have HKP : Hid (keepsB E xs H = true) := by show _ = _; rw [hH]; exact half_keeps hok'
    have HAW : Hid (awardsB E xs H = true) := by show _ = _; rw [hH]; exact (awardsB_iff _ _ _).2 (half_aw hok')
    have HLO : Hid (halfAw (xs.sum - E) xs = lossesRow xs H) := by show _ = _; rw [hH]; exact (half_other hok').symm
    have HNO : Hid (∀ zs, ¬ zs = H → agreeB E xs zs = false) := fun zs hz => half_not (by rw [← hH]; exact hz)
    have HGE : Hid (evenAw E xs = G) := hG.symm
    have hlH : H.length ≤ 1152921504606846976 := by have := HHl.out; omega
    have hlG : G.length ≤ 1152921504606846976 := by have := HGl.out; omega
    have hlL : (lossesRow xs H).length ≤ 1152921504606846976 := by rw [lossesRow_length HHl.out]; exact hlH
    have hb0 : ((H.length : Int) == 0) = false := beq_eq_false_iff_ne.2 (by have := HHl.out; omega)
    clear hok hok' hH hG
    go_wp2_with fail
    refine (implHalf_is E A1 c1 xs H _ _ _ o4.ints (by first | omega | (simp; omega) | simp) HO.out HE.out).mono ?_
    rintro e w2 ⟨A2, c2, rfl, ho2, hb2⟩
    have hp2 : Own w2 (w1.heap.size + 1) w2.heap.size A2 (H) := ho2.more (by simp) (Nat.le_refl _)
    obtain ⟨a7, a7'⟩ := keep2 hb2 ⟨a6, a6'⟩ (by first | omega | (simp; omega) | simp)
    have o8 := o4.below hb2 (by first | omega | (simp; omega) | simp)
    have hz9 := hb2.size
    simp at hz9
    have B10 := B5.trans (hb2.mono (by first | omega | (simp; omega) | simp))
    clear hb2
    have z11 : w1.heap.size < w2.heap.size := by omega
    go_wp2_with fail
    refine (specHalf_is E A1 c1 xs H _ _ _ o8.ints (by first | omega | (simp; omega) | simp) HO.out HE.out).mono ?_
    rintro e w3 ⟨A3, c3, rfl, ho3, hb3⟩
    obtain ⟨a12, a12'⟩ := keep2 hb3 ⟨a7, a7'⟩ (by first | omega | (simp; omega) | simp)
    have o13 := o8.below hb3 (by first | omega | (simp; omega) | simp)
    have o14 := hp2.below hb3 (by first | omega | (simp; omega) | simp)
    have hz15 := hb3.size
    have B16 := B10.trans (hb3.mono (by first | omega | (simp; omega) | simp))
    clear hb3
    have z17 : w1.heap.size < w3.heap.size := by omega
    go_wp2_with fail
    refine (sameInts_below A2 A3 c2 c3 H _ _ _ _ _ o14.ints ho3.ints hlH).mono ?_
    rintro e w4 ⟨rfl, hb4⟩
    obtain ⟨a18, a18'⟩ := keep2 hb4 ⟨a12, a12'⟩ (by first | omega | (simp; omega) | simp)
    have o19 := o13.below hb4 (by first | omega | (simp; omega) | simp)
    have o20 := o14.below hb4 (by first | omega | (simp; omega) | simp)
    have o21 := ho3.below hb4 (by first | omega | (simp; omega) | simp)
    have hz22 := hb4.size
    have B23 := B16.trans (hb4.mono (by first | omega | (simp; omega) | simp))
    clear hb4
    have z24 : w1.heap.size < w4.heap.size := by omega
    go_wp2_with fail
    refine (implOtherCase_yes E A1 c1 xs _ _ _ o19.ints (by first | omega | (simp; omega) | simp) HO.out).mono ?_
    rintro e w5 ⟨A5, c5, rfl, ho5, hb5⟩
    obtain ⟨a25, a25'⟩ := keep2 hb5 ⟨a18, a18'⟩ (by first | omega | (simp; omega) | simp)
    have o26 := o19.below hb5 (by first | omega | (simp; omega) | simp)
    have o27 := o20.below hb5 (by first | omega | (simp; omega) | simp)
    have o28 := o21.below hb5 (by first | omega | (simp; omega) | simp)
    have hz29 := hb5.size
    have B30 := B23.trans (hb5.mono (by first | omega | (simp; omega) | simp))
    clear hb5
    have z31 : w1.heap.size < w5.heap.size := by omega
    have x32 := new2 w5 (.int .i64 (xs.sum - E)) (.slice A5 xs.length c5) 25
    have q33 := keep2 ((Below.refl w5.heap.size w5).alloc (Nat.le_refl _) (.cells #[.int .i64 (xs.sum - E), .slice A5 xs.length c5] 25)) ⟨a25, a25'⟩ (by omega)
    have o34 := o26.alloc (by omega) (.cells #[.int .i64 (xs.sum - E), .slice A5 xs.length c5] 25)
    have o35 := o27.alloc (by omega) (.cells #[.int .i64 (xs.sum - E), .slice A5 xs.length c5] 25)
    have o36 := o28.alloc (by omega) (.cells #[.int .i64 (xs.sum - E), .slice A5 xs.length c5] 25)
    have o37 := ho5.alloc (by omega) (.cells #[.int .i64 (xs.sum - E), .slice A5 xs.length c5] 25)
    have B38 := B30.alloc (by omega) (.cells #[.int .i64 (xs.sum - E), .slice A5 xs.length c5] 25)
    obtain ⟨a39, a39'⟩ := q33
    obtain ⟨a40, a40'⟩ := x32
    go_wp2_with fail
    refine (drawLossesOf_any B0 d0 ds _ ((h1.below B38 (Nat.le_refl _)).more (hi' := (w5.alloc (.cells #[.int .i64 (xs.sum - E), .slice A5 xs.length c5] 25)).heap.size) (by first | omega | (simp; omega) | simp)) hlm1 hd0).mono ?_
    rintro e w6 ⟨E2, A6, c6, D6, d6, xs2, ys, hx52, hy5, hyb, rfl, ho6, hq6, hb6⟩
    have hp6 : Own w6 (w5.heap.size + 1) w6.heap.size D6 ys := hq6.more (by simp) (Nat.le_refl _)
    obtain ⟨a41, a41'⟩ := keep2 hb6 ⟨a39, a39'⟩ (by first | omega | (simp; omega) | simp)
    obtain ⟨a42, a42'⟩ := keep2 hb6 ⟨a40, a40'⟩ (by first | omega | (simp; omega) | simp)
    have o43 := o34.below hb6 (by first | omega | (simp; omega) | simp)
    have o44 := o35.below hb6 (by first | omega | (simp; omega) | simp)
    have o45 := o36.below hb6 (by first | omega | (simp; omega) | simp)
    have o46 := o37.below hb6 (by first | omega | (simp; omega) | simp)
    have hz47 := hb6.size
    simp at hz47
    have B48 := B38.trans (hb6.mono (by first | omega | (simp; omega) | simp))
    clear hb6
    have z49 : w1.heap.size < w6.heap.size := by omega
    have z50 : w5.heap.size < w6.heap.size := by omega
    have x51 := new2 w6 (.int .i64 E2) (.slice A6 xs2.length c6) 25
    have q52 := keep2 ((Below.refl w6.heap.size w6).alloc (Nat.le_refl _) (.cells #[.int .i64 E2, .slice A6 xs2.length c6] 25)) ⟨a41, a41'⟩ (by omega)
    have q53 := keep2 ((Below.refl w6.heap.size w6).alloc (Nat.le_refl _) (.cells #[.int .i64 E2, .slice A6 xs2.length c6] 25)) ⟨a42, a42'⟩ (by omega)
    have o54 := o43.alloc (by omega) (.cells #[.int .i64 E2, .slice A6 xs2.length c6] 25)
    have o55 := o44.alloc (by omega) (.cells #[.int .i64 E2, .slice A6 xs2.length c6] 25)
    have o56 := o45.alloc (by omega) (.cells #[.int .i64 E2, .slice A6 xs2.length c6] 25)
    have o57 := o46.alloc (by omega) (.cells #[.int .i64 E2, .slice A6 xs2.length c6] 25)
    have o58 := hp6.alloc (by omega) (.cells #[.int .i64 E2, .slice A6 xs2.length c6] 25)
    have B59 := B48.alloc (by omega) (.cells #[.int .i64 E2, .slice A6 xs2.length c6] 25)
    obtain ⟨a60, a60'⟩ := q52
    obtain ⟨a61, a61'⟩ := q53
    obtain ⟨a62, a62'⟩ := x51
    go_wp2_with fail
    refine (implEven_is E A1 c1 xs G _ _ _ o54.ints (by first | omega | (simp; omega) | simp) HO.out HGE.out).mono ?_
    rintro e w7 ⟨A7, c7, rfl, ho7, hb7⟩
    have hp7 : Own w7 (w6.heap.size + 1) w7.heap.size A7 (G) := ho7.more (by simp) (Nat.le_refl _)
    obtain ⟨a63, a63'⟩ := keep2 hb7 ⟨a60, a60'⟩ (by first | omega | (simp; omega) | simp)
    obtain ⟨a64, a64'⟩ := keep2 hb7 ⟨a61, a61'⟩ (by first | omega | (simp; omega) | simp)
    obtain ⟨a65, a65'⟩ := keep2 hb7 ⟨a62, a62'⟩ (by first | omega | (simp; omega) | simp)
    have o66 := o54.below hb7 (by first | omega | (simp; omega) | simp)
    have o67 := o55.below hb7 (by first | omega | (simp; omega) | simp)
    have o68 := o56.below hb7 (by first | omega | (simp; omega) | simp)
    have o69 := o57.below hb7 (by first | omega | (simp; omega) | simp)
    have o70 := o58.below hb7 (by first | omega | (simp; omega) | simp)
    have hz71 := hb7.size
    simp at hz71
    have B72 := B59.trans (hb7.mono (by first | omega | (simp; omega) | simp))
    clear hb7
    have z73 : w1.heap.size < w7.heap.size := by omega
    have z74 : w5.heap.size < w7.heap.size := by omega
    have z75 : w6.heap.size < w7.heap.size := by omega
    have hYl : ys.length ≤ 1152921504606846976 := by omega
    go_wp2_with fail
    by_cases hys : ys = H
    · by_cases hgs : G = H
      · have HYS := Lib.hid hys
        have HGS := Lib.hid hgs
        clear hys hgs
        have hWW : w.heap.size ≤ w7.heap.size := by first | omega | (simp; omega) | simp
        have g_c : w1.heap.size < w7.heap.size := by first | omega | (simp; omega) | simp
        have g_o : w5.heap.size < w7.heap.size := by first | omega | (simp; omega) | simp
        have g_kc : w1.heap.size ≤ w7.heap.size := by first | omega | (simp; omega) | simp
        have g_ko : w5.heap.size ≤ w7.heap.size := by first | omega | (simp; omega) | simp
        have g_kh : w2.heap.size ≤ w7.heap.size := by first | omega | (simp; omega) | simp
        have g_kd : w6.heap.size ≤ w7.heap.size := by first | omega | (simp; omega) | simp
        have g_kg : w7.heap.size ≤ w7.heap.size := by first | omega | (simp; omega) | simp
        refine wp_region_held_drew (S := (fun w' : World => w'.cell? ⟨w1.heap.size, 0, none⟩ = some (.int .i64 E) ∧ w'.cell? ⟨w1.heap.size, 1, none⟩ = some (.slice A1 xs.length c1) ∧ w'.cell? ⟨w5.heap.size, 0, none⟩ = some (.int .i64 (xs.sum - E)) ∧ w'.cell? ⟨w5.heap.size, 1, none⟩ = some (.slice A5 xs.length c5) ∧ Ints w' (w.heap.size) (w1.heap.size) (A1) (xs) ∧ Ints w' (w4.heap.size) (w5.heap.size) (A5) (xs) ∧ Ints w' (w1.heap.size + 1) (w2.heap.size) (A2) (H) ∧ Ints w' (w5.heap.size + 1) (w6.heap.size) (D6) (ys) ∧ Ints w' (w6.heap.size + 1) (w7.heap.size) (A7) (G) ∧ w7.heap.size ≤ w'.heap.size ∧ Below w.heap.size w w')) (by kernel_rfl) ⟨a63, a63', a64, a64', o66.ints, o69.ints, o67.ints, o70.ints, hp7.ints, Nat.le_refl _, B72.drew⟩ (fun hHeld => ?_)
        refine wpAnyH_take (i := 0) (oi := ?oi1) (v := ?vv1) ?hi1 ?hs1 ?hf1 ?ha1 ?hq1 ?hy1 hHeld ?hr1
        case hi1 => (simp only [List.getElem?_toArray, List.getElem?_cons_zero]; exact rfl)
        case hs1 => kernel_rfl
        case hf1 => kernel_rfl
        case ha1 => kernel_rfl
        case hq1 => exact fun _ _ _ h => h
        case hy1 =>
          refine Or.inl ⟨by rfl, ?_⟩
          intro w' hSw
          try dsimp only at hSw
          go_simp
          first | done | with_reducible rfl
        simp only [Act.put, List.setIfInBounds_toArray, List.set_cons_succ, List.set_cons_zero]
        refine wpAnyH_take (i := 1) (oi := ?oi2) (v := ?vv2) ?hi2 ?hs2 ?hf2 ?ha2 ?hq2 ?hy2 hHeld ?hr2
        case hi2 => (simp only [List.getElem?_toArray, List.getElem?_cons_succ, List.getElem?_cons_zero]; exact rfl)
        case hs2 => kernel_rfl
        case hf2 => kernel_rfl
        case ha2 => kernel_rfl
        case hq2 => exact fun _ _ _ h => h
        case hy2 =>
          refine Or.inl ⟨by rfl, ?_⟩
          intro w' hSw
          try dsimp only at hSw
          go_simp
          first | done | with_reducible rfl
        simp only [Act.put, List.setIfInBounds_toArray, List.set_cons_succ, List.set_cons_zero]
        refine wpAnyH_take (i := 2) (oi := ?oi3) (v := ?vv3) ?hi3 ?hs3 ?hf3 ?ha3 ?hq3 ?hy3 hHeld ?hr3
        case hi3 => (simp only [List.getElem?_toArray, List.getElem?_cons_succ, List.getElem?_cons_zero]; exact rfl)
        case hs3 => kernel_rfl
        case hf3 => kernel_rfl
        case ha3 => kernel_rfl
        case hq3 => exact fun _ _ _ h => h
        case hy3 =>
          refine Or.inl ⟨by rfl, ?_⟩
          intro w' hSw
          try dsimp only at hSw
          go_simp
          first | done | with_reducible rfl
        simp only [Act.put, List.setIfInBounds_toArray, List.set_cons_succ, List.set_cons_zero]
        refine wpAnyH_take (i := 3) (oi := ?oi4) (v := ?vv4) ?hi4 ?hs4 ?hf4 ?ha4 ?hq4 ?hy4 hHeld ?hr4
        case hi4 => (simp only [List.getElem?_toArray, List.getElem?_cons_succ, List.getElem?_cons_zero]; exact rfl)
        case hs4 => kernel_rfl
        case hf4 => kernel_rfl
        case ha4 => kernel_rfl
        case hq4 => exact fun _ _ _ h => h
        case hy4 =>
          refine Or.inl ⟨by rfl, ?_⟩
          intro w' hSw
          try dsimp only at hSw
          go_simp
          first | done | with_reducible rfl
        simp only [Act.put, List.setIfInBounds_toArray, List.set_cons_succ, List.set_cons_zero]
        refine wpAnyH_ready (rs := [4]) (by kernel_rfl) (by simp) ?_
        refine AllReadyH.cons rfl (fun K hK => ?_) AllReadyH.nil
        go_simp
        go_at_call 19
        obtain ⟨y0, y1, y2, y3, kc, ko, kh, kd, kg, zz, BB⟩ := hHeld
        (with_reducible refine (implPairs_is E A1 c1 xs A2 c2 (H) _ _ _ kc (by omega) hl5 _ _ kh (by omega) hlH true HAG.out).mono ?_)
        rintro e w8_ ⟨rfl, hb9⟩
        refine hK.out _ _ ⟨(keep2 hb9 ⟨y0, y1⟩ (by omega)).1, (keep2 hb9 ⟨y0, y1⟩ (by omega)).2, (keep2 hb9 ⟨y2, y3⟩ (by omega)).1, (keep2 hb9 ⟨y2, y3⟩ (by omega)).2, kc.below hb9 (by omega), ko.below hb9 (by omega), kh.below hb9 (by omega), kd.below hb9 (by omega), kg.below hb9 (by omega), Nat.le_trans zz hb9.size, BB.trans (hb9.mono (by omega))⟩ (fun hHeld => ?_)
        clear hb9 BB zz kg kd kh ko kc y3 y2 y1 y0
        clear hK K
        try simp only [Act.put, List.setIfInBounds_toArray, List.set_cons_zero, List.set_cons_succ]
        refine wpAnyH_take (i := 5) (oi := ?oi5) (v := ?vv5) ?hi5 ?hs5 ?hf5 ?ha5 ?hq5 ?hy5 hHeld ?hr5
        case hi5 => (simp only [List.getElem?_toArray, List.getElem?_cons_succ, List.getElem?_cons_zero]; exact rfl)
        case hs5 => kernel_rfl
        case hf5 => kernel_rfl
        case ha5 => kernel_rfl
        case hq5 => exact fun _ _ _ h => h
        case hy5 =>
          refine Or.inl ⟨by rfl, ?_⟩
          intro w' hSw
          try dsimp only at hSw
          go_simp
          first | done | with_reducible rfl
        simp only [Act.put, List.setIfInBounds_toArray, List.set_cons_succ, List.set_cons_zero]
        refine wpAnyH_take (i := 6) (oi := ?oi6) (v := ?vv6) ?hi6 ?hs6 ?hf6 ?ha6 ?hq6 ?hy6 hHeld ?hr6
        case hi6 => (simp only [List.getElem?_toArray, List.getElem?_cons_succ, List.getElem?_cons_zero]; exact rfl)
        case hs6 => kernel_rfl
        case hf6 => kernel_rfl
        case ha6 => kernel_rfl
        case hq6 => exact fun _ _ _ h => h
        case hy6 =>
          refine Or.inl ⟨by rfl, ?_⟩
          intro w' hSw
          try dsimp only at hSw
          go_simp
          first | done | with_reducible rfl
        simp only [Act.put, List.setIfInBounds_toArray, List.set_cons_succ, List.set_cons_zero]
        refine wpAnyH_take (i := 7) (oi := ?oi7) (v := ?vv7) ?hi7 ?hs7 ?hf7 ?ha7 ?hq7 ?hy7 hHeld ?hr7
        case hi7 => (simp only [List.getElem?_toArray, List.getElem?_cons_succ, List.getElem?_cons_zero]; exact rfl)
        case hs7 => kernel_rfl
        case hf7 => kernel_rfl
        case ha7 => kernel_rfl
        case hq7 => exact fun _ _ _ h => h
        case hy7 =>
          refine Or.inl ⟨by rfl, ?_⟩
          intro w' hSw
          try dsimp only at hSw
          go_simp
          first | done | with_reducible rfl
        simp only [Act.put, List.setIfInBounds_toArray, List.set_cons_succ, List.set_cons_zero]
        refine wpAnyH_take (i := 8) (oi := ?oi8) (v := ?vv8) ?hi8 ?hs8 ?hf8 ?ha8 ?hq8 ?hy8 hHeld ?hr8
        case hi8 => (simp only [List.getElem?_toArray, List.getElem?_cons_succ, List.getElem?_cons_zero]; exact rfl)
        case hs8 => kernel_rfl
        case hf8 => kernel_rfl
        case ha8 => kernel_rfl
        case hq8 => exact fun _ _ _ h => h
        case hy8 =>
          refine Or.inl ⟨by rfl, ?_⟩
          intro w' hSw
          try dsimp only at hSw
          go_simp
          first | done | with_reducible rfl
        simp only [Act.put, List.setIfInBounds_toArray, List.set_cons_succ, List.set_cons_zero]
        refine wpAnyH_ready (rs := [9]) (by kernel_rfl) (by simp) ?_
        refine AllReadyH.cons rfl (fun K hK => ?_) AllReadyH.nil
        go_simp
        go_at_call 12
        obtain ⟨y0, y1, y2, y3, kc, ko, kh, kd, kg, zz, BB⟩ := hHeld
        (with_reducible refine (sameInts_yes D6 A2 d6 c2 (ys) H _ _ _ _ _ kd kh hYl HYS.out).mono ?_)
        rintro e w9_ ⟨rfl, hb9⟩
        refine hK.out _ _ ⟨(keep2 hb9 ⟨y0, y1⟩ (by omega)).1, (keep2 hb9 ⟨y0, y1⟩ (by omega)).2, (keep2 hb9 ⟨y2, y3⟩ (by omega)).1, (keep2 hb9 ⟨y2, y3⟩ (by omega)).2, kc.below hb9 (by omega), ko.below hb9 (by omega), kh.below hb9 (by omega), kd.below hb9 (by omega), kg.below hb9 (by omega), Nat.le_trans zz hb9.size, BB.trans (hb9.mono (by omega))⟩ (fun hHeld => ?_)
        clear hb9 BB zz kg kd kh ko kc y3 y2 y1 y0
        clear hK K
        try simp only [Act.put, List.setIfInBounds_toArray, List.set_cons_zero, List.set_cons_succ]
        refine wpAnyH_take (i := 10) (oi := ?oi9) (v := ?vv9) ?hi9 ?hs9 ?hf9 ?ha9 ?hq9 ?hy9 hHeld ?hr9
        case hi9 => (simp only [List.getElem?_toArray, List.getElem?_cons_succ, List.getElem?_cons_zero]; exact rfl)
        case hs9 => kernel_rfl
        case hf9 => kernel_rfl
        case ha9 => kernel_rfl
        case hq9 => exact fun _ _ _ h => h
        case hy9 =>
          refine Or.inl ⟨by rfl, ?_⟩
          intro w' hSw
          try dsimp only at hSw
          go_simp
          first | done | with_reducible rfl
        simp only [Act.put, List.setIfInBounds_toArray, List.set_cons_succ, List.set_cons_zero]
        refine wpAnyH_take (i := 11) (oi := ?oi10) (v := undef) ?hi10 ?hs10 ?hf10 ?ha10 ?hq10 ?hy10 hHeld ?hr10
        case hi10 => (simp only [List.getElem?_toArray, List.getElem?_cons_succ, List.getElem?_cons_zero]; exact rfl)
        case hs10 => kernel_rfl
        case hf10 => kernel_rfl
        case ha10 => kernel_rfl
        case hq10 => exact fun _ _ _ h => h
        case hy10 => exact Or.inr ⟨by rfl, rfl⟩
        simp only [Act.put, List.setIfInBounds_toArray, List.set_cons_succ, List.set_cons_zero]
        refine wpAnyH_take (i := 12) (oi := ?oi11) (v := undef) ?hi11 ?hs11 ?hf11 ?ha11 ?hq11 ?hy11 hHeld ?hr11
        case hi11 => (simp only [List.getElem?_toArray, List.getElem?_cons_succ, List.getElem?_cons_zero]; exact rfl)
        case hs11 => kernel_rfl
        case hf11 => kernel_rfl
        case ha11 => kernel_rfl
        case hq11 => exact fun _ _ _ h => h
        case hy11 => exact Or.inr ⟨by rfl, rfl⟩
        simp only [Act.put, List.setIfInBounds_toArray, List.set_cons_succ, List.set_cons_zero]
        refine wpAnyH_take (i := 13) (oi := ?oi12) (v := undef) ?hi12 ?hs12 ?hf12 ?ha12 ?hq12 ?hy12 hHeld ?hr12
        case hi12 => (simp only [List.getElem?_toArray, List.getElem?_cons_succ, List.getElem?_cons_zero]; exact rfl)
        case hs12 => kernel_rfl
        case hf12 => kernel_rfl
        case ha12 => kernel_rfl
        case hq12 => exact fun _ _ _ h => h
        case hy12 => exact Or.inr ⟨by rfl, rfl⟩
        simp only [Act.put, List.setIfInBounds_toArray, List.set_cons_succ, List.set_cons_zero]
        refine wpAnyH_take (i := 14) (oi := ?oi13) (v := undef) ?hi13 ?hs13 ?hf13 ?ha13 ?hq13 ?hy13 hHeld ?hr13
        case hi13 => (simp only [List.getElem?_toArray, List.getElem?_cons_succ, List.getElem?_cons_zero]; exact rfl)
        case hs13 => kernel_rfl
        case hf13 => kernel_rfl
        case ha13 => kernel_rfl
        case hq13 => exact fun _ _ _ h => h
        case hy13 => exact Or.inr ⟨by rfl, rfl⟩
        simp only [Act.put, List.setIfInBounds_toArray, List.set_cons_succ, List.set_cons_zero]
        refine wpAnyH_take (i := 15) (oi := ?oi14) (v := ?vv14) ?hi14 ?hs14 ?hf14 ?ha14 ?hq14 ?hy14 hHeld ?hr14
        case hi14 => (simp only [List.getElem?_toArray, List.getElem?_cons_succ, List.getElem?_cons_zero]; exact rfl)
        case hs14 => kernel_rfl
        case hf14 => kernel_rfl
        case ha14 => kernel_rfl
        case hq14 => exact fun _ _ _ h => h
        case hy14 =>
          refine Or.inl ⟨by rfl, ?_⟩
          intro w' hSw
          try dsimp only at hSw
          go_simp
          first | done | with_reducible rfl
        simp only [Act.put, List.setIfInBounds_toArray, List.set_cons_succ, List.set_cons_zero]
        refine wpAnyH_take (i := 16) (oi := ?oi15) (v := ?vv15) ?hi15 ?hs15 ?hf15 ?ha15 ?hq15 ?hy15 hHeld ?hr15
        case hi15 => (simp only [List.getElem?_toArray, List.getElem?_cons_succ, List.getElem?_cons_zero]; exact rfl)
        case hs15 => kernel_rfl
        case hf15 => kernel_rfl
        case ha15 => kernel_rfl
        case hq15 => exact fun _ _ _ h => h
        case hy15 =>
          refine Or.inl ⟨by rfl, ?_⟩
          intro w' hSw
          try dsimp only at hSw
          go_simp
          first | done | with_reducible rfl
        simp only [Act.put, List.setIfInBounds_toArray, List.set_cons_succ, List.set_cons_zero]
        refine wpAnyH_take (i := 17) (oi := ?oi16) (v := ?vv16) ?hi16 ?hs16 ?hf16 ?ha16 ?hq16 ?hy16 hHeld ?hr16
        case hi16 => (simp only [List.getElem?_toArray, List.getElem?_cons_succ, List.getElem?_cons_zero]; exact rfl)
        case hs16 => kernel_rfl
        case hf16 => kernel_rfl
        case ha16 => kernel_rfl
        case hq16 => exact fun _ _ _ h => h
        case hy16 =>
          refine Or.inl ⟨by rfl, ?_⟩
          intro w' hSw
          try dsimp only at hSw
          go_simp
          first | done | with_reducible rfl
        simp only [Act.put, List.setIfInBounds_toArray, List.set_cons_succ, List.set_cons_zero]
        refine wpAnyH_take (i := 18) (oi := ?oi17) (v := ?vv17) ?hi17 ?hs17 ?hf17 ?ha17 ?hq17 ?hy17 hHeld ?hr17
        case hi17 => (simp only [List.getElem?_toArray, List.getElem?_cons_succ, List.getElem?_cons_zero]; exact rfl)
        case hs17 => kernel_rfl
        case hf17 => kernel_rfl
        case ha17 => kernel_rfl
        case hq17 => exact fun _ _ _ h => h
        case hy17 =>
          refine Or.inl ⟨by rfl, ?_⟩
          intro w' hSw
          try dsimp only at hSw
          go_simp
          first | done | with_reducible rfl
        simp only [Act.put, List.setIfInBounds_toArray, List.set_cons_succ, List.set_cons_zero]
        refine wpAnyH_take (i := 19) (oi := ?oi18) (v := ?vv18) ?hi18 ?hs18 ?hf18 ?ha18 ?hq18 ?hy18 hHeld ?hr18
        case hi18 => (simp only [List.getElem?_toArray, List.getElem?_cons_succ, List.getElem?_cons_zero]; exact rfl)
        case hs18 => kernel_rfl
        case hf18 => kernel_rfl
        case ha18 => kernel_rfl
        case hq18 => exact fun _ _ _ h => h
        case hy18 =>
          refine Or.inl ⟨by rfl, ?_⟩
          intro w' hSw
          try dsimp only at hSw
          go_simp
          first | done | with_reducible rfl
        simp only [Act.put, List.setIfInBounds_toArray, List.set_cons_succ, List.set_cons_zero]
        refine wpAnyH_ready (rs := [20]) (by kernel_rfl) (by simp) ?_
        refine AllReadyH.cons rfl (fun K hK => ?_) AllReadyH.nil
        go_simp
        go_at_call 12
        obtain ⟨y0, y1, y2, y3, kc, ko, kh, kd, kg, zz, BB⟩ := hHeld
        (with_reducible refine (sameInts_yes A7 A2 c7 c2 (G) H _ _ _ _ _ kg kh hlG HGS.out).mono ?_)
        rintro e w10_ ⟨rfl, hb9⟩
        refine hK.out _ _ ⟨(keep2 hb9 ⟨y0, y1⟩ (by omega)).1, (keep2 hb9 ⟨y0, y1⟩ (by omega)).2, (keep2 hb9 ⟨y2, y3⟩ (by omega)).1, (keep2 hb9 ⟨y2, y3⟩ (by omega)).2, kc.below hb9 (by omega), ko.below hb9 (by omega), kh.below hb9 (by omega), kd.below hb9 (by omega), kg.below hb9 (by omega), Nat.le_trans zz hb9.size, BB.trans (hb9.mono (by omega))⟩ (fun hHeld => ?_)
        clear hb9 BB zz kg kd kh ko kc y3 y2 y1 y0
        clear hK K
        try simp only [Act.put, List.setIfInBounds_toArray, List.set_cons_zero, List.set_cons_succ]
        refine wpAnyH_take (i := 21) (oi := ?oi19) (v := ?vv19) ?hi19 ?hs19 ?hf19 ?ha19 ?hq19 ?hy19 hHeld ?hr19
        case hi19 => (simp only [List.getElem?_toArray, List.getElem?_cons_succ, List.getElem?_cons_zero]; exact rfl)
        case hs19 => kernel_rfl
        case hf19 => kernel_rfl
        case ha19 => kernel_rfl
        case hq19 => exact fun _ _ _ h => h
        case hy19 =>
          refine Or.inl ⟨by rfl, ?_⟩
          intro w' hSw
          try dsimp only at hSw
          go_simp
          first | done | with_reducible rfl
        simp only [Act.put, List.setIfInBounds_toArray, List.set_cons_succ, List.set_cons_zero]
        refine wpAnyH_take (i := 22) (oi := ?oi20) (v := undef) ?hi20 ?hs20 ?hf20 ?ha20 ?hq20 ?hy20 hHeld ?hr20
        case hi20 => (simp only [List.getElem?_toArray, List.getElem?_cons_succ, List.getElem?_cons_zero]; exact rfl)
        case hs20 => kernel_rfl
        case hf20 => kernel_rfl
        case ha20 => kernel_rfl
        case hq20 => exact fun _ _ _ h => h
        case hy20 => exact Or.inr ⟨by rfl, rfl⟩
        simp only [Act.put, List.setIfInBounds_toArray, List.set_cons_succ, List.set_cons_zero]
        refine wpAnyH_take (i := 23) (oi := ?oi21) (v := undef) ?hi21 ?hs21 ?hf21 ?ha21 ?hq21 ?hy21 hHeld ?hr21
        case hi21 => (simp only [List.getElem?_toArray, List.getElem?_cons_succ, List.getElem?_cons_zero]; exact rfl)
        case hs21 => kernel_rfl
        case hf21 => kernel_rfl
        case ha21 => kernel_rfl
        case hq21 => exact fun _ _ _ h => h
        case hy21 => exact Or.inr ⟨by rfl, rfl⟩
        simp only [Act.put, List.setIfInBounds_toArray, List.set_cons_succ, List.set_cons_zero]
        refine wpAnyH_take (i := 24) (oi := ?oi22) (v := undef) ?hi22 ?hs22 ?hf22 ?ha22 ?hq22 ?hy22 hHeld ?hr22
        case hi22 => (simp only [List.getElem?_toArray, List.getElem?_cons_succ, List.getElem?_cons_zero]; exact rfl)
        case hs22 => kernel_rfl
        case hf22 => kernel_rfl
        case ha22 => kernel_rfl
        case hq22 => exact fun _ _ _ h => h
        case hy22 => exact Or.inr ⟨by rfl, rfl⟩
        simp only [Act.put, List.setIfInBounds_toArray, List.set_cons_succ, List.set_cons_zero]
        refine wpAnyH_take (i := 25) (oi := ?oi23) (v := undef) ?hi23 ?hs23 ?hf23 ?ha23 ?hq23 ?hy23 hHeld ?hr23
        case hi23 => (simp only [List.getElem?_toArray, List.getElem?_cons_succ, List.getElem?_cons_zero]; exact rfl)
        case hs23 => kernel_rfl
        case hf23 => kernel_rfl
        case ha23 => kernel_rfl
        case hq23 => exact fun _ _ _ h => h
        case hy23 => exact Or.inr ⟨by rfl, rfl⟩
        simp only [Act.put, List.setIfInBounds_toArray, List.set_cons_succ, List.set_cons_zero]
        refine wpAnyH_take (i := 26) (oi := ?oi24) (v := ?vv24) ?hi24 ?hs24 ?hf24 ?ha24 ?hq24 ?hy24 hHeld ?hr24
        case hi24 => (simp only [List.getElem?_toArray, List.getElem?_cons_succ, List.getElem?_cons_zero]; exact rfl)
        case hs24 => kernel_rfl
        case hf24 => kernel_rfl
        case ha24 => kernel_rfl
        case hq24 => exact fun _ _ _ h => h
        case hy24 =>
          refine Or.inl ⟨by rfl, ?_⟩
          intro w' hSw
          try dsimp only at hSw
          go_simp
          first | done | with_reducible rfl
        simp only [Act.put, List.setIfInBounds_toArray, List.set_cons_succ, List.set_cons_zero]
        refine wpAnyH_take (i := 27) (oi := ?oi25) (v := ?vv25) ?hi25 ?hs25 ?hf25 ?ha25 ?hq25 ?hy25 hHeld ?hr25
        case hi25 => (simp only [List.getElem?_toArray, List.getElem?_cons_succ, List.getElem?_cons_zero]; exact rfl)
        case hs25 => kernel_rfl
        case hf25 => kernel_rfl
        case ha25 => kernel_rfl
        case hq25 => exact fun _ _ _ h => h
        case hy25 =>
          refine Or.inl ⟨by rfl, ?_⟩
          intro w' hSw
          try dsimp only at hSw
          go_simp
          first | done | with_reducible rfl
        simp only [Act.put, List.setIfInBounds_toArray, List.set_cons_succ, List.set_cons_zero]
        refine wpAnyH_take (i := 28) (oi := ?oi26) (v := ?vv26) ?hi26 ?hs26 ?hf26 ?ha26 ?hq26 ?hy26 hHeld ?hr26
        case hi26 => (simp only [List.getElem?_toArray, List.getElem?_cons_succ, List.getElem?_cons_zero]; exact rfl)
        case hs26 => kernel_rfl
        case hf26 => kernel_rfl
        case ha26 => kernel_rfl
        case hq26 => exact fun _ _ _ h => h
        case hy26 =>
          refine Or.inl ⟨by rfl, ?_⟩
          intro w' hSw
          try dsimp only at hSw
          go_simp
          first | done | with_reducible rfl
        simp only [Act.put, List.setIfInBounds_toArray, List.set_cons_succ, List.set_cons_zero]
        refine wpAnyH_take (i := 29) (oi := ?oi27) (v := ?vv27) ?hi27 ?hs27 ?hf27 ?ha27 ?hq27 ?hy27 hHeld ?hr27
        case hi27 => (simp only [List.getElem?_toArray, List.getElem?_cons_succ, List.getElem?_cons_zero]; exact rfl)
        case hs27 => kernel_rfl
        case hf27 => kernel_rfl
        case ha27 => kernel_rfl
        case hq27 => exact fun _ _ _ h => h
        case hy27 =>
          refine Or.inl ⟨by rfl, ?_⟩
          intro w' hSw
          try dsimp only at hSw
          go_simp
          first | done | with_reducible rfl
        simp only [Act.put, List.setIfInBounds_toArray, List.set_cons_succ, List.set_cons_zero]
        refine wpAnyH_take (i := 30) (oi := ?oi28) (v := ?vv28) ?hi28 ?hs28 ?hf28 ?ha28 ?hq28 ?hy28 hHeld ?hr28
        case hi28 => (simp only [List.getElem?_toArray, List.getElem?_cons_succ, List.getElem?_cons_zero]; exact rfl)
        case hs28 => kernel_rfl
        case hf28 => kernel_rfl
        case ha28 => kernel_rfl
        case hq28 => exact fun _ _ _ h => h
        case hy28 =>
          refine Or.inl ⟨by rfl, ?_⟩
          intro w' hSw
          try dsimp only at hSw
          go_simp
          first | done | with_reducible rfl
        simp only [Act.put, List.setIfInBounds_toArray, List.set_cons_succ, List.set_cons_zero]
        refine wpAnyH_take (i := 32) (oi := ?oi29) (v := ?vv29) ?hi29 ?hs29 ?hf29 ?ha29 ?hq29 ?hy29 hHeld ?hr29
        case hi29 => (simp only [List.getElem?_toArray, List.getElem?_cons_succ, List.getElem?_cons_zero]; exact rfl)
        case hs29 => kernel_rfl
        case hf29 => kernel_rfl
        case ha29 => kernel_rfl
        case hq29 => exact fun _ _ _ h => h
        case hy29 =>
          refine Or.inl ⟨by rfl, ?_⟩
          intro w' hSw
          try dsimp only at hSw
          go_simp
          first | done | with_reducible rfl
        simp only [Act.put, List.setIfInBounds_toArray, List.set_cons_succ, List.set_cons_zero]
        refine wpAnyH_ready (rs := [31]) (by kernel_rfl) (by simp) ?_
        refine AllReadyH.cons rfl (fun K hK => ?_) AllReadyH.nil
        go_simp
        go_at_call 20
        obtain ⟨y0, y1, y2, y3, kc, ko, kh, kd, kg, zz, BB⟩ := hHeld
        (with_reducible refine (implLossesOf_yes E A1 c1 xs A2 c2 H _ _ _ kc (by omega) hl5 _ _ kh (by omega) hlH HAW.out).mono ?_)
        rintro e w11_ ⟨Am, cm, rfl, hom, hb9⟩
        refine hK.out _ _ ⟨(keep2 hb9 ⟨y0, y1⟩ (by omega)).1, (keep2 hb9 ⟨y0, y1⟩ (by omega)).2, (keep2 hb9 ⟨y2, y3⟩ (by omega)).1, (keep2 hb9 ⟨y2, y3⟩ (by omega)).2, kc.below hb9 (by omega), ko.below hb9 (by omega), kh.below hb9 (by omega), kd.below hb9 (by omega), kg.below hb9 (by omega), Nat.le_trans zz hb9.size, BB.trans (hb9.mono (by omega))⟩ (fun hHeld => ?_)
        clear hb9 BB zz kg kd kh ko kc y3 y2 y1 y0
        clear hK K
        try simp only [Act.put, List.setIfInBounds_toArray, List.set_cons_zero, List.set_cons_succ]
        refine wpAnyH_ready (rs := [33]) (by kernel_rfl) (by simp) ?_
        refine AllReadyH.cons rfl (fun K hK => ?_) AllReadyH.nil
        go_simp
        go_at_call 11
        obtain ⟨y0, y1, y2, y3, kc, ko, kh, kd, kg, zz, BB⟩ := hHeld
        (with_reducible refine (implHalf_is (xs.sum - E) A5 c5 xs (lossesRow xs H) _ _ _ ko (by omega) HP.out HLO.out).mono ?_)
        rintro e w12_ ⟨An, cn, rfl, hon, hb9⟩
        have hom := hom.below hb9 (Nat.le_refl _)
        have hom := hom.more (Nat.le_refl _) hb9.size
        refine hK.out _ _ ⟨(keep2 hb9 ⟨y0, y1⟩ (by omega)).1, (keep2 hb9 ⟨y0, y1⟩ (by omega)).2, (keep2 hb9 ⟨y2, y3⟩ (by omega)).1, (keep2 hb9 ⟨y2, y3⟩ (by omega)).2, kc.below hb9 (by omega), ko.below hb9 (by omega), kh.below hb9 (by omega), kd.below hb9 (by omega), kg.below hb9 (by omega), Nat.le_trans zz hb9.size, BB.trans (hb9.mono (by omega))⟩ (fun hHeld => ?_)
        clear hb9 BB zz kg kd kh ko kc y3 y2 y1 y0
        clear hK K
        try simp only [Act.put, List.setIfInBounds_toArray, List.set_cons_zero, List.set_cons_succ]
        refine wpAnyH_ready (rs := [34]) (by kernel_rfl) (by simp) ?_
        refine AllReadyH.cons rfl (fun K hK => ?_) AllReadyH.nil
        go_simp
        go_at_call 12
        obtain ⟨y0, y1, y2, y3, kc, ko, kh, kd, kg, zz, BB⟩ := hHeld
        (with_reducible refine (sameInts_below Am An cm cn (lossesRow xs H) _ _ _ _ _ hom.ints hon.ints hlL).mono ?_)
        rintro e w13_ ⟨rfl, hb9⟩
        have hom := hom.below hb9 (Nat.le_refl _)
        have hom := hom.more (Nat.le_refl _) hb9.size
        have hon := hon.below hb9 (Nat.le_refl _)
        have hon := hon.more (Nat.le_refl _) hb9.size
        refine hK.out _ _ ⟨(keep2 hb9 ⟨y0, y1⟩ (by omega)).1, (keep2 hb9 ⟨y0, y1⟩ (by omega)).2, (keep2 hb9 ⟨y2, y3⟩ (by omega)).1, (keep2 hb9 ⟨y2, y3⟩ (by omega)).2, kc.below hb9 (by omega), ko.below hb9 (by omega), kh.below hb9 (by omega), kd.below hb9 (by omega), kg.below hb9 (by omega), Nat.le_trans zz hb9.size, BB.trans (hb9.mono (by omega))⟩ (fun hHeld => ?_)
        clear hb9 BB zz kg kd kh ko kc y3 y2 y1 y0
        clear hK K
        try simp only [Act.put, List.setIfInBounds_toArray, List.set_cons_zero, List.set_cons_succ]
        refine wpAnyH_take (i := 35) (oi := ?oi30) (v := ?vv30) ?hi30 ?hs30 ?hf30 ?ha30 ?hq30 ?hy30 hHeld ?hr30
        case hi30 => (simp only [List.getElem?_toArray, List.getElem?_cons_succ, List.getElem?_cons_zero]; exact rfl)
        case hs30 => kernel_rfl
        case hf30 => kernel_rfl
        case ha30 => kernel_rfl
        case hq30 => exact fun _ _ _ h => h
        case hy30 =>
          refine Or.inl ⟨by rfl, ?_⟩
          intro w' hSw
          try dsimp only at hSw
          go_simp
          first | done | with_reducible rfl
        simp only [Act.put, List.setIfInBounds_toArray, List.set_cons_succ, List.set_cons_zero]
        refine wpAnyH_take (i := 36) (oi := ?oi31) (v := ?vv31) ?hi31 ?hs31 ?hf31 ?ha31 ?hq31 ?hy31 hHeld ?hr31
        case hi31 => (simp only [List.getElem?_toArray, List.getElem?_cons_succ, List.getElem?_cons_zero]; exact rfl)
        case hs31 => kernel_rfl
        case hf31 => kernel_rfl
        case ha31 => kernel_rfl
        case hq31 => exact fun _ _ _ h => h
        case hy31 =>
          refine Or.inl ⟨by rfl, ?_⟩
          intro w' hSw
          try dsimp only at hSw
          go_simp
          first | done | with_reducible rfl
        simp only [Act.put, List.setIfInBounds_toArray, List.set_cons_succ, List.set_cons_zero]
        refine wpAnyH_take (i := 37) (oi := ?oi32) (v := ?vv32) ?hi32 ?hs32 ?hf32 ?ha32 ?hq32 ?hy32 hHeld ?hr32
        case hi32 => (simp only [List.getElem?_toArray, List.getElem?_cons_succ, List.getElem?_cons_zero]; exact rfl)
        case hs32 => kernel_rfl
        case hf32 => kernel_rfl
        case ha32 => kernel_rfl
        case hq32 => exact fun _ _ _ h => h
        case hy32 =>
          refine Or.inl ⟨by rfl, ?_⟩
          intro w' hSw
          try dsimp only at hSw
          go_simp
          first | done | with_reducible rfl
        simp only [Act.put, List.setIfInBounds_toArray, List.set_cons_succ, List.set_cons_zero]
        refine wpAnyH_take (i := 38) (oi := ?oi33) (v := ?vv33) ?hi33 ?hs33 ?hf33 ?ha33 ?hq33 ?hy33 hHeld ?hr33
        case hi33 => (simp only [List.getElem?_toArray, List.getElem?_cons_succ, List.getElem?_cons_zero]; exact rfl)
        case hs33 => kernel_rfl
        case hf33 => kernel_rfl
        case ha33 => kernel_rfl
        case hq33 => exact fun _ _ _ h => h
        case hy33 =>
          refine Or.inl ⟨by rfl, ?_⟩
          intro w' hSw
          try dsimp only at hSw
          go_simp
          first | done | with_reducible rfl
        simp only [Act.put, List.setIfInBounds_toArray, List.set_cons_succ, List.set_cons_zero]
        refine wpAnyH_ready (rs := [39]) (by kernel_rfl) (by simp) ?_
        refine AllReadyH.cons rfl (fun K hK => ?_) AllReadyH.nil
        go_simp
        go_at_call 21
        obtain ⟨y0, y1, y2, y3, kc, ko, kh, kd, kg, zz, BB⟩ := hHeld
        (with_reducible refine (implKeeps_is E A1 c1 xs A2 c2 H true _ _ _ kc (by omega) hl5 _ _ kh (by omega) hlH HKP.out).mono ?_)
        rintro e w14_ ⟨rfl, hb9⟩
        have hom := hom.below hb9 (Nat.le_refl _)
        have hom := hom.more (Nat.le_refl _) hb9.size
        have hon := hon.below hb9 (Nat.le_refl _)
        have hon := hon.more (Nat.le_refl _) hb9.size
        refine hK.out _ _ ⟨(keep2 hb9 ⟨y0, y1⟩ (by omega)).1, (keep2 hb9 ⟨y0, y1⟩ (by omega)).2, (keep2 hb9 ⟨y2, y3⟩ (by omega)).1, (keep2 hb9 ⟨y2, y3⟩ (by omega)).2, kc.below hb9 (by omega), ko.below hb9 (by omega), kh.below hb9 (by omega), kd.below hb9 (by omega), kg.below hb9 (by omega), Nat.le_trans zz hb9.size, BB.trans (hb9.mono (by omega))⟩ (fun hHeld => ?_)
        clear hb9 BB zz kg kd kh ko kc y3 y2 y1 y0
        clear hK K
        try simp only [Act.put, List.setIfInBounds_toArray, List.set_cons_zero, List.set_cons_succ]
        refine wpAnyH_take (i := 40) (oi := ?oi34) (v := ?vv34) ?hi34 ?hs34 ?hf34 ?ha34 ?hq34 ?hy34 hHeld ?hr34
        case hi34 => (simp only [List.getElem?_toArray, List.getElem?_cons_succ, List.getElem?_cons_zero]; exact rfl)
        case hs34 => kernel_rfl
        case hf34 => kernel_rfl
        case ha34 => kernel_rfl
        case hq34 => exact fun _ _ _ h => h
        case hy34 =>
          refine Or.inl ⟨by rfl, ?_⟩
          intro w' hSw
          try dsimp only at hSw
          go_simp
          first | done | with_reducible rfl
        simp only [Act.put, List.setIfInBounds_toArray, List.set_cons_succ, List.set_cons_zero]
        refine wpAnyH_take (i := 41) (oi := ?oi35) (v := ?vv35) ?hi35 ?hs35 ?hf35 ?ha35 ?hq35 ?hy35 hHeld ?hr35
        case hi35 => (simp only [List.getElem?_toArray, List.getElem?_cons_succ, List.getElem?_cons_zero]; exact rfl)
        case hs35 => kernel_rfl
        case hf35 => kernel_rfl
        case ha35 => kernel_rfl
        case hq35 => exact fun _ _ _ h => h
        case hy35 =>
          refine Or.inl ⟨by rfl, ?_⟩
          intro w' hSw
          try dsimp only at hSw
          go_simp
          first | done | with_reducible rfl
        simp only [Act.put, List.setIfInBounds_toArray, List.set_cons_succ, List.set_cons_zero]
        refine wpAnyH_done (by kernel_rfl) ?_ _
        obtain ⟨y0, y1, y2, y3, kc, ko, kh, kd, kg, zz, BB⟩ := hHeld
        go_wp2
        go_ret
        exact ⟨rfl, BB⟩
      · have HYS := Lib.hid hys
        have HGS := Lib.hid hgs
        clear hys hgs
        have hWW : w.heap.size ≤ w7.heap.size := by first | omega | (simp; omega) | simp
        have g_c : w1.heap.size < w7.heap.size := by first | omega | (simp; omega) | simp
        have g_o : w5.heap.size < w7.heap.size := by first | omega | (simp; omega) | simp
        have g_kc : w1.heap.size ≤ w7.heap.size := by first | omega | (simp; omega) | simp
        have g_ko : w5.heap.size ≤ w7.heap.size := by first | omega | (simp; omega) | simp
        have g_kh : w2.heap.size ≤ w7.heap.size := by first | omega | (simp; omega) | simp
        have g_kd : w6.heap.size ≤ w7.heap.size := by first | omega | (simp; omega) | simp
        have g_kg : w7.heap.size ≤ w7.heap.size := by first | omega | (simp; omega) | simp
        refine wp_region_held_drew (S := (fun w' : World => w'.cell? ⟨w1.heap.size, 0, none⟩ = some (.int .i64 E) ∧ w'.cell? ⟨w1.heap.size, 1, none⟩ = some (.slice A1 xs.length c1) ∧ w'.cell? ⟨w5.heap.size, 0, none⟩ = some (.int .i64 (xs.sum - E)) ∧ w'.cell? ⟨w5.heap.size, 1, none⟩ = some (.slice A5 xs.length c5) ∧ Ints w' (w.heap.size) (w1.heap.size) (A1) (xs) ∧ Ints w' (w4.heap.size) (w5.heap.size) (A5) (xs) ∧ Ints w' (w1.heap.size + 1) (w2.heap.size) (A2) (H) ∧ Ints w' (w5.heap.size + 1) (w6.heap.size) (D6) (ys) ∧ Ints w' (w6.heap.size + 1) (w7.heap.size) (A7) (G) ∧ w7.heap.size ≤ w'.heap.size ∧ Below w.heap.size w w')) (by kernel_rfl) ⟨a63, a63', a64, a64', o66.ints, o69.ints, o67.ints, o70.ints, hp7.ints, Nat.le_refl _, B72.drew⟩ (fun hHeld => ?_)
        refine wpAnyH_take (i := 0) (oi := ?oi36) (v := ?vv36) ?hi36 ?hs36 ?hf36 ?ha36 ?hq36 ?hy36 hHeld ?hr36
        case hi36 => (simp only [List.getElem?_toArray, List.getElem?_cons_zero]; exact rfl)
        case hs36 => kernel_rfl
        case hf36 => kernel_rfl
        case ha36 => kernel_rfl
        case hq36 => exact fun _ _ _ h => h
        case hy36 =>
          refine Or.inl ⟨by rfl, ?_⟩
          intro w' hSw
          try dsimp only at hSw
          go_simp
          first | done | with_reducible rfl
        simp only [Act.put, List.setIfInBounds_toArray, List.set_cons_succ, List.set_cons_zero]
        refine wpAnyH_take (i := 1) (oi := ?oi37) (v := ?vv37) ?hi37 ?hs37 ?hf37 ?ha37 ?hq37 ?hy37 hHeld ?hr37
        case hi37 => (simp only [List.getElem?_toArray, List.getElem?_cons_succ, List.getElem?_cons_zero]; exact rfl)
        case hs37 => kernel_rfl
        case hf37 => kernel_rfl
        case ha37 => kernel_rfl
        case hq37 => exact fun _ _ _ h => h
        case hy37 =>
          refine Or.inl ⟨by rfl, ?_⟩
          intro w' hSw
          try dsimp only at hSw
          go_simp
          first | done | with_reducible rfl
        simp only [Act.put, List.setIfInBounds_toArray, List.set_cons_succ, List.set_cons_zero]
        refine wpAnyH_take (i := 2) (oi := ?oi38) (v := ?vv38) ?hi38 ?hs38 ?hf38 ?ha38 ?hq38 ?hy38 hHeld ?hr38
        case hi38 => (simp only [List.getElem?_toArray, List.getElem?_cons_succ, List.getElem?_cons_zero]; exact rfl)
        case hs38 => kernel_rfl
        case hf38 => kernel_rfl
        case ha38 => kernel_rfl
        case hq38 => exact fun _ _ _ h => h
        case hy38 =>
          refine Or.inl ⟨by rfl, ?_⟩
          intro w' hSw
          try dsimp only at hSw
          go_simp
          first | done | with_reducible rfl
        simp only [Act.put, List.setIfInBounds_toArray, List.set_cons_succ, List.set_cons_zero]
        refine wpAnyH_take (i := 3) (oi := ?oi39) (v := ?vv39) ?hi39 ?hs39 ?hf39 ?ha39 ?hq39 ?hy39 hHeld ?hr39
        case hi39 => (simp only [List.getElem?_toArray, List.getElem?_cons_succ, List.getElem?_cons_zero]; exact rfl)
        case hs39 => kernel_rfl
        case hf39 => kernel_rfl
        case ha39 => kernel_rfl
        case hq39 => exact fun _ _ _ h => h
        case hy39 =>
          refine Or.inl ⟨by rfl, ?_⟩
          intro w' hSw
          try dsimp only at hSw
          go_simp
          first | done | with_reducible rfl
        simp only [Act.put, List.setIfInBounds_toArray, List.set_cons_succ, List.set_cons_zero]
        refine wpAnyH_ready (rs := [4]) (by kernel_rfl) (by simp) ?_
        refine AllReadyH.cons rfl (fun K hK => ?_) AllReadyH.nil
        go_simp
        go_at_call 19
        obtain ⟨y0, y1, y2, y3, kc, ko, kh, kd, kg, zz, BB⟩ := hHeld
        (with_reducible refine (implPairs_is E A1 c1 xs A2 c2 (H) _ _ _ kc (by omega) hl5 _ _ kh (by omega) hlH true HAG.out).mono ?_)
        rintro e w8_ ⟨rfl, hb9⟩
        refine hK.out _ _ ⟨(keep2 hb9 ⟨y0, y1⟩ (by omega)).1, (keep2 hb9 ⟨y0, y1⟩ (by omega)).2, (keep2 hb9 ⟨y2, y3⟩ (by omega)).1, (keep2 hb9 ⟨y2, y3⟩ (by omega)).2, kc.below hb9 (by omega), ko.below hb9 (by omega), kh.below hb9 (by omega), kd.below hb9 (by omega), kg.below hb9 (by omega), Nat.le_trans zz hb9.size, BB.trans (hb9.mono (by omega))⟩ (fun hHeld => ?_)
        clear hb9 BB zz kg kd kh ko kc y3 y2 y1 y0
        clear hK K
        try simp only [Act.put, List.setIfInBounds_toArray, List.set_cons_zero, List.set_cons_succ]
        refine wpAnyH_take (i := 5) (oi := ?oi40) (v := ?vv40) ?hi40 ?hs40 ?hf40 ?ha40 ?hq40 ?hy40 hHeld ?hr40
        case hi40 => (simp only [List.getElem?_toArray, List.getElem?_cons_succ, List.getElem?_cons_zero]; exact rfl)
        case hs40 => kernel_rfl
        case hf40 => kernel_rfl
        case ha40 => kernel_rfl
        case hq40 => exact fun _ _ _ h => h
        case hy40 =>
          refine Or.inl ⟨by rfl, ?_⟩
          intro w' hSw
          try dsimp only at hSw
          go_simp
          first | done | with_reducible rfl
        simp only [Act.put, List.setIfInBounds_toArray, List.set_cons_succ, List.set_cons_zero]
        refine wpAnyH_take (i := 6) (oi := ?oi41) (v := ?vv41) ?hi41 ?hs41 ?hf41 ?ha41 ?hq41 ?hy41 hHeld ?hr41
        case hi41 => (simp only [List.getElem?_toArray, List.getElem?_cons_succ, List.getElem?_cons_zero]; exact rfl)
        case hs41 => kernel_rfl
        case hf41 => kernel_rfl
        case ha41 => kernel_rfl
        case hq41 => exact fun _ _ _ h => h
        case hy41 =>
          refine Or.inl ⟨by rfl, ?_⟩
          intro w' hSw
          try dsimp only at hSw
          go_simp
          first | done | with_reducible rfl
        simp only [Act.put, List.setIfInBounds_toArray, List.set_cons_succ, List.set_cons_zero]
        refine wpAnyH_take (i := 7) (oi := ?oi42) (v := ?vv42) ?hi42 ?hs42 ?hf42 ?ha42 ?hq42 ?hy42 hHeld ?hr42
        case hi42 => (simp only [List.getElem?_toArray, List.getElem?_cons_succ, List.getElem?_cons_zero]; exact rfl)
        case hs42 => kernel_rfl
        case hf42 => kernel_rfl
        case ha42 => kernel_rfl
        case hq42 => exact fun _ _ _ h => h
        case hy42 =>
          refine Or.inl ⟨by rfl, ?_⟩
          intro w' hSw
          try dsimp only at hSw
          go_simp
          first | done | with_reducible rfl
        simp only [Act.put, List.setIfInBounds_toArray, List.set_cons_succ, List.set_cons_zero]
        refine wpAnyH_take (i := 8) (oi := ?oi43) (v := ?vv43) ?hi43 ?hs43 ?hf43 ?ha43 ?hq43 ?hy43 hHeld ?hr43
        case hi43 => (simp only [List.getElem?_toArray, List.getElem?_cons_succ, List.getElem?_cons_zero]; exact rfl)
        case hs43 => kernel_rfl
        case hf43 => kernel_rfl
        case ha43 => kernel_rfl
        case hq43 => exact fun _ _ _ h => h
        case hy43 =>
          refine Or.inl ⟨by rfl, ?_⟩
          intro w' hSw
          try dsimp only at hSw
          go_simp
          first | done | with_reducible rfl
        simp only [Act.put, List.setIfInBounds_toArray, List.set_cons_succ, List.set_cons_zero]
        refine wpAnyH_ready (rs := [9]) (by kernel_rfl) (by simp) ?_
        refine AllReadyH.cons rfl (fun K hK => ?_) AllReadyH.nil
        go_simp
        go_at_call 12
        obtain ⟨y0, y1, y2, y3, kc, ko, kh, kd, kg, zz, BB⟩ := hHeld
        (with_reducible refine (sameInts_yes D6 A2 d6 c2 (ys) H _ _ _ _ _ kd kh hYl HYS.out).mono ?_)
        rintro e w9_ ⟨rfl, hb9⟩
        refine hK.out _ _ ⟨(keep2 hb9 ⟨y0, y1⟩ (by omega)).1, (keep2 hb9 ⟨y0, y1⟩ (by omega)).2, (keep2 hb9 ⟨y2, y3⟩ (by omega)).1, (keep2 hb9 ⟨y2, y3⟩ (by omega)).2, kc.below hb9 (by omega), ko.below hb9 (by omega), kh.below hb9 (by omega), kd.below hb9 (by omega), kg.below hb9 (by omega), Nat.le_trans zz hb9.size, BB.trans (hb9.mono (by omega))⟩ (fun hHeld => ?_)
        clear hb9 BB zz kg kd kh ko kc y3 y2 y1 y0
        clear hK K
        try simp only [Act.put, List.setIfInBounds_toArray, List.set_cons_zero, List.set_cons_succ]
        refine wpAnyH_take (i := 10) (oi := ?oi44) (v := ?vv44) ?hi44 ?hs44 ?hf44 ?ha44 ?hq44 ?hy44 hHeld ?hr44
        case hi44 => (simp only [List.getElem?_toArray, List.getElem?_cons_succ, List.getElem?_cons_zero]; exact rfl)
        case hs44 => kernel_rfl
        case hf44 => kernel_rfl
        case ha44 => kernel_rfl
        case hq44 => exact fun _ _ _ h => h
        case hy44 =>
          refine Or.inl ⟨by rfl, ?_⟩
          intro w' hSw
          try dsimp only at hSw
          go_simp
          first | done | with_reducible rfl
        simp only [Act.put, List.setIfInBounds_toArray, List.set_cons_succ, List.set_cons_zero]
        refine wpAnyH_take (i := 11) (oi := ?oi45) (v := undef) ?hi45 ?hs45 ?hf45 ?ha45 ?hq45 ?hy45 hHeld ?hr45
        case hi45 => (simp only [List.getElem?_toArray, List.getElem?_cons_succ, List.getElem?_cons_zero]; exact rfl)
        case hs45 => kernel_rfl
        case hf45 => kernel_rfl
        case ha45 => kernel_rfl
        case hq45 => exact fun _ _ _ h => h
        case hy45 => exact Or.inr ⟨by rfl, rfl⟩
        simp only [Act.put, List.setIfInBounds_toArray, List.set_cons_succ, List.set_cons_zero]
        refine wpAnyH_take (i := 12) (oi := ?oi46) (v := undef) ?hi46 ?hs46 ?hf46 ?ha46 ?hq46 ?hy46 hHeld ?hr46
        case hi46 => (simp only [List.getElem?_toArray, List.getElem?_cons_succ, List.getElem?_cons_zero]; exact rfl)
        case hs46 => kernel_rfl
        case hf46 => kernel_rfl
        case ha46 => kernel_rfl
        case hq46 => exact fun _ _ _ h => h
        case hy46 => exact Or.inr ⟨by rfl, rfl⟩
        simp only [Act.put, List.setIfInBounds_toArray, List.set_cons_succ, List.set_cons_zero]
        refine wpAnyH_take (i := 13) (oi := ?oi47) (v := undef) ?hi47 ?hs47 ?hf47 ?ha47 ?hq47 ?hy47 hHeld ?hr47
        case hi47 => (simp only [List.getElem?_toArray, List.getElem?_cons_succ, List.getElem?_cons_zero]; exact rfl)
        case hs47 => kernel_rfl
        case hf47 => kernel_rfl
        case ha47 => kernel_rfl
        case hq47 => exact fun _ _ _ h => h
        case hy47 => exact Or.inr ⟨by rfl, rfl⟩
        simp only [Act.put, List.setIfInBounds_toArray, List.set_cons_succ, List.set_cons_zero]
        refine wpAnyH_take (i := 14) (oi := ?oi48) (v := undef) ?hi48 ?hs48 ?hf48 ?ha48 ?hq48 ?hy48 hHeld ?hr48
        case hi48 => (simp only [List.getElem?_toArray, List.getElem?_cons_succ, List.getElem?_cons_zero]; exact rfl)
        case hs48 => kernel_rfl
        case hf48 => kernel_rfl
        case ha48 => kernel_rfl
        case hq48 => exact fun _ _ _ h => h
        case hy48 => exact Or.inr ⟨by rfl, rfl⟩
        simp only [Act.put, List.setIfInBounds_toArray, List.set_cons_succ, List.set_cons_zero]
        refine wpAnyH_take (i := 15) (oi := ?oi49) (v := ?vv49) ?hi49 ?hs49 ?hf49 ?ha49 ?hq49 ?hy49 hHeld ?hr49
        case hi49 => (simp only [List.getElem?_toArray, List.getElem?_cons_succ, List.getElem?_cons_zero]; exact rfl)
        case hs49 => kernel_rfl
        case hf49 => kernel_rfl
        case ha49 => kernel_rfl
        case hq49 => exact fun _ _ _ h => h
        case hy49 =>
          refine Or.inl ⟨by rfl, ?_⟩
          intro w' hSw
          try dsimp only at hSw
          go_simp
          first | done | with_reducible rfl
        simp only [Act.put, List.setIfInBounds_toArray, List.set_cons_succ, List.set_cons_zero]
        refine wpAnyH_take (i := 16) (oi := ?oi50) (v := ?vv50) ?hi50 ?hs50 ?hf50 ?ha50 ?hq50 ?hy50 hHeld ?hr50
        case hi50 => (simp only [List.getElem?_toArray, List.getElem?_cons_succ, List.getElem?_cons_zero]; exact rfl)
        case hs50 => kernel_rfl
        case hf50 => kernel_rfl
        case ha50 => kernel_rfl
        case hq50 => exact fun _ _ _ h => h
        case hy50 =>
          refine Or.inl ⟨by rfl, ?_⟩
          intro w' hSw
          try dsimp only at hSw
          go_simp
          first | done | with_reducible rfl
        simp only [Act.put, List.setIfInBounds_toArray, List.set_cons_succ, List.set_cons_zero]
        refine wpAnyH_take (i := 17) (oi := ?oi51) (v := ?vv51) ?hi51 ?hs51 ?hf51 ?ha51 ?hq51 ?hy51 hHeld ?hr51
        case hi51 => (simp only [List.getElem?_toArray, List.getElem?_cons_succ, List.getElem?_cons_zero]; exact rfl)
        case hs51 => kernel_rfl
        case hf51 => kernel_rfl
        case ha51 => kernel_rfl
        case hq51 => exact fun _ _ _ h => h
        case hy51 =>
          refine Or.inl ⟨by rfl, ?_⟩
          intro w' hSw
          try dsimp only at hSw
          go_simp
          first | done | with_reducible rfl
        simp only [Act.put, List.setIfInBounds_toArray, List.set_cons_succ, List.set_cons_zero]
        refine wpAnyH_take (i := 18) (oi := ?oi52) (v := ?vv52) ?hi52 ?hs52 ?hf52 ?ha52 ?hq52 ?hy52 hHeld ?hr52
        case hi52 => (simp only [List.getElem?_toArray, List.getElem?_cons_succ, List.getElem?_cons_zero]; exact rfl)
        case hs52 => kernel_rfl
        case hf52 => kernel_rfl
        case ha52 => kernel_rfl
        case hq52 => exact fun _ _ _ h => h
        case hy52 =>
          refine Or.inl ⟨by rfl, ?_⟩
          intro w' hSw
          try dsimp only at hSw
          go_simp
          first | done | with_reducible rfl
        simp only [Act.put, List.setIfInBounds_toArray, List.set_cons_succ, List.set_cons_zero]
        refine wpAnyH_take (i := 19) (oi := ?oi53) (v := ?vv53) ?hi53 ?hs53 ?hf53 ?ha53 ?hq53 ?hy53 hHeld ?hr53
        case hi53 => (simp only [List.getElem?_toArray, List.getElem?_cons_succ, List.getElem?_cons_zero]; exact rfl)
        case hs53 => kernel_rfl
        case hf53 => kernel_rfl
        case ha53 => kernel_rfl
        case hq53 => exact fun _ _ _ h => h
        case hy53 =>
          refine Or.inl ⟨by rfl, ?_⟩
          intro w' hSw
          try dsimp only at hSw
          go_simp
          first | done | with_reducible rfl
        simp only [Act.put, List.setIfInBounds_toArray, List.set_cons_succ, List.set_cons_zero]
        refine wpAnyH_ready (rs := [20]) (by kernel_rfl) (by simp) ?_
        refine AllReadyH.cons rfl (fun K hK => ?_) AllReadyH.nil
        go_simp
        go_at_call 12
        obtain ⟨y0, y1, y2, y3, kc, ko, kh, kd, kg, zz, BB⟩ := hHeld
        (with_reducible refine (sameInts_no A7 A2 c7 c2 (G) H _ _ _ _ _ kg kh hlG hlH HGS.out).mono ?_)
        rintro e w10_ ⟨rfl, hb9⟩
        refine hK.out _ _ ⟨(keep2 hb9 ⟨y0, y1⟩ (by omega)).1, (keep2 hb9 ⟨y0, y1⟩ (by omega)).2, (keep2 hb9 ⟨y2, y3⟩ (by omega)).1, (keep2 hb9 ⟨y2, y3⟩ (by omega)).2, kc.below hb9 (by omega), ko.below hb9 (by omega), kh.below hb9 (by omega), kd.below hb9 (by omega), kg.below hb9 (by omega), Nat.le_trans zz hb9.size, BB.trans (hb9.mono (by omega))⟩ (fun hHeld => ?_)
        clear hb9 BB zz kg kd kh ko kc y3 y2 y1 y0
        clear hK K
        try simp only [Act.put, List.setIfInBounds_toArray, List.set_cons_zero, List.set_cons_succ]
        refine wpAnyH_take (i := 21) (oi := ?oi54) (v := ?vv54) ?hi54 ?hs54 ?hf54 ?ha54 ?hq54 ?hy54 hHeld ?hr54
        case hi54 => (simp only [List.getElem?_toArray, List.getElem?_cons_succ, List.getElem?_cons_zero]; exact rfl)
        case hs54 => kernel_rfl
        case hf54 => kernel_rfl
        case ha54 => kernel_rfl
        case hq54 => exact fun _ _ _ h => h
        case hy54 =>
          refine Or.inl ⟨by rfl, ?_⟩
          intro w' hSw
          try dsimp only at hSw
          go_simp
          first | done | with_reducible rfl
        simp only [Act.put, List.setIfInBounds_toArray, List.set_cons_succ, List.set_cons_zero]
        refine wpAnyH_take (i := 22) (oi := ?oi55) (v := ?vv55) ?hi55 ?hs55 ?hf55 ?ha55 ?hq55 ?hy55 hHeld ?hr55
        case hi55 => (simp only [List.getElem?_toArray, List.getElem?_cons_succ, List.getElem?_cons_zero]; exact rfl)
        case hs55 => kernel_rfl
        case hf55 => kernel_rfl
        case ha55 => kernel_rfl
        case hq55 => exact fun _ _ _ h => h
        case hy55 =>
          refine Or.inl ⟨by rfl, ?_⟩
          intro w' hSw
          try dsimp only at hSw
          go_simp
          first | done | with_reducible rfl
        simp only [Act.put, List.setIfInBounds_toArray, List.set_cons_succ, List.set_cons_zero]
        refine wpAnyH_take (i := 23) (oi := ?oi56) (v := ?vv56) ?hi56 ?hs56 ?hf56 ?ha56 ?hq56 ?hy56 hHeld ?hr56
        case hi56 => (simp only [List.getElem?_toArray, List.getElem?_cons_succ, List.getElem?_cons_zero]; exact rfl)
        case hs56 => kernel_rfl
        case hf56 => kernel_rfl
        case ha56 => kernel_rfl
        case hq56 => exact fun _ _ _ h => h
        case hy56 =>
          refine Or.inl ⟨by rfl, ?_⟩
          intro w' hSw
          try dsimp only at hSw
          go_simp
          first | done | with_reducible rfl
        simp only [Act.put, List.setIfInBounds_toArray, List.set_cons_succ, List.set_cons_zero]
        refine wpAnyH_ready (rs := [24]) (by kernel_rfl) (by simp) ?_
        refine AllReadyH.cons rfl (fun K hK => ?_) AllReadyH.nil
        go_simp
        go_at_call 19
        obtain ⟨y0, y1, y2, y3, kc, ko, kh, kd, kg, zz, BB⟩ := hHeld
        (with_reducible refine (implPairs_is E A1 c1 xs A7 c7 (G) _ _ _ kc (by omega) hl5 _ _ kg (by omega) hlG false (HNO.out G HGS.out)).mono ?_)
        rintro e w11_ ⟨rfl, hb9⟩
        refine hK.out _ _ ⟨(keep2 hb9 ⟨y0, y1⟩ (by omega)).1, (keep2 hb9 ⟨y0, y1⟩ (by omega)).2, (keep2 hb9 ⟨y2, y3⟩ (by omega)).1, (keep2 hb9 ⟨y2, y3⟩ (by omega)).2, kc.below hb9 (by omega), ko.below hb9 (by omega), kh.below hb9 (by omega), kd.below hb9 (by omega), kg.below hb9 (by omega), Nat.le_trans zz hb9.size, BB.trans (hb9.mono (by omega))⟩ (fun hHeld => ?_)
        clear hb9 BB zz kg kd kh ko kc y3 y2 y1 y0
        clear hK K
        try simp only [Act.put, List.setIfInBounds_toArray, List.set_cons_zero, List.set_cons_succ]
        refine wpAnyH_take (i := 25) (oi := ?oi57) (v := ?vv57) ?hi57 ?hs57 ?hf57 ?ha57 ?hq57 ?hy57 hHeld ?hr57
        case hi57 => (simp only [List.getElem?_toArray, List.getElem?_cons_succ, List.getElem?_cons_zero]; exact rfl)
        case hs57 => kernel_rfl
        case hf57 => kernel_rfl
        case ha57 => kernel_rfl
        case hq57 => exact fun _ _ _ h => h
        case hy57 =>
          refine Or.inl ⟨by rfl, ?_⟩
          intro w' hSw
          try dsimp only at hSw
          go_simp
          first | done | with_reducible rfl
        simp only [Act.put, List.setIfInBounds_toArray, List.set_cons_succ, List.set_cons_zero]
        refine wpAnyH_take (i := 26) (oi := ?oi58) (v := ?vv58) ?hi58 ?hs58 ?hf58 ?ha58 ?hq58 ?hy58 hHeld ?hr58
        case hi58 => (simp only [List.getElem?_toArray, List.getElem?_cons_succ, List.getElem?_cons_zero]; exact rfl)
        case hs58 => kernel_rfl
        case hf58 => kernel_rfl
        case ha58 => kernel_rfl
        case hq58 => exact fun _ _ _ h => h
        case hy58 =>
          refine Or.inl ⟨by rfl, ?_⟩
          intro w' hSw
          try dsimp only at hSw
          go_simp
          first | done | with_reducible rfl
        simp only [Act.put, List.setIfInBounds_toArray, List.set_cons_succ, List.set_cons_zero]
        refine wpAnyH_take (i := 27) (oi := ?oi59) (v := ?vv59) ?hi59 ?hs59 ?hf59 ?ha59 ?hq59 ?hy59 hHeld ?hr59
        case hi59 => (simp only [List.getElem?_toArray, List.getElem?_cons_succ, List.getElem?_cons_zero]; exact rfl)
        case hs59 => kernel_rfl
        case hf59 => kernel_rfl
        case ha59 => kernel_rfl
        case hq59 => exact fun _ _ _ h => h
        case hy59 =>
          refine Or.inl ⟨by rfl, ?_⟩
          intro w' hSw
          try dsimp only at hSw
          go_simp
          first | done | with_reducible rfl
        simp only [Act.put, List.setIfInBounds_toArray, List.set_cons_succ, List.set_cons_zero]
        refine wpAnyH_take (i := 28) (oi := ?oi60) (v := ?vv60) ?hi60 ?hs60 ?hf60 ?ha60 ?hq60 ?hy60 hHeld ?hr60
        case hi60 => (simp only [List.getElem?_toArray, List.getElem?_cons_succ, List.getElem?_cons_zero]; exact rfl)
        case hs60 => kernel_rfl
        case hf60 => kernel_rfl
        case ha60 => kernel_rfl
        case hq60 => exact fun _ _ _ h => h
        case hy60 =>
          refine Or.inl ⟨by rfl, ?_⟩
          intro w' hSw
          try dsimp only at hSw
          go_simp
          first | done | with_reducible rfl
        simp only [Act.put, List.setIfInBounds_toArray, List.set_cons_succ, List.set_cons_zero]
        refine wpAnyH_take (i := 29) (oi := ?oi61) (v := ?vv61) ?hi61 ?hs61 ?hf61 ?ha61 ?hq61 ?hy61 hHeld ?hr61
        case hi61 => (simp only [List.getElem?_toArray, List.getElem?_cons_succ, List.getElem?_cons_zero]; exact rfl)
        case hs61 => kernel_rfl
        case hf61 => kernel_rfl
        case ha61 => kernel_rfl
        case hq61 => exact fun _ _ _ h => h
        case hy61 =>
          refine Or.inl ⟨by rfl, ?_⟩
          intro w' hSw
          try dsimp only at hSw
          go_simp
          first | done | with_reducible rfl
        simp only [Act.put, List.setIfInBounds_toArray, List.set_cons_succ, List.set_cons_zero]
        refine wpAnyH_take (i := 30) (oi := ?oi62) (v := ?vv62) ?hi62 ?hs62 ?hf62 ?ha62 ?hq62 ?hy62 hHeld ?hr62
        case hi62 => (simp only [List.getElem?_toArray, List.getElem?_cons_succ, List.getElem?_cons_zero]; exact rfl)
        case hs62 => kernel_rfl
        case hf62 => kernel_rfl
        case ha62 => kernel_rfl
        case hq62 => exact fun _ _ _ h => h
        case hy62 =>
          refine Or.inl ⟨by rfl, ?_⟩
          intro w' hSw
          try dsimp only at hSw
          go_simp
          first | done | with_reducible rfl
        simp only [Act.put, List.setIfInBounds_toArray, List.set_cons_succ, List.set_cons_zero]
        refine wpAnyH_take (i := 32) (oi := ?oi63) (v := ?vv63) ?hi63 ?hs63 ?hf63 ?ha63 ?hq63 ?hy63 hHeld ?hr63
        case hi63 => (simp only [List.getElem?_toArray, List.getElem?_cons_succ, List.getElem?_cons_zero]; exact rfl)
        case hs63 => kernel_rfl
        case hf63 => kernel_rfl
        case ha63 => kernel_rfl
        case hq63 => exact fun _ _ _ h => h
        case hy63 =>
          refine Or.inl ⟨by rfl, ?_⟩
          intro w' hSw
          try dsimp only at hSw
          go_simp
          first | done | with_reducible rfl
        simp only [Act.put, List.setIfInBounds_toArray, List.set_cons_succ, List.set_cons_zero]
        refine wpAnyH_ready (rs := [31]) (by kernel_rfl) (by simp) ?_
        refine AllReadyH.cons rfl (fun K hK => ?_) AllReadyH.nil
        go_simp
        go_at_call 20
        obtain ⟨y0, y1, y2, y3, kc, ko, kh, kd, kg, zz, BB⟩ := hHeld
        (with_reducible refine (implLossesOf_yes E A1 c1 xs A2 c2 H _ _ _ kc (by omega) hl5 _ _ kh (by omega) hlH HAW.out).mono ?_)
        rintro e w12_ ⟨Am, cm, rfl, hom, hb9⟩
        refine hK.out _ _ ⟨(keep2 hb9 ⟨y0, y1⟩ (by omega)).1, (keep2 hb9 ⟨y0, y1⟩ (by omega)).2, (keep2 hb9 ⟨y2, y3⟩ (by omega)).1, (keep2 hb9 ⟨y2, y3⟩ (by omega)).2, kc.below hb9 (by omega), ko.below hb9 (by omega), kh.below hb9 (by omega), kd.below hb9 (by omega), kg.below hb9 (by omega), Nat.le_trans zz hb9.size, BB.trans (hb9.mono (by omega))⟩ (fun hHeld => ?_)
        clear hb9 BB zz kg kd kh ko kc y3 y2 y1 y0
        clear hK K
        try simp only [Act.put, List.setIfInBounds_toArray, List.set_cons_zero, List.set_cons_succ]
        refine wpAnyH_ready (rs := [33]) (by kernel_rfl) (by simp) ?_
        refine AllReadyH.cons rfl (fun K hK => ?_) AllReadyH.nil
        go_simp
        go_at_call 11
        obtain ⟨y0, y1, y2, y3, kc, ko, kh, kd, kg, zz, BB⟩ := hHeld
        (with_reducible refine (implHalf_is (xs.sum - E) A5 c5 xs (lossesRow xs H) _ _ _ ko (by omega) HP.out HLO.out).mono ?_)
        rintro e w13_ ⟨An, cn, rfl, hon, hb9⟩
        have hom := hom.below hb9 (Nat.le_refl _)
        have hom := hom.more (Nat.le_refl _) hb9.size
        refine hK.out _ _ ⟨(keep2 hb9 ⟨y0, y1⟩ (by omega)).1, (keep2 hb9 ⟨y0, y1⟩ (by omega)).2, (keep2 hb9 ⟨y2, y3⟩ (by omega)).1, (keep2 hb9 ⟨y2, y3⟩ (by omega)).2, kc.below hb9 (by omega), ko.below hb9 (by omega), kh.below hb9 (by omega), kd.below hb9 (by omega), kg.below hb9 (by omega), Nat.le_trans zz hb9.size, BB.trans (hb9.mono (by omega))⟩ (fun hHeld => ?_)
        clear hb9 BB zz kg kd kh ko kc y3 y2 y1 y0
        clear hK K
        try simp only [Act.put, List.setIfInBounds_toArray, List.set_cons_zero, List.set_cons_succ]
        refine wpAnyH_ready (rs := [34]) (by kernel_rfl) (by simp) ?_
        refine AllReadyH.cons rfl (fun K hK => ?_) AllReadyH.nil
        go_simp
        go_at_call 12
        obtain ⟨y0, y1, y2, y3, kc, ko, kh, kd, kg, zz, BB⟩ := hHeld
        (with_reducible refine (sameInts_below Am An cm cn (lossesRow xs H) _ _ _ _ _ hom.ints hon.ints hlL).mono ?_)
        rintro e w14_ ⟨rfl, hb9⟩
        have hom := hom.below hb9 (Nat.le_refl _)
        have hom := hom.more (Nat.le_refl _) hb9.size
        have hon := hon.below hb9 (Nat.le_refl _)
        have hon := hon.more (Nat.le_refl _) hb9.size
        refine hK.out _ _ ⟨(keep2 hb9 ⟨y0, y1⟩ (by omega)).1, (keep2 hb9 ⟨y0, y1⟩ (by omega)).2, (keep2 hb9 ⟨y2, y3⟩ (by omega)).1, (keep2 hb9 ⟨y2, y3⟩ (by omega)).2, kc.below hb9 (by omega), ko.below hb9 (by omega), kh.below hb9 (by omega), kd.below hb9 (by omega), kg.below hb9 (by omega), Nat.le_trans zz hb9.size, BB.trans (hb9.mono (by omega))⟩ (fun hHeld => ?_)
        clear hb9 BB zz kg kd kh ko kc y3 y2 y1 y0
        clear hK K
        try simp only [Act.put, List.setIfInBounds_toArray, List.set_cons_zero, List.set_cons_succ]
        refine wpAnyH_take (i := 35) (oi := ?oi64) (v := ?vv64) ?hi64 ?hs64 ?hf64 ?ha64 ?hq64 ?hy64 hHeld ?hr64
        case hi64 => (simp only [List.getElem?_toArray, List.getElem?_cons_succ, List.getElem?_cons_zero]; exact rfl)
        case hs64 => kernel_rfl
        case hf64 => kernel_rfl
        case ha64 => kernel_rfl
        case hq64 => exact fun _ _ _ h => h
        case hy64 =>
          refine Or.inl ⟨by rfl, ?_⟩
          intro w' hSw
          try dsimp only at hSw
          go_simp
          first | done | with_reducible rfl
        simp only [Act.put, List.setIfInBounds_toArray, List.set_cons_succ, List.set_cons_zero]
        refine wpAnyH_take (i := 36) (oi := ?oi65) (v := ?vv65) ?hi65 ?hs65 ?hf65 ?ha65 ?hq65 ?hy65 hHeld ?hr65
        case hi65 => (simp only [List.getElem?_toArray, List.getElem?_cons_succ, List.getElem?_cons_zero]; exact rfl)
        case hs65 => kernel_rfl
        case hf65 => kernel_rfl
        case ha65 => kernel_rfl
        case hq65 => exact fun _ _ _ h => h
        case hy65 =>
          refine Or.inl ⟨by rfl, ?_⟩
          intro w' hSw
          try dsimp only at hSw
          go_simp
          first | done | with_reducible rfl
        simp only [Act.put, List.setIfInBounds_toArray, List.set_cons_succ, List.set_cons_zero]
        refine wpAnyH_take (i := 37) (oi := ?oi66) (v := ?vv66) ?hi66 ?hs66 ?hf66 ?ha66 ?hq66 ?hy66 hHeld ?hr66
        case hi66 => (simp only [List.getElem?_toArray, List.getElem?_cons_succ, List.getElem?_cons_zero]; exact rfl)
        case hs66 => kernel_rfl
        case hf66 => kernel_rfl
        case ha66 => kernel_rfl
        case hq66 => exact fun _ _ _ h => h
        case hy66 =>
          refine Or.inl ⟨by rfl, ?_⟩
          intro w' hSw
          try dsimp only at hSw
          go_simp
          first | done | with_reducible rfl
        simp only [Act.put, List.setIfInBounds_toArray, List.set_cons_succ, List.set_cons_zero]
        refine wpAnyH_take (i := 38) (oi := ?oi67) (v := ?vv67) ?hi67 ?hs67 ?hf67 ?ha67 ?hq67 ?hy67 hHeld ?hr67
        case hi67 => (simp only [List.getElem?_toArray, List.getElem?_cons_succ, List.getElem?_cons_zero]; exact rfl)
        case hs67 => kernel_rfl
        case hf67 => kernel_rfl
        case ha67 => kernel_rfl
        case hq67 => exact fun _ _ _ h => h
        case hy67 =>
          refine Or.inl ⟨by rfl, ?_⟩
          intro w' hSw
          try dsimp only at hSw
          go_simp
          first | done | with_reducible rfl
        simp only [Act.put, List.setIfInBounds_toArray, List.set_cons_succ, List.set_cons_zero]
        refine wpAnyH_ready (rs := [39]) (by kernel_rfl) (by simp) ?_
        refine AllReadyH.cons rfl (fun K hK => ?_) AllReadyH.nil
        go_simp
        go_at_call 21
        obtain ⟨y0, y1, y2, y3, kc, ko, kh, kd, kg, zz, BB⟩ := hHeld
        (with_reducible refine (implKeeps_is E A1 c1 xs A2 c2 H true _ _ _ kc (by omega) hl5 _ _ kh (by omega) hlH HKP.out).mono ?_)
        rintro e w15_ ⟨rfl, hb9⟩
        have hom := hom.below hb9 (Nat.le_refl _)
        have hom := hom.more (Nat.le_refl _) hb9.size
        have hon := hon.below hb9 (Nat.le_refl _)
        have hon := hon.more (Nat.le_refl _) hb9.size
        refine hK.out _ _ ⟨(keep2 hb9 ⟨y0, y1⟩ (by omega)).1, (keep2 hb9 ⟨y0, y1⟩ (by omega)).2, (keep2 hb9 ⟨y2, y3⟩ (by omega)).1, (keep2 hb9 ⟨y2, y3⟩ (by omega)).2, kc.below hb9 (by omega), ko.below hb9 (by omega), kh.below hb9 (by omega), kd.below hb9 (by omega), kg.below hb9 (by omega), Nat.le_trans zz hb9.size, BB.trans (hb9.mono (by omega))⟩ (fun hHeld => ?_)
        clear hb9 BB zz kg kd kh ko kc y3 y2 y1 y0
        clear hK K
        try simp only [Act.put, List.setIfInBounds_toArray, List.set_cons_zero, List.set_cons_succ]
        refine wpAnyH_take (i := 40) (oi := ?oi68) (v := ?vv68) ?hi68 ?hs68 ?hf68 ?ha68 ?hq68 ?hy68 hHeld ?hr68
        case hi68 => (simp only [List.getElem?_toArray, List.getElem?_cons_succ, List.getElem?_cons_zero]; exact rfl)
        case hs68 => kernel_rfl
        case hf68 => kernel_rfl
        case ha68 => kernel_rfl
        case hq68 => exact fun _ _ _ h => h
        case hy68 =>
          refine Or.inl ⟨by rfl, ?_⟩
          intro w' hSw
          try dsimp only at hSw
          go_simp
          first | done | with_reducible rfl
        simp only [Act.put, List.setIfInBounds_toArray, List.set_cons_succ, List.set_cons_zero]
        refine wpAnyH_take (i := 41) (oi := ?oi69) (v := ?vv69) ?hi69 ?hs69 ?hf69 ?ha69 ?hq69 ?hy69 hHeld ?hr69
        case hi69 => (simp only [List.getElem?_toArray, List.getElem?_cons_succ, List.getElem?_cons_zero]; exact rfl)
        case hs69 => kernel_rfl
        case hf69 => kernel_rfl
        case ha69 => kernel_rfl
        case hq69 => exact fun _ _ _ h => h
        case hy69 =>
          refine Or.inl ⟨by rfl, ?_⟩
          intro w' hSw
          try dsimp only at hSw
          go_simp
          first | done | with_reducible rfl
        simp only [Act.put, List.setIfInBounds_toArray, List.set_cons_succ, List.set_cons_zero]
        refine wpAnyH_done (by kernel_rfl) ?_ _
        obtain ⟨y0, y1, y2, y3, kc, ko, kh, kd, kg, zz, BB⟩ := hHeld
        go_wp2
        go_ret
        exact ⟨rfl, BB⟩
    · by_cases hgs : G = H
      · have HYS := Lib.hid hys
        have HGS := Lib.hid hgs
        clear hys hgs
        have hWW : w.heap.size ≤ w7.heap.size := by first | omega | (simp; omega) | simp
        have g_c : w1.heap.size < w7.heap.size := by first | omega | (simp; omega) | simp
        have g_o : w5.heap.size < w7.heap.size := by first | omega | (simp; omega) | simp
        have g_kc : w1.heap.size ≤ w7.heap.size := by first | omega | (simp; omega) | simp
        have g_ko : w5.heap.size ≤ w7.heap.size := by first | omega | (simp; omega) | simp
        have g_kh : w2.heap.size ≤ w7.heap.size := by first | omega | (simp; omega) | simp
        have g_kd : w6.heap.size ≤ w7.heap.size := by first | omega | (simp; omega) | simp
        have g_kg : w7.heap.size ≤ w7.heap.size := by first | omega | (simp; omega) | simp
        refine wp_region_held_drew (S := (fun w' : World => w'.cell? ⟨w1.heap.size, 0, none⟩ = some (.int .i64 E) ∧ w'.cell? ⟨w1.heap.size, 1, none⟩ = some (.slice A1 xs.length c1) ∧ w'.cell? ⟨w5.heap.size, 0, none⟩ = some (.int .i64 (xs.sum - E)) ∧ w'.cell? ⟨w5.heap.size, 1, none⟩ = some (.slice A5 xs.length c5) ∧ Ints w' (w.heap.size) (w1.heap.size) (A1) (xs) ∧ Ints w' (w4.heap.size) (w5.heap.size) (A5) (xs) ∧ Ints w' (w1.heap.size + 1) (w2.heap.size) (A2) (H) ∧ Ints w' (w5.heap.size + 1) (w6.heap.size) (D6) (ys) ∧ Ints w' (w6.heap.size + 1) (w7.heap.size) (A7) (G) ∧ w7.heap.size ≤ w'.heap.size ∧ Below w.heap.size w w')) (by kernel_rfl) ⟨a63, a63', a64, a64', o66.ints, o69.ints, o67.ints, o70.ints, hp7.ints, Nat.le_refl _, B72.drew⟩ (fun hHeld => ?_)
        refine wpAnyH_take (i := 0) (oi := ?oi70) (v := ?vv70) ?hi70 ?hs70 ?hf70 ?ha70 ?hq70 ?hy70 hHeld ?hr70
        case hi70 => (simp only [List.getElem?_toArray, List.getElem?_cons_zero]; exact rfl)
        case hs70 => kernel_rfl
        case hf70 => kernel_rfl
        case ha70 => kernel_rfl
        case hq70 => exact fun _ _ _ h => h
        case hy70 =>
          refine Or.inl ⟨by rfl, ?_⟩
          intro w' hSw
          try dsimp only at hSw
          go_simp
          first | done | with_reducible rfl
        simp only [Act.put, List.setIfInBounds_toArray, List.set_cons_succ, List.set_cons_zero]
        refine wpAnyH_take (i := 1) (oi := ?oi71) (v := ?vv71) ?hi71 ?hs71 ?hf71 ?ha71 ?hq71 ?hy71 hHeld ?hr71
        case hi71 => (simp only [List.getElem?_toArray, List.getElem?_cons_succ, List.getElem?_cons_zero]; exact rfl)
        case hs71 => kernel_rfl
        case hf71 => kernel_rfl
        case ha71 => kernel_rfl
        case hq71 => exact fun _ _ _ h => h
        case hy71 =>
          refine Or.inl ⟨by rfl, ?_⟩
          intro w' hSw
          try dsimp only at hSw
          go_simp
          first | done | with_reducible rfl
        simp only [Act.put, List.setIfInBounds_toArray, List.set_cons_succ, List.set_cons_zero]
        refine wpAnyH_take (i := 2) (oi := ?oi72) (v := ?vv72) ?hi72 ?hs72 ?hf72 ?ha72 ?hq72 ?hy72 hHeld ?hr72
        case hi72 => (simp only [List.getElem?_toArray, List.getElem?_cons_succ, List.getElem?_cons_zero]; exact rfl)
        case hs72 => kernel_rfl
        case hf72 => kernel_rfl
        case ha72 => kernel_rfl
        case hq72 => exact fun _ _ _ h => h
        case hy72 =>
          refine Or.inl ⟨by rfl, ?_⟩
          intro w' hSw
          try dsimp only at hSw
          go_simp
          first | done | with_reducible rfl
        simp only [Act.put, List.setIfInBounds_toArray, List.set_cons_succ, List.set_cons_zero]
        refine wpAnyH_take (i := 3) (oi := ?oi73) (v := ?vv73) ?hi73 ?hs73 ?hf73 ?ha73 ?hq73 ?hy73 hHeld ?hr73
        case hi73 => (simp only [List.getElem?_toArray, List.getElem?_cons_succ, List.getElem?_cons_zero]; exact rfl)
        case hs73 => kernel_rfl
        case hf73 => kernel_rfl
        case ha73 => kernel_rfl
        case hq73 => exact fun _ _ _ h => h
        case hy73 =>
          refine Or.inl ⟨by rfl, ?_⟩
          intro w' hSw
          try dsimp only at hSw
          go_simp
          first | done | with_reducible rfl
        simp only [Act.put, List.setIfInBounds_toArray, List.set_cons_succ, List.set_cons_zero]
        refine wpAnyH_ready (rs := [4]) (by kernel_rfl) (by simp) ?_
        refine AllReadyH.cons rfl (fun K hK => ?_) AllReadyH.nil
        go_simp
        go_at_call 19
        obtain ⟨y0, y1, y2, y3, kc, ko, kh, kd, kg, zz, BB⟩ := hHeld
        (with_reducible refine (implPairs_is E A1 c1 xs A2 c2 (H) _ _ _ kc (by omega) hl5 _ _ kh (by omega) hlH true HAG.out).mono ?_)
        rintro e w8_ ⟨rfl, hb9⟩
        refine hK.out _ _ ⟨(keep2 hb9 ⟨y0, y1⟩ (by omega)).1, (keep2 hb9 ⟨y0, y1⟩ (by omega)).2, (keep2 hb9 ⟨y2, y3⟩ (by omega)).1, (keep2 hb9 ⟨y2, y3⟩ (by omega)).2, kc.below hb9 (by omega), ko.below hb9 (by omega), kh.below hb9 (by omega), kd.below hb9 (by omega), kg.below hb9 (by omega), Nat.le_trans zz hb9.size, BB.trans (hb9.mono (by omega))⟩ (fun hHeld => ?_)
        clear hb9 BB zz kg kd kh ko kc y3 y2 y1 y0
        clear hK K
        try simp only [Act.put, List.setIfInBounds_toArray, List.set_cons_zero, List.set_cons_succ]
        refine wpAnyH_take (i := 5) (oi := ?oi74) (v := ?vv74) ?hi74 ?hs74 ?hf74 ?ha74 ?hq74 ?hy74 hHeld ?hr74
        case hi74 => (simp only [List.getElem?_toArray, List.getElem?_cons_succ, List.getElem?_cons_zero]; exact rfl)
        case hs74 => kernel_rfl
        case hf74 => kernel_rfl
        case ha74 => kernel_rfl
        case hq74 => exact fun _ _ _ h => h
        case hy74 =>
          refine Or.inl ⟨by rfl, ?_⟩
          intro w' hSw
          try dsimp only at hSw
          go_simp
          first | done | with_reducible rfl
        simp only [Act.put, List.setIfInBounds_toArray, List.set_cons_succ, List.set_cons_zero]
        refine wpAnyH_take (i := 6) (oi := ?oi75) (v := ?vv75) ?hi75 ?hs75 ?hf75 ?ha75 ?hq75 ?hy75 hHeld ?hr75
        case hi75 => (simp only [List.getElem?_toArray, List.getElem?_cons_succ, List.getElem?_cons_zero]; exact rfl)
        case hs75 => kernel_rfl
        case hf75 => kernel_rfl
        case ha75 => kernel_rfl
        case hq75 => exact fun _ _ _ h => h
        case hy75 =>
          refine Or.inl ⟨by rfl, ?_⟩
          intro w' hSw
          try dsimp only at hSw
          go_simp
          first | done | with_reducible rfl
        simp only [Act.put, List.setIfInBounds_toArray, List.set_cons_succ, List.set_cons_zero]
        refine wpAnyH_take (i := 7) (oi := ?oi76) (v := ?vv76) ?hi76 ?hs76 ?hf76 ?ha76 ?hq76 ?hy76 hHeld ?hr76
        case hi76 => (simp only [List.getElem?_toArray, List.getElem?_cons_succ, List.getElem?_cons_zero]; exact rfl)
        case hs76 => kernel_rfl
        case hf76 => kernel_rfl
        case ha76 => kernel_rfl
        case hq76 => exact fun _ _ _ h => h
        case hy76 =>
          refine Or.inl ⟨by rfl, ?_⟩
          intro w' hSw
          try dsimp only at hSw
          go_simp
          first | done | with_reducible rfl
        simp only [Act.put, List.setIfInBounds_toArray, List.set_cons_succ, List.set_cons_zero]
        refine wpAnyH_take (i := 8) (oi := ?oi77) (v := ?vv77) ?hi77 ?hs77 ?hf77 ?ha77 ?hq77 ?hy77 hHeld ?hr77
        case hi77 => (simp only [List.getElem?_toArray, List.getElem?_cons_succ, List.getElem?_cons_zero]; exact rfl)
        case hs77 => kernel_rfl
        case hf77 => kernel_rfl
        case ha77 => kernel_rfl
        case hq77 => exact fun _ _ _ h => h
        case hy77 =>
          refine Or.inl ⟨by rfl, ?_⟩
          intro w' hSw
          try dsimp only at hSw
          go_simp
          first | done | with_reducible rfl
        simp only [Act.put, List.setIfInBounds_toArray, List.set_cons_succ, List.set_cons_zero]
        refine wpAnyH_ready (rs := [9]) (by kernel_rfl) (by simp) ?_
        refine AllReadyH.cons rfl (fun K hK => ?_) AllReadyH.nil
        go_simp
        go_at_call 12
        obtain ⟨y0, y1, y2, y3, kc, ko, kh, kd, kg, zz, BB⟩ := hHeld
        (with_reducible refine (sameInts_no D6 A2 d6 c2 (ys) H _ _ _ _ _ kd kh hYl hlH HYS.out).mono ?_)
        rintro e w9_ ⟨rfl, hb9⟩
        refine hK.out _ _ ⟨(keep2 hb9 ⟨y0, y1⟩ (by omega)).1, (keep2 hb9 ⟨y0, y1⟩ (by omega)).2, (keep2 hb9 ⟨y2, y3⟩ (by omega)).1, (keep2 hb9 ⟨y2, y3⟩ (by omega)).2, kc.below hb9 (by omega), ko.below hb9 (by omega), kh.below hb9 (by omega), kd.below hb9 (by omega), kg.below hb9 (by omega), Nat.le_trans zz hb9.size, BB.trans (hb9.mono (by omega))⟩ (fun hHeld => ?_)
        clear hb9 BB zz kg kd kh ko kc y3 y2 y1 y0
        clear hK K
        try simp only [Act.put, List.setIfInBounds_toArray, List.set_cons_zero, List.set_cons_succ]
        refine wpAnyH_take (i := 10) (oi := ?oi78) (v := ?vv78) ?hi78 ?hs78 ?hf78 ?ha78 ?hq78 ?hy78 hHeld ?hr78
        case hi78 => (simp only [List.getElem?_toArray, List.getElem?_cons_succ, List.getElem?_cons_zero]; exact rfl)
        case hs78 => kernel_rfl
        case hf78 => kernel_rfl
        case ha78 => kernel_rfl
        case hq78 => exact fun _ _ _ h => h
        case hy78 =>
          refine Or.inl ⟨by rfl, ?_⟩
          intro w' hSw
          try dsimp only at hSw
          go_simp
          first | done | with_reducible rfl
        simp only [Act.put, List.setIfInBounds_toArray, List.set_cons_succ, List.set_cons_zero]
        refine wpAnyH_take (i := 11) (oi := ?oi79) (v := ?vv79) ?hi79 ?hs79 ?hf79 ?ha79 ?hq79 ?hy79 hHeld ?hr79
        case hi79 => (simp only [List.getElem?_toArray, List.getElem?_cons_succ, List.getElem?_cons_zero]; exact rfl)
        case hs79 => kernel_rfl
        case hf79 => kernel_rfl
        case ha79 => kernel_rfl
        case hq79 => exact fun _ _ _ h => h
        case hy79 =>
          refine Or.inl ⟨by rfl, ?_⟩
          intro w' hSw
          try dsimp only at hSw
          go_simp
          first | done | with_reducible rfl
        simp only [Act.put, List.setIfInBounds_toArray, List.set_cons_succ, List.set_cons_zero]
        refine wpAnyH_take (i := 12) (oi := ?oi80) (v := ?vv80) ?hi80 ?hs80 ?hf80 ?ha80 ?hq80 ?hy80 hHeld ?hr80
        case hi80 => (simp only [List.getElem?_toArray, List.getElem?_cons_succ, List.getElem?_cons_zero]; exact rfl)
        case hs80 => kernel_rfl
        case hf80 => kernel_rfl
        case ha80 => kernel_rfl
        case hq80 => exact fun _ _ _ h => h
        case hy80 =>
          refine Or.inl ⟨by rfl, ?_⟩
          intro w' hSw
          try dsimp only at hSw
          go_simp
          first | done | with_reducible rfl
        simp only [Act.put, List.setIfInBounds_toArray, List.set_cons_succ, List.set_cons_zero]
        refine wpAnyH_ready (rs := [13]) (by kernel_rfl) (by simp) ?_
        refine AllReadyH.cons rfl (fun K hK => ?_) AllReadyH.nil
        go_simp
        go_at_call 19
        obtain ⟨y0, y1, y2, y3, kc, ko, kh, kd, kg, zz, BB⟩ := hHeld
        (with_reducible refine (implPairs_is E A1 c1 xs D6 d6 (ys) _ _ _ kc (by omega) hl5 _ _ kd (by omega) hYl false (HNO.out ys HYS.out)).mono ?_)
        rintro e w10_ ⟨rfl, hb9⟩
        refine hK.out _ _ ⟨(keep2 hb9 ⟨y0, y1⟩ (by omega)).1, (keep2 hb9 ⟨y0, y1⟩ (by omega)).2, (keep2 hb9 ⟨y2, y3⟩ (by omega)).1, (keep2 hb9 ⟨y2, y3⟩ (by omega)).2, kc.below hb9 (by omega), ko.below hb9 (by omega), kh.below hb9 (by omega), kd.below hb9 (by omega), kg.below hb9 (by omega), Nat.le_trans zz hb9.size, BB.trans (hb9.mono (by omega))⟩ (fun hHeld => ?_)
        clear hb9 BB zz kg kd kh ko kc y3 y2 y1 y0
        clear hK K
        try simp only [Act.put, List.setIfInBounds_toArray, List.set_cons_zero, List.set_cons_succ]
        refine wpAnyH_take (i := 14) (oi := ?oi81) (v := ?vv81) ?hi81 ?hs81 ?hf81 ?ha81 ?hq81 ?hy81 hHeld ?hr81
        case hi81 => (simp only [List.getElem?_toArray, List.getElem?_cons_succ, List.getElem?_cons_zero]; exact rfl)
        case hs81 => kernel_rfl
        case hf81 => kernel_rfl
        case ha81 => kernel_rfl
        case hq81 => exact fun _ _ _ h => h
        case hy81 =>
          refine Or.inl ⟨by rfl, ?_⟩
          intro w' hSw
          try dsimp only at hSw
          go_simp
          first | done | with_reducible rfl
        simp only [Act.put, List.setIfInBounds_toArray, List.set_cons_succ, List.set_cons_zero]
        refine wpAnyH_take (i := 15) (oi := ?oi82) (v := ?vv82) ?hi82 ?hs82 ?hf82 ?ha82 ?hq82 ?hy82 hHeld ?hr82
        case hi82 => (simp only [List.getElem?_toArray, List.getElem?_cons_succ, List.getElem?_cons_zero]; exact rfl)
        case hs82 => kernel_rfl
        case hf82 => kernel_rfl
        case ha82 => kernel_rfl
        case hq82 => exact fun _ _ _ h => h
        case hy82 =>
          refine Or.inl ⟨by rfl, ?_⟩
          intro w' hSw
          try dsimp only at hSw
          go_simp
          first | done | with_reducible rfl
        simp only [Act.put, List.setIfInBounds_toArray, List.set_cons_succ, List.set_cons_zero]
        refine wpAnyH_take (i := 16) (oi := ?oi83) (v := ?vv83) ?hi83 ?hs83 ?hf83 ?ha83 ?hq83 ?hy83 hHeld ?hr83
        case hi83 => (simp only [List.getElem?_toArray, List.getElem?_cons_succ, List.getElem?_cons_zero]; exact rfl)
        case hs83 => kernel_rfl
        case hf83 => kernel_rfl
        case ha83 => kernel_rfl
        case hq83 => exact fun _ _ _ h => h
        case hy83 =>
          refine Or.inl ⟨by rfl, ?_⟩
          intro w' hSw
          try dsimp only at hSw
          go_simp
          first | done | with_reducible rfl
        simp only [Act.put, List.setIfInBounds_toArray, List.set_cons_succ, List.set_cons_zero]
        refine wpAnyH_take (i := 17) (oi := ?oi84) (v := ?vv84) ?hi84 ?hs84 ?hf84 ?ha84 ?hq84 ?hy84 hHeld ?hr84
        case hi84 => (simp only [List.getElem?_toArray, List.getElem?_cons_succ, List.getElem?_cons_zero]; exact rfl)
        case hs84 => kernel_rfl
        case hf84 => kernel_rfl
        case ha84 => kernel_rfl
        case hq84 => exact fun _ _ _ h => h
        case hy84 =>
          refine Or.inl ⟨by rfl, ?_⟩
          intro w' hSw
          try dsimp only at hSw
          go_simp
          first | done | with_reducible rfl
        simp only [Act.put, List.setIfInBounds_toArray, List.set_cons_succ, List.set_cons_zero]
        refine wpAnyH_take (i := 18) (oi := ?oi85) (v := ?vv85) ?hi85 ?hs85 ?hf85 ?ha85 ?hq85 ?hy85 hHeld ?hr85
        case hi85 => (simp only [List.getElem?_toArray, List.getElem?_cons_succ, List.getElem?_cons_zero]; exact rfl)
        case hs85 => kernel_rfl
        case hf85 => kernel_rfl
        case ha85 => kernel_rfl
        case hq85 => exact fun _ _ _ h => h
        case hy85 =>
          refine Or.inl ⟨by rfl, ?_⟩
          intro w' hSw
          try dsimp only at hSw
          go_simp
          first | done | with_reducible rfl
        simp only [Act.put, List.setIfInBounds_toArray, List.set_cons_succ, List.set_cons_zero]
        refine wpAnyH_take (i := 19) (oi := ?oi86) (v := ?vv86) ?hi86 ?hs86 ?hf86 ?ha86 ?hq86 ?hy86 hHeld ?hr86
        case hi86 => (simp only [List.getElem?_toArray, List.getElem?_cons_succ, List.getElem?_cons_zero]; exact rfl)
        case hs86 => kernel_rfl
        case hf86 => kernel_rfl
        case ha86 => kernel_rfl
        case hq86 => exact fun _ _ _ h => h
        case hy86 =>
          refine Or.inl ⟨by rfl, ?_⟩
          intro w' hSw
          try dsimp only at hSw
          go_simp
          first | done | with_reducible rfl
        simp only [Act.put, List.setIfInBounds_toArray, List.set_cons_succ, List.set_cons_zero]
        refine wpAnyH_ready (rs := [20]) (by kernel_rfl) (by simp) ?_
        refine AllReadyH.cons rfl (fun K hK => ?_) AllReadyH.nil
        go_simp
        go_at_call 12
        obtain ⟨y0, y1, y2, y3, kc, ko, kh, kd, kg, zz, BB⟩ := hHeld
        (with_reducible refine (sameInts_yes A7 A2 c7 c2 (G) H _ _ _ _ _ kg kh hlG HGS.out).mono ?_)
        rintro e w11_ ⟨rfl, hb9⟩
        refine hK.out _ _ ⟨(keep2 hb9 ⟨y0, y1⟩ (by omega)).1, (keep2 hb9 ⟨y0, y1⟩ (by omega)).2, (keep2 hb9 ⟨y2, y3⟩ (by omega)).1, (keep2 hb9 ⟨y2, y3⟩ (by omega)).2, kc.below hb9 (by omega), ko.below hb9 (by omega), kh.below hb9 (by omega), kd.below hb9 (by omega), kg.below hb9 (by omega), Nat.le_trans zz hb9.size, BB.trans (hb9.mono (by omega))⟩ (fun hHeld => ?_)
        clear hb9 BB zz kg kd kh ko kc y3 y2 y1 y0
        clear hK K
        try simp only [Act.put, List.setIfInBounds_toArray, List.set_cons_zero, List.set_cons_succ]
        refine wpAnyH_take (i := 21) (oi := ?oi87) (v := ?vv87) ?hi87 ?hs87 ?hf87 ?ha87 ?hq87 ?hy87 hHeld ?hr87
        case hi87 => (simp only [List.getElem?_toArray, List.getElem?_cons_succ, List.getElem?_cons_zero]; exact rfl)
        case hs87 => kernel_rfl
        case hf87 => kernel_rfl
        case ha87 => kernel_rfl
        case hq87 => exact fun _ _ _ h => h
        case hy87 =>
          refine Or.inl ⟨by rfl, ?_⟩
          intro w' hSw
          try dsimp only at hSw
          go_simp
          first | done | with_reducible rfl
        simp only [Act.put, List.setIfInBounds_toArray, List.set_cons_succ, List.set_cons_zero]
        refine wpAnyH_take (i := 22) (oi := ?oi88) (v := undef) ?hi88 ?hs88 ?hf88 ?ha88 ?hq88 ?hy88 hHeld ?hr88
        case hi88 => (simp only [List.getElem?_toArray, List.getElem?_cons_succ, List.getElem?_cons_zero]; exact rfl)
        case hs88 => kernel_rfl
        case hf88 => kernel_rfl
        case ha88 => kernel_rfl
        case hq88 => exact fun _ _ _ h => h
        case hy88 => exact Or.inr ⟨by rfl, rfl⟩
        simp only [Act.put, List.setIfInBounds_toArray, List.set_cons_succ, List.set_cons_zero]
        refine wpAnyH_take (i := 23) (oi := ?oi89) (v := undef) ?hi89 ?hs89 ?hf89 ?ha89 ?hq89 ?hy89 hHeld ?hr89
        case hi89 => (simp only [List.getElem?_toArray, List.getElem?_cons_succ, List.getElem?_cons_zero]; exact rfl)
        case hs89 => kernel_rfl
        case hf89 => kernel_rfl
        case ha89 => kernel_rfl
        case hq89 => exact fun _ _ _ h => h
        case hy89 => exact Or.inr ⟨by rfl, rfl⟩
        simp only [Act.put, List.setIfInBounds_toArray, List.set_cons_succ, List.set_cons_zero]
        refine wpAnyH_take (i := 24) (oi := ?oi90) (v := undef) ?hi90 ?hs90 ?hf90 ?ha90 ?hq90 ?hy90 hHeld ?hr90
        case hi90 => (simp only [List.getElem?_toArray, List.getElem?_cons_succ, List.getElem?_cons_zero]; exact rfl)
        case hs90 => kernel_rfl
        case hf90 => kernel_rfl
        case ha90 => kernel_rfl
        case hq90 => exact fun _ _ _ h => h
        case hy90 => exact Or.inr ⟨by rfl, rfl⟩
        simp only [Act.put, List.setIfInBounds_toArray, List.set_cons_succ, List.set_cons_zero]
        refine wpAnyH_take (i := 25) (oi := ?oi91) (v := undef) ?hi91 ?hs91 ?hf91 ?ha91 ?hq91 ?hy91 hHeld ?hr91
        case hi91 => (simp only [List.getElem?_toArray, List.getElem?_cons_succ, List.getElem?_cons_zero]; exact rfl)
        case hs91 => kernel_rfl
        case hf91 => kernel_rfl
        case ha91 => kernel_rfl
        case hq91 => exact fun _ _ _ h => h
        case hy91 => exact Or.inr ⟨by rfl, rfl⟩
        simp only [Act.put, List.setIfInBounds_toArray, List.set_cons_succ, List.set_cons_zero]
        refine wpAnyH_take (i := 26) (oi := ?oi92) (v := ?vv92) ?hi92 ?hs92 ?hf92 ?ha92 ?hq92 ?hy92 hHeld ?hr92
        case hi92 => (simp only [List.getElem?_toArray, List.getElem?_cons_succ, List.getElem?_cons_zero]; exact rfl)
        case hs92 => kernel_rfl
        case hf92 => kernel_rfl
        case ha92 => kernel_rfl
        case hq92 => exact fun _ _ _ h => h
        case hy92 =>
          refine Or.inl ⟨by rfl, ?_⟩
          intro w' hSw
          try dsimp only at hSw
          go_simp
          first | done | with_reducible rfl
        simp only [Act.put, List.setIfInBounds_toArray, List.set_cons_succ, List.set_cons_zero]
        refine wpAnyH_take (i := 27) (oi := ?oi93) (v := ?vv93) ?hi93 ?hs93 ?hf93 ?ha93 ?hq93 ?hy93 hHeld ?hr93
        case hi93 => (simp only [List.getElem?_toArray, List.getElem?_cons_succ, List.getElem?_cons_zero]; exact rfl)
        case hs93 => kernel_rfl
        case hf93 => kernel_rfl
        case ha93 => kernel_rfl
        case hq93 => exact fun _ _ _ h => h
        case hy93 =>
          refine Or.inl ⟨by rfl, ?_⟩
          intro w' hSw
          try dsimp only at hSw
          go_simp
          first | done | with_reducible rfl
        simp only [Act.put, List.setIfInBounds_toArray, List.set_cons_succ, List.set_cons_zero]
        refine wpAnyH_take (i := 28) (oi := ?oi94) (v := ?vv94) ?hi94 ?hs94 ?hf94 ?ha94 ?hq94 ?hy94 hHeld ?hr94
        case hi94 => (simp only [List.getElem?_toArray, List.getElem?_cons_succ, List.getElem?_cons_zero]; exact rfl)
        case hs94 => kernel_rfl
        case hf94 => kernel_rfl
        case ha94 => kernel_rfl
        case hq94 => exact fun _ _ _ h => h
        case hy94 =>
          refine Or.inl ⟨by rfl, ?_⟩
          intro w' hSw
          try dsimp only at hSw
          go_simp
          first | done | with_reducible rfl
        simp only [Act.put, List.setIfInBounds_toArray, List.set_cons_succ, List.set_cons_zero]
        refine wpAnyH_take (i := 29) (oi := ?oi95) (v := ?vv95) ?hi95 ?hs95 ?hf95 ?ha95 ?hq95 ?hy95 hHeld ?hr95
        case hi95 => (simp only [List.getElem?_toArray, List.getElem?_cons_succ, List.getElem?_cons_zero]; exact rfl)
        case hs95 => kernel_rfl
        case hf95 => kernel_rfl
        case ha95 => kernel_rfl
        case hq95 => exact fun _ _ _ h => h
        case hy95 =>
          refine Or.inl ⟨by rfl, ?_⟩
          intro w' hSw
          try dsimp only at hSw
          go_simp
          first | done | with_reducible rfl
        simp only [Act.put, List.setIfInBounds_toArray, List.set_cons_succ, List.set_cons_zero]
        refine wpAnyH_take (i := 30) (oi := ?oi96) (v := ?vv96) ?hi96 ?hs96 ?hf96 ?ha96 ?hq96 ?hy96 hHeld ?hr96
        case hi96 => (simp only [List.getElem?_toArray, List.getElem?_cons_succ, List.getElem?_cons_zero]; exact rfl)
        case hs96 => kernel_rfl
        case hf96 => kernel_rfl
        case ha96 => kernel_rfl
        case hq96 => exact fun _ _ _ h => h
        case hy96 =>
          refine Or.inl ⟨by rfl, ?_⟩
          intro w' hSw
          try dsimp only at hSw
          go_simp
          first | done | with_reducible rfl
        simp only [Act.put, List.setIfInBounds_toArray, List.set_cons_succ, List.set_cons_zero]
        refine wpAnyH_take (i := 32) (oi := ?oi97) (v := ?vv97) ?hi97 ?hs97 ?hf97 ?ha97 ?hq97 ?hy97 hHeld ?hr97
        case hi97 => (simp only [List.getElem?_toArray, List.getElem?_cons_succ, List.getElem?_cons_zero]; exact rfl)
        case hs97 => kernel_rfl
        case hf97 => kernel_rfl
        case ha97 => kernel_rfl
        case hq97 => exact fun _ _ _ h => h
        case hy97 =>
          refine Or.inl ⟨by rfl, ?_⟩
          intro w' hSw
          try dsimp only at hSw
          go_simp
          first | done | with_reducible rfl
        simp only [Act.put, List.setIfInBounds_toArray, List.set_cons_succ, List.set_cons_zero]
        refine wpAnyH_ready (rs := [31]) (by kernel_rfl) (by simp) ?_
        refine AllReadyH.cons rfl (fun K hK => ?_) AllReadyH.nil
        go_simp
        go_at_call 20
        obtain ⟨y0, y1, y2, y3, kc, ko, kh, kd, kg, zz, BB⟩ := hHeld
        (with_reducible refine (implLossesOf_yes E A1 c1 xs A2 c2 H _ _ _ kc (by omega) hl5 _ _ kh (by omega) hlH HAW.out).mono ?_)
        rintro e w12_ ⟨Am, cm, rfl, hom, hb9⟩
        refine hK.out _ _ ⟨(keep2 hb9 ⟨y0, y1⟩ (by omega)).1, (keep2 hb9 ⟨y0, y1⟩ (by omega)).2, (keep2 hb9 ⟨y2, y3⟩ (by omega)).1, (keep2 hb9 ⟨y2, y3⟩ (by omega)).2, kc.below hb9 (by omega), ko.below hb9 (by omega), kh.below hb9 (by omega), kd.below hb9 (by omega), kg.below hb9 (by omega), Nat.le_trans zz hb9.size, BB.trans (hb9.mono (by omega))⟩ (fun hHeld => ?_)
        clear hb9 BB zz kg kd kh ko kc y3 y2 y1 y0
        clear hK K
        try simp only [Act.put, List.setIfInBounds_toArray, List.set_cons_zero, List.set_cons_succ]
        refine wpAnyH_ready (rs := [33]) (by kernel_rfl) (by simp) ?_
        refine AllReadyH.cons rfl (fun K hK => ?_) AllReadyH.nil
        go_simp
        go_at_call 11
        obtain ⟨y0, y1, y2, y3, kc, ko, kh, kd, kg, zz, BB⟩ := hHeld
        (with_reducible refine (implHalf_is (xs.sum - E) A5 c5 xs (lossesRow xs H) _ _ _ ko (by omega) HP.out HLO.out).mono ?_)
        rintro e w13_ ⟨An, cn, rfl, hon, hb9⟩
        have hom := hom.below hb9 (Nat.le_refl _)
        have hom := hom.more (Nat.le_refl _) hb9.size
        refine hK.out _ _ ⟨(keep2 hb9 ⟨y0, y1⟩ (by omega)).1, (keep2 hb9 ⟨y0, y1⟩ (by omega)).2, (keep2 hb9 ⟨y2, y3⟩ (by omega)).1, (keep2 hb9 ⟨y2, y3⟩ (by omega)).2, kc.below hb9 (by omega), ko.below hb9 (by omega), kh.below hb9 (by omega), kd.below hb9 (by omega), kg.below hb9 (by omega), Nat.le_trans zz hb9.size, BB.trans (hb9.mono (by omega))⟩ (fun hHeld => ?_)
        clear hb9 BB zz kg kd kh ko kc y3 y2 y1 y0
        clear hK K
        try simp only [Act.put, List.setIfInBounds_toArray, List.set_cons_zero, List.set_cons_succ]
        refine wpAnyH_ready (rs := [34]) (by kernel_rfl) (by simp) ?_
        refine AllReadyH.cons rfl (fun K hK => ?_) AllReadyH.nil
        go_simp
        go_at_call 12
        obtain ⟨y0, y1, y2, y3, kc, ko, kh, kd, kg, zz, BB⟩ := hHeld
        (with_reducible refine (sameInts_below Am An cm cn (lossesRow xs H) _ _ _ _ _ hom.ints hon.ints hlL).mono ?_)
        rintro e w14_ ⟨rfl, hb9⟩
        have hom := hom.below hb9 (Nat.le_refl _)
        have hom := hom.more (Nat.le_refl _) hb9.size
        have hon := hon.below hb9 (Nat.le_refl _)
        have hon := hon.more (Nat.le_refl _) hb9.size
        refine hK.out _ _ ⟨(keep2 hb9 ⟨y0, y1⟩ (by omega)).1, (keep2 hb9 ⟨y0, y1⟩ (by omega)).2, (keep2 hb9 ⟨y2, y3⟩ (by omega)).1, (keep2 hb9 ⟨y2, y3⟩ (by omega)).2, kc.below hb9 (by omega), ko.below hb9 (by omega), kh.below hb9 (by omega), kd.below hb9 (by omega), kg.below hb9 (by omega), Nat.le_trans zz hb9.size, BB.trans (hb9.mono (by omega))⟩ (fun hHeld => ?_)
        clear hb9 BB zz kg kd kh ko kc y3 y2 y1 y0
        clear hK K
        try simp only [Act.put, List.setIfInBounds_toArray, List.set_cons_zero, List.set_cons_succ]
        refine wpAnyH_take (i := 35) (oi := ?oi98) (v := ?vv98) ?hi98 ?hs98 ?hf98 ?ha98 ?hq98 ?hy98 hHeld ?hr98
        case hi98 => (simp only [List.getElem?_toArray, List.getElem?_cons_succ, List.getElem?_cons_zero]; exact rfl)
        case hs98 => kernel_rfl
        case hf98 => kernel_rfl
        case ha98 => kernel_rfl
        case hq98 => exact fun _ _ _ h => h
        case hy98 =>
          refine Or.inl ⟨by rfl, ?_⟩
          intro w' hSw
          try dsimp only at hSw
          go_simp
          first | done | with_reducible rfl
        simp only [Act.put, List.setIfInBounds_toArray, List.set_cons_succ, List.set_cons_zero]
        refine wpAnyH_take (i := 36) (oi := ?oi99) (v := ?vv99) ?hi99 ?hs99 ?hf99 ?ha99 ?hq99 ?hy99 hHeld ?hr99
        case hi99 => (simp only [List.getElem?_toArray, List.getElem?_cons_succ, List.getElem?_cons_zero]; exact rfl)
        case hs99 => kernel_rfl
        case hf99 => kernel_rfl
        case ha99 => kernel_rfl
        case hq99 => exact fun _ _ _ h => h
        case hy99 =>
          refine Or.inl ⟨by rfl, ?_⟩
          intro w' hSw
          try dsimp only at hSw
          go_simp
          first | done | with_reducible rfl
        simp only [Act.put, List.setIfInBounds_toArray, List.set_cons_succ, List.set_cons_zero]
        refine wpAnyH_take (i := 37) (oi := ?oi100) (v := ?vv100) ?hi100 ?hs100 ?hf100 ?ha100 ?hq100 ?hy100 hHeld ?hr100
        case hi100 => (simp only [List.getElem?_toArray, List.getElem?_cons_succ, List.getElem?_cons_zero]; exact rfl)
        case hs100 => kernel_rfl
        case hf100 => kernel_rfl
        case ha100 => kernel_rfl
        case hq100 => exact fun _ _ _ h => h
        case hy100 =>
          refine Or.inl ⟨by rfl, ?_⟩
          intro w' hSw
          try dsimp only at hSw
          go_simp
          first | done | with_reducible rfl
        simp only [Act.put, List.setIfInBounds_toArray, List.set_cons_succ, List.set_cons_zero]
        refine wpAnyH_take (i := 38) (oi := ?oi101) (v := ?vv101) ?hi101 ?hs101 ?hf101 ?ha101 ?hq101 ?hy101 hHeld ?hr101
        case hi101 => (simp only [List.getElem?_toArray, List.getElem?_cons_succ, List.getElem?_cons_zero]; exact rfl)
        case hs101 => kernel_rfl
        case hf101 => kernel_rfl
        case ha101 => kernel_rfl
        case hq101 => exact fun _ _ _ h => h
        case hy101 =>
          refine Or.inl ⟨by rfl, ?_⟩
          intro w' hSw
          try dsimp only at hSw
          go_simp
          first | done | with_reducible rfl
        simp only [Act.put, List.setIfInBounds_toArray, List.set_cons_succ, List.set_cons_zero]
        refine wpAnyH_ready (rs := [39]) (by kernel_rfl) (by simp) ?_
        refine AllReadyH.cons rfl (fun K hK => ?_) AllReadyH.nil
        go_simp
        go_at_call 21
        obtain ⟨y0, y1, y2, y3, kc, ko, kh, kd, kg, zz, BB⟩ := hHeld
        (with_reducible refine (implKeeps_is E A1 c1 xs A2 c2 H true _ _ _ kc (by omega) hl5 _ _ kh (by omega) hlH HKP.out).mono ?_)
        rintro e w15_ ⟨rfl, hb9⟩
        have hom := hom.below hb9 (Nat.le_refl _)
        have hom := hom.more (Nat.le_refl _) hb9.size
        have hon := hon.below hb9 (Nat.le_refl _)
        have hon := hon.more (Nat.le_refl _) hb9.size
        refine hK.out _ _ ⟨(keep2 hb9 ⟨y0, y1⟩ (by omega)).1, (keep2 hb9 ⟨y0, y1⟩ (by omega)).2, (keep2 hb9 ⟨y2, y3⟩ (by omega)).1, (keep2 hb9 ⟨y2, y3⟩ (by omega)).2, kc.below hb9 (by omega), ko.below hb9 (by omega), kh.below hb9 (by omega), kd.below hb9 (by omega), kg.below hb9 (by omega), Nat.le_trans zz hb9.size, BB.trans (hb9.mono (by omega))⟩ (fun hHeld => ?_)
        clear hb9 BB zz kg kd kh ko kc y3 y2 y1 y0
        clear hK K
        try simp only [Act.put, List.setIfInBounds_toArray, List.set_cons_zero, List.set_cons_succ]
        refine wpAnyH_take (i := 40) (oi := ?oi102) (v := ?vv102) ?hi102 ?hs102 ?hf102 ?ha102 ?hq102 ?hy102 hHeld ?hr102
        case hi102 => (simp only [List.getElem?_toArray, List.getElem?_cons_succ, List.getElem?_cons_zero]; exact rfl)
        case hs102 => kernel_rfl
        case hf102 => kernel_rfl
        case ha102 => kernel_rfl
        case hq102 => exact fun _ _ _ h => h
        case hy102 =>
          refine Or.inl ⟨by rfl, ?_⟩
          intro w' hSw
          try dsimp only at hSw
          go_simp
          first | done | with_reducible rfl
        simp only [Act.put, List.setIfInBounds_toArray, List.set_cons_succ, List.set_cons_zero]
        refine wpAnyH_take (i := 41) (oi := ?oi103) (v := ?vv103) ?hi103 ?hs103 ?hf103 ?ha103 ?hq103 ?hy103 hHeld ?hr103
        case hi103 => (simp only [List.getElem?_toArray, List.getElem?_cons_succ, List.getElem?_cons_zero]; exact rfl)
        case hs103 => kernel_rfl
        case hf103 => kernel_rfl
        case ha103 => kernel_rfl
        case hq103 => exact fun _ _ _ h => h
        case hy103 =>
          refine Or.inl ⟨by rfl, ?_⟩
          intro w' hSw
          try dsimp only at hSw
          go_simp
          first | done | with_reducible rfl
        simp only [Act.put, List.setIfInBounds_toArray, List.set_cons_succ, List.set_cons_zero]
        refine wpAnyH_done (by kernel_rfl) ?_ _
        obtain ⟨y0, y1, y2, y3, kc, ko, kh, kd, kg, zz, BB⟩ := hHeld
        go_wp2
        go_ret
        exact ⟨rfl, BB⟩
      · have HYS := Lib.hid hys
        have HGS := Lib.hid hgs
        clear hys hgs
        have hWW : w.heap.size ≤ w7.heap.size := by first | omega | (simp; omega) | simp
        have g_c : w1.heap.size < w7.heap.size := by first | omega | (simp; omega) | simp
        have g_o : w5.heap.size < w7.heap.size := by first | omega | (simp; omega) | simp
        have g_kc : w1.heap.size ≤ w7.heap.size := by first | omega | (simp; omega) | simp
        have g_ko : w5.heap.size ≤ w7.heap.size := by first | omega | (simp; omega) | simp
        have g_kh : w2.heap.size ≤ w7.heap.size := by first | omega | (simp; omega) | simp
        have g_kd : w6.heap.size ≤ w7.heap.size := by first | omega | (simp; omega) | simp
        have g_kg : w7.heap.size ≤ w7.heap.size := by first | omega | (simp; omega) | simp
        refine wp_region_held_drew (S := (fun w' : World => w'.cell? ⟨w1.heap.size, 0, none⟩ = some (.int .i64 E) ∧ w'.cell? ⟨w1.heap.size, 1, none⟩ = some (.slice A1 xs.length c1) ∧ w'.cell? ⟨w5.heap.size, 0, none⟩ = some (.int .i64 (xs.sum - E)) ∧ w'.cell? ⟨w5.heap.size, 1, none⟩ = some (.slice A5 xs.length c5) ∧ Ints w' (w.heap.size) (w1.heap.size) (A1) (xs) ∧ Ints w' (w4.heap.size) (w5.heap.size) (A5) (xs) ∧ Ints w' (w1.heap.size + 1) (w2.heap.size) (A2) (H) ∧ Ints w' (w5.heap.size + 1) (w6.heap.size) (D6) (ys) ∧ Ints w' (w6.heap.size + 1) (w7.heap.size) (A7) (G) ∧ w7.heap.size ≤ w'.heap.size ∧ Below w.heap.size w w')) (by kernel_rfl) ⟨a63, a63', a64, a64', o66.ints, o69.ints, o67.ints, o70.ints, hp7.ints, Nat.le_refl _, B72.drew⟩ (fun hHeld => ?_)
        refine wpAnyH_take (i := 0) (oi := ?oi104) (v := ?vv104) ?hi104 ?hs104 ?hf104 ?ha104 ?hq104 ?hy104 hHeld ?hr104
        case hi104 => (simp only [List.getElem?_toArray, List.getElem?_cons_zero]; exact rfl)
        case hs104 => kernel_rfl
        case hf104 => kernel_rfl
        case ha104 => kernel_rfl
        case hq104 => exact fun _ _ _ h => h
        case hy104 =>
          refine Or.inl ⟨by rfl, ?_⟩
          intro w' hSw
          try dsimp only at hSw
          go_simp
          first | done | with_reducible rfl
        simp only [Act.put, List.setIfInBounds_toArray, List.set_cons_succ, List.set_cons_zero]
        refine wpAnyH_take (i := 1) (oi := ?oi105) (v := ?vv105) ?hi105 ?hs105 ?hf105 ?ha105 ?hq105 ?hy105 hHeld ?hr105
        case hi105 => (simp only [List.getElem?_toArray, List.getElem?_cons_succ, List.getElem?_cons_zero]; exact rfl)
        case hs105 => kernel_rfl
        case hf105 => kernel_rfl
        case ha105 => kernel_rfl
        case hq105 => exact fun _ _ _ h => h
        case hy105 =>
          refine Or.inl ⟨by rfl, ?_⟩
          intro w' hSw
          try dsimp only at hSw
          go_simp
          first | done | with_reducible rfl
        simp only [Act.put, List.setIfInBounds_toArray, List.set_cons_succ, List.set_cons_zero]
        refine wpAnyH_take (i := 2) (oi := ?oi106) (v := ?vv106) ?hi106 ?hs106 ?hf106 ?ha106 ?hq106 ?hy106 hHeld ?hr106
        case hi106 => (simp only [List.getElem?_toArray, List.getElem?_cons_succ, List.getElem?_cons_zero]; exact rfl)
        case hs106 => kernel_rfl
        case hf106 => kernel_rfl
        case ha106 => kernel_rfl
        case hq106 => exact fun _ _ _ h => h
        case hy106 =>
          refine Or.inl ⟨by rfl, ?_⟩
          intro w' hSw
          try dsimp only at hSw
          go_simp
          first | done | with_reducible rfl
        simp only [Act.put, List.setIfInBounds_toArray, List.set_cons_succ, List.set_cons_zero]
        refine wpAnyH_take (i := 3) (oi := ?oi107) (v := ?vv107) ?hi107 ?hs107 ?hf107 ?ha107 ?hq107 ?hy107 hHeld ?hr107
        case hi107 => (simp only [List.getElem?_toArray, List.getElem?_cons_succ, List.getElem?_cons_zero]; exact rfl)
        case hs107 => kernel_rfl
        case hf107 => kernel_rfl
        case ha107 => kernel_rfl
        case hq107 => exact fun _ _ _ h => h
        case hy107 =>
          refine Or.inl ⟨by rfl, ?_⟩
          intro w' hSw
          try dsimp only at hSw
          go_simp
          first | done | with_reducible rfl
        simp only [Act.put, List.setIfInBounds_toArray, List.set_cons_succ, List.set_cons_zero]
        refine wpAnyH_ready (rs := [4]) (by kernel_rfl) (by simp) ?_
        refine AllReadyH.cons rfl (fun K hK => ?_) AllReadyH.nil
        go_simp
        go_at_call 19
        obtain ⟨y0, y1, y2, y3, kc, ko, kh, kd, kg, zz, BB⟩ := hHeld
        (with_reducible refine (implPairs_is E A1 c1 xs A2 c2 (H) _ _ _ kc (by omega) hl5 _ _ kh (by omega) hlH true HAG.out).mono ?_)
        rintro e w8_ ⟨rfl, hb9⟩
        refine hK.out _ _ ⟨(keep2 hb9 ⟨y0, y1⟩ (by omega)).1, (keep2 hb9 ⟨y0, y1⟩ (by omega)).2, (keep2 hb9 ⟨y2, y3⟩ (by omega)).1, (keep2 hb9 ⟨y2, y3⟩ (by omega)).2, kc.below hb9 (by omega), ko.below hb9 (by omega), kh.below hb9 (by omega), kd.below hb9 (by omega), kg.below hb9 (by omega), Nat.le_trans zz hb9.size, BB.trans (hb9.mono (by omega))⟩ (fun hHeld => ?_)
        clear hb9 BB zz kg kd kh ko kc y3 y2 y1 y0
        clear hK K
        try simp only [Act.put, List.setIfInBounds_toArray, List.set_cons_zero, List.set_cons_succ]
        refine wpAnyH_take (i := 5) (oi := ?oi108) (v := ?vv108) ?hi108 ?hs108 ?hf108 ?ha108 ?hq108 ?hy108 hHeld ?hr108
        case hi108 => (simp only [List.getElem?_toArray, List.getElem?_cons_succ, List.getElem?_cons_zero]; exact rfl)
        case hs108 => kernel_rfl
        case hf108 => kernel_rfl
        case ha108 => kernel_rfl
        case hq108 => exact fun _ _ _ h => h
        case hy108 =>
          refine Or.inl ⟨by rfl, ?_⟩
          intro w' hSw
          try dsimp only at hSw
          go_simp
          first | done | with_reducible rfl
        simp only [Act.put, List.setIfInBounds_toArray, List.set_cons_succ, List.set_cons_zero]
        refine wpAnyH_take (i := 6) (oi := ?oi109) (v := ?vv109) ?hi109 ?hs109 ?hf109 ?ha109 ?hq109 ?hy109 hHeld ?hr109
        case hi109 => (simp only [List.getElem?_toArray, List.getElem?_cons_succ, List.getElem?_cons_zero]; exact rfl)
        case hs109 => kernel_rfl
        case hf109 => kernel_rfl
        case ha109 => kernel_rfl
        case hq109 => exact fun _ _ _ h => h
        case hy109 =>
          refine Or.inl ⟨by rfl, ?_⟩
          intro w' hSw
          try dsimp only at hSw
          go_simp
          first | done | with_reducible rfl
        simp only [Act.put, List.setIfInBounds_toArray, List.set_cons_succ, List.set_cons_zero]
        refine wpAnyH_take (i := 7) (oi := ?oi110) (v := ?vv110) ?hi110 ?hs110 ?hf110 ?ha110 ?hq110 ?hy110 hHeld ?hr110
        case hi110 => (simp only [List.getElem?_toArray, List.getElem?_cons_succ, List.getElem?_cons_zero]; exact rfl)
        case hs110 => kernel_rfl
        case hf110 => kernel_rfl
        case ha110 => kernel_rfl
        case hq110 => exact fun _ _ _ h => h
        case hy110 =>
          refine Or.inl ⟨by rfl, ?_⟩
          intro w' hSw
          try dsimp only at hSw
          go_simp
          first | done | with_reducible rfl
        simp only [Act.put, List.setIfInBounds_toArray, List.set_cons_succ, List.set_cons_zero]
        refine wpAnyH_take (i := 8) (oi := ?oi111) (v := ?vv111) ?hi111 ?hs111 ?hf111 ?ha111 ?hq111 ?hy111 hHeld ?hr111
        case hi111 => (simp only [List.getElem?_toArray, List.getElem?_cons_succ, List.getElem?_cons_zero]; exact rfl)
        case hs111 => kernel_rfl
        case hf111 => kernel_rfl
        case ha111 => kernel_rfl
        case hq111 => exact fun _ _ _ h => h
        case hy111 =>
          refine Or.inl ⟨by rfl, ?_⟩
          intro w' hSw
          try dsimp only at hSw
          go_simp
          first | done | with_reducible rfl
        simp only [Act.put, List.setIfInBounds_toArray, List.set_cons_succ, List.set_cons_zero]
        refine wpAnyH_ready (rs := [9]) (by kernel_rfl) (by simp) ?_
        refine AllReadyH.cons rfl (fun K hK => ?_) AllReadyH.nil
        go_simp
        go_at_call 12
        obtain ⟨y0, y1, y2, y3, kc, ko, kh, kd, kg, zz, BB⟩ := hHeld
        (with_reducible refine (sameInts_no D6 A2 d6 c2 (ys) H _ _ _ _ _ kd kh hYl hlH HYS.out).mono ?_)
        rintro e w9_ ⟨rfl, hb9⟩
        refine hK.out _ _ ⟨(keep2 hb9 ⟨y0, y1⟩ (by omega)).1, (keep2 hb9 ⟨y0, y1⟩ (by omega)).2, (keep2 hb9 ⟨y2, y3⟩ (by omega)).1, (keep2 hb9 ⟨y2, y3⟩ (by omega)).2, kc.below hb9 (by omega), ko.below hb9 (by omega), kh.below hb9 (by omega), kd.below hb9 (by omega), kg.below hb9 (by omega), Nat.le_trans zz hb9.size, BB.trans (hb9.mono (by omega))⟩ (fun hHeld => ?_)
        clear hb9 BB zz kg kd kh ko kc y3 y2 y1 y0
        clear hK K
        try simp only [Act.put, List.setIfInBounds_toArray, List.set_cons_zero, List.set_cons_succ]
        refine wpAnyH_take (i := 10) (oi := ?oi112) (v := ?vv112) ?hi112 ?hs112 ?hf112 ?ha112 ?hq112 ?hy112 hHeld ?hr112
        case hi112 => (simp only [List.getElem?_toArray, List.getElem?_cons_succ, List.getElem?_cons_zero]; exact rfl)
        case hs112 => kernel_rfl
        case hf112 => kernel_rfl
        case ha112 => kernel_rfl
        case hq112 => exact fun _ _ _ h => h
        case hy112 =>
          refine Or.inl ⟨by rfl, ?_⟩
          intro w' hSw
          try dsimp only at hSw
          go_simp
          first | done | with_reducible rfl
        simp only [Act.put, List.setIfInBounds_toArray, List.set_cons_succ, List.set_cons_zero]
        refine wpAnyH_take (i := 11) (oi := ?oi113) (v := ?vv113) ?hi113 ?hs113 ?hf113 ?ha113 ?hq113 ?hy113 hHeld ?hr113
        case hi113 => (simp only [List.getElem?_toArray, List.getElem?_cons_succ, List.getElem?_cons_zero]; exact rfl)
        case hs113 => kernel_rfl
        case hf113 => kernel_rfl
        case ha113 => kernel_rfl
        case hq113 => exact fun _ _ _ h => h
        case hy113 =>
          refine Or.inl ⟨by rfl, ?_⟩
          intro w' hSw
          try dsimp only at hSw
          go_simp
          first | done | with_reducible rfl
        simp only [Act.put, List.setIfInBounds_toArray, List.set_cons_succ, List.set_cons_zero]
        refine wpAnyH_take (i := 12) (oi := ?oi114) (v := ?vv114) ?hi114 ?hs114 ?hf114 ?ha114 ?hq114 ?hy114 hHeld ?hr114
        case hi114 => (simp only [List.getElem?_toArray, List.getElem?_cons_succ, List.getElem?_cons_zero]; exact rfl)
        case hs114 => kernel_rfl
        case hf114 => kernel_rfl
        case ha114 => kernel_rfl
        case hq114 => exact fun _ _ _ h => h
        case hy114 =>
          refine Or.inl ⟨by rfl, ?_⟩
          intro w' hSw
          try dsimp only at hSw
          go_simp
          first | done | with_reducible rfl
        simp only [Act.put, List.setIfInBounds_toArray, List.set_cons_succ, List.set_cons_zero]
        refine wpAnyH_ready (rs := [13]) (by kernel_rfl) (by simp) ?_
        refine AllReadyH.cons rfl (fun K hK => ?_) AllReadyH.nil
        go_simp
        go_at_call 19
        obtain ⟨y0, y1, y2, y3, kc, ko, kh, kd, kg, zz, BB⟩ := hHeld
        (with_reducible refine (implPairs_is E A1 c1 xs D6 d6 (ys) _ _ _ kc (by omega) hl5 _ _ kd (by omega) hYl false (HNO.out ys HYS.out)).mono ?_)
        rintro e w10_ ⟨rfl, hb9⟩
        refine hK.out _ _ ⟨(keep2 hb9 ⟨y0, y1⟩ (by omega)).1, (keep2 hb9 ⟨y0, y1⟩ (by omega)).2, (keep2 hb9 ⟨y2, y3⟩ (by omega)).1, (keep2 hb9 ⟨y2, y3⟩ (by omega)).2, kc.below hb9 (by omega), ko.below hb9 (by omega), kh.below hb9 (by omega), kd.below hb9 (by omega), kg.below hb9 (by omega), Nat.le_trans zz hb9.size, BB.trans (hb9.mono (by omega))⟩ (fun hHeld => ?_)
        clear hb9 BB zz kg kd kh ko kc y3 y2 y1 y0
        clear hK K
        try simp only [Act.put, List.setIfInBounds_toArray, List.set_cons_zero, List.set_cons_succ]
        refine wpAnyH_take (i := 14) (oi := ?oi115) (v := ?vv115) ?hi115 ?hs115 ?hf115 ?ha115 ?hq115 ?hy115 hHeld ?hr115
        case hi115 => (simp only [List.getElem?_toArray, List.getElem?_cons_succ, List.getElem?_cons_zero]; exact rfl)
        case hs115 => kernel_rfl
        case hf115 => kernel_rfl
        case ha115 => kernel_rfl
        case hq115 => exact fun _ _ _ h => h
        case hy115 =>
          refine Or.inl ⟨by rfl, ?_⟩
          intro w' hSw
          try dsimp only at hSw
          go_simp
          first | done | with_reducible rfl
        simp only [Act.put, List.setIfInBounds_toArray, List.set_cons_succ, List.set_cons_zero]
        refine wpAnyH_take (i := 15) (oi := ?oi116) (v := ?vv116) ?hi116 ?hs116 ?hf116 ?ha116 ?hq116 ?hy116 hHeld ?hr116
        case hi116 => (simp only [List.getElem?_toArray, List.getElem?_cons_succ, List.getElem?_cons_zero]; exact rfl)
        case hs116 => kernel_rfl
        case hf116 => kernel_rfl
        case ha116 => kernel_rfl
        case hq116 => exact fun _ _ _ h => h
        case hy116 =>
          refine Or.inl ⟨by rfl, ?_⟩
          intro w' hSw
          try dsimp only at hSw
          go_simp
          first | done | with_reducible rfl
        simp only [Act.put, List.setIfInBounds_toArray, List.set_cons_succ, List.set_cons_zero]
        refine wpAnyH_take (i := 16) (oi := ?oi117) (v := ?vv117) ?hi117 ?hs117 ?hf117 ?ha117 ?hq117 ?hy117 hHeld ?hr117
        case hi117 => (simp only [List.getElem?_toArray, List.getElem?_cons_succ, List.getElem?_cons_zero]; exact rfl)
        case hs117 => kernel_rfl
        case hf117 => kernel_rfl
        case ha117 => kernel_rfl
        case hq117 => exact fun _ _ _ h => h
        case hy117 =>
          refine Or.inl ⟨by rfl, ?_⟩
          intro w' hSw
          try dsimp only at hSw
          go_simp
          first | done | with_reducible rfl
        simp only [Act.put, List.setIfInBounds_toArray, List.set_cons_succ, List.set_cons_zero]
        refine wpAnyH_take (i := 17) (oi := ?oi118) (v := ?vv118) ?hi118 ?hs118 ?hf118 ?ha118 ?hq118 ?hy118 hHeld ?hr118
        case hi118 => (simp only [List.getElem?_toArray, List.getElem?_cons_succ, List.getElem?_cons_zero]; exact rfl)
        case hs118 => kernel_rfl
        case hf118 => kernel_rfl
        case ha118 => kernel_rfl
        case hq118 => exact fun _ _ _ h => h
        case hy118 =>
          refine Or.inl ⟨by rfl, ?_⟩
          intro w' hSw
          try dsimp only at hSw
          go_simp
          first | done | with_reducible rfl
        simp only [Act.put, List.setIfInBounds_toArray, List.set_cons_succ, List.set_cons_zero]
        refine wpAnyH_take (i := 18) (oi := ?oi119) (v := ?vv119) ?hi119 ?hs119 ?hf119 ?ha119 ?hq119 ?hy119 hHeld ?hr119
        case hi119 => (simp only [List.getElem?_toArray, List.getElem?_cons_succ, List.getElem?_cons_zero]; exact rfl)
        case hs119 => kernel_rfl
        case hf119 => kernel_rfl
        case ha119 => kernel_rfl
        case hq119 => exact fun _ _ _ h => h
        case hy119 =>
          refine Or.inl ⟨by rfl, ?_⟩
          intro w' hSw
          try dsimp only at hSw
          go_simp
          first | done | with_reducible rfl
        simp only [Act.put, List.setIfInBounds_toArray, List.set_cons_succ, List.set_cons_zero]
        refine wpAnyH_take (i := 19) (oi := ?oi120) (v := ?vv120) ?hi120 ?hs120 ?hf120 ?ha120 ?hq120 ?hy120 hHeld ?hr120
        case hi120 => (simp only [List.getElem?_toArray, List.getElem?_cons_succ, List.getElem?_cons_zero]; exact rfl)
        case hs120 => kernel_rfl
        case hf120 => kernel_rfl
        case ha120 => kernel_rfl
        case hq120 => exact fun _ _ _ h => h
        case hy120 =>
          refine Or.inl ⟨by rfl, ?_⟩
          intro w' hSw
          try dsimp only at hSw
          go_simp
          first | done | with_reducible rfl
        simp only [Act.put, List.setIfInBounds_toArray, List.set_cons_succ, List.set_cons_zero]
        refine wpAnyH_ready (rs := [20]) (by kernel_rfl) (by simp) ?_
        refine AllReadyH.cons rfl (fun K hK => ?_) AllReadyH.nil
        go_simp
        go_at_call 12
        obtain ⟨y0, y1, y2, y3, kc, ko, kh, kd, kg, zz, BB⟩ := hHeld
        (with_reducible refine (sameInts_no A7 A2 c7 c2 (G) H _ _ _ _ _ kg kh hlG hlH HGS.out).mono ?_)
        rintro e w11_ ⟨rfl, hb9⟩
        refine hK.out _ _ ⟨(keep2 hb9 ⟨y0, y1⟩ (by omega)).1, (keep2 hb9 ⟨y0, y1⟩ (by omega)).2, (keep2 hb9 ⟨y2, y3⟩ (by omega)).1, (keep2 hb9 ⟨y2, y3⟩ (by omega)).2, kc.below hb9 (by omega), ko.below hb9 (by omega), kh.below hb9 (by omega), kd.below hb9 (by omega), kg.below hb9 (by omega), Nat.le_trans zz hb9.size, BB.trans (hb9.mono (by omega))⟩ (fun hHeld => ?_)
        clear hb9 BB zz kg kd kh ko kc y3 y2 y1 y0
        clear hK K
        try simp only [Act.put, List.setIfInBounds_toArray, List.set_cons_zero, List.set_cons_succ]
        refine wpAnyH_take (i := 21) (oi := ?oi121) (v := ?vv121) ?hi121 ?hs121 ?hf121 ?ha121 ?hq121 ?hy121 hHeld ?hr121
        case hi121 => (simp only [List.getElem?_toArray, List.getElem?_cons_succ, List.getElem?_cons_zero]; exact rfl)
        case hs121 => kernel_rfl
        case hf121 => kernel_rfl
        case ha121 => kernel_rfl
        case hq121 => exact fun _ _ _ h => h
        case hy121 =>
          refine Or.inl ⟨by rfl, ?_⟩
          intro w' hSw
          try dsimp only at hSw
          go_simp
          first | done | with_reducible rfl
        simp only [Act.put, List.setIfInBounds_toArray, List.set_cons_succ, List.set_cons_zero]
        refine wpAnyH_take (i := 22) (oi := ?oi122) (v := ?vv122) ?hi122 ?hs122 ?hf122 ?ha122 ?hq122 ?hy122 hHeld ?hr122
        case hi122 => (simp only [List.getElem?_toArray, List.getElem?_cons_succ, List.getElem?_cons_zero]; exact rfl)
        case hs122 => kernel_rfl
        case hf122 => kernel_rfl
        case ha122 => kernel_rfl
        case hq122 => exact fun _ _ _ h => h
        case hy122 =>
          refine Or.inl ⟨by rfl, ?_⟩
          intro w' hSw
          try dsimp only at hSw
          go_simp
          first | done | with_reducible rfl
        simp only [Act.put, List.setIfInBounds_toArray, List.set_cons_succ, List.set_cons_zero]
        refine wpAnyH_take (i := 23) (oi := ?oi123) (v := ?vv123) ?hi123 ?hs123 ?hf123 ?ha123 ?hq123 ?hy123 hHeld ?hr123
        case hi123 => (simp only [List.getElem?_toArray, List.getElem?_cons_succ, List.getElem?_cons_zero]; exact rfl)
        case hs123 => kernel_rfl
        case hf123 => kernel_rfl
        case ha123 => kernel_rfl
        case hq123 => exact fun _ _ _ h => h
        case hy123 =>
          refine Or.inl ⟨by rfl, ?_⟩
          intro w' hSw
          try dsimp only at hSw
          go_simp
          first | done | with_reducible rfl
        simp only [Act.put, List.setIfInBounds_toArray, List.set_cons_succ, List.set_cons_zero]
        refine wpAnyH_ready (rs := [24]) (by kernel_rfl) (by simp) ?_
        refine AllReadyH.cons rfl (fun K hK => ?_) AllReadyH.nil
        go_simp
        go_at_call 19
        obtain ⟨y0, y1, y2, y3, kc, ko, kh, kd, kg, zz, BB⟩ := hHeld
        (with_reducible refine (implPairs_is E A1 c1 xs A7 c7 (G) _ _ _ kc (by omega) hl5 _ _ kg (by omega) hlG false (HNO.out G HGS.out)).mono ?_)
        rintro e w12_ ⟨rfl, hb9⟩
        refine hK.out _ _ ⟨(keep2 hb9 ⟨y0, y1⟩ (by omega)).1, (keep2 hb9 ⟨y0, y1⟩ (by omega)).2, (keep2 hb9 ⟨y2, y3⟩ (by omega)).1, (keep2 hb9 ⟨y2, y3⟩ (by omega)).2, kc.below hb9 (by omega), ko.below hb9 (by omega), kh.below hb9 (by omega), kd.below hb9 (by omega), kg.below hb9 (by omega), Nat.le_trans zz hb9.size, BB.trans (hb9.mono (by omega))⟩ (fun hHeld => ?_)
        clear hb9 BB zz kg kd kh ko kc y3 y2 y1 y0
        clear hK K
        try simp only [Act.put, List.setIfInBounds_toArray, List.set_cons_zero, List.set_cons_succ]
        refine wpAnyH_take (i := 25) (oi := ?oi124) (v := ?vv124) ?hi124 ?hs124 ?hf124 ?ha124 ?hq124 ?hy124 hHeld ?hr124
        case hi124 => (simp only [List.getElem?_toArray, List.getElem?_cons_succ, List.getElem?_cons_zero]; exact rfl)
        case hs124 => kernel_rfl
        case hf124 => kernel_rfl
        case ha124 => kernel_rfl
        case hq124 => exact fun _ _ _ h => h
        case hy124 =>
          refine Or.inl ⟨by rfl, ?_⟩
          intro w' hSw
          try dsimp only at hSw
          go_simp
          first | done | with_reducible rfl
        simp only [Act.put, List.setIfInBounds_toArray, List.set_cons_succ, List.set_cons_zero]
        refine wpAnyH_take (i := 26) (oi := ?oi125) (v := ?vv125) ?hi125 ?hs125 ?hf125 ?ha125 ?hq125 ?hy125 hHeld ?hr125
        case hi125 => (simp only [List.getElem?_toArray, List.getElem?_cons_succ, List.getElem?_cons_zero]; exact rfl)
        case hs125 => kernel_rfl
        case hf125 => kernel_rfl
        case ha125 => kernel_rfl
        case hq125 => exact fun _ _ _ h => h
        case hy125 =>
          refine Or.inl ⟨by rfl, ?_⟩
          intro w' hSw
          try dsimp only at hSw
          go_simp
          first | done | with_reducible rfl
        simp only [Act.put, List.setIfInBounds_toArray, List.set_cons_succ, List.set_cons_zero]
        refine wpAnyH_take (i := 27) (oi := ?oi126) (v := ?vv126) ?hi126 ?hs126 ?hf126 ?ha126 ?hq126 ?hy126 hHeld ?hr126
        case hi126 => (simp only [List.getElem?_toArray, List.getElem?_cons_succ, List.getElem?_cons_zero]; exact rfl)
        case hs126 => kernel_rfl
        case hf126 => kernel_rfl
        case ha126 => kernel_rfl
        case hq126 => exact fun _ _ _ h => h
        case hy126 =>
          refine Or.inl ⟨by rfl, ?_⟩
          intro w' hSw
          try dsimp only at hSw
          go_simp
          first | done | with_reducible rfl
        simp only [Act.put, List.setIfInBounds_toArray, List.set_cons_succ, List.set_cons_zero]
        refine wpAnyH_take (i := 28) (oi := ?oi127) (v := ?vv127) ?hi127 ?hs127 ?hf127 ?ha127 ?hq127 ?hy127 hHeld ?hr127
        case hi127 => (simp only [List.getElem?_toArray, List.getElem?_cons_succ, List.getElem?_cons_zero]; exact rfl)
        case hs127 => kernel_rfl
        case hf127 => kernel_rfl
        case ha127 => kernel_rfl
        case hq127 => exact fun _ _ _ h => h
        case hy127 =>
          refine Or.inl ⟨by rfl, ?_⟩
          intro w' hSw
          try dsimp only at hSw
          go_simp
          first | done | with_reducible rfl
        simp only [Act.put, List.setIfInBounds_toArray, List.set_cons_succ, List.set_cons_zero]
        refine wpAnyH_take (i := 29) (oi := ?oi128) (v := ?vv128) ?hi128 ?hs128 ?hf128 ?ha128 ?hq128 ?hy128 hHeld ?hr128
        case hi128 => (simp only [List.getElem?_toArray, List.getElem?_cons_succ, List.getElem?_cons_zero]; exact rfl)
        case hs128 => kernel_rfl
        case hf128 => kernel_rfl
        case ha128 => kernel_rfl
        case hq128 => exact fun _ _ _ h => h
        case hy128 =>
          refine Or.inl ⟨by rfl, ?_⟩
          intro w' hSw
          try dsimp only at hSw
          go_simp
          first | done | with_reducible rfl
        simp only [Act.put, List.setIfInBounds_toArray, List.set_cons_succ, List.set_cons_zero]
        refine wpAnyH_take (i := 30) (oi := ?oi129) (v := ?vv129) ?hi129 ?hs129 ?hf129 ?ha129 ?hq129 ?hy129 hHeld ?hr129
        case hi129 => (simp only [List.getElem?_toArray, List.getElem?_cons_succ, List.getElem?_cons_zero]; exact rfl)
        case hs129 => kernel_rfl
        case hf129 => kernel_rfl
        case ha129 => kernel_rfl
        case hq129 => exact fun _ _ _ h => h
        case hy129 =>
          refine Or.inl ⟨by rfl, ?_⟩
          intro w' hSw
          try dsimp only at hSw
          go_simp
          first | done | with_reducible rfl
        simp only [Act.put, List.setIfInBounds_toArray, List.set_cons_succ, List.set_cons_zero]
        refine wpAnyH_take (i := 32) (oi := ?oi130) (v := ?vv130) ?hi130 ?hs130 ?hf130 ?ha130 ?hq130 ?hy130 hHeld ?hr130
        case hi130 => (simp only [List.getElem?_toArray, List.getElem?_cons_succ, List.getElem?_cons_zero]; exact rfl)
        case hs130 => kernel_rfl
        case hf130 => kernel_rfl
        case ha130 => kernel_rfl
        case hq130 => exact fun _ _ _ h => h
        case hy130 =>
          refine Or.inl ⟨by rfl, ?_⟩
          intro w' hSw
          try dsimp only at hSw
          go_simp
          first | done | with_reducible rfl
        simp only [Act.put, List.setIfInBounds_toArray, List.set_cons_succ, List.set_cons_zero]
        refine wpAnyH_ready (rs := [31]) (by kernel_rfl) (by simp) ?_
        refine AllReadyH.cons rfl (fun K hK => ?_) AllReadyH.nil
        go_simp
        go_at_call 20
        obtain ⟨y0, y1, y2, y3, kc, ko, kh, kd, kg, zz, BB⟩ := hHeld
        (with_reducible refine (implLossesOf_yes E A1 c1 xs A2 c2 H _ _ _ kc (by omega) hl5 _ _ kh (by omega) hlH HAW.out).mono ?_)
        rintro e w13_ ⟨Am, cm, rfl, hom, hb9⟩
        refine hK.out _ _ ⟨(keep2 hb9 ⟨y0, y1⟩ (by omega)).1, (keep2 hb9 ⟨y0, y1⟩ (by omega)).2, (keep2 hb9 ⟨y2, y3⟩ (by omega)).1, (keep2 hb9 ⟨y2, y3⟩ (by omega)).2, kc.below hb9 (by omega), ko.below hb9 (by omega), kh.below hb9 (by omega), kd.below hb9 (by omega), kg.below hb9 (by omega), Nat.le_trans zz hb9.size, BB.trans (hb9.mono (by omega))⟩ (fun hHeld => ?_)
        clear hb9 BB zz kg kd kh ko kc y3 y2 y1 y0
        clear hK K
        try simp only [Act.put, List.setIfInBounds_toArray, List.set_cons_zero, List.set_cons_succ]
        refine wpAnyH_ready (rs := [33]) (by kernel_rfl) (by simp) ?_
        refine AllReadyH.cons rfl (fun K hK => ?_) AllReadyH.nil
        go_simp
        go_at_call 11
        obtain ⟨y0, y1, y2, y3, kc, ko, kh, kd, kg, zz, BB⟩ := hHeld
        (with_reducible refine (implHalf_is (xs.sum - E) A5 c5 xs (lossesRow xs H) _ _ _ ko (by omega) HP.out HLO.out).mono ?_)
        rintro e w14_ ⟨An, cn, rfl, hon, hb9⟩
        have hom := hom.below hb9 (Nat.le_refl _)
        have hom := hom.more (Nat.le_refl _) hb9.size
        refine hK.out _ _ ⟨(keep2 hb9 ⟨y0, y1⟩ (by omega)).1, (keep2 hb9 ⟨y0, y1⟩ (by omega)).2, (keep2 hb9 ⟨y2, y3⟩ (by omega)).1, (keep2 hb9 ⟨y2, y3⟩ (by omega)).2, kc.below hb9 (by omega), ko.below hb9 (by omega), kh.below hb9 (by omega), kd.below hb9 (by omega), kg.below hb9 (by omega), Nat.le_trans zz hb9.size, BB.trans (hb9.mono (by omega))⟩ (fun hHeld => ?_)
        clear hb9 BB zz kg kd kh ko kc y3 y2 y1 y0
        clear hK K
        try simp only [Act.put, List.setIfInBounds_toArray, List.set_cons_zero, List.set_cons_succ]
        refine wpAnyH_ready (rs := [34]) (by kernel_rfl) (by simp) ?_
        refine AllReadyH.cons rfl (fun K hK => ?_) AllReadyH.nil
        go_simp
        go_at_call 12
        obtain ⟨y0, y1, y2, y3, kc, ko, kh, kd, kg, zz, BB⟩ := hHeld
        (with_reducible refine (sameInts_below Am An cm cn (lossesRow xs H) _ _ _ _ _ hom.ints hon.ints hlL).mono ?_)
        rintro e w15_ ⟨rfl, hb9⟩
        have hom := hom.below hb9 (Nat.le_refl _)
        have hom := hom.more (Nat.le_refl _) hb9.size
        have hon := hon.below hb9 (Nat.le_refl _)
        have hon := hon.more (Nat.le_refl _) hb9.size
        refine hK.out _ _ ⟨(keep2 hb9 ⟨y0, y1⟩ (by omega)).1, (keep2 hb9 ⟨y0, y1⟩ (by omega)).2, (keep2 hb9 ⟨y2, y3⟩ (by omega)).1, (keep2 hb9 ⟨y2, y3⟩ (by omega)).2, kc.below hb9 (by omega), ko.below hb9 (by omega), kh.below hb9 (by omega), kd.below hb9 (by omega), kg.below hb9 (by omega), Nat.le_trans zz hb9.size, BB.trans (hb9.mono (by omega))⟩ (fun hHeld => ?_)
        clear hb9 BB zz kg kd kh ko kc y3 y2 y1 y0
        clear hK K
        try simp only [Act.put, List.setIfInBounds_toArray, List.set_cons_zero, List.set_cons_succ]
        refine wpAnyH_take (i := 35) (oi := ?oi131) (v := ?vv131) ?hi131 ?hs131 ?hf131 ?ha131 ?hq131 ?hy131 hHeld ?hr131
        case hi131 => (simp only [List.getElem?_toArray, List.getElem?_cons_succ, List.getElem?_cons_zero]; exact rfl)
        case hs131 => kernel_rfl
        case hf131 => kernel_rfl
        case ha131 => kernel_rfl
        case hq131 => exact fun _ _ _ h => h
        case hy131 =>
          refine Or.inl ⟨by rfl, ?_⟩
          intro w' hSw
          try dsimp only at hSw
          go_simp
          first | done | with_reducible rfl
        simp only [Act.put, List.setIfInBounds_toArray, List.set_cons_succ, List.set_cons_zero]
        refine wpAnyH_take (i := 36) (oi := ?oi132) (v := ?vv132) ?hi132 ?hs132 ?hf132 ?ha132 ?hq132 ?hy132 hHeld ?hr132
        case hi132 => (simp only [List.getElem?_toArray, List.getElem?_cons_succ, List.getElem?_cons_zero]; exact rfl)
        case hs132 => kernel_rfl
        case hf132 => kernel_rfl
        case ha132 => kernel_rfl
        case hq132 => exact fun _ _ _ h => h
        case hy132 =>
          refine Or.inl ⟨by rfl, ?_⟩
          intro w' hSw
          try dsimp only at hSw
          go_simp
          first | done | with_reducible rfl
        simp only [Act.put, List.setIfInBounds_toArray, List.set_cons_succ, List.set_cons_zero]
        refine wpAnyH_take (i := 37) (oi := ?oi133) (v := ?vv133) ?hi133 ?hs133 ?hf133 ?ha133 ?hq133 ?hy133 hHeld ?hr133
        case hi133 => (simp only [List.getElem?_toArray, List.getElem?_cons_succ, List.getElem?_cons_zero]; exact rfl)
        case hs133 => kernel_rfl
        case hf133 => kernel_rfl
        case ha133 => kernel_rfl
        case hq133 => exact fun _ _ _ h => h
        case hy133 =>
          refine Or.inl ⟨by rfl, ?_⟩
          intro w' hSw
          try dsimp only at hSw
          go_simp
          first | done | with_reducible rfl
        simp only [Act.put, List.setIfInBounds_toArray, List.set_cons_succ, List.set_cons_zero]
        refine wpAnyH_take (i := 38) (oi := ?oi134) (v := ?vv134) ?hi134 ?hs134 ?hf134 ?ha134 ?hq134 ?hy134 hHeld ?hr134
        case hi134 => (simp only [List.getElem?_toArray, List.getElem?_cons_succ, List.getElem?_cons_zero]; exact rfl)
        case hs134 => kernel_rfl
        case hf134 => kernel_rfl
        case ha134 => kernel_rfl
        case hq134 => exact fun _ _ _ h => h
        case hy134 =>
          refine Or.inl ⟨by rfl, ?_⟩
          intro w' hSw
          try dsimp only at hSw
          go_simp
          first | done | with_reducible rfl
        simp only [Act.put, List.setIfInBounds_toArray, List.set_cons_succ, List.set_cons_zero]
        refine wpAnyH_ready (rs := [39]) (by kernel_rfl) (by simp) ?_
        refine AllReadyH.cons rfl (fun K hK => ?_) AllReadyH.nil
        go_simp
        go_at_call 21
        obtain ⟨y0, y1, y2, y3, kc, ko, kh, kd, kg, zz, BB⟩ := hHeld
        (with_reducible refine (implKeeps_is E A1 c1 xs A2 c2 H true _ _ _ kc (by omega) hl5 _ _ kh (by omega) hlH HKP.out).mono ?_)
        rintro e w16_ ⟨rfl, hb9⟩
        have hom := hom.below hb9 (Nat.le_refl _)
        have hom := hom.more (Nat.le_refl _) hb9.size
        have hon := hon.below hb9 (Nat.le_refl _)
        have hon := hon.more (Nat.le_refl _) hb9.size
        refine hK.out _ _ ⟨(keep2 hb9 ⟨y0, y1⟩ (by omega)).1, (keep2 hb9 ⟨y0, y1⟩ (by omega)).2, (keep2 hb9 ⟨y2, y3⟩ (by omega)).1, (keep2 hb9 ⟨y2, y3⟩ (by omega)).2, kc.below hb9 (by omega), ko.below hb9 (by omega), kh.below hb9 (by omega), kd.below hb9 (by omega), kg.below hb9 (by omega), Nat.le_trans zz hb9.size, BB.trans (hb9.mono (by omega))⟩ (fun hHeld => ?_)
        clear hb9 BB zz kg kd kh ko kc y3 y2 y1 y0
        clear hK K
        try simp only [Act.put, List.setIfInBounds_toArray, List.set_cons_zero, List.set_cons_succ]
        refine wpAnyH_take (i := 40) (oi := ?oi135) (v := ?vv135) ?hi135 ?hs135 ?hf135 ?ha135 ?hq135 ?hy135 hHeld ?hr135
        case hi135 => (simp only [List.getElem?_toArray, List.getElem?_cons_succ, List.getElem?_cons_zero]; exact rfl)
        case hs135 => kernel_rfl
        case hf135 => kernel_rfl
        case ha135 => kernel_rfl
        case hq135 => exact fun _ _ _ h => h
        case hy135 =>
          refine Or.inl ⟨by rfl, ?_⟩
          intro w' hSw
          try dsimp only at hSw
          go_simp
          first | done | with_reducible rfl
        simp only [Act.put, List.setIfInBounds_toArray, List.set_cons_succ, List.set_cons_zero]
        refine wpAnyH_take (i := 41) (oi := ?oi136) (v := ?vv136) ?hi136 ?hs136 ?hf136 ?ha136 ?hq136 ?hy136 hHeld ?hr136
        case hi136 => (simp only [List.getElem?_toArray, List.getElem?_cons_succ, List.getElem?_cons_zero]; exact rfl)
        case hs136 => kernel_rfl
        case hf136 => kernel_rfl
        case ha136 => kernel_rfl
        case hq136 => exact fun _ _ _ h => h
        case hy136 =>
          refine Or.inl ⟨by rfl, ?_⟩
          intro w' hSw
          try dsimp only at hSw
          go_simp
          first | done | with_reducible rfl
        simp only [Act.put, List.setIfInBounds_toArray, List.set_cons_succ, List.set_cons_zero]
        refine wpAnyH_done (by kernel_rfl) ?_ _
        obtain ⟨y0, y1, y2, y3, kc, ko, kh, kd, kg, zz, BB⟩ := hHeld
        go_wp2
        go_ret
        exact ⟨rfl, BB⟩
  · have hok' : caseOkB E xs = false := by simpa using hok
    have HO := Lib.hid hok'
    clear hok hok'
    go_wp2_with fail
    refine (implHalfAwards_no E A1 c1 xs _ _ _ o4.ints (by first | omega | (simp; omega) | simp) hl5 HO.out).mono ?_
    rintro e w2 ⟨A2, c2, rfl, ho2, hb2⟩
    have hp2 : Own w2 (w1.heap.size + 1) w2.heap.size A2 (([] : List Int)) := ho2.more (by simp) (Nat.le_refl _)
    obtain ⟨a7, a7'⟩ := keep2 hb2 ⟨a6, a6'⟩ (by first | omega | (simp; omega) | simp)
    have o8 := o4.below hb2 (by first | omega | (simp; omega) | simp)
    have hz9 := hb2.size
    simp at hz9
    have B10 := B5.trans (hb2.mono (by first | omega | (simp; omega) | simp))
    clear hb2
    have z11 : w1.heap.size < w2.heap.size := by omega
    go_wp2_with fail
    refine (specHalfAwards_no E A1 c1 xs _ _ _ o8.ints (by first | omega | (simp; omega) | simp) hl5 HO.out).mono ?_
    rintro e w3 ⟨A3, c3, rfl, ho3, hb3⟩
    obtain ⟨a12, a12'⟩ := keep2 hb3 ⟨a7, a7'⟩ (by first | omega | (simp; omega) | simp)
    have o13 := o8.below hb3 (by first | omega | (simp; omega) | simp)
    have o14 := hp2.below hb3 (by first | omega | (simp; omega) | simp)
    have hz15 := hb3.size
    have B16 := B10.trans (hb3.mono (by first | omega | (simp; omega) | simp))
    clear hb3
    have z17 : w1.heap.size < w3.heap.size := by omega
    go_wp2_with fail
    refine (sameInts_below A2 A3 c2 c3 ([] : List Int) _ 0 0 0 0 Ints.nil Ints.nil (by simp)).mono ?_
    rintro e w4 ⟨rfl, hb4⟩
    obtain ⟨a18, a18'⟩ := keep2 hb4 ⟨a12, a12'⟩ (by first | omega | (simp; omega) | simp)
    have o19 := o13.below hb4 (by first | omega | (simp; omega) | simp)
    have o20 := o14.below hb4 (by first | omega | (simp; omega) | simp)
    have o21 := ho3.below hb4 (by first | omega | (simp; omega) | simp)
    have hz22 := hb4.size
    have B23 := B16.trans (hb4.mono (by first | omega | (simp; omega) | simp))
    clear hb4
    have z24 : w1.heap.size < w4.heap.size := by omega
    go_wp2_with fail
    refine (implCaseOk_no (E) (A1) c1 xs _ _ _ o19.ints (by first | omega | (simp; omega) | simp) (by first | omega | simp) HO.out).mono ?_
    rintro e w5 ⟨rfl, hb5⟩
    obtain ⟨a25, a25'⟩ := keep2 hb5 ⟨a18, a18'⟩ (by first | omega | (simp; omega) | simp)
    have o26 := o19.below hb5 (by first | omega | (simp; omega) | simp)
    have o27 := o20.below hb5 (by first | omega | (simp; omega) | simp)
    have o28 := o21.below hb5 (by first | omega | (simp; omega) | simp)
    have hz29 := hb5.size
    have B30 := B23.trans (hb5.mono (by first | omega | (simp; omega) | simp))
    clear hb5
    have z31 : w1.heap.size < w5.heap.size := by omega
    go_wp2_with fail
    refine (alive_any _).mono ?_
    rintro e w6 ⟨rfl, hb6⟩
    obtain ⟨a32, a32'⟩ := keep2 hb6 ⟨a25, a25'⟩ (by first | omega | (simp; omega) | simp)
    have o33 := o26.below hb6 (by first | omega | (simp; omega) | simp)
    have o34 := o27.below hb6 (by first | omega | (simp; omega) | simp)
    have o35 := o28.below hb6 (by first | omega | (simp; omega) | simp)
    have hz36 := hb6.size
    have B37 := B30.trans (hb6.mono (by first | omega | (simp; omega) | simp))
    clear hb6
    have z38 : w1.heap.size < w6.heap.size := by omega
    go_wp2
    go_ret
    exact ⟨rfl, B37⟩

set_option maxRecDepth 10000 in
set_option maxHeartbeats 400000 in
theorem fnHalfAwards_big (A0 : Option Addr) (c0 : Nat) (bs : List Int) (B0 : Option Addr) (d0 : Nat) (ds : List Int) (w : World) (hl : ¬ bs.length ≤ 1048576) (hm : bs.length ≤ 9223372036854775807) :
    Calls Try.prog 3 #[.slice A0 bs.length c0, .slice B0 ds.length d0] w fun e w' => e = .returned (.bool true) ∧ Below w.heap.size w w' := by
  go_enter Try.func3, Try.ntmps3
  go_wp2
  go_ret
  exact ⟨rfl, Below.refl _ _⟩

set_option maxRecDepth 10000 in
set_option maxHeartbeats 400000 in
theorem fnHalfAwards_big2 (A0 : Option Addr) (c0 : Nat) (bs : List Int) (B0 : Option Addr) (d0 : Nat) (ds : List Int) (w : World) (hl : bs.length ≤ 1048576) (hl1 : ¬ ds.length ≤ 1048576) (hm : ds.length ≤ 9223372036854775807) :
    Calls Try.prog 3 #[.slice A0 bs.length c0, .slice B0 ds.length d0] w fun e w' => e = .returned (.bool true) ∧ Below w.heap.size w w' := by
  go_enter Try.func3, Try.ntmps3
  go_wp2
  go_ret
  exact ⟨rfl, Below.refl _ _⟩

theorem fnHalfAwards_all (A0 : Option Addr) (c0 : Nat) (bs : List Int) (B0 : Option Addr) (d0 : Nat) (ds : List Int) (w : World) (h0 : Bytes w w.heap.size A0 bs) (h1 : Bytes w w.heap.size B0 ds) (hm : bs.length ≤ 9223372036854775807) (hm1 : ds.length ≤ 9223372036854775807) (hc0 : bs.length ≤ c0) (hd0 : ds.length ≤ d0) :
    Calls Try.prog 3 #[.slice A0 bs.length c0, .slice B0 ds.length d0] w fun e w' => e = .returned (.bool true) ∧ Below w.heap.size w w' := by
  by_cases hl : bs.length ≤ 1048576
  · by_cases hl1 : ds.length ≤ 1048576
    · exact fnHalfAwards_walk A0 c0 bs B0 d0 ds w h0 h1 hl hl1 hc0 hd0
    · exact fnHalfAwards_big2 A0 c0 bs B0 d0 ds w hl hl1 hm1
  · exact fnHalfAwards_big A0 c0 bs B0 d0 ds w hl hm

end Go.Proofs.Ytngalomfljoomaa
