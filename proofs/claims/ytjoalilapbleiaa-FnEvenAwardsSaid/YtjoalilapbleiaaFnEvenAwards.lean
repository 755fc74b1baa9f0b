/-
  The law of even awards returns true for every two codes, and writes nothing that was there. No condition.
-/
import Derived.Test.YtjoalilapbleiaaDrawE
import Derived.Test.YtjoalilapbleiaaDrawL
import Derived.Test.YtjoalilapbleiaaLawLeaf
import Derived.Test.YtjoalilapbleiaaEvenLaw2
import Derived.Test.YtjoalilapbleiaaSpecFns
import Derived.Test.YtjoalilapbleiaaMore2
import Derived.Test.YtjoalilapbleiaaAwLaw
import Derived.Deep.RegionHeld3
namespace Go.Proofs.Ytjoalilapbleiaa
open Go.RowKit

set_option maxRecDepth 10000 in
set_option maxHeartbeats 4000000 in
theorem fnEvenAwards_walk (A0 : Option Addr) (c0 : Nat) (bs : List Int) (B0 : Option Addr) (d0 : Nat) (ds : List Int) (w : World) (h0 : Bytes w w.heap.size A0 bs) (h1 : Bytes w w.heap.size B0 ds) (hl : bs.length ≤ 1048576) (hl1 : ds.length ≤ 1048576) (hc0 : bs.length ≤ c0) (hd0 : ds.length ≤ d0) :
    Calls Try.prog 4 #[.slice A0 bs.length c0, .slice B0 ds.length d0] w fun e w' => e = .returned (.bool true) ∧ Below w.heap.size w w' := by
  have hlm : bs.length ≤ 9223372036854775807 := by omega
  have hlm1 : ds.length ≤ 9223372036854775807 := by omega
  go_enter Try.func4, Try.ntmps4
  go_wp2_with fail
  refine (drawEvenAwards_any A0 c0 bs _ h0 hlm hc0).mono ?_
  rintro e w1 ⟨E, A1, c1, xs, hx5, rfl, ho1, hb1⟩
  have hz1 := hb1.size
  have B2 := (Below.refl w.heap.size w).trans (hb1.mono (by first | omega | (simp; omega) | simp))
  clear hb1
  have x3 := new2 w1 (.int .i64 E) (.slice A1 xs.length c1) 25
  have o4 := ho1.alloc (by omega) (.cells #[.int .i64 E, .slice A1 xs.length c1] 25)
  have B5 := B2.alloc (by omega) (.cells #[.int .i64 E, .slice A1 xs.length c1] 25)
  have hl5 : xs.length ≤ 1152921504606846976 := by omega
  obtain ⟨a6, a6'⟩ := x3
  by_cases hok : caseOkB E xs = true
  · have hok' := hok
    have HO := Lib.hid hok'
    have hbd := caseOk_bd hok'
    have hsm := caseOk_small hok'
    have HP := Lib.hid (other_ok hok')
    have hlv := evenLv_bd HO.out
    have hca := Lib.hid (fun k hk => case_at' HO.out k hk)
    have HN := Lib.hid (evenAw_length E xs)
    have HAT := Lib.hid (fun k hk => evenAw_at E xs k hk)
    have HAW := Lib.hid (evenAw_aw HO.out)
    have HLW := Lib.hid (evenLo_aw HO.out)
    have hLr : (evenAw E xs).length ≤ 1152921504606846976 := by rw [evenAw_length]; omega
    have hb0 : (((evenAw E xs).length : Int) == 0) = false := beq_eq_false_iff_ne.2 (by rw [evenAw_length]; omega)
    have hll : (((evenAw E xs).length : Int) == (xs.length : Int)) = true := by rw [evenAw_length]; simp
    clear hok hok'
    go_wp2_with fail
    refine (implEvenAwards_yes E A1 c1 xs _ _ _ o4.ints (by first | omega | (simp; omega) | simp) HO.out).mono ?_
    rintro e w2 ⟨A2, c2, rfl, ho2, hb2⟩
    have hp2 : Own w2 (w1.heap.size + 1) w2.heap.size A2 (evenAw E xs) := ho2.more (by simp) (Nat.le_refl _)
    obtain ⟨a7, a7'⟩ := keep2 hb2 ⟨a6, a6'⟩ (by first | omega | (simp; omega) | simp)
    have o8 := o4.below hb2 (by first | omega | (simp; omega) | simp)
    have hz9 := hb2.size
    simp at hz9
    have B10 := B5.trans (hb2.mono (by first | omega | (simp; omega) | simp))
    clear hb2
    have z11 : w1.heap.size < w2.heap.size := by omega
    go_wp2_with fail
    refine (specEvenAwards_yes E A1 c1 xs _ _ _ o8.ints (by first | omega | (simp; omega) | simp) HO.out).mono ?_
    rintro e w3 ⟨A3, c3, rfl, ho3, hb3⟩
    obtain ⟨a12, a12'⟩ := keep2 hb3 ⟨a7, a7'⟩ (by first | omega | (simp; omega) | simp)
    have o13 := o8.below hb3 (by first | omega | (simp; omega) | simp)
    have o14 := hp2.below hb3 (by first | omega | (simp; omega) | simp)
    have hz15 := hb3.size
    have B16 := B10.trans (hb3.mono (by first | omega | (simp; omega) | simp))
    clear hb3
    have z17 : w1.heap.size < w3.heap.size := by omega
    go_wp2_with fail
    refine (sameInts_below A2 A3 c2 c3 (evenAw E xs) _ _ _ _ _ o14.ints ho3.ints hLr).mono ?_
    rintro e w4 ⟨rfl, hb4⟩
    obtain ⟨a18, a18'⟩ := keep2 hb4 ⟨a12, a12'⟩ (by first | omega | (simp; omega) | simp)
    have o19 := o13.below hb4 (by first | omega | (simp; omega) | simp)
    have o20 := o14.below hb4 (by first | omega | (simp; omega) | simp)
    have o21 := ho3.below hb4 (by first | omega | (simp; omega) | simp)
    have hz22 := hb4.size
    have B23 := B16.trans (hb4.mono (by first | omega | (simp; omega) | simp))
    clear hb4
    have z24 : w1.heap.size < w4.heap.size := by omega
    go_wp2_with fail
    refine (implEvenLevel_yes E A1 c1 xs _ _ _ o19.ints (by first | omega | (simp; omega) | simp) HO.out).mono ?_
    rintro e w5 ⟨rfl, hb5⟩
    obtain ⟨a25, a25'⟩ := keep2 hb5 ⟨a18, a18'⟩ (by first | omega | (simp; omega) | simp)
    have o26 := o19.below hb5 (by first | omega | (simp; omega) | simp)
    have o27 := o20.below hb5 (by first | omega | (simp; omega) | simp)
    have o28 := o21.below hb5 (by first | omega | (simp; omega) | simp)
    have hz29 := hb5.size
    have B30 := B23.trans (hb5.mono (by first | omega | (simp; omega) | simp))
    clear hb5
    have z31 : w1.heap.size < w5.heap.size := by omega
    obtain ⟨V, hV⟩ : ∃ V, V = evenLv E xs := ⟨_, rfl⟩
    rw [← hV] at hlv
    rw [← hV]
    have HAT2 : Hid (∀ k (h : k < xs.length), (evenAw E xs)[k]'(by rw [evenAw_length]; exact h) = min (48 * xs[k]) V) := fun k h => by rw [hV]; exact HAT.out k h
    clear hV HAT
    go_wp2
    go_loopw [8] (fun i wr => ∃ k : Nat, k ≤ (evenAw E xs).length ∧ i = .int .i64 k ∧ Below w5.heap.size w5 wr) (fun i _ => (evenAw E xs).length - (intOf i).toNat)
    case atStart => exact ⟨0, Nat.zero_le _, rfl, Below.refl _ _⟩
    case round =>
      obtain ⟨k, hk, rfl, hbl⟩ := hrel
      obtain ⟨w6, rfl⟩ : ∃ x, x = wr := ⟨_, rfl⟩
      have hbl0 := hbl
      obtain ⟨a32, a32'⟩ := keep2 hbl ⟨a25, a25'⟩ (by first | omega | (simp; omega) | simp)
      have o33 := o26.below hbl (by first | omega | (simp; omega) | simp)
      have o34 := o27.below hbl (by first | omega | (simp; omega) | simp)
      have o35 := o28.below hbl (by first | omega | (simp; omega) | simp)
      have hz36 := hbl.size
      have B37 := B30.trans (hbl.mono (by first | omega | (simp; omega) | simp))
      clear hbl
      have z38 : w1.heap.size < w6.heap.size := by omega
      by_cases hlt : k < (evenAw E xs).length
      · obtain ⟨b0_, o0_, rfl, _, hbh0, hc0⟩ := o34.ints.at_ (k := k) hlt
        have hkx : k < xs.length := by rw [← HN.out]; exact hlt
        obtain ⟨b1_, o1_, rfl, _, hbh1, hc1⟩ := o33.ints.at_ hkx
        have hx := hca.out k hkx
        have hr := HAT2.out k hkx
        generalize (evenAw E xs)[k]'hlt = rk at hc0 hr
        generalize xs[k] = x at hc1 hr hx
        have hk0 : (0 : Int) ≤ (k : Int) := by omega
        have hk1 : (k : Int) < ((evenAw E xs).length : Int) := by omega
        have hk2 : (k : Int) < (xs.length : Int) := by omega
        have hw48 : IntKind.i64.wrap (48 * x) = 48 * x := IntWalk.i64_in _ (by omega)
        have hd1 : (rk != min (48 * x) V) = false := by rw [hr]; simp
        have H := Lib.hid hbl0
        go_wp2
        go_quiet (fail)
        go_wp2
        go_roundw
        case rel => exact ⟨k + 1, by omega, by go_num, below_drewN H.out _⟩
        case measure => simp [intOf]; omega
      · have hkN : k = (evenAw E xs).length := by omega
        subst hkN
        clear hbl0
        go_wp2_with fail
        refine (drawLossesOf_any B0 d0 ds _ ((h1.below B37 (Nat.le_refl _)).more (hi' := w6.heap.size) (by first | omega | (simp; omega) | simp)) hlm1 hd0).mono ?_
        rintro e w7 ⟨E2, A7, c7, D7, d7, xs2, ys, hx52, hy5, hyb, rfl, ho7, hq7, hb7⟩
        obtain ⟨a39, a39'⟩ := keep2 hb7 ⟨a32, a32'⟩ (by first | omega | (simp; omega) | simp)
        have o40 := o33.below hb7 (by first | omega | (simp; omega) | simp)
        have o41 := o34.below hb7 (by first | omega | (simp; omega) | simp)
        have o42 := o35.below hb7 (by first | omega | (simp; omega) | simp)
        have hz43 := hb7.size
        have B44 := B37.trans (hb7.mono (by first | omega | (simp; omega) | simp))
        clear hb7
        have z45 : w1.heap.size < w7.heap.size := by omega
        have x46 := new2 w7 (.int .i64 E2) (.slice A7 xs2.length c7) 25
        have q47 := keep2 ((Below.refl w7.heap.size w7).alloc (Nat.le_refl _) (.cells #[.int .i64 E2, .slice A7 xs2.length c7] 25)) ⟨a39, a39'⟩ (by omega)
        have o48 := o40.alloc (by omega) (.cells #[.int .i64 E2, .slice A7 xs2.length c7] 25)
        have o49 := o41.alloc (by omega) (.cells #[.int .i64 E2, .slice A7 xs2.length c7] 25)
        have o50 := o42.alloc (by omega) (.cells #[.int .i64 E2, .slice A7 xs2.length c7] 25)
        have o51 := hq7.alloc (by omega) (.cells #[.int .i64 E2, .slice A7 xs2.length c7] 25)
        have B52 := B44.alloc (by omega) (.cells #[.int .i64 E2, .slice A7 xs2.length c7] 25)
        obtain ⟨a53, a53'⟩ := q47
        obtain ⟨a54, a54'⟩ := x46
        go_wp2_with fail
        refine (implEvenLosses_yes E A1 c1 xs _ _ _ o48.ints (by first | omega | (simp; omega) | simp) HO.out).mono ?_
        rintro e w8 ⟨A8, c8, rfl, ho8, hb8⟩
        have hp8 : Own w8 (w7.heap.size + 1) w8.heap.size A8 (evenLo E xs) := ho8.more (by simp) (Nat.le_refl _)
        obtain ⟨a55, a55'⟩ := keep2 hb8 ⟨a53, a53'⟩ (by first | omega | (simp; omega) | simp)
        obtain ⟨a56, a56'⟩ := keep2 hb8 ⟨a54, a54'⟩ (by first | omega | (simp; omega) | simp)
        have o57 := o48.below hb8 (by first | omega | (simp; omega) | simp)
        have o58 := o49.below hb8 (by first | omega | (simp; omega) | simp)
        have o59 := o50.below hb8 (by first | omega | (simp; omega) | simp)
        have o60 := o51.below hb8 (by first | omega | (simp; omega) | simp)
        have hz61 := hb8.size
        simp at hz61
        have B62 := B52.trans (hb8.mono (by first | omega | (simp; omega) | simp))
        clear hb8
        have z63 : w1.heap.size < w8.heap.size := by omega
        have z64 : w7.heap.size < w8.heap.size := by omega
        go_wp2_with fail
        refine (implAwardsOk_is E A1 c1 xs A2 c2 (evenAw E xs) _ _ _ o57.ints (by first | omega | (simp; omega) | simp) hl5 _ _ o58.ints (by first | omega | (simp; omega) | simp) hLr ((awardsB_iff _ _ _).2 HAW.out)).mono ?_
        rintro e w9 ⟨rfl, hb9⟩
        obtain ⟨a65, a65'⟩ := keep2 hb9 ⟨a55, a55'⟩ (by first | omega | (simp; omega) | simp)
        obtain ⟨a66, a66'⟩ := keep2 hb9 ⟨a56, a56'⟩ (by first | omega | (simp; omega) | simp)
        have o67 := o57.below hb9 (by first | omega | (simp; omega) | simp)
        have o68 := o58.below hb9 (by first | omega | (simp; omega) | simp)
        have o69 := o59.below hb9 (by first | omega | (simp; omega) | simp)
        have o70 := o60.below hb9 (by first | omega | (simp; omega) | simp)
        have o71 := hp8.below hb9 (by first | omega | (simp; omega) | simp)
        have hz72 := hb9.size
        have B73 := B62.trans (hb9.mono (by first | omega | (simp; omega) | simp))
        clear hb9
        have z74 : w1.heap.size < w9.heap.size := by omega
        have z75 : w7.heap.size < w9.heap.size := by omega
        by_cases haw : awardsB E xs ys = true
        · have HAY := Lib.hid haw
          clear haw
          go_wp2_with fail
          refine (implAwardsOk_is E A1 c1 xs D7 d7 ys _ _ _ o67.ints (by first | omega | (simp; omega) | simp) hl5 _ _ o70.ints (by first | omega | (simp; omega) | simp) (by omega) HAY.out).mono ?_
          rintro e w10 ⟨rfl, hb10⟩
          obtain ⟨a76, a76'⟩ := keep2 hb10 ⟨a65, a65'⟩ (by first | omega | (simp; omega) | simp)
          obtain ⟨a77, a77'⟩ := keep2 hb10 ⟨a66, a66'⟩ (by first | omega | (simp; omega) | simp)
          have o78 := o67.below hb10 (by first | omega | (simp; omega) | simp)
          have o79 := o68.below hb10 (by first | omega | (simp; omega) | simp)
          have o80 := o69.below hb10 (by first | omega | (simp; omega) | simp)
          have o81 := o70.below hb10 (by first | omega | (simp; omega) | simp)
          have o82 := o71.below hb10 (by first | omega | (simp; omega) | simp)
          have hz83 := hb10.size
          have B84 := B73.trans (hb10.mono (by first | omega | (simp; omega) | simp))
          clear hb10
          have z85 : w1.heap.size < w10.heap.size := by omega
          have z86 : w7.heap.size < w10.heap.size := by omega
          go_wp2_with fail
          refine (implMoreEven_yes A2 c2 (evenAw E xs) D7 d7 ys _ _ _ o79.ints (by first | omega | (simp; omega) | simp) _ _ o81.ints (by first | omega | (simp; omega) | simp) (aw_small' HAW.out) (drawn_small hy5 hyb) (evenAw_more ((awardsB_iff _ _ _).1 HAY.out))).mono ?_
          rintro e w11 ⟨rfl, hb11⟩
          obtain ⟨a87, a87'⟩ := keep2 hb11 ⟨a76, a76'⟩ (by first | omega | (simp; omega) | simp)
          obtain ⟨a88, a88'⟩ := keep2 hb11 ⟨a77, a77'⟩ (by first | omega | (simp; omega) | simp)
          have o89 := o78.below hb11 (by first | omega | (simp; omega) | simp)
          have o90 := o79.below hb11 (by first | omega | (simp; omega) | simp)
          have o91 := o80.below hb11 (by first | omega | (simp; omega) | simp)
          have o92 := o81.below hb11 (by first | omega | (simp; omega) | simp)
          have o93 := o82.below hb11 (by first | omega | (simp; omega) | simp)
          have hz94 := hb11.size
          have B95 := B84.trans (hb11.mono (by first | omega | (simp; omega) | simp))
          clear hb11
          have z96 : w1.heap.size < w11.heap.size := by omega
          have z97 : w7.heap.size < w11.heap.size := by omega
          go_wp2_with fail
          refine (implMoreEven_yes A2 c2 (evenAw E xs) A8 c8 (evenLo E xs) _ _ _ o90.ints (by first | omega | (simp; omega) | simp) _ _ o93.ints (by first | omega | (simp; omega) | simp) (aw_small' HAW.out) (aw_small' HLW.out) (evenAw_more HLW.out)).mono ?_
          rintro e w12 ⟨rfl, hb12⟩
          obtain ⟨a98, a98'⟩ := keep2 hb12 ⟨a87, a87'⟩ (by first | omega | (simp; omega) | simp)
          obtain ⟨a99, a99'⟩ := keep2 hb12 ⟨a88, a88'⟩ (by first | omega | (simp; omega) | simp)
          have o100 := o89.below hb12 (by first | omega | (simp; omega) | simp)
          have o101 := o90.below hb12 (by first | omega | (simp; omega) | simp)
          have o102 := o91.below hb12 (by first | omega | (simp; omega) | simp)
          have o103 := o92.below hb12 (by first | omega | (simp; omega) | simp)
          have o104 := o93.below hb12 (by first | omega | (simp; omega) | simp)
          have hz105 := hb12.size
          have B106 := B95.trans (hb12.mono (by first | omega | (simp; omega) | simp))
          clear hb12
          have z107 : w1.heap.size < w12.heap.size := by omega
          have z108 : w7.heap.size < w12.heap.size := by omega
          go_wp2
          go_ret
          exact ⟨rfl, B106⟩
        · have HAY : Hid (awardsB E xs ys = false) := by show _ = _; simpa using haw
          clear haw
          go_wp2_with fail
          refine (implAwardsOk_is E A1 c1 xs D7 d7 ys _ _ _ o67.ints (by first | omega | (simp; omega) | simp) hl5 _ _ o70.ints (by first | omega | (simp; omega) | simp) (by omega) HAY.out).mono ?_
          rintro e w10 ⟨rfl, hb10⟩
          obtain ⟨a76, a76'⟩ := keep2 hb10 ⟨a65, a65'⟩ (by first | omega | (simp; omega) | simp)
          obtain ⟨a77, a77'⟩ := keep2 hb10 ⟨a66, a66'⟩ (by first | omega | (simp; omega) | simp)
          have o78 := o67.below hb10 (by first | omega | (simp; omega) | simp)
          have o79 := o68.below hb10 (by first | omega | (simp; omega) | simp)
          have o80 := o69.below hb10 (by first | omega | (simp; omega) | simp)
          have o81 := o70.below hb10 (by first | omega | (simp; omega) | simp)
          have o82 := o71.below hb10 (by first | omega | (simp; omega) | simp)
          have hz83 := hb10.size
          have B84 := B73.trans (hb10.mono (by first | omega | (simp; omega) | simp))
          clear hb10
          have z85 : w1.heap.size < w10.heap.size := by omega
          have z86 : w7.heap.size < w10.heap.size := by omega
          go_wp2_with fail
          refine (implMoreEven_yes A2 c2 (evenAw E xs) A8 c8 (evenLo E xs) _ _ _ o79.ints (by first | omega | (simp; omega) | simp) _ _ o82.ints (by first | omega | (simp; omega) | simp) (aw_small' HAW.out) (aw_small' HLW.out) (evenAw_more HLW.out)).mono ?_
          rintro e w11 ⟨rfl, hb11⟩
          obtain ⟨a87, a87'⟩ := keep2 hb11 ⟨a76, a76'⟩ (by first | omega | (simp; omega) | simp)
          obtain ⟨a88, a88'⟩ := keep2 hb11 ⟨a77, a77'⟩ (by first | omega | (simp; omega) | simp)
          have o89 := o78.below hb11 (by first | omega | (simp; omega) | simp)
          have o90 := o79.below hb11 (by first | omega | (simp; omega) | simp)
          have o91 := o80.below hb11 (by first | omega | (simp; omega) | simp)
          have o92 := o81.below hb11 (by first | omega | (simp; omega) | simp)
          have o93 := o82.below hb11 (by first | omega | (simp; omega) | simp)
          have hz94 := hb11.size
          have B95 := B84.trans (hb11.mono (by first | omega | (simp; omega) | simp))
          clear hb11
          have z96 : w1.heap.size < w11.heap.size := by omega
          have z97 : w7.heap.size < w11.heap.size := by omega
          go_wp2
          go_ret
          exact ⟨rfl, B95⟩
  · have hok' : caseOkB E xs = false := by simpa using hok
    have HO := Lib.hid hok'
    clear hok hok'
    go_wp2_with fail
    refine (implEvenAwards_no E A1 c1 xs _ _ _ o4.ints (by first | omega | (simp; omega) | simp) hl5 HO.out).mono ?_
    rintro e w2 ⟨A2, c2, rfl, ho2, hb2⟩
    have hp2 : Own w2 (w1.heap.size + 1) w2.heap.size A2 (([] : List Int)) := ho2.more (by simp) (Nat.le_refl _)
    obtain ⟨a7, a7'⟩ := keep2 hb2 ⟨a6, a6'⟩ (by first | omega | (simp; omega) | simp)
    have o8 := o4.below hb2 (by first | omega | (simp; omega) | simp)
    have hz9 := hb2.size
    simp at hz9
    have B10 := B5.trans (hb2.mono (by first | omega | (simp; omega) | simp))
    clear hb2
    have z11 : w1.heap.size < w2.heap.size := by omega
    go_wp2_with fail
    refine (specEvenAwards_no E A1 c1 xs _ _ _ o8.ints (by first | omega | (simp; omega) | simp) hl5 HO.out).mono ?_
    rintro e w3 ⟨A3, c3, rfl, ho3, hb3⟩
    obtain ⟨a12, a12'⟩ := keep2 hb3 ⟨a7, a7'⟩ (by first | omega | (simp; omega) | simp)
    have o13 := o8.below hb3 (by first | omega | (simp; omega) | simp)
    have o14 := hp2.below hb3 (by first | omega | (simp; omega) | simp)
    have hz15 := hb3.size
    have B16 := B10.trans (hb3.mono (by first | omega | (simp; omega) | simp))
    clear hb3
    have z17 : w1.heap.size < w3.heap.size := by omega
    go_wp2_with fail
    refine (sameInts_below A2 A3 c2 c3 ([] : List Int) _ 0 0 0 0 Ints.nil Ints.nil (by simp)).mono ?_
    rintro e w4 ⟨rfl, hb4⟩
    obtain ⟨a18, a18'⟩ := keep2 hb4 ⟨a12, a12'⟩ (by first | omega | (simp; omega) | simp)
    have o19 := o13.below hb4 (by first | omega | (simp; omega) | simp)
    have o20 := o14.below hb4 (by first | omega | (simp; omega) | simp)
    have o21 := ho3.below hb4 (by first | omega | (simp; omega) | simp)
    have hz22 := hb4.size
    have B23 := B16.trans (hb4.mono (by first | omega | (simp; omega) | simp))
    clear hb4
    have z24 : w1.heap.size < w4.heap.size := by omega
    go_wp2_with fail
    refine (implCaseOk_no (E) (A1) c1 xs _ _ _ o19.ints (by first | omega | (simp; omega) | simp) (by first | omega | simp) HO.out).mono ?_
    rintro e w5 ⟨rfl, hb5⟩
    obtain ⟨a25, a25'⟩ := keep2 hb5 ⟨a18, a18'⟩ (by first | omega | (simp; omega) | simp)
    have o26 := o19.below hb5 (by first | omega | (simp; omega) | simp)
    have o27 := o20.below hb5 (by first | omega | (simp; omega) | simp)
    have o28 := o21.below hb5 (by first | omega | (simp; omega) | simp)
    have hz29 := hb5.size
    have B30 := B23.trans (hb5.mono (by first | omega | (simp; omega) | simp))
    clear hb5
    have z31 : w1.heap.size < w5.heap.size := by omega
    go_wp2_with fail
    refine (alive_any _).mono ?_
    rintro e w6 ⟨rfl, hb6⟩
    obtain ⟨a32, a32'⟩ := keep2 hb6 ⟨a25, a25'⟩ (by first | omega | (simp; omega) | simp)
    have o33 := o26.below hb6 (by first | omega | (simp; omega) | simp)
    have o34 := o27.below hb6 (by first | omega | (simp; omega) | simp)
    have o35 := o28.below hb6 (by first | omega | (simp; omega) | simp)
    have hz36 := hb6.size
    have B37 := B30.trans (hb6.mono (by first | omega | (simp; omega) | simp))
    clear hb6
    have z38 : w1.heap.size < w6.heap.size := by omega
    go_wp2
    go_ret
    exact ⟨rfl, B37⟩

set_option maxRecDepth 10000 in
set_option maxHeartbeats 400000 in
theorem fnEvenAwards_big (A0 : Option Addr) (c0 : Nat) (bs : List Int) (B0 : Option Addr) (d0 : Nat) (ds : List Int) (w : World) (hl : ¬ bs.length ≤ 1048576) (hm : bs.length ≤ 9223372036854775807) :
    Calls Try.prog 4 #[.slice A0 bs.length c0, .slice B0 ds.length d0] w fun e w' => e = .returned (.bool true) ∧ Below w.heap.size w w' := by
  go_enter Try.func4, Try.ntmps4
  go_wp2
  go_ret
  exact ⟨rfl, Below.refl _ _⟩

set_option maxRecDepth 10000 in
set_option maxHeartbeats 400000 in
theorem fnEvenAwards_big2 (A0 : Option Addr) (c0 : Nat) (bs : List Int) (B0 : Option Addr) (d0 : Nat) (ds : List Int) (w : World) (hl : bs.length ≤ 1048576) (hl1 : ¬ ds.length ≤ 1048576) (hm : ds.length ≤ 9223372036854775807) :
    Calls Try.prog 4 #[.slice A0 bs.length c0, .slice B0 ds.length d0] w fun e w' => e = .returned (.bool true) ∧ Below w.heap.size w w' := by
  go_enter Try.func4, Try.ntmps4
  go_wp2
  go_ret
  exact ⟨rfl, Below.refl _ _⟩

theorem fnEvenAwards_all (A0 : Option Addr) (c0 : Nat) (bs : List Int) (B0 : Option Addr) (d0 : Nat) (ds : List Int) (w : World) (h0 : Bytes w w.heap.size A0 bs) (h1 : Bytes w w.heap.size B0 ds) (hm : bs.length ≤ 9223372036854775807) (hm1 : ds.length ≤ 9223372036854775807) (hc0 : bs.length ≤ c0) (hd0 : ds.length ≤ d0) :
    Calls Try.prog 4 #[.slice A0 bs.length c0, .slice B0 ds.length d0] w fun e w' => e = .returned (.bool true) ∧ Below w.heap.size w w' := by
  by_cases hl : bs.length ≤ 1048576
  · by_cases hl1 : ds.length ≤ 1048576
    · exact fnEvenAwards_walk A0 c0 bs B0 d0 ds w h0 h1 hl hl1 hc0 hd0
    · exact fnEvenAwards_big2 A0 c0 bs B0 d0 ds w hl hl1 hm1
  · exact fnEvenAwards_big A0 c0 bs B0 d0 ds w hl hm

end Go.Proofs.Ytjoalilapbleiaa
