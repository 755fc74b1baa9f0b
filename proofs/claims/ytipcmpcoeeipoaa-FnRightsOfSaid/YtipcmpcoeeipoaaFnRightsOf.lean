/-
  The law of RightsOf returns true for every code, and writes nothing that was there. No condition.
-/
import Derived.Test.YtipcmpcoeeipoaaDrawC
import Derived.Test.YtipcmpcoeeipoaaLawLeaf
import Derived.Test.YtipcmpcoeeipoaaRightsOf
import Derived.Test.YtipcmpcoeeipoaaOtherCase
import Derived.Test.YtipcmpcoeeipoaaCutCase
import Derived.Test.YtipcmpcoeeipoaaPure2
import Derived.Deep.RegionHeld3
namespace Go.Proofs.Ytipcmpcoeeipoaa
open Go.RowKit

set_option maxHeartbeats 2000000 in
theorem fnRightsOf_walk (A0 : Option Addr) (c0 : Nat) (bs : List Int) (w : World) (h0 : Bytes w w.heap.size A0 bs) (hl : bs.length ≤ 1048576) (hc0 : bs.length ≤ c0) :
    Calls Try.prog 7 #[.slice A0 bs.length c0] w fun e w' => e = .returned (.bool true) ∧ Below w.heap.size w w' := by
  have hlm : bs.length ≤ 9223372036854775807 := by omega
  go_enter Try.func7, Try.ntmps7
  go_wp2_with fail
  refine (drawRightsOf_any A0 c0 bs _ h0 hlm hc0).mono ?_
  rintro e w1 ⟨E, A1, c1, xs, hx5, rfl, ho1, hb1⟩
  have hz1 := hb1.size
  have B2 := (Below.refl w.heap.size w).trans (hb1.mono (by first | omega | (simp; omega) | simp))
  clear hb1
  have x3 := new2 w1 (.int .i64 E) (.slice A1 xs.length c1) 25
  have o4 := ho1.alloc (by omega) (.cells #[.int .i64 E, .slice A1 xs.length c1] 25)
  have B5 := B2.alloc (by omega) (.cells #[.int .i64 E, .slice A1 xs.length c1] 25)
  have hl5 : xs.length ≤ 1152921504606846976 := by omega
  obtain ⟨a6, a6'⟩ := x3
  by_cases hok : caseOkB E xs = true
  · have hok' := hok
    have HO := Lib.hid hok'
    have hbd := caseOk_bd hok'
    have HP := Lib.hid (other_ok hok')
    have hsr := rights_small hok'
    have hrs := rights_sum_le hok'
    have hca := Lib.hid (fun k hk => case_at' hok' k hk)
    have hcl := rightsRow_length E xs
    have HL := Lib.hid hcl
    have hcl2 := cutRow_length (xs.sum - E) xs
    have HL2 := Lib.hid hcl2
    have hb0 : (((rightsRow E xs).length : Int) == 0) = false := by rw [hcl]; exact beq_eq_false_iff_ne.2 (by omega)
    have hb1 : (((cutRow (xs.sum - E) xs).length : Int) == ((rightsRow E xs).length : Int)) = true := by rw [hcl, hcl2]; simp
    have hcl6 : (rightsRow E xs).length ≤ 5 := by rw [hcl]; exact hx5
    clear hcl hcl2
    clear hok hok'
    go_wp2_with fail
    refine (implRightsOf_yes E A1 c1 xs _ _ _ o4.ints (by first | omega | (simp; omega) | simp) HO.out).mono ?_
    rintro e w2 ⟨A2, c2, rfl, ho2, hb2⟩
    have hp2 : Own w2 (w1.heap.size + 1) w2.heap.size A2 (rightsRow E xs) := ho2.more (by simp) (Nat.le_refl _)
    obtain ⟨a7, a7'⟩ := keep2 hb2 ⟨a6, a6'⟩ (by first | omega | (simp; omega) | simp)
    have o8 := o4.below hb2 (by first | omega | (simp; omega) | simp)
    have hz9 := hb2.size
    simp at hz9
    have B10 := B5.trans (hb2.mono (by first | omega | (simp; omega) | simp))
    clear hb2
    have z11 : w1.heap.size < w2.heap.size := by omega
    go_wp2_with fail
    refine (specRightsOf_yes E A1 c1 xs _ _ _ o8.ints (by first | omega | (simp; omega) | simp) HO.out).mono ?_
    rintro e w3 ⟨A3, c3, rfl, ho3, hb3⟩
    obtain ⟨a12, a12'⟩ := keep2 hb3 ⟨a7, a7'⟩ (by first | omega | (simp; omega) | simp)
    have o13 := o8.below hb3 (by first | omega | (simp; omega) | simp)
    have o14 := hp2.below hb3 (by first | omega | (simp; omega) | simp)
    have hz15 := hb3.size
    have B16 := B10.trans (hb3.mono (by first | omega | (simp; omega) | simp))
    clear hb3
    have z17 : w1.heap.size < w3.heap.size := by omega
    go_wp2_with fail
    refine (sameInts_below A2 A3 c2 c3 (rightsRow E xs) _ _ _ _ _ o14.ints ho3.ints (by omega)).mono ?_
    rintro e w4 ⟨rfl, hb4⟩
    obtain ⟨a18, a18'⟩ := keep2 hb4 ⟨a12, a12'⟩ (by first | omega | (simp; omega) | simp)
    have o19 := o13.below hb4 (by first | omega | (simp; omega) | simp)
    have o20 := o14.below hb4 (by first | omega | (simp; omega) | simp)
    have o21 := ho3.below hb4 (by first | omega | (simp; omega) | simp)
    have hz22 := hb4.size
    have B23 := B16.trans (hb4.mono (by first | omega | (simp; omega) | simp))
    clear hb4
    have z24 : w1.heap.size < w4.heap.size := by omega
    go_wp2_with fail
    refine (implOtherCase_yes E A1 c1 xs _ _ _ o19.ints (by first | omega | (simp; omega) | simp) HO.out).mono ?_
    rintro e w5 ⟨A5, c5, rfl, ho5, hb5⟩
    obtain ⟨a25, a25'⟩ := keep2 hb5 ⟨a18, a18'⟩ (by first | omega | (simp; omega) | simp)
    have o26 := o19.below hb5 (by first | omega | (simp; omega) | simp)
    have o27 := o20.below hb5 (by first | omega | (simp; omega) | simp)
    have o28 := o21.below hb5 (by first | omega | (simp; omega) | simp)
    have hz29 := hb5.size
    have B30 := B23.trans (hb5.mono (by first | omega | (simp; omega) | simp))
    clear hb5
    have z31 : w1.heap.size < w5.heap.size := by omega
    have x32 := new2 w5 (.int .i64 (xs.sum - E)) (.slice A5 xs.length c5) 25
    have q33 := keep2 ((Below.refl w5.heap.size w5).alloc (Nat.le_refl _) (.cells #[.int .i64 (xs.sum - E), .slice A5 xs.length c5] 25)) ⟨a25, a25'⟩ (by omega)
    have o34 := o26.alloc (by omega) (.cells #[.int .i64 (xs.sum - E), .slice A5 xs.length c5] 25)
    have o35 := o27.alloc (by omega) (.cells #[.int .i64 (xs.sum - E), .slice A5 xs.length c5] 25)
    have o36 := o28.alloc (by omega) (.cells #[.int .i64 (xs.sum - E), .slice A5 xs.length c5] 25)
    have o37 := ho5.alloc (by omega) (.cells #[.int .i64 (xs.sum - E), .slice A5 xs.length c5] 25)
    have B38 := B30.alloc (by omega) (.cells #[.int .i64 (xs.sum - E), .slice A5 xs.length c5] 25)
    obtain ⟨a39, a39'⟩ := q33
    obtain ⟨a40, a40'⟩ := x32
    go_wp2_with fail
    refine (implCutCase_yes (xs.sum - E) A5 c5 xs _ _ _ o37.ints (by first | omega | (simp; omega) | simp) HP.out).mono ?_
    rintro e w6 ⟨A6, c6, rfl, ho6, hb6⟩
    have hp6 : Own w6 (w5.heap.size + 1) w6.heap.size A6 (cutRow (xs.sum - E) xs) := ho6.more (by simp) (Nat.le_refl _)
    obtain ⟨a41, a41'⟩ := keep2 hb6 ⟨a39, a39'⟩ (by first | omega | (simp; omega) | simp)
    obtain ⟨a42, a42'⟩ := keep2 hb6 ⟨a40, a40'⟩ (by first | omega | (simp; omega) | simp)
    have o43 := o34.below hb6 (by first | omega | (simp; omega) | simp)
    have o44 := o35.below hb6 (by first | omega | (simp; omega) | simp)
    have o45 := o36.below hb6 (by first | omega | (simp; omega) | simp)
    have o46 := o37.below hb6 (by first | omega | (simp; omega) | simp)
    have hz47 := hb6.size
    simp at hz47
    have B48 := B38.trans (hb6.mono (by first | omega | (simp; omega) | simp))
    clear hb6
    have z49 : w1.heap.size < w6.heap.size := by omega
    have z50 : w5.heap.size < w6.heap.size := by omega
    have x51 := new2 w6 (.int .i64 (xs.sum - E)) (.slice A6 (cutRow (xs.sum - E) xs).length c6) 25
    have q52 := keep2 ((Below.refl w6.heap.size w6).alloc (Nat.le_refl _) (.cells #[.int .i64 (xs.sum - E), .slice A6 (cutRow (xs.sum - E) xs).length c6] 25)) ⟨a41, a41'⟩ (by omega)
    have q53 := keep2 ((Below.refl w6.heap.size w6).alloc (Nat.le_refl _) (.cells #[.int .i64 (xs.sum - E), .slice A6 (cutRow (xs.sum - E) xs).length c6] 25)) ⟨a42, a42'⟩ (by omega)
    have o54 := o43.alloc (by omega) (.cells #[.int .i64 (xs.sum - E), .slice A6 (cutRow (xs.sum - E) xs).length c6] 25)
    have o55 := o44.alloc (by omega) (.cells #[.int .i64 (xs.sum - E), .slice A6 (cutRow (xs.sum - E) xs).length c6] 25)
    have o56 := o45.alloc (by omega) (.cells #[.int .i64 (xs.sum - E), .slice A6 (cutRow (xs.sum - E) xs).length c6] 25)
    have o57 := o46.alloc (by omega) (.cells #[.int .i64 (xs.sum - E), .slice A6 (cutRow (xs.sum - E) xs).length c6] 25)
    have o58 := hp6.alloc (by omega) (.cells #[.int .i64 (xs.sum - E), .slice A6 (cutRow (xs.sum - E) xs).length c6] 25)
    have B59 := B48.alloc (by omega) (.cells #[.int .i64 (xs.sum - E), .slice A6 (cutRow (xs.sum - E) xs).length c6] 25)
    obtain ⟨a60, a60'⟩ := q52
    obtain ⟨a61, a61'⟩ := q53
    obtain ⟨a62, a62'⟩ := x51
    go_wp2
    go_loopw [9] (fun i wr => ∃ k : Nat, k ≤ (rightsRow E xs).length ∧ i = .int .i64 k ∧ Below (w6.alloc (.cells #[.int .i64 (xs.sum - E), .slice A6 (cutRow (xs.sum - E) xs).length c6] 25)).heap.size (w6.alloc (.cells #[.int .i64 (xs.sum - E), .slice A6 (cutRow (xs.sum - E) xs).length c6] 25)) wr) (fun i _ => (rightsRow E xs).length - (intOf i).toNat)
    case atStart => exact ⟨0, Nat.zero_le _, rfl, Below.refl _ _⟩
    case round =>
      obtain ⟨k, hk, rfl, hbl⟩ := hrel
      obtain ⟨w7, rfl⟩ : ∃ x, x = wr := ⟨_, rfl⟩
      have hbl0 := hbl
      obtain ⟨a63, a63'⟩ := keep2 hbl ⟨a60, a60'⟩ (by first | omega | (simp; omega) | simp)
      obtain ⟨a64, a64'⟩ := keep2 hbl ⟨a61, a61'⟩ (by first | omega | (simp; omega) | simp)
      obtain ⟨a65, a65'⟩ := keep2 hbl ⟨a62, a62'⟩ (by first | omega | (simp; omega) | simp)
      have o66 := o54.below hbl (by first | omega | (simp; omega) | simp)
      have o67 := o55.below hbl (by first | omega | (simp; omega) | simp)
      have o68 := o56.below hbl (by first | omega | (simp; omega) | simp)
      have o69 := o57.below hbl (by first | omega | (simp; omega) | simp)
      have o70 := o58.below hbl (by first | omega | (simp; omega) | simp)
      have hz71 := hbl.size
      simp at hz71
      have B72 := B59.trans (hbl.mono (by first | omega | (simp; omega) | simp))
      clear hbl
      have z73 : w1.heap.size < w7.heap.size := by omega
      have z74 : w5.heap.size < w7.heap.size := by omega
      have z75 : w6.heap.size < w7.heap.size := by omega
      by_cases hlt : k < (rightsRow E xs).length
      · obtain ⟨b0_, o0_, rfl, _, hbh0, hc0⟩ := o67.ints.at_ (k := k) hlt
        obtain ⟨b1_, o1_, rfl, _, hbh1, hc1⟩ := o66.ints.at_ (k := k) (by rw [← HL.out]; exact hlt)
        obtain ⟨b2_, o2_, rfl, _, hbh2, hc2⟩ := o70.ints.at_ (k := k) (by rw [HL2.out, ← HL.out]; exact hlt)
        have hq := rights_cut_at E xs k (by rw [← HL.out]; exact hlt)
        have hv := hca.out k (by rw [← HL.out]; exact hlt)
        have hv2 := cut_at_le (xs.sum - E) xs k (by rw [← HL.out]; exact hlt)
        have hv3 := cut_at_ge (xs.sum - E) xs k (by rw [← HL.out]; exact hlt) (by omega) hv.1
        generalize (rightsRow E xs)[k]'hlt = vr at hc0 hq
        generalize (cutRow (xs.sum - E) xs)[k]'(by rw [HL2.out, ← HL.out]; exact hlt) = vc at hc2 hq hv2 hv3
        generalize xs[k]'(by rw [← HL.out]; exact hlt) = vx at hc1 hq hv hv2 hv3
        have hd1 : (vr != vx - vc) = false := by rw [hq]; simp
        have hw1 : IntKind.i64.wrap (vx - vc) = vx - vc := IntWalk.i64_in _ (by omega)
        clear hq
        have hk0 : (0 : Int) ≤ (k : Int) := by omega
        have hk1 : (k : Int) < ((rightsRow E xs).length : Int) := by omega
        have hk2 : (k : Int) < (xs.length : Int) := by have := HL.out; omega
        have hk3 : (k : Int) < ((cutRow (xs.sum - E) xs).length : Int) := by have := HL.out; have := HL2.out; omega
        have H := Lib.hid hbl0
        go_wp2
        go_quiet (fail)
        go_wp2
        go_roundw
        case rel => exact ⟨k + 1, by omega, by go_num, below_drewN H.out _⟩
        case measure => simp [intOf]; omega
      · have hkN : k = (rightsRow E xs).length := by omega
        subst hkN
        clear hbl0
        go_wp2
        go_quiet ((go_at_call 31; exact quiet_left (lsumOf_any _ _ _ _ _ _ (o67.ints.drewN _) hsr)))
        go_wp2
        go_ret
        exact ⟨rfl, below_drewN B72 _⟩
  · have hok' : caseOkB E xs = false := by simpa using hok
    have HO := Lib.hid hok'
    clear hok hok'
    go_wp2_with fail
    refine (implRightsOf_no E A1 c1 xs _ _ _ o4.ints (by first | omega | (simp; omega) | simp) hl5 HO.out).mono ?_
    rintro e w2 ⟨A2, c2, rfl, ho2, hb2⟩
    have hp2 : Own w2 (w1.heap.size + 1) w2.heap.size A2 (([] : List Int)) := ho2.more (by simp) (Nat.le_refl _)
    obtain ⟨a7, a7'⟩ := keep2 hb2 ⟨a6, a6'⟩ (by first | omega | (simp; omega) | simp)
    have o8 := o4.below hb2 (by first | omega | (simp; omega) | simp)
    have hz9 := hb2.size
    simp at hz9
    have B10 := B5.trans (hb2.mono (by first | omega | (simp; omega) | simp))
    clear hb2
    have z11 : w1.heap.size < w2.heap.size := by omega
    go_wp2_with fail
    refine (specRightsOf_no E A1 c1 xs _ _ _ o8.ints (by first | omega | (simp; omega) | simp) hl5 HO.out).mono ?_
    rintro e w3 ⟨A3, c3, rfl, ho3, hb3⟩
    obtain ⟨a12, a12'⟩ := keep2 hb3 ⟨a7, a7'⟩ (by first | omega | (simp; omega) | simp)
    have o13 := o8.below hb3 (by first | omega | (simp; omega) | simp)
    have o14 := hp2.below hb3 (by first | omega | (simp; omega) | simp)
    have hz15 := hb3.size
    have B16 := B10.trans (hb3.mono (by first | omega | (simp; omega) | simp))
    clear hb3
    have z17 : w1.heap.size < w3.heap.size := by omega
    go_wp2_with fail
    refine (sameInts_below A2 A3 c2 c3 ([] : List Int) _ _ _ _ _ o14.ints ho3.ints (by simp)).mono ?_
    rintro e w4 ⟨rfl, hb4⟩
    obtain ⟨a18, a18'⟩ := keep2 hb4 ⟨a12, a12'⟩ (by first | omega | (simp; omega) | simp)
    have o19 := o13.below hb4 (by first | omega | (simp; omega) | simp)
    have o20 := o14.below hb4 (by first | omega | (simp; omega) | simp)
    have o21 := ho3.below hb4 (by first | omega | (simp; omega) | simp)
    have hz22 := hb4.size
    have B23 := B16.trans (hb4.mono (by first | omega | (simp; omega) | simp))
    clear hb4
    have z24 : w1.heap.size < w4.heap.size := by omega
    go_wp2_with fail
    refine (implCaseOk_no (E) (A1) c1 xs _ _ _ o19.ints (by first | omega | (simp; omega) | simp) (by first | omega | simp) HO.out).mono ?_
    rintro e w5 ⟨rfl, hb5⟩
    obtain ⟨a25, a25'⟩ := keep2 hb5 ⟨a18, a18'⟩ (by first | omega | (simp; omega) | simp)
    have o26 := o19.below hb5 (by first | omega | (simp; omega) | simp)
    have o27 := o20.below hb5 (by first | omega | (simp; omega) | simp)
    have o28 := o21.below hb5 (by first | omega | (simp; omega) | simp)
    have hz29 := hb5.size
    have B30 := B23.trans (hb5.mono (by first | omega | (simp; omega) | simp))
    clear hb5
    have z31 : w1.heap.size < w5.heap.size := by omega
    go_wp2_with fail
    refine (alive_any _).mono ?_
    rintro e w6 ⟨rfl, hb6⟩
    obtain ⟨a32, a32'⟩ := keep2 hb6 ⟨a25, a25'⟩ (by first | omega | (simp; omega) | simp)
    have o33 := o26.below hb6 (by first | omega | (simp; omega) | simp)
    have o34 := o27.below hb6 (by first | omega | (simp; omega) | simp)
    have o35 := o28.below hb6 (by first | omega | (simp; omega) | simp)
    have hz36 := hb6.size
    have B37 := B30.trans (hb6.mono (by first | omega | (simp; omega) | simp))
    clear hb6
    have z38 : w1.heap.size < w6.heap.size := by omega
    go_wp2
    go_ret
    exact ⟨rfl, B37⟩

set_option maxHeartbeats 400000 in
theorem fnRightsOf_big (A0 : Option Addr) (c0 : Nat) (bs : List Int) (w : World) (hl : ¬ bs.length ≤ 1048576) (hm : bs.length ≤ 9223372036854775807) :
    Calls Try.prog 7 #[.slice A0 bs.length c0] w fun e w' => e = .returned (.bool true) ∧ Below w.heap.size w w' := by
  go_enter Try.func7, Try.ntmps7
  go_wp2
  go_ret
  exact ⟨rfl, Below.refl _ _⟩

theorem fnRightsOf_all (A0 : Option Addr) (c0 : Nat) (bs : List Int) (w : World) (h0 : Bytes w w.heap.size A0 bs) (hm : bs.length ≤ 9223372036854775807) (hc0 : bs.length ≤ c0) :
    Calls Try.prog 7 #[.slice A0 bs.length c0] w fun e w' => e = .returned (.bool true) ∧ Below w.heap.size w w' := by
  by_cases hl : bs.length ≤ 1048576
  · exact fnRightsOf_walk A0 c0 bs w h0 hl hc0
  · exact fnRightsOf_big A0 c0 bs w hl hm

end Go.Proofs.Ytipcmpcoeeipoaa
