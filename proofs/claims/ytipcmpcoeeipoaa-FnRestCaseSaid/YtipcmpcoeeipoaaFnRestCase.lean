/-
  The law of RestCase returns true for every code, and writes nothing that was there. No condition.
-/
import Derived.Test.YtipcmpcoeeipoaaDrawC
import Derived.Test.YtipcmpcoeeipoaaLawLeaf
import Derived.Test.YtipcmpcoeeipoaaRestLaw
import Derived.Test.YtipcmpcoeeipoaaCutCase
import Derived.Deep.RegionHeld3
namespace Go.Proofs.Ytipcmpcoeeipoaa
open Go.RowKit

set_option maxHeartbeats 2000000 in
theorem fnRestCase_walk (A0 : Option Addr) (c0 : Nat) (bs : List Int) (w : World) (h0 : Bytes w w.heap.size A0 bs) (hl : bs.length ≤ 1048576) (hc0 : bs.length ≤ c0) :
    Calls Try.prog 8 #[.slice A0 bs.length c0] w fun e w' => e = .returned (.bool true) ∧ Below w.heap.size w w' := by
  have hlm : bs.length ≤ 9223372036854775807 := by omega
  go_enter Try.func8, Try.ntmps8
  go_wp2_with fail
  refine (drawRestCase_any A0 c0 bs _ h0 hlm hc0).mono ?_
  rintro e w1 ⟨E, A1, c1, xs, hx5, rfl, ho1, hb1⟩
  have hz1 := hb1.size
  have B2 := (Below.refl w.heap.size w).trans (hb1.mono (by first | omega | (simp; omega) | simp))
  clear hb1
  have x3 := new2 w1 (.int .i64 E) (.slice A1 xs.length c1) 25
  have o4 := ho1.alloc (by omega) (.cells #[.int .i64 E, .slice A1 xs.length c1] 25)
  have B5 := B2.alloc (by omega) (.cells #[.int .i64 E, .slice A1 xs.length c1] 25)
  have hl5 : xs.length ≤ 1152921504606846976 := by omega
  obtain ⟨a6, a6'⟩ := x3
  by_cases hok : caseOkB E xs = true
  · have hok' := hok
    have HO := Lib.hid hok'
    have hbd := caseOk_bd hok'
    have HP := Lib.hid (other_ok hok')
    have HR := Lib.hid (rest_ok hok')
    have hsr := rights_small (rest_ok hok')
    have hcl := cutRow_length (xs.sum - E) xs
    have hcl6 : (cutRow (xs.sum - E) xs).length ≤ 5 := by rw [hcl]; exact hx5
    have hz0 : ((rightsRow (E - (rightsRow E xs).sum) (cutRow (xs.sum - E) xs)).sum == 0) = true := by rw [rest_none]; rfl
    clear hcl
    clear hok hok'
    go_wp2_with fail
    refine (implRestCut_yes E A1 c1 xs _ _ _ o4.ints (by first | omega | (simp; omega) | simp) HO.out).mono ?_
    rintro e w2 ⟨A2, c2, rfl, ho2, hb2⟩
    have hp2 : Own w2 (w1.heap.size + 1) w2.heap.size A2 (cutRow (xs.sum - E) xs) := ho2.more (by simp) (Nat.le_refl _)
    obtain ⟨a7, a7'⟩ := keep2 hb2 ⟨a6, a6'⟩ (by first | omega | (simp; omega) | simp)
    have o8 := o4.below hb2 (by first | omega | (simp; omega) | simp)
    have hz9 := hb2.size
    simp at hz9
    have B10 := B5.trans (hb2.mono (by first | omega | (simp; omega) | simp))
    clear hb2
    have z11 : w1.heap.size < w2.heap.size := by omega
    have x12 := new2 w2 (.int .i64 (E - (rightsRow E xs).sum)) (.slice A2 (cutRow (xs.sum - E) xs).length c2) 25
    have q13 := keep2 ((Below.refl w2.heap.size w2).alloc (Nat.le_refl _) (.cells #[.int .i64 (E - (rightsRow E xs).sum), .slice A2 (cutRow (xs.sum - E) xs).length c2] 25)) ⟨a7, a7'⟩ (by omega)
    have o14 := o8.alloc (by omega) (.cells #[.int .i64 (E - (rightsRow E xs).sum), .slice A2 (cutRow (xs.sum - E) xs).length c2] 25)
    have o15 := hp2.alloc (by omega) (.cells #[.int .i64 (E - (rightsRow E xs).sum), .slice A2 (cutRow (xs.sum - E) xs).length c2] 25)
    have B16 := B10.alloc (by omega) (.cells #[.int .i64 (E - (rightsRow E xs).sum), .slice A2 (cutRow (xs.sum - E) xs).length c2] 25)
    obtain ⟨a17, a17'⟩ := q13
    obtain ⟨a18, a18'⟩ := x12
    go_wp2_with fail
    refine (specRestCut_yes E A1 c1 xs _ _ _ o14.ints (by first | omega | (simp; omega) | simp) HO.out).mono ?_
    rintro e w3 ⟨A3, c3, rfl, ho3, hb3⟩
    have hp3 : Own w3 (w2.heap.size + 1) w3.heap.size A3 (cutRow (xs.sum - E) xs) := ho3.more (by simp) (Nat.le_refl _)
    obtain ⟨a19, a19'⟩ := keep2 hb3 ⟨a17, a17'⟩ (by first | omega | (simp; omega) | simp)
    obtain ⟨a20, a20'⟩ := keep2 hb3 ⟨a18, a18'⟩ (by first | omega | (simp; omega) | simp)
    have o21 := o14.below hb3 (by first | omega | (simp; omega) | simp)
    have o22 := o15.below hb3 (by first | omega | (simp; omega) | simp)
    have hz23 := hb3.size
    simp at hz23
    have B24 := B16.trans (hb3.mono (by first | omega | (simp; omega) | simp))
    clear hb3
    have z25 : w1.heap.size < w3.heap.size := by omega
    have z26 : w2.heap.size < w3.heap.size := by omega
    have x27 := new2 w3 (.int .i64 (E - (rightsRow E xs).sum)) (.slice A3 (cutRow (xs.sum - E) xs).length c3) 25
    have q28 := keep2 ((Below.refl w3.heap.size w3).alloc (Nat.le_refl _) (.cells #[.int .i64 (E - (rightsRow E xs).sum), .slice A3 (cutRow (xs.sum - E) xs).length c3] 25)) ⟨a19, a19'⟩ (by omega)
    have q29 := keep2 ((Below.refl w3.heap.size w3).alloc (Nat.le_refl _) (.cells #[.int .i64 (E - (rightsRow E xs).sum), .slice A3 (cutRow (xs.sum - E) xs).length c3] 25)) ⟨a20, a20'⟩ (by omega)
    have o30 := o21.alloc (by omega) (.cells #[.int .i64 (E - (rightsRow E xs).sum), .slice A3 (cutRow (xs.sum - E) xs).length c3] 25)
    have o31 := o22.alloc (by omega) (.cells #[.int .i64 (E - (rightsRow E xs).sum), .slice A3 (cutRow (xs.sum - E) xs).length c3] 25)
    have o32 := hp3.alloc (by omega) (.cells #[.int .i64 (E - (rightsRow E xs).sum), .slice A3 (cutRow (xs.sum - E) xs).length c3] 25)
    have B33 := B24.alloc (by omega) (.cells #[.int .i64 (E - (rightsRow E xs).sum), .slice A3 (cutRow (xs.sum - E) xs).length c3] 25)
    obtain ⟨a34, a34'⟩ := q28
    obtain ⟨a35, a35'⟩ := q29
    obtain ⟨a36, a36'⟩ := x27
    go_wp2_with fail
    refine (sameCase_yes (E - (rightsRow E xs).sum) A2 A3 c2 c3 (cutRow (xs.sum - E) xs) _ _ _ _ _ o31.ints o32.ints (by first | omega | (simp; omega) | simp) (by first | omega | (simp; omega) | simp) (by omega)).mono ?_
    rintro e w4 ⟨rfl, hb4⟩
    obtain ⟨a37, a37'⟩ := keep2 hb4 ⟨a34, a34'⟩ (by first | omega | (simp; omega) | simp)
    obtain ⟨a38, a38'⟩ := keep2 hb4 ⟨a35, a35'⟩ (by first | omega | (simp; omega) | simp)
    obtain ⟨a39, a39'⟩ := keep2 hb4 ⟨a36, a36'⟩ (by first | omega | (simp; omega) | simp)
    have o40 := o30.below hb4 (by first | omega | (simp; omega) | simp)
    have o41 := o31.below hb4 (by first | omega | (simp; omega) | simp)
    have o42 := o32.below hb4 (by first | omega | (simp; omega) | simp)
    have hz43 := hb4.size
    simp at hz43
    have B44 := B33.trans (hb4.mono (by first | omega | (simp; omega) | simp))
    clear hb4
    have z45 : w1.heap.size < w4.heap.size := by omega
    have z46 : w2.heap.size < w4.heap.size := by omega
    have z47 : w3.heap.size < w4.heap.size := by omega
    go_wp2_with fail
    refine (implOtherCase_yes E A1 c1 xs _ _ _ o40.ints (by first | omega | (simp; omega) | simp) HO.out).mono ?_
    rintro e w5 ⟨A5, c5, rfl, ho5, hb5⟩
    obtain ⟨a48, a48'⟩ := keep2 hb5 ⟨a37, a37'⟩ (by first | omega | (simp; omega) | simp)
    obtain ⟨a49, a49'⟩ := keep2 hb5 ⟨a38, a38'⟩ (by first | omega | (simp; omega) | simp)
    obtain ⟨a50, a50'⟩ := keep2 hb5 ⟨a39, a39'⟩ (by first | omega | (simp; omega) | simp)
    have o51 := o40.below hb5 (by first | omega | (simp; omega) | simp)
    have o52 := o41.below hb5 (by first | omega | (simp; omega) | simp)
    have o53 := o42.below hb5 (by first | omega | (simp; omega) | simp)
    have hz54 := hb5.size
    have B55 := B44.trans (hb5.mono (by first | omega | (simp; omega) | simp))
    clear hb5
    have z56 : w1.heap.size < w5.heap.size := by omega
    have z57 : w2.heap.size < w5.heap.size := by omega
    have z58 : w3.heap.size < w5.heap.size := by omega
    have x59 := new2 w5 (.int .i64 (xs.sum - E)) (.slice A5 xs.length c5) 25
    have q60 := keep2 ((Below.refl w5.heap.size w5).alloc (Nat.le_refl _) (.cells #[.int .i64 (xs.sum - E), .slice A5 xs.length c5] 25)) ⟨a48, a48'⟩ (by omega)
    have q61 := keep2 ((Below.refl w5.heap.size w5).alloc (Nat.le_refl _) (.cells #[.int .i64 (xs.sum - E), .slice A5 xs.length c5] 25)) ⟨a49, a49'⟩ (by omega)
    have q62 := keep2 ((Below.refl w5.heap.size w5).alloc (Nat.le_refl _) (.cells #[.int .i64 (xs.sum - E), .slice A5 xs.length c5] 25)) ⟨a50, a50'⟩ (by omega)
    have o63 := o51.alloc (by omega) (.cells #[.int .i64 (xs.sum - E), .slice A5 xs.length c5] 25)
    have o64 := o52.alloc (by omega) (.cells #[.int .i64 (xs.sum - E), .slice A5 xs.length c5] 25)
    have o65 := o53.alloc (by omega) (.cells #[.int .i64 (xs.sum - E), .slice A5 xs.length c5] 25)
    have o66 := ho5.alloc (by omega) (.cells #[.int .i64 (xs.sum - E), .slice A5 xs.length c5] 25)
    have B67 := B55.alloc (by omega) (.cells #[.int .i64 (xs.sum - E), .slice A5 xs.length c5] 25)
    obtain ⟨a68, a68'⟩ := q60
    obtain ⟨a69, a69'⟩ := q61
    obtain ⟨a70, a70'⟩ := q62
    obtain ⟨a71, a71'⟩ := x59
    go_wp2_with fail
    refine (implCutCase_yes (xs.sum - E) A5 c5 xs _ _ _ o66.ints (by first | omega | (simp; omega) | simp) HP.out).mono ?_
    rintro e w6 ⟨A6, c6, rfl, ho6, hb6⟩
    have hp6 : Own w6 (w5.heap.size + 1) w6.heap.size A6 (cutRow (xs.sum - E) xs) := ho6.more (by simp) (Nat.le_refl _)
    obtain ⟨a72, a72'⟩ := keep2 hb6 ⟨a68, a68'⟩ (by first | omega | (simp; omega) | simp)
    obtain ⟨a73, a73'⟩ := keep2 hb6 ⟨a69, a69'⟩ (by first | omega | (simp; omega) | simp)
    obtain ⟨a74, a74'⟩ := keep2 hb6 ⟨a70, a70'⟩ (by first | omega | (simp; omega) | simp)
    obtain ⟨a75, a75'⟩ := keep2 hb6 ⟨a71, a71'⟩ (by first | omega | (simp; omega) | simp)
    have o76 := o63.below hb6 (by first | omega | (simp; omega) | simp)
    have o77 := o64.below hb6 (by first | omega | (simp; omega) | simp)
    have o78 := o65.below hb6 (by first | omega | (simp; omega) | simp)
    have o79 := o66.below hb6 (by first | omega | (simp; omega) | simp)
    have hz80 := hb6.size
    simp at hz80
    have B81 := B67.trans (hb6.mono (by first | omega | (simp; omega) | simp))
    clear hb6
    have z82 : w1.heap.size < w6.heap.size := by omega
    have z83 : w2.heap.size < w6.heap.size := by omega
    have z84 : w3.heap.size < w6.heap.size := by omega
    have z85 : w5.heap.size < w6.heap.size := by omega
    have x86 := new2 w6 (.int .i64 (xs.sum - E)) (.slice A6 (cutRow (xs.sum - E) xs).length c6) 25
    have q87 := keep2 ((Below.refl w6.heap.size w6).alloc (Nat.le_refl _) (.cells #[.int .i64 (xs.sum - E), .slice A6 (cutRow (xs.sum - E) xs).length c6] 25)) ⟨a72, a72'⟩ (by omega)
    have q88 := keep2 ((Below.refl w6.heap.size w6).alloc (Nat.le_refl _) (.cells #[.int .i64 (xs.sum - E), .slice A6 (cutRow (xs.sum - E) xs).length c6] 25)) ⟨a73, a73'⟩ (by omega)
    have q89 := keep2 ((Below.refl w6.heap.size w6).alloc (Nat.le_refl _) (.cells #[.int .i64 (xs.sum - E), .slice A6 (cutRow (xs.sum - E) xs).length c6] 25)) ⟨a74, a74'⟩ (by omega)
    have q90 := keep2 ((Below.refl w6.heap.size w6).alloc (Nat.le_refl _) (.cells #[.int .i64 (xs.sum - E), .slice A6 (cutRow (xs.sum - E) xs).length c6] 25)) ⟨a75, a75'⟩ (by omega)
    have o91 := o76.alloc (by omega) (.cells #[.int .i64 (xs.sum - E), .slice A6 (cutRow (xs.sum - E) xs).length c6] 25)
    have o92 := o77.alloc (by omega) (.cells #[.int .i64 (xs.sum - E), .slice A6 (cutRow (xs.sum - E) xs).length c6] 25)
    have o93 := o78.alloc (by omega) (.cells #[.int .i64 (xs.sum - E), .slice A6 (cutRow (xs.sum - E) xs).length c6] 25)
    have o94 := o79.alloc (by omega) (.cells #[.int .i64 (xs.sum - E), .slice A6 (cutRow (xs.sum - E) xs).length c6] 25)
    have o95 := hp6.alloc (by omega) (.cells #[.int .i64 (xs.sum - E), .slice A6 (cutRow (xs.sum - E) xs).length c6] 25)
    have B96 := B81.alloc (by omega) (.cells #[.int .i64 (xs.sum - E), .slice A6 (cutRow (xs.sum - E) xs).length c6] 25)
    obtain ⟨a97, a97'⟩ := q87
    obtain ⟨a98, a98'⟩ := q88
    obtain ⟨a99, a99'⟩ := q89
    obtain ⟨a100, a100'⟩ := q90
    obtain ⟨a101, a101'⟩ := x86
    go_wp2_with fail
    refine (otherOfRest E A2 c2 xs _ _ _ o92.ints (by first | omega | (simp; omega) | simp) HR.out).mono ?_
    rintro e w7 ⟨A7, c7, rfl, ho7, hb7⟩
    have hp7 : Own w7 (w6.heap.size + 1) w7.heap.size A7 (cutRow (xs.sum - E) xs) := ho7.more (by simp) (Nat.le_refl _)
    obtain ⟨a102, a102'⟩ := keep2 hb7 ⟨a97, a97'⟩ (by first | omega | (simp; omega) | simp)
    obtain ⟨a103, a103'⟩ := keep2 hb7 ⟨a98, a98'⟩ (by first | omega | (simp; omega) | simp)
    obtain ⟨a104, a104'⟩ := keep2 hb7 ⟨a99, a99'⟩ (by first | omega | (simp; omega) | simp)
    obtain ⟨a105, a105'⟩ := keep2 hb7 ⟨a100, a100'⟩ (by first | omega | (simp; omega) | simp)
    obtain ⟨a106, a106'⟩ := keep2 hb7 ⟨a101, a101'⟩ (by first | omega | (simp; omega) | simp)
    have o107 := o91.below hb7 (by first | omega | (simp; omega) | simp)
    have o108 := o92.below hb7 (by first | omega | (simp; omega) | simp)
    have o109 := o93.below hb7 (by first | omega | (simp; omega) | simp)
    have o110 := o94.below hb7 (by first | omega | (simp; omega) | simp)
    have o111 := o95.below hb7 (by first | omega | (simp; omega) | simp)
    have hz112 := hb7.size
    simp at hz112
    have B113 := B96.trans (hb7.mono (by first | omega | (simp; omega) | simp))
    clear hb7
    have z114 : w1.heap.size < w7.heap.size := by omega
    have z115 : w2.heap.size < w7.heap.size := by omega
    have z116 : w3.heap.size < w7.heap.size := by omega
    have z117 : w5.heap.size < w7.heap.size := by omega
    have z118 : w6.heap.size < w7.heap.size := by omega
    have x119 := new2 w7 (.int .i64 (xs.sum - E)) (.slice A7 (cutRow (xs.sum - E) xs).length c7) 25
    have q120 := keep2 ((Below.refl w7.heap.size w7).alloc (Nat.le_refl _) (.cells #[.int .i64 (xs.sum - E), .slice A7 (cutRow (xs.sum - E) xs).length c7] 25)) ⟨a102, a102'⟩ (by omega)
    have q121 := keep2 ((Below.refl w7.heap.size w7).alloc (Nat.le_refl _) (.cells #[.int .i64 (xs.sum - E), .slice A7 (cutRow (xs.sum - E) xs).length c7] 25)) ⟨a103, a103'⟩ (by omega)
    have q122 := keep2 ((Below.refl w7.heap.size w7).alloc (Nat.le_refl _) (.cells #[.int .i64 (xs.sum - E), .slice A7 (cutRow (xs.sum - E) xs).length c7] 25)) ⟨a104, a104'⟩ (by omega)
    have q123 := keep2 ((Below.refl w7.heap.size w7).alloc (Nat.le_refl _) (.cells #[.int .i64 (xs.sum - E), .slice A7 (cutRow (xs.sum - E) xs).length c7] 25)) ⟨a105, a105'⟩ (by omega)
    have q124 := keep2 ((Below.refl w7.heap.size w7).alloc (Nat.le_refl _) (.cells #[.int .i64 (xs.sum - E), .slice A7 (cutRow (xs.sum - E) xs).length c7] 25)) ⟨a106, a106'⟩ (by omega)
    have o125 := o107.alloc (by omega) (.cells #[.int .i64 (xs.sum - E), .slice A7 (cutRow (xs.sum - E) xs).length c7] 25)
    have o126 := o108.alloc (by omega) (.cells #[.int .i64 (xs.sum - E), .slice A7 (cutRow (xs.sum - E) xs).length c7] 25)
    have o127 := o109.alloc (by omega) (.cells #[.int .i64 (xs.sum - E), .slice A7 (cutRow (xs.sum - E) xs).length c7] 25)
    have o128 := o110.alloc (by omega) (.cells #[.int .i64 (xs.sum - E), .slice A7 (cutRow (xs.sum - E) xs).length c7] 25)
    have o129 := o111.alloc (by omega) (.cells #[.int .i64 (xs.sum - E), .slice A7 (cutRow (xs.sum - E) xs).length c7] 25)
    have o130 := hp7.alloc (by omega) (.cells #[.int .i64 (xs.sum - E), .slice A7 (cutRow (xs.sum - E) xs).length c7] 25)
    have B131 := B113.alloc (by omega) (.cells #[.int .i64 (xs.sum - E), .slice A7 (cutRow (xs.sum - E) xs).length c7] 25)
    obtain ⟨a132, a132'⟩ := q120
    obtain ⟨a133, a133'⟩ := q121
    obtain ⟨a134, a134'⟩ := q122
    obtain ⟨a135, a135'⟩ := q123
    obtain ⟨a136, a136'⟩ := q124
    obtain ⟨a137, a137'⟩ := x119
    go_wp2_with fail
    refine (implCaseOk_yes (E - (rightsRow E xs).sum) (A2) c2 (cutRow (xs.sum - E) xs) _ _ _ o126.ints (by first | omega | (simp; omega) | simp) (by first | omega | simp) HR.out).mono ?_
    rintro e w8 ⟨rfl, hb8⟩
    obtain ⟨a138, a138'⟩ := keep2 hb8 ⟨a132, a132'⟩ (by first | omega | (simp; omega) | simp)
    obtain ⟨a139, a139'⟩ := keep2 hb8 ⟨a133, a133'⟩ (by first | omega | (simp; omega) | simp)
    obtain ⟨a140, a140'⟩ := keep2 hb8 ⟨a134, a134'⟩ (by first | omega | (simp; omega) | simp)
    obtain ⟨a141, a141'⟩ := keep2 hb8 ⟨a135, a135'⟩ (by first | omega | (simp; omega) | simp)
    obtain ⟨a142, a142'⟩ := keep2 hb8 ⟨a136, a136'⟩ (by first | omega | (simp; omega) | simp)
    obtain ⟨a143, a143'⟩ := keep2 hb8 ⟨a137, a137'⟩ (by first | omega | (simp; omega) | simp)
    have o144 := o125.below hb8 (by first | omega | (simp; omega) | simp)
    have o145 := o126.below hb8 (by first | omega | (simp; omega) | simp)
    have o146 := o127.below hb8 (by first | omega | (simp; omega) | simp)
    have o147 := o128.below hb8 (by first | omega | (simp; omega) | simp)
    have o148 := o129.below hb8 (by first | omega | (simp; omega) | simp)
    have o149 := o130.below hb8 (by first | omega | (simp; omega) | simp)
    have hz150 := hb8.size
    simp at hz150
    have B151 := B131.trans (hb8.mono (by first | omega | (simp; omega) | simp))
    clear hb8
    have z152 : w1.heap.size < w8.heap.size := by omega
    have z153 : w2.heap.size < w8.heap.size := by omega
    have z154 : w3.heap.size < w8.heap.size := by omega
    have z155 : w5.heap.size < w8.heap.size := by omega
    have z156 : w6.heap.size < w8.heap.size := by omega
    have z157 : w7.heap.size < w8.heap.size := by omega
    go_wp2_with fail
    refine (implRightsOf_yes (E - (rightsRow E xs).sum) A2 c2 (cutRow (xs.sum - E) xs) _ _ _ o145.ints (by first | omega | (simp; omega) | simp) HR.out).mono ?_
    rintro e w9 ⟨A9, c9, rfl, ho9, hb9⟩
    obtain ⟨a158, a158'⟩ := keep2 hb9 ⟨a138, a138'⟩ (by first | omega | (simp; omega) | simp)
    obtain ⟨a159, a159'⟩ := keep2 hb9 ⟨a139, a139'⟩ (by first | omega | (simp; omega) | simp)
    obtain ⟨a160, a160'⟩ := keep2 hb9 ⟨a140, a140'⟩ (by first | omega | (simp; omega) | simp)
    obtain ⟨a161, a161'⟩ := keep2 hb9 ⟨a141, a141'⟩ (by first | omega | (simp; omega) | simp)
    obtain ⟨a162, a162'⟩ := keep2 hb9 ⟨a142, a142'⟩ (by first | omega | (simp; omega) | simp)
    obtain ⟨a163, a163'⟩ := keep2 hb9 ⟨a143, a143'⟩ (by first | omega | (simp; omega) | simp)
    have o164 := o144.below hb9 (by first | omega | (simp; omega) | simp)
    have o165 := o145.below hb9 (by first | omega | (simp; omega) | simp)
    have o166 := o146.below hb9 (by first | omega | (simp; omega) | simp)
    have o167 := o147.below hb9 (by first | omega | (simp; omega) | simp)
    have o168 := o148.below hb9 (by first | omega | (simp; omega) | simp)
    have o169 := o149.below hb9 (by first | omega | (simp; omega) | simp)
    have hz170 := hb9.size
    have B171 := B151.trans (hb9.mono (by first | omega | (simp; omega) | simp))
    clear hb9
    have z172 : w1.heap.size < w9.heap.size := by omega
    have z173 : w2.heap.size < w9.heap.size := by omega
    have z174 : w3.heap.size < w9.heap.size := by omega
    have z175 : w5.heap.size < w9.heap.size := by omega
    have z176 : w6.heap.size < w9.heap.size := by omega
    have z177 : w7.heap.size < w9.heap.size := by omega
    go_wp2_with fail
    refine (lsumOf_any A9 c9 (rightsRow (E - (rightsRow E xs).sum) (cutRow (xs.sum - E) xs)) _ _ _ ho9.ints hsr).mono ?_
    rintro e w' ⟨rfl, rfl⟩
    go_wp2_with fail
    refine (sameCase_yes (xs.sum - E) A7 A6 c7 c6 (cutRow (xs.sum - E) xs) _ _ _ _ _ o169.ints o168.ints (by first | omega | (simp; omega) | simp) (by first | omega | (simp; omega) | simp) (by omega)).mono ?_
    rintro e w10 ⟨rfl, hb10⟩
    obtain ⟨a178, a178'⟩ := keep2 hb10 ⟨a158, a158'⟩ (by first | omega | (simp; omega) | simp)
    obtain ⟨a179, a179'⟩ := keep2 hb10 ⟨a159, a159'⟩ (by first | omega | (simp; omega) | simp)
    obtain ⟨a180, a180'⟩ := keep2 hb10 ⟨a160, a160'⟩ (by first | omega | (simp; omega) | simp)
    obtain ⟨a181, a181'⟩ := keep2 hb10 ⟨a161, a161'⟩ (by first | omega | (simp; omega) | simp)
    obtain ⟨a182, a182'⟩ := keep2 hb10 ⟨a162, a162'⟩ (by first | omega | (simp; omega) | simp)
    obtain ⟨a183, a183'⟩ := keep2 hb10 ⟨a163, a163'⟩ (by first | omega | (simp; omega) | simp)
    have o184 := o164.below hb10 (by first | omega | (simp; omega) | simp)
    have o185 := o165.below hb10 (by first | omega | (simp; omega) | simp)
    have o186 := o166.below hb10 (by first | omega | (simp; omega) | simp)
    have o187 := o167.below hb10 (by first | omega | (simp; omega) | simp)
    have o188 := o168.below hb10 (by first | omega | (simp; omega) | simp)
    have o189 := o169.below hb10 (by first | omega | (simp; omega) | simp)
    have o190 := ho9.below hb10 (by first | omega | (simp; omega) | simp)
    have hz191 := hb10.size
    have B192 := B171.trans (hb10.mono (by first | omega | (simp; omega) | simp))
    clear hb10
    have z193 : w1.heap.size < w10.heap.size := by omega
    have z194 : w2.heap.size < w10.heap.size := by omega
    have z195 : w3.heap.size < w10.heap.size := by omega
    have z196 : w5.heap.size < w10.heap.size := by omega
    have z197 : w6.heap.size < w10.heap.size := by omega
    have z198 : w7.heap.size < w10.heap.size := by omega
    go_wp2
    go_ret
    exact ⟨rfl, B192⟩
  · have hok' : caseOkB E xs = false := by simpa using hok
    have HO := Lib.hid hok'
    clear hok hok'
    go_wp2_with fail
    refine (implRestCase_no E A1 c1 xs _ _ _ o4.ints (by first | omega | (simp; omega) | simp) hl5 HO.out).mono ?_
    rintro e w2 ⟨A2, c2, rfl, ho2, hb2⟩
    have hp2 : Own w2 (w1.heap.size + 1) w2.heap.size A2 (([] : List Int)) := ho2.more (by simp) (Nat.le_refl _)
    obtain ⟨a7, a7'⟩ := keep2 hb2 ⟨a6, a6'⟩ (by first | omega | (simp; omega) | simp)
    have o8 := o4.below hb2 (by first | omega | (simp; omega) | simp)
    have hz9 := hb2.size
    simp at hz9
    have B10 := B5.trans (hb2.mono (by first | omega | (simp; omega) | simp))
    clear hb2
    have z11 : w1.heap.size < w2.heap.size := by omega
    have x12 := new2 w2 (.int .i64 (0)) (.slice A2 (([] : List Int)).length c2) 25
    have q13 := keep2 ((Below.refl w2.heap.size w2).alloc (Nat.le_refl _) (.cells #[.int .i64 (0), .slice A2 (([] : List Int)).length c2] 25)) ⟨a7, a7'⟩ (by omega)
    have o14 := o8.alloc (by omega) (.cells #[.int .i64 (0), .slice A2 (([] : List Int)).length c2] 25)
    have o15 := hp2.alloc (by omega) (.cells #[.int .i64 (0), .slice A2 (([] : List Int)).length c2] 25)
    have B16 := B10.alloc (by omega) (.cells #[.int .i64 (0), .slice A2 (([] : List Int)).length c2] 25)
    obtain ⟨a17, a17'⟩ := q13
    obtain ⟨a18, a18'⟩ := x12
    go_wp2_with fail
    refine (specRestCase_no E A1 c1 xs _ _ _ o14.ints (by first | omega | (simp; omega) | simp) hl5 HO.out).mono ?_
    rintro e w3 ⟨A3, c3, rfl, ho3, hb3⟩
    have hp3 : Own w3 (w2.heap.size + 1) w3.heap.size A3 (([] : List Int)) := ho3.more (by simp) (Nat.le_refl _)
    obtain ⟨a19, a19'⟩ := keep2 hb3 ⟨a17, a17'⟩ (by first | omega | (simp; omega) | simp)
    obtain ⟨a20, a20'⟩ := keep2 hb3 ⟨a18, a18'⟩ (by first | omega | (simp; omega) | simp)
    have o21 := o14.below hb3 (by first | omega | (simp; omega) | simp)
    have o22 := o15.below hb3 (by first | omega | (simp; omega) | simp)
    have hz23 := hb3.size
    simp at hz23
    have B24 := B16.trans (hb3.mono (by first | omega | (simp; omega) | simp))
    clear hb3
    have z25 : w1.heap.size < w3.heap.size := by omega
    have z26 : w2.heap.size < w3.heap.size := by omega
    have x27 := new2 w3 (.int .i64 (0)) (.slice A3 (([] : List Int)).length c3) 25
    have q28 := keep2 ((Below.refl w3.heap.size w3).alloc (Nat.le_refl _) (.cells #[.int .i64 (0), .slice A3 (([] : List Int)).length c3] 25)) ⟨a19, a19'⟩ (by omega)
    have q29 := keep2 ((Below.refl w3.heap.size w3).alloc (Nat.le_refl _) (.cells #[.int .i64 (0), .slice A3 (([] : List Int)).length c3] 25)) ⟨a20, a20'⟩ (by omega)
    have o30 := o21.alloc (by omega) (.cells #[.int .i64 (0), .slice A3 (([] : List Int)).length c3] 25)
    have o31 := o22.alloc (by omega) (.cells #[.int .i64 (0), .slice A3 (([] : List Int)).length c3] 25)
    have o32 := hp3.alloc (by omega) (.cells #[.int .i64 (0), .slice A3 (([] : List Int)).length c3] 25)
    have B33 := B24.alloc (by omega) (.cells #[.int .i64 (0), .slice A3 (([] : List Int)).length c3] 25)
    obtain ⟨a34, a34'⟩ := q28
    obtain ⟨a35, a35'⟩ := q29
    obtain ⟨a36, a36'⟩ := x27
    go_wp2_with fail
    refine (sameCase_yes (0) A2 A3 c2 c3 (([] : List Int)) _ _ _ _ _ o31.ints o32.ints (by first | omega | (simp; omega) | simp) (by first | omega | (simp; omega) | simp) (by first | omega | simp)).mono ?_
    rintro e w4 ⟨rfl, hb4⟩
    obtain ⟨a37, a37'⟩ := keep2 hb4 ⟨a34, a34'⟩ (by first | omega | (simp; omega) | simp)
    obtain ⟨a38, a38'⟩ := keep2 hb4 ⟨a35, a35'⟩ (by first | omega | (simp; omega) | simp)
    obtain ⟨a39, a39'⟩ := keep2 hb4 ⟨a36, a36'⟩ (by first | omega | (simp; omega) | simp)
    have o40 := o30.below hb4 (by first | omega | (simp; omega) | simp)
    have o41 := o31.below hb4 (by first | omega | (simp; omega) | simp)
    have o42 := o32.below hb4 (by first | omega | (simp; omega) | simp)
    have hz43 := hb4.size
    simp at hz43
    have B44 := B33.trans (hb4.mono (by first | omega | (simp; omega) | simp))
    clear hb4
    have z45 : w1.heap.size < w4.heap.size := by omega
    have z46 : w2.heap.size < w4.heap.size := by omega
    have z47 : w3.heap.size < w4.heap.size := by omega
    go_wp2_with fail
    refine (alive_any _).mono ?_
    rintro e w5 ⟨rfl, hb5⟩
    obtain ⟨a48, a48'⟩ := keep2 hb5 ⟨a37, a37'⟩ (by first | omega | (simp; omega) | simp)
    obtain ⟨a49, a49'⟩ := keep2 hb5 ⟨a38, a38'⟩ (by first | omega | (simp; omega) | simp)
    obtain ⟨a50, a50'⟩ := keep2 hb5 ⟨a39, a39'⟩ (by first | omega | (simp; omega) | simp)
    have o51 := o40.below hb5 (by first | omega | (simp; omega) | simp)
    have o52 := o41.below hb5 (by first | omega | (simp; omega) | simp)
    have o53 := o42.below hb5 (by first | omega | (simp; omega) | simp)
    have hz54 := hb5.size
    have B55 := B44.trans (hb5.mono (by first | omega | (simp; omega) | simp))
    clear hb5
    have z56 : w1.heap.size < w5.heap.size := by omega
    have z57 : w2.heap.size < w5.heap.size := by omega
    have z58 : w3.heap.size < w5.heap.size := by omega
    go_wp2
    go_ret
    exact ⟨rfl, B55⟩

set_option maxHeartbeats 400000 in
theorem fnRestCase_big (A0 : Option Addr) (c0 : Nat) (bs : List Int) (w : World) (hl : ¬ bs.length ≤ 1048576) (hm : bs.length ≤ 9223372036854775807) :
    Calls Try.prog 8 #[.slice A0 bs.length c0] w fun e w' => e = .returned (.bool true) ∧ Below w.heap.size w w' := by
  go_enter Try.func8, Try.ntmps8
  go_wp2
  go_ret
  exact ⟨rfl, Below.refl _ _⟩

theorem fnRestCase_all (A0 : Option Addr) (c0 : Nat) (bs : List Int) (w : World) (h0 : Bytes w w.heap.size A0 bs) (hm : bs.length ≤ 9223372036854775807) (hc0 : bs.length ≤ c0) :
    Calls Try.prog 8 #[.slice A0 bs.length c0] w fun e w' => e = .returned (.bool true) ∧ Below w.heap.size w w' := by
  by_cases hl : bs.length ≤ 1048576
  · exact fnRestCase_walk A0 c0 bs w h0 hl hc0
  · exact fnRestCase_big A0 c0 bs w hl hm

end Go.Proofs.Ytipcmpcoeeipoaa
