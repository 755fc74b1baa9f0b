/-
  The exact law of RestCase returns true, and writes nothing that was there. No condition.
-/
import Derived.Test.YtipcmpcoeeipoabExactCase
import Derived.Test.YtipcmpcoeeipoabRestCase
import Derived.Deep.RegionHeld3
namespace Go.Proofs.Ytipcmpcoeeipoab
open Go.RowKit

set_option maxHeartbeats 1600000 in
theorem exRestCase_walk (E : Int) (A : Option Addr) (c : Nat) (xs : List Int) (w : World) (h : Ints w 0 w.heap.size A xs) (hl : xs.length ≤ 1048576) :
    Calls Try.prog 8 #[.agg #[.int .i64 E, .slice A xs.length c]] w fun e w' => e = .returned (.bool true) ∧ Below w.heap.size w w' := by
  have hR : (restXs E xs).length ≤ 1048576 := Nat.le_trans (restXs_len E xs) hl
  have x1 := new2 w (.int .i64 E) (.slice A xs.length c) 24
  have B2 := (Below.refl w.heap.size w).alloc (Nat.le_refl _) (.cells #[.int .i64 E, .slice A xs.length c] 24)
  go_enter Try.func8, Try.ntmps8
  obtain ⟨a3, a3'⟩ := x1
  go_wp2_with fail
  refine (szCase_yes E A c xs.length 1048576 _ (by omega) (by omega)).mono ?_
  rintro e w1 ⟨rfl, hb1⟩
  obtain ⟨a4, a4'⟩ := keep2 hb1 ⟨a3, a3'⟩ (by first | omega | (simp; omega) | simp)
  have hz5 := hb1.size
  simp at hz5
  have B6 := B2.trans (hb1.mono (by first | omega | (simp; omega) | simp))
  clear hb1
  have z7 : w.heap.size < w1.heap.size := by omega
  have e8 : ¬ (1048576 - (xs.length : Int) < 0) := by omega
  go_wp2_with fail
  refine (toCase_any E A c xs _ 0 w.heap.size (h.below B6 (Nat.le_refl _)) (by first | omega | (simp; omega) | simp) hl).mono ?_
  rintro e w2 ⟨A2, c2, rfl, ho2, hb2⟩
  obtain ⟨a9, a9'⟩ := keep2 hb2 ⟨a4, a4'⟩ (by first | omega | (simp; omega) | simp)
  have hz10 := hb2.size
  have B11 := B6.trans (hb2.mono (by first | omega | (simp; omega) | simp))
  clear hb2
  have z12 : w.heap.size < w2.heap.size := by omega
  go_wp2_with fail
  refine (specRestCase_any E A2 c2 xs _ _ _ ho2.ints (by first | omega | (simp; omega) | simp) (by omega)).mono ?_
  rintro e w3 ⟨A3, c3, rfl, ho3, hb3⟩
  obtain ⟨a13, a13'⟩ := keep2 hb3 ⟨a9, a9'⟩ (by first | omega | (simp; omega) | simp)
  have o14 := ho2.below hb3 (by first | omega | (simp; omega) | simp)
  have hz15 := hb3.size
  have B16 := B11.trans (hb3.mono (by first | omega | (simp; omega) | simp))
  clear hb3
  have z17 : w.heap.size < w3.heap.size := by omega
  have x18 := new2 w3 (.int .i64 (restE E xs)) (.slice A3 (restXs E xs).length c3) 27
  have q19 := keep2 ((Below.refl w3.heap.size w3).alloc (Nat.le_refl _) (.cells #[.int .i64 (restE E xs), .slice A3 (restXs E xs).length c3] 27)) ⟨a13, a13'⟩ (by omega)
  have o20 := o14.alloc (by omega) (.cells #[.int .i64 (restE E xs), .slice A3 (restXs E xs).length c3] 27)
  have o21 := ho3.alloc (by omega) (.cells #[.int .i64 (restE E xs), .slice A3 (restXs E xs).length c3] 27)
  have B22 := B16.alloc (by omega) (.cells #[.int .i64 (restE E xs), .slice A3 (restXs E xs).length c3] 27)
  obtain ⟨a23, a23'⟩ := q19
  obtain ⟨a24, a24'⟩ := x18
  go_wp2_with fail
  refine (toCase_any E A c xs _ 0 w.heap.size (h.below B22 (Nat.le_refl _)) (by first | omega | (simp; omega) | simp) hl).mono ?_
  rintro e w4 ⟨A4, c4, rfl, ho4, hb4⟩
  have hp4 : Own w4 (w3.heap.size + 1) w4.heap.size A4 (xs) := ho4.more (by simp) (Nat.le_refl _)
  obtain ⟨a25, a25'⟩ := keep2 hb4 ⟨a23, a23'⟩ (by first | omega | (simp; omega) | simp)
  obtain ⟨a26, a26'⟩ := keep2 hb4 ⟨a24, a24'⟩ (by first | omega | (simp; omega) | simp)
  have o27 := o20.below hb4 (by first | omega | (simp; omega) | simp)
  have o28 := o21.below hb4 (by first | omega | (simp; omega) | simp)
  have hz29 := hb4.size
  simp at hz29
  have B30 := B22.trans (hb4.mono (by first | omega | (simp; omega) | simp))
  clear hb4
  have z31 : w.heap.size < w4.heap.size := by omega
  have z32 : w3.heap.size < w4.heap.size := by omega
  have x33 := new2 w4 (.int .i64 E) (.slice A4 xs.length c4) 27
  have q34 := keep2 ((Below.refl w4.heap.size w4).alloc (Nat.le_refl _) (.cells #[.int .i64 E, .slice A4 xs.length c4] 27)) ⟨a25, a25'⟩ (by omega)
  have q35 := keep2 ((Below.refl w4.heap.size w4).alloc (Nat.le_refl _) (.cells #[.int .i64 E, .slice A4 xs.length c4] 27)) ⟨a26, a26'⟩ (by omega)
  have o36 := o27.alloc (by omega) (.cells #[.int .i64 E, .slice A4 xs.length c4] 27)
  have o37 := o28.alloc (by omega) (.cells #[.int .i64 E, .slice A4 xs.length c4] 27)
  have o38 := hp4.alloc (by omega) (.cells #[.int .i64 E, .slice A4 xs.length c4] 27)
  have B39 := B30.alloc (by omega) (.cells #[.int .i64 E, .slice A4 xs.length c4] 27)
  obtain ⟨a40, a40'⟩ := q34
  obtain ⟨a41, a41'⟩ := q35
  obtain ⟨a42, a42'⟩ := x33
  go_wp2_with fail
  refine (implRestCase_any E A4 c4 xs _ _ _ o38.ints (by first | omega | (simp; omega) | simp) (by omega)).mono ?_
  rintro e w5 ⟨A5, c5, rfl, ho5, hb5⟩
  have hp5 : Own w5 (w4.heap.size + 1) w5.heap.size A5 (restXs E xs) := ho5.more (by simp) (Nat.le_refl _)
  obtain ⟨a43, a43'⟩ := keep2 hb5 ⟨a40, a40'⟩ (by first | omega | (simp; omega) | simp)
  obtain ⟨a44, a44'⟩ := keep2 hb5 ⟨a41, a41'⟩ (by first | omega | (simp; omega) | simp)
  obtain ⟨a45, a45'⟩ := keep2 hb5 ⟨a42, a42'⟩ (by first | omega | (simp; omega) | simp)
  have o46 := o36.below hb5 (by first | omega | (simp; omega) | simp)
  have o47 := o37.below hb5 (by first | omega | (simp; omega) | simp)
  have o48 := o38.below hb5 (by first | omega | (simp; omega) | simp)
  have hz49 := hb5.size
  simp at hz49
  have B50 := B39.trans (hb5.mono (by first | omega | (simp; omega) | simp))
  clear hb5
  have z51 : w.heap.size < w5.heap.size := by omega
  have z52 : w3.heap.size < w5.heap.size := by omega
  have z53 : w4.heap.size < w5.heap.size := by omega
  have x54 := new2 w5 (.int .i64 (restE E xs)) (.slice A5 (restXs E xs).length c5) 27
  have q55 := keep2 ((Below.refl w5.heap.size w5).alloc (Nat.le_refl _) (.cells #[.int .i64 (restE E xs), .slice A5 (restXs E xs).length c5] 27)) ⟨a43, a43'⟩ (by omega)
  have q56 := keep2 ((Below.refl w5.heap.size w5).alloc (Nat.le_refl _) (.cells #[.int .i64 (restE E xs), .slice A5 (restXs E xs).length c5] 27)) ⟨a44, a44'⟩ (by omega)
  have q57 := keep2 ((Below.refl w5.heap.size w5).alloc (Nat.le_refl _) (.cells #[.int .i64 (restE E xs), .slice A5 (restXs E xs).length c5] 27)) ⟨a45, a45'⟩ (by omega)
  have o58 := o46.alloc (by omega) (.cells #[.int .i64 (restE E xs), .slice A5 (restXs E xs).length c5] 27)
  have o59 := o47.alloc (by omega) (.cells #[.int .i64 (restE E xs), .slice A5 (restXs E xs).length c5] 27)
  have o60 := o48.alloc (by omega) (.cells #[.int .i64 (restE E xs), .slice A5 (restXs E xs).length c5] 27)
  have o61 := hp5.alloc (by omega) (.cells #[.int .i64 (restE E xs), .slice A5 (restXs E xs).length c5] 27)
  have B62 := B50.alloc (by omega) (.cells #[.int .i64 (restE E xs), .slice A5 (restXs E xs).length c5] 27)
  have e63 : (caseOkB E xs != caseOkB E xs) = false := by simp
  obtain ⟨a64, a64'⟩ := q55
  obtain ⟨a65, a65'⟩ := q56
  obtain ⟨a66, a66'⟩ := q57
  obtain ⟨a67, a67'⟩ := x54
  go_wp2_with fail
  refine (eqCase_yes (restE E xs) A5 A3 c5 c3 (restXs E xs) _ _ _ _ _ o61.ints o59.ints (by first | omega | (simp; omega) | simp) (by first | omega | (simp; omega) | simp) (by omega)).mono ?_
  rintro e w6 ⟨rfl, hb6⟩
  obtain ⟨a68, a68'⟩ := keep2 hb6 ⟨a64, a64'⟩ (by first | omega | (simp; omega) | simp)
  obtain ⟨a69, a69'⟩ := keep2 hb6 ⟨a65, a65'⟩ (by first | omega | (simp; omega) | simp)
  obtain ⟨a70, a70'⟩ := keep2 hb6 ⟨a66, a66'⟩ (by first | omega | (simp; omega) | simp)
  obtain ⟨a71, a71'⟩ := keep2 hb6 ⟨a67, a67'⟩ (by first | omega | (simp; omega) | simp)
  have o72 := o58.below hb6 (by first | omega | (simp; omega) | simp)
  have o73 := o59.below hb6 (by first | omega | (simp; omega) | simp)
  have o74 := o60.below hb6 (by first | omega | (simp; omega) | simp)
  have o75 := o61.below hb6 (by first | omega | (simp; omega) | simp)
  have hz76 := hb6.size
  simp at hz76
  have B77 := B62.trans (hb6.mono (by first | omega | (simp; omega) | simp))
  clear hb6
  have z78 : w.heap.size < w6.heap.size := by omega
  have z79 : w3.heap.size < w6.heap.size := by omega
  have z80 : w4.heap.size < w6.heap.size := by omega
  have z81 : w5.heap.size < w6.heap.size := by omega
  go_wp2_with fail
  have zz82 : w.heap.size ≤ w6.heap.size := by omega
  go_region_held3 (fun w' => w'.cell? ⟨w.heap.size, 0, none⟩ = some (.int .i64 E) ∧ w'.cell? ⟨w.heap.size, 1, none⟩ = some (.slice A xs.length c) ∧ w'.cell? ⟨w4.heap.size, 0, none⟩ = some (.int .i64 E) ∧ w'.cell? ⟨w4.heap.size, 1, none⟩ = some (.slice A4 xs.length c4)) (first | exact ⟨a97, a97', a99, a99'⟩ | exact ⟨a83, a83', a85, a85'⟩ | go_keep)
    (first
      | (go_at_call 14
         refine (toCase_any E A c xs _ 0 w.heap.size (h.below B77.drew (Nat.le_refl _)) (by exact zz82) hl).mono ?_
         rintro e w7 ⟨A7, c7, rfl, ho7, hbq7⟩
         have hb7 : Below w6.heap.size w6 w7 := (Below.refl _ w6).drew.trans (hbq7.mono (by exact Nat.le_refl _))
         have hp7 : Own w7 w6.heap.size w7.heap.size A7 (xs) := ho7.more (by exact Nat.le_refl _) (Nat.le_refl _)
         obtain ⟨a83, a83'⟩ := keep2 hb7 ⟨a68, a68'⟩ (by first | omega | (simp; omega) | simp)
         obtain ⟨a84, a84'⟩ := keep2 hb7 ⟨a69, a69'⟩ (by first | omega | (simp; omega) | simp)
         obtain ⟨a85, a85'⟩ := keep2 hb7 ⟨a70, a70'⟩ (by first | omega | (simp; omega) | simp)
         obtain ⟨a86, a86'⟩ := keep2 hb7 ⟨a71, a71'⟩ (by first | omega | (simp; omega) | simp)
         have o87 := o72.below hb7 (by first | omega | (simp; omega) | simp)
         have o88 := o73.below hb7 (by first | omega | (simp; omega) | simp)
         have o89 := o74.below hb7 (by first | omega | (simp; omega) | simp)
         have o90 := o75.below hb7 (by first | omega | (simp; omega) | simp)
         have hz91 := hb7.size
         have B92 := B77.trans (hb7.mono (by first | omega | (simp; omega) | simp))
         clear hb7
         have z93 : w.heap.size < w7.heap.size := by omega
         have z94 : w3.heap.size < w7.heap.size := by omega
         have z95 : w4.heap.size < w7.heap.size := by omega
         have z96 : w5.heap.size < w7.heap.size := by omega)
      | (go_at_call 16
         refine (eqCase_yes E A4 A7 c4 c7 xs _ _ _ _ _ o89.ints hp7.ints (by omega) (by omega) (by omega)).mono ?_
         rintro e w8 ⟨rfl, hb8⟩
         obtain ⟨a97, a97'⟩ := keep2 hb8 ⟨a83, a83'⟩ (by first | omega | (simp; omega) | simp)
         obtain ⟨a98, a98'⟩ := keep2 hb8 ⟨a84, a84'⟩ (by first | omega | (simp; omega) | simp)
         obtain ⟨a99, a99'⟩ := keep2 hb8 ⟨a85, a85'⟩ (by first | omega | (simp; omega) | simp)
         obtain ⟨a100, a100'⟩ := keep2 hb8 ⟨a86, a86'⟩ (by first | omega | (simp; omega) | simp)
         have o101 := o87.below hb8 (by first | omega | (simp; omega) | simp)
         have o102 := o88.below hb8 (by first | omega | (simp; omega) | simp)
         have o103 := o89.below hb8 (by first | omega | (simp; omega) | simp)
         have o104 := o90.below hb8 (by first | omega | (simp; omega) | simp)
         have o105 := hp7.below hb8 (by first | omega | (simp; omega) | simp)
         have hz106 := hb8.size
         have B107 := B92.trans (hb8.mono (by first | omega | (simp; omega) | simp))
         clear hb8
         have z108 : w.heap.size < w8.heap.size := by omega
         have z109 : w3.heap.size < w8.heap.size := by omega
         have z110 : w4.heap.size < w8.heap.size := by omega
         have z111 : w5.heap.size < w8.heap.size := by omega))
  go_wp2_with fail
  refine (markCase_any E A4 c4 xs 1 _ _ _ o103 (by first | omega | (simp; omega) | simp) hl (by omega) (by omega)).mono ?_
  rintro e w9 ⟨rfl, om9, hc9⟩
  obtain ⟨a112, a112'⟩ := keep2c hc9 ⟨a97, a97'⟩ (by first | omega | (simp; omega) | simp) (by first | omega | (simp; omega) | simp)
  obtain ⟨a113, a113'⟩ := keep2c hc9 ⟨a98, a98'⟩ (by first | omega | (simp; omega) | simp) (by first | omega | (simp; omega) | simp)
  obtain ⟨a114, a114'⟩ := keep2c hc9 ⟨a99, a99'⟩ (by first | omega | (simp; omega) | simp) (by first | omega | (simp; omega) | simp)
  obtain ⟨a115, a115'⟩ := keep2c hc9 ⟨a100, a100'⟩ (by first | omega | (simp; omega) | simp) (by first | omega | (simp; omega) | simp)
  have o116 := o101.chg hc9 (by first | omega | (simp; omega) | simp) (by first | omega | (simp; omega) | simp)
  have o117 := o102.chg hc9 (by first | omega | (simp; omega) | simp) (by first | omega | (simp; omega) | simp)
  have o119 := o104.chg hc9 (by first | omega | (simp; omega) | simp) (by first | omega | (simp; omega) | simp)
  have o120 := o105.chg hc9 (by first | omega | (simp; omega) | simp) (by first | omega | (simp; omega) | simp)
  have hz121 := hc9.size
  have B122 := B107.trans (hc9.below (by first | omega | (simp; omega) | simp) (by first | omega | (simp; omega) | simp))
  clear hc9
  have z123 : w.heap.size < w9.heap.size := by omega
  have z124 : w3.heap.size < w9.heap.size := by omega
  have z125 : w4.heap.size < w9.heap.size := by omega
  have z126 : w5.heap.size < w9.heap.size := by omega
  have e127 : ¬ (1 + (xs.length : Int) < 0) := by omega
  go_wp2_with fail
  refine (eqCase_yes (restE E xs) A5 A3 c5 c3 (restXs E xs) _ _ _ _ _ o119.ints o117.ints (by first | omega | (simp; omega) | simp) (by first | omega | (simp; omega) | simp) (by omega)).mono ?_
  rintro e w10 ⟨rfl, hb10⟩
  obtain ⟨a128, a128'⟩ := keep2 hb10 ⟨a112, a112'⟩ (by first | omega | (simp; omega) | simp)
  obtain ⟨a129, a129'⟩ := keep2 hb10 ⟨a113, a113'⟩ (by first | omega | (simp; omega) | simp)
  obtain ⟨a130, a130'⟩ := keep2 hb10 ⟨a114, a114'⟩ (by first | omega | (simp; omega) | simp)
  obtain ⟨a131, a131'⟩ := keep2 hb10 ⟨a115, a115'⟩ (by first | omega | (simp; omega) | simp)
  have o132 := o116.below hb10 (by first | omega | (simp; omega) | simp)
  have o133 := o117.below hb10 (by first | omega | (simp; omega) | simp)
  have o134 := om9.below hb10 (by first | omega | (simp; omega) | simp)
  have o135 := o119.below hb10 (by first | omega | (simp; omega) | simp)
  have o136 := o120.below hb10 (by first | omega | (simp; omega) | simp)
  have hz137 := hb10.size
  have B138 := B122.trans (hb10.mono (by first | omega | (simp; omega) | simp))
  clear hb10
  have z139 : w.heap.size < w10.heap.size := by omega
  have z140 : w3.heap.size < w10.heap.size := by omega
  have z141 : w4.heap.size < w10.heap.size := by omega
  have z142 : w5.heap.size < w10.heap.size := by omega
  go_wp2_with fail
  refine (markCase_any (restE E xs) A5 c5 (restXs E xs) 1 _ _ _ o135 (by first | omega | (simp; omega) | simp) hR (by omega) (by omega)).mono ?_
  rintro e w11 ⟨rfl, om11, hc11⟩
  obtain ⟨a143, a143'⟩ := keep2c hc11 ⟨a128, a128'⟩ (by first | omega | (simp; omega) | simp) (by first | omega | (simp; omega) | simp)
  obtain ⟨a144, a144'⟩ := keep2c hc11 ⟨a129, a129'⟩ (by first | omega | (simp; omega) | simp) (by first | omega | (simp; omega) | simp)
  obtain ⟨a145, a145'⟩ := keep2c hc11 ⟨a130, a130'⟩ (by first | omega | (simp; omega) | simp) (by first | omega | (simp; omega) | simp)
  obtain ⟨a146, a146'⟩ := keep2c hc11 ⟨a131, a131'⟩ (by first | omega | (simp; omega) | simp) (by first | omega | (simp; omega) | simp)
  have o147 := o132.chg hc11 (by first | omega | (simp; omega) | simp) (by first | omega | (simp; omega) | simp)
  have o148 := o133.chg hc11 (by first | omega | (simp; omega) | simp) (by first | omega | (simp; omega) | simp)
  have o149 := o134.chg hc11 (by first | omega | (simp; omega) | simp) (by first | omega | (simp; omega) | simp)
  have o151 := o136.chg hc11 (by first | omega | (simp; omega) | simp) (by first | omega | (simp; omega) | simp)
  have hz152 := hc11.size
  have B153 := B138.trans (hc11.below (by first | omega | (simp; omega) | simp) (by first | omega | (simp; omega) | simp))
  clear hc11
  have z154 : w.heap.size < w11.heap.size := by omega
  have z155 : w3.heap.size < w11.heap.size := by omega
  have z156 : w4.heap.size < w11.heap.size := by omega
  have z157 : w5.heap.size < w11.heap.size := by omega
  have e158 : ¬ (1 + ((restXs E xs).length : Int) < 0) := by omega
  have e159 : (1 + ((restXs E xs).length : Int) != 1 + ((restXs E xs).length : Int)) = false := by simp
  go_wp2_with fail
  refine (heldCase_any (restE E xs) A5 c5 (restXs E xs).length 1 _ _ _ om11.ints (by first | omega | (simp; omega) | simp) hR (by omega) (by omega)).mono ?_
  rintro e w12 ⟨rfl, hb12⟩
  obtain ⟨a160, a160'⟩ := keep2 hb12 ⟨a143, a143'⟩ (by first | omega | (simp; omega) | simp)
  obtain ⟨a161, a161'⟩ := keep2 hb12 ⟨a144, a144'⟩ (by first | omega | (simp; omega) | simp)
  obtain ⟨a162, a162'⟩ := keep2 hb12 ⟨a145, a145'⟩ (by first | omega | (simp; omega) | simp)
  obtain ⟨a163, a163'⟩ := keep2 hb12 ⟨a146, a146'⟩ (by first | omega | (simp; omega) | simp)
  have o164 := o147.below hb12 (by first | omega | (simp; omega) | simp)
  have o165 := o148.below hb12 (by first | omega | (simp; omega) | simp)
  have o166 := o149.below hb12 (by first | omega | (simp; omega) | simp)
  have o167 := om11.below hb12 (by first | omega | (simp; omega) | simp)
  have o168 := o151.below hb12 (by first | omega | (simp; omega) | simp)
  have hz169 := hb12.size
  have B170 := B153.trans (hb12.mono (by first | omega | (simp; omega) | simp))
  clear hb12
  have z171 : w.heap.size < w12.heap.size := by omega
  have z172 : w3.heap.size < w12.heap.size := by omega
  have z173 : w4.heap.size < w12.heap.size := by omega
  have z174 : w5.heap.size < w12.heap.size := by omega
  go_wp2_with fail
  refine (toCase_any E A c xs _ 0 w.heap.size (h.below B170 (Nat.le_refl _)) (by first | omega | (simp; omega) | simp) hl).mono ?_
  rintro e w13 ⟨A13, c13, rfl, ho13, hb13⟩
  obtain ⟨a175, a175'⟩ := keep2 hb13 ⟨a160, a160'⟩ (by first | omega | (simp; omega) | simp)
  obtain ⟨a176, a176'⟩ := keep2 hb13 ⟨a161, a161'⟩ (by first | omega | (simp; omega) | simp)
  obtain ⟨a177, a177'⟩ := keep2 hb13 ⟨a162, a162'⟩ (by first | omega | (simp; omega) | simp)
  obtain ⟨a178, a178'⟩ := keep2 hb13 ⟨a163, a163'⟩ (by first | omega | (simp; omega) | simp)
  have o179 := o164.below hb13 (by first | omega | (simp; omega) | simp)
  have o180 := o165.below hb13 (by first | omega | (simp; omega) | simp)
  have o181 := o166.below hb13 (by first | omega | (simp; omega) | simp)
  have o182 := o167.below hb13 (by first | omega | (simp; omega) | simp)
  have o183 := o168.below hb13 (by first | omega | (simp; omega) | simp)
  have hz184 := hb13.size
  have B185 := B170.trans (hb13.mono (by first | omega | (simp; omega) | simp))
  clear hb13
  have z186 : w.heap.size < w13.heap.size := by omega
  have z187 : w3.heap.size < w13.heap.size := by omega
  have z188 : w4.heap.size < w13.heap.size := by omega
  have z189 : w5.heap.size < w13.heap.size := by omega
  go_wp2_with fail
  refine (implRestCase_any E A13 c13 xs _ _ _ ho13.ints (by first | omega | (simp; omega) | simp) (by omega)).mono ?_
  rintro e w14 ⟨A14, c14, rfl, ho14, hb14⟩
  obtain ⟨a190, a190'⟩ := keep2 hb14 ⟨a175, a175'⟩ (by first | omega | (simp; omega) | simp)
  obtain ⟨a191, a191'⟩ := keep2 hb14 ⟨a176, a176'⟩ (by first | omega | (simp; omega) | simp)
  obtain ⟨a192, a192'⟩ := keep2 hb14 ⟨a177, a177'⟩ (by first | omega | (simp; omega) | simp)
  obtain ⟨a193, a193'⟩ := keep2 hb14 ⟨a178, a178'⟩ (by first | omega | (simp; omega) | simp)
  have o194 := o179.below hb14 (by first | omega | (simp; omega) | simp)
  have o195 := o180.below hb14 (by first | omega | (simp; omega) | simp)
  have o196 := o181.below hb14 (by first | omega | (simp; omega) | simp)
  have o197 := o182.below hb14 (by first | omega | (simp; omega) | simp)
  have o198 := o183.below hb14 (by first | omega | (simp; omega) | simp)
  have o199 := ho13.below hb14 (by first | omega | (simp; omega) | simp)
  have hz200 := hb14.size
  have B201 := B185.trans (hb14.mono (by first | omega | (simp; omega) | simp))
  clear hb14
  have z202 : w.heap.size < w14.heap.size := by omega
  have z203 : w3.heap.size < w14.heap.size := by omega
  have z204 : w4.heap.size < w14.heap.size := by omega
  have z205 : w5.heap.size < w14.heap.size := by omega
  have x206 := new2 w14 (.int .i64 (restE E xs)) (.slice A14 (restXs E xs).length c14) 27
  have q207 := keep2 ((Below.refl w14.heap.size w14).alloc (Nat.le_refl _) (.cells #[.int .i64 (restE E xs), .slice A14 (restXs E xs).length c14] 27)) ⟨a190, a190'⟩ (by omega)
  have q208 := keep2 ((Below.refl w14.heap.size w14).alloc (Nat.le_refl _) (.cells #[.int .i64 (restE E xs), .slice A14 (restXs E xs).length c14] 27)) ⟨a191, a191'⟩ (by omega)
  have q209 := keep2 ((Below.refl w14.heap.size w14).alloc (Nat.le_refl _) (.cells #[.int .i64 (restE E xs), .slice A14 (restXs E xs).length c14] 27)) ⟨a192, a192'⟩ (by omega)
  have q210 := keep2 ((Below.refl w14.heap.size w14).alloc (Nat.le_refl _) (.cells #[.int .i64 (restE E xs), .slice A14 (restXs E xs).length c14] 27)) ⟨a193, a193'⟩ (by omega)
  have o211 := o194.alloc (by omega) (.cells #[.int .i64 (restE E xs), .slice A14 (restXs E xs).length c14] 27)
  have o212 := o195.alloc (by omega) (.cells #[.int .i64 (restE E xs), .slice A14 (restXs E xs).length c14] 27)
  have o213 := o196.alloc (by omega) (.cells #[.int .i64 (restE E xs), .slice A14 (restXs E xs).length c14] 27)
  have o214 := o197.alloc (by omega) (.cells #[.int .i64 (restE E xs), .slice A14 (restXs E xs).length c14] 27)
  have o215 := o198.alloc (by omega) (.cells #[.int .i64 (restE E xs), .slice A14 (restXs E xs).length c14] 27)
  have o216 := o199.alloc (by omega) (.cells #[.int .i64 (restE E xs), .slice A14 (restXs E xs).length c14] 27)
  have o217 := ho14.alloc (by omega) (.cells #[.int .i64 (restE E xs), .slice A14 (restXs E xs).length c14] 27)
  have B218 := B201.alloc (by omega) (.cells #[.int .i64 (restE E xs), .slice A14 (restXs E xs).length c14] 27)
  obtain ⟨a219, a219'⟩ := q207
  obtain ⟨a220, a220'⟩ := q208
  obtain ⟨a221, a221'⟩ := q209
  obtain ⟨a222, a222'⟩ := q210
  obtain ⟨a223, a223'⟩ := x206
  go_wp2_with fail
  refine (eqCase_yes (restE E xs) A14 A3 c14 c3 (restXs E xs) _ _ _ _ _ o217.ints o212.ints (by first | omega | (simp; omega) | simp) (by first | omega | (simp; omega) | simp) (by omega)).mono ?_
  rintro e w15 ⟨rfl, hb15⟩
  obtain ⟨a224, a224'⟩ := keep2 hb15 ⟨a219, a219'⟩ (by first | omega | (simp; omega) | simp)
  obtain ⟨a225, a225'⟩ := keep2 hb15 ⟨a220, a220'⟩ (by first | omega | (simp; omega) | simp)
  obtain ⟨a226, a226'⟩ := keep2 hb15 ⟨a221, a221'⟩ (by first | omega | (simp; omega) | simp)
  obtain ⟨a227, a227'⟩ := keep2 hb15 ⟨a222, a222'⟩ (by first | omega | (simp; omega) | simp)
  obtain ⟨a228, a228'⟩ := keep2 hb15 ⟨a223, a223'⟩ (by first | omega | (simp; omega) | simp)
  have o229 := o211.below hb15 (by first | omega | (simp; omega) | simp)
  have o230 := o212.below hb15 (by first | omega | (simp; omega) | simp)
  have o231 := o213.below hb15 (by first | omega | (simp; omega) | simp)
  have o232 := o214.below hb15 (by first | omega | (simp; omega) | simp)
  have o233 := o215.below hb15 (by first | omega | (simp; omega) | simp)
  have o234 := o216.below hb15 (by first | omega | (simp; omega) | simp)
  have o235 := o217.below hb15 (by first | omega | (simp; omega) | simp)
  have hz236 := hb15.size
  simp at hz236
  have B237 := B218.trans (hb15.mono (by first | omega | (simp; omega) | simp))
  clear hb15
  have z238 : w.heap.size < w15.heap.size := by omega
  have z239 : w3.heap.size < w15.heap.size := by omega
  have z240 : w4.heap.size < w15.heap.size := by omega
  have z241 : w5.heap.size < w15.heap.size := by omega
  have z242 : w14.heap.size < w15.heap.size := by omega
  go_wp2_with fail
  refine (heldCase_any (restE E xs) A5 c5 (restXs E xs).length 1 _ _ _ o232.ints (by first | omega | (simp; omega) | simp) hR (by omega) (by omega)).mono ?_
  rintro e w16 ⟨rfl, hb16⟩
  obtain ⟨a243, a243'⟩ := keep2 hb16 ⟨a224, a224'⟩ (by first | omega | (simp; omega) | simp)
  obtain ⟨a244, a244'⟩ := keep2 hb16 ⟨a225, a225'⟩ (by first | omega | (simp; omega) | simp)
  obtain ⟨a245, a245'⟩ := keep2 hb16 ⟨a226, a226'⟩ (by first | omega | (simp; omega) | simp)
  obtain ⟨a246, a246'⟩ := keep2 hb16 ⟨a227, a227'⟩ (by first | omega | (simp; omega) | simp)
  obtain ⟨a247, a247'⟩ := keep2 hb16 ⟨a228, a228'⟩ (by first | omega | (simp; omega) | simp)
  have o248 := o229.below hb16 (by first | omega | (simp; omega) | simp)
  have o249 := o230.below hb16 (by first | omega | (simp; omega) | simp)
  have o250 := o231.below hb16 (by first | omega | (simp; omega) | simp)
  have o251 := o232.below hb16 (by first | omega | (simp; omega) | simp)
  have o252 := o233.below hb16 (by first | omega | (simp; omega) | simp)
  have o253 := o234.below hb16 (by first | omega | (simp; omega) | simp)
  have o254 := o235.below hb16 (by first | omega | (simp; omega) | simp)
  have hz255 := hb16.size
  have B256 := B237.trans (hb16.mono (by first | omega | (simp; omega) | simp))
  clear hb16
  have z257 : w.heap.size < w16.heap.size := by omega
  have z258 : w3.heap.size < w16.heap.size := by omega
  have z259 : w4.heap.size < w16.heap.size := by omega
  have z260 : w5.heap.size < w16.heap.size := by omega
  have z261 : w14.heap.size < w16.heap.size := by omega
  go_wp2
  go_ret
  exact ⟨rfl, B256⟩

set_option maxHeartbeats 400000 in
theorem exRestCase_big (E : Int) (A : Option Addr) (c : Nat) (xs : List Int) (w : World) (hl : ¬ xs.length ≤ 1048576) (hm : xs.length ≤ 9223372036854775807) :
    Calls Try.prog 8 #[.agg #[.int .i64 E, .slice A xs.length c]] w fun e w' => e = .returned (.bool true) ∧ Below w.heap.size w w' := by
  have B0 := (Below.refl w.heap.size w).alloc (Nat.le_refl _) (.cells #[.int .i64 E, .slice A xs.length c] 24)
  go_enter Try.func8, Try.ntmps8
  go_wp2_with fail
  refine (szCase_no E A c xs.length 1048576 _ (by omega) (by omega) hm).mono ?_
  rintro e w1 ⟨rfl, hb1⟩
  go_wp2
  go_ret
  exact ⟨rfl, B0.trans (hb1.mono (by simp))⟩

theorem exRestCase_all (E : Int) (A : Option Addr) (c : Nat) (xs : List Int) (w : World) (h : Ints w 0 w.heap.size A xs) (hm : xs.length ≤ 9223372036854775807) :
    Calls Try.prog 8 #[.agg #[.int .i64 E, .slice A xs.length c]] w fun e w' => e = .returned (.bool true) ∧ Below w.heap.size w w' := by
  by_cases hl : xs.length ≤ 1048576
  · exact exRestCase_walk E A c xs w h hl
  · exact exRestCase_big E A c xs w hl hm

end Go.Proofs.Ytipcmpcoeeipoab
