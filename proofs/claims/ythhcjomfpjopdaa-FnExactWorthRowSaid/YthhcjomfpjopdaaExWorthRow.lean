/-
  The exact law of WorthRow returns true, and writes nothing that was there. No condition.
-/
import Derived.Test.YthhcjomfpjopdaaExactCase
import Derived.Test.YthhcjomfpjopdaaGame
import Derived.Test.YthhcjomfpjopdaaGame6I
import Derived.Deep.RegionHeld3
namespace Go.Proofs.Ythhcjomfpjopdaa
open Go.RowKit

set_option maxRecDepth 10000 in
set_option maxHeartbeats 1600000 in
theorem exWorthRow_walk (E : Int) (A : Option Addr) (c : Nat) (xs : List Int) (w : World) (h : Ints w 0 w.heap.size A xs) (hl : xs.length ≤ 1048576) :
    Calls Try.prog 13 #[.agg #[.int .i64 E, .slice A xs.length c]] w fun e w' => e = .returned (.bool true) ∧ Below w.heap.size w w' := by
  have hR : (worthRow E xs).length ≤ 1048576 := (by have e := worthRow_len E xs; omega)
  have x1 := new2 w (.int .i64 E) (.slice A xs.length c) 45
  have B2 := (Below.refl w.heap.size w).alloc (Nat.le_refl _) (.cells #[.int .i64 E, .slice A xs.length c] 45)
  go_enter Try.func13, Try.ntmps13
  obtain ⟨a3, a3'⟩ := x1
  go_wp2_with fail
  refine (szCase_yes E A c xs.length 1048576 _ (by omega) (by omega)).mono ?_
  rintro e w1 ⟨rfl, hb1⟩
  obtain ⟨a4, a4'⟩ := keep2 hb1 ⟨a3, a3'⟩ (by first | omega | (simp; omega) | simp)
  have hz5 := hb1.size
  simp at hz5
  have B6 := B2.trans (hb1.mono (by first | omega | (simp; omega) | simp))
  clear hb1
  have z7 : w.heap.size < w1.heap.size := by omega
  have e8 : ¬ (1048576 - (xs.length : Int) < 0) := by omega
  go_wp2_with fail
  refine (toCase_any E A c xs _ 0 w.heap.size (h.below B6 (Nat.le_refl _)) (by first | omega | (simp; omega) | simp) hl).mono ?_
  rintro e w2 ⟨A2, c2, rfl, ho2, hb2⟩
  obtain ⟨a9, a9'⟩ := keep2 hb2 ⟨a4, a4'⟩ (by first | omega | (simp; omega) | simp)
  have hz10 := hb2.size
  have B11 := B6.trans (hb2.mono (by first | omega | (simp; omega) | simp))
  clear hb2
  have z12 : w.heap.size < w2.heap.size := by omega
  go_wp2_with fail
  refine (specWorthRow_any E A2 c2 xs _ _ _ ho2.ints (by first | omega | (simp; omega) | simp) (by omega)).mono ?_
  rintro e w3 ⟨A3, c3, rfl, ho3, hb3⟩
  obtain ⟨a13, a13'⟩ := keep2 hb3 ⟨a9, a9'⟩ (by first | omega | (simp; omega) | simp)
  have o14 := ho2.below hb3 (by first | omega | (simp; omega) | simp)
  have hz15 := hb3.size
  have B16 := B11.trans (hb3.mono (by first | omega | (simp; omega) | simp))
  clear hb3
  have z17 : w.heap.size < w3.heap.size := by omega
  go_wp2_with fail
  refine (toCase_any E A c xs _ 0 w.heap.size (h.below B16 (Nat.le_refl _)) (by first | omega | (simp; omega) | simp) hl).mono ?_
  rintro e w4 ⟨A4, c4, rfl, ho4, hb4⟩
  obtain ⟨a18, a18'⟩ := keep2 hb4 ⟨a13, a13'⟩ (by first | omega | (simp; omega) | simp)
  have o19 := o14.below hb4 (by first | omega | (simp; omega) | simp)
  have o20 := ho3.below hb4 (by first | omega | (simp; omega) | simp)
  have hz21 := hb4.size
  have B22 := B16.trans (hb4.mono (by first | omega | (simp; omega) | simp))
  clear hb4
  have z23 : w.heap.size < w4.heap.size := by omega
  have x24 := new2 w4 (.int .i64 E) (.slice A4 xs.length c4) 25
  have q25 := keep2 ((Below.refl w4.heap.size w4).alloc (Nat.le_refl _) (.cells #[.int .i64 E, .slice A4 xs.length c4] 25)) ⟨a18, a18'⟩ (by omega)
  have o26 := o19.alloc (by omega) (.cells #[.int .i64 E, .slice A4 xs.length c4] 25)
  have o27 := o20.alloc (by omega) (.cells #[.int .i64 E, .slice A4 xs.length c4] 25)
  have o28 := ho4.alloc (by omega) (.cells #[.int .i64 E, .slice A4 xs.length c4] 25)
  have B29 := B22.alloc (by omega) (.cells #[.int .i64 E, .slice A4 xs.length c4] 25)
  obtain ⟨a30, a30'⟩ := q25
  obtain ⟨a31, a31'⟩ := x24
  go_wp2_with fail
  refine (implWorthRow_any E A4 c4 xs _ _ _ o28.ints (by first | omega | (simp; omega) | simp) (by omega)).mono ?_
  rintro e w5 ⟨A5, c5, rfl, ho5, hb5⟩
  have hp5 : Own w5 (w4.heap.size + 1) w5.heap.size A5 (worthRow E xs) := ho5.more (by simp) (Nat.le_refl _)
  obtain ⟨a32, a32'⟩ := keep2 hb5 ⟨a30, a30'⟩ (by first | omega | (simp; omega) | simp)
  obtain ⟨a33, a33'⟩ := keep2 hb5 ⟨a31, a31'⟩ (by first | omega | (simp; omega) | simp)
  have o34 := o26.below hb5 (by first | omega | (simp; omega) | simp)
  have o35 := o27.below hb5 (by first | omega | (simp; omega) | simp)
  have o36 := o28.below hb5 (by first | omega | (simp; omega) | simp)
  have hz37 := hb5.size
  simp at hz37
  have B38 := B29.trans (hb5.mono (by first | omega | (simp; omega) | simp))
  clear hb5
  have z39 : w.heap.size < w5.heap.size := by omega
  have z40 : w4.heap.size < w5.heap.size := by omega
  go_wp2_with fail
  refine (eqIntS_same A5 A3 c5 c3 (worthRow E xs) _ _ _ _ _ hp5.ints o35.ints (by omega)).mono ?_
  rintro e w6 ⟨rfl, hb6⟩
  obtain ⟨a41, a41'⟩ := keep2 hb6 ⟨a32, a32'⟩ (by first | omega | (simp; omega) | simp)
  obtain ⟨a42, a42'⟩ := keep2 hb6 ⟨a33, a33'⟩ (by first | omega | (simp; omega) | simp)
  have o43 := o34.below hb6 (by first | omega | (simp; omega) | simp)
  have o44 := o35.below hb6 (by first | omega | (simp; omega) | simp)
  have o45 := o36.below hb6 (by first | omega | (simp; omega) | simp)
  have o46 := hp5.below hb6 (by first | omega | (simp; omega) | simp)
  have hz47 := hb6.size
  have B48 := B38.trans (hb6.mono (by first | omega | (simp; omega) | simp))
  clear hb6
  have z49 : w.heap.size < w6.heap.size := by omega
  have z50 : w4.heap.size < w6.heap.size := by omega
  go_wp2_with fail
  have zz51 : w.heap.size ≤ w6.heap.size := by omega
  go_region_held3 (fun w' => w'.cell? ⟨w.heap.size, 0, none⟩ = some (.int .i64 E) ∧ w'.cell? ⟨w.heap.size, 1, none⟩ = some (.slice A xs.length c) ∧ w'.cell? ⟨w4.heap.size, 0, none⟩ = some (.int .i64 E) ∧ w'.cell? ⟨w4.heap.size, 1, none⟩ = some (.slice A4 xs.length c4)) (first | exact ⟨a62, a62', a63, a63'⟩ | exact ⟨a52, a52', a53, a53'⟩ | go_keep)
    (first
      | (go_at_call 40
         refine (toCase_any E A c xs _ 0 w.heap.size (h.below B48.drew (Nat.le_refl _)) (by exact zz51) hl).mono ?_
         rintro e w7 ⟨A7, c7, rfl, ho7, hbq7⟩
         have hb7 : Below w6.heap.size w6 w7 := (Below.refl _ w6).drew.trans (hbq7.mono (by exact Nat.le_refl _))
         have hp7 : Own w7 w6.heap.size w7.heap.size A7 (xs) := ho7.more (by exact Nat.le_refl _) (Nat.le_refl _)
         obtain ⟨a52, a52'⟩ := keep2 hb7 ⟨a41, a41'⟩ (by first | omega | (simp; omega) | simp)
         obtain ⟨a53, a53'⟩ := keep2 hb7 ⟨a42, a42'⟩ (by first | omega | (simp; omega) | simp)
         have o54 := o43.below hb7 (by first | omega | (simp; omega) | simp)
         have o55 := o44.below hb7 (by first | omega | (simp; omega) | simp)
         have o56 := o45.below hb7 (by first | omega | (simp; omega) | simp)
         have o57 := o46.below hb7 (by first | omega | (simp; omega) | simp)
         have hz58 := hb7.size
         have B59 := B48.trans (hb7.mono (by first | omega | (simp; omega) | simp))
         clear hb7
         have z60 : w.heap.size < w7.heap.size := by omega
         have z61 : w4.heap.size < w7.heap.size := by omega)
      | (go_at_call 41
         refine (eqCase_yes E A4 A7 c4 c7 xs _ _ _ _ _ o56.ints hp7.ints (by omega) (by omega) (by omega)).mono ?_
         rintro e w8 ⟨rfl, hb8⟩
         obtain ⟨a62, a62'⟩ := keep2 hb8 ⟨a52, a52'⟩ (by first | omega | (simp; omega) | simp)
         obtain ⟨a63, a63'⟩ := keep2 hb8 ⟨a53, a53'⟩ (by first | omega | (simp; omega) | simp)
         have o64 := o54.below hb8 (by first | omega | (simp; omega) | simp)
         have o65 := o55.below hb8 (by first | omega | (simp; omega) | simp)
         have o66 := o56.below hb8 (by first | omega | (simp; omega) | simp)
         have o67 := o57.below hb8 (by first | omega | (simp; omega) | simp)
         have o68 := hp7.below hb8 (by first | omega | (simp; omega) | simp)
         have hz69 := hb8.size
         have B70 := B59.trans (hb8.mono (by first | omega | (simp; omega) | simp))
         clear hb8
         have z71 : w.heap.size < w8.heap.size := by omega
         have z72 : w4.heap.size < w8.heap.size := by omega))
  go_wp2_with fail
  refine (markCase_any E A4 c4 xs 1 _ _ _ o66 (by first | omega | (simp; omega) | simp) hl (by omega) (by omega)).mono ?_
  rintro e w9 ⟨rfl, om9, hc9⟩
  obtain ⟨a73, a73'⟩ := keep2c hc9 ⟨a62, a62'⟩ (by first | omega | (simp; omega) | simp) (by first | omega | (simp; omega) | simp)
  obtain ⟨a74, a74'⟩ := keep2c hc9 ⟨a63, a63'⟩ (by first | omega | (simp; omega) | simp) (by first | omega | (simp; omega) | simp)
  have o75 := o64.chg hc9 (by first | omega | (simp; omega) | simp) (by first | omega | (simp; omega) | simp)
  have o76 := o65.chg hc9 (by first | omega | (simp; omega) | simp) (by first | omega | (simp; omega) | simp)
  have o78 := o67.chg hc9 (by first | omega | (simp; omega) | simp) (by first | omega | (simp; omega) | simp)
  have o79 := o68.chg hc9 (by first | omega | (simp; omega) | simp) (by first | omega | (simp; omega) | simp)
  have hz80 := hc9.size
  have B81 := B70.trans (hc9.below (by first | omega | (simp; omega) | simp) (by first | omega | (simp; omega) | simp))
  clear hc9
  have z82 : w.heap.size < w9.heap.size := by omega
  have z83 : w4.heap.size < w9.heap.size := by omega
  have e84 : ¬ (1 + (xs.length : Int) < 0) := by omega
  go_wp2_with fail
  refine (eqIntS_same A5 A3 c5 c3 (worthRow E xs) _ _ _ _ _ o78.ints o76.ints (by omega)).mono ?_
  rintro e w10 ⟨rfl, hb10⟩
  obtain ⟨a85, a85'⟩ := keep2 hb10 ⟨a73, a73'⟩ (by first | omega | (simp; omega) | simp)
  obtain ⟨a86, a86'⟩ := keep2 hb10 ⟨a74, a74'⟩ (by first | omega | (simp; omega) | simp)
  have o87 := o75.below hb10 (by first | omega | (simp; omega) | simp)
  have o88 := o76.below hb10 (by first | omega | (simp; omega) | simp)
  have o89 := om9.below hb10 (by first | omega | (simp; omega) | simp)
  have o90 := o78.below hb10 (by first | omega | (simp; omega) | simp)
  have o91 := o79.below hb10 (by first | omega | (simp; omega) | simp)
  have hz92 := hb10.size
  have B93 := B81.trans (hb10.mono (by first | omega | (simp; omega) | simp))
  clear hb10
  have z94 : w.heap.size < w10.heap.size := by omega
  have z95 : w4.heap.size < w10.heap.size := by omega
  go_wp2_with fail
  refine (markIntS_any A5 c5 (worthRow E xs) 1 _ _ _ o90 hR (by omega) (by omega)).mono ?_
  rintro e w11 ⟨rfl, om11, hc11⟩
  obtain ⟨a96, a96'⟩ := keep2c hc11 ⟨a85, a85'⟩ (by first | omega | (simp; omega) | simp) (by first | omega | (simp; omega) | simp)
  obtain ⟨a97, a97'⟩ := keep2c hc11 ⟨a86, a86'⟩ (by first | omega | (simp; omega) | simp) (by first | omega | (simp; omega) | simp)
  have o98 := o87.chg hc11 (by first | omega | (simp; omega) | simp) (by first | omega | (simp; omega) | simp)
  have o99 := o88.chg hc11 (by first | omega | (simp; omega) | simp) (by first | omega | (simp; omega) | simp)
  have o100 := o89.chg hc11 (by first | omega | (simp; omega) | simp) (by first | omega | (simp; omega) | simp)
  have o102 := o91.chg hc11 (by first | omega | (simp; omega) | simp) (by first | omega | (simp; omega) | simp)
  have hz103 := hc11.size
  have B104 := B93.trans (hc11.below (by first | omega | (simp; omega) | simp) (by first | omega | (simp; omega) | simp))
  clear hc11
  have z105 : w.heap.size < w11.heap.size := by omega
  have z106 : w4.heap.size < w11.heap.size := by omega
  have e107 : ¬ (1 + ((worthRow E xs).length : Int) < 0) := by omega
  have e108 : (1 + ((worthRow E xs).length : Int) != 1 + ((worthRow E xs).length : Int)) = false := by simp
  go_wp2_with fail
  refine (heldIntS_below A5 c5 (worthRow E xs).length 1 _ _ _ om11.ints hR (by omega) (by omega)).mono ?_
  rintro e w12 ⟨rfl, hb12⟩
  obtain ⟨a109, a109'⟩ := keep2 hb12 ⟨a96, a96'⟩ (by first | omega | (simp; omega) | simp)
  obtain ⟨a110, a110'⟩ := keep2 hb12 ⟨a97, a97'⟩ (by first | omega | (simp; omega) | simp)
  have o111 := o98.below hb12 (by first | omega | (simp; omega) | simp)
  have o112 := o99.below hb12 (by first | omega | (simp; omega) | simp)
  have o113 := o100.below hb12 (by first | omega | (simp; omega) | simp)
  have o114 := om11.below hb12 (by first | omega | (simp; omega) | simp)
  have o115 := o102.below hb12 (by first | omega | (simp; omega) | simp)
  have hz116 := hb12.size
  have B117 := B104.trans (hb12.mono (by first | omega | (simp; omega) | simp))
  clear hb12
  have z118 : w.heap.size < w12.heap.size := by omega
  have z119 : w4.heap.size < w12.heap.size := by omega
  go_wp2_with fail
  refine (toCase_any E A c xs _ 0 w.heap.size (h.below B117 (Nat.le_refl _)) (by first | omega | (simp; omega) | simp) hl).mono ?_
  rintro e w13 ⟨A13, c13, rfl, ho13, hb13⟩
  obtain ⟨a120, a120'⟩ := keep2 hb13 ⟨a109, a109'⟩ (by first | omega | (simp; omega) | simp)
  obtain ⟨a121, a121'⟩ := keep2 hb13 ⟨a110, a110'⟩ (by first | omega | (simp; omega) | simp)
  have o122 := o111.below hb13 (by first | omega | (simp; omega) | simp)
  have o123 := o112.below hb13 (by first | omega | (simp; omega) | simp)
  have o124 := o113.below hb13 (by first | omega | (simp; omega) | simp)
  have o125 := o114.below hb13 (by first | omega | (simp; omega) | simp)
  have o126 := o115.below hb13 (by first | omega | (simp; omega) | simp)
  have hz127 := hb13.size
  have B128 := B117.trans (hb13.mono (by first | omega | (simp; omega) | simp))
  clear hb13
  have z129 : w.heap.size < w13.heap.size := by omega
  have z130 : w4.heap.size < w13.heap.size := by omega
  go_wp2_with fail
  refine (implWorthRow_any E A13 c13 xs _ _ _ ho13.ints (by first | omega | (simp; omega) | simp) (by omega)).mono ?_
  rintro e w14 ⟨A14, c14, rfl, ho14, hb14⟩
  obtain ⟨a131, a131'⟩ := keep2 hb14 ⟨a120, a120'⟩ (by first | omega | (simp; omega) | simp)
  obtain ⟨a132, a132'⟩ := keep2 hb14 ⟨a121, a121'⟩ (by first | omega | (simp; omega) | simp)
  have o133 := o122.below hb14 (by first | omega | (simp; omega) | simp)
  have o134 := o123.below hb14 (by first | omega | (simp; omega) | simp)
  have o135 := o124.below hb14 (by first | omega | (simp; omega) | simp)
  have o136 := o125.below hb14 (by first | omega | (simp; omega) | simp)
  have o137 := o126.below hb14 (by first | omega | (simp; omega) | simp)
  have o138 := ho13.below hb14 (by first | omega | (simp; omega) | simp)
  have hz139 := hb14.size
  have B140 := B128.trans (hb14.mono (by first | omega | (simp; omega) | simp))
  clear hb14
  have z141 : w.heap.size < w14.heap.size := by omega
  have z142 : w4.heap.size < w14.heap.size := by omega
  go_wp2_with fail
  refine (eqIntS_same A14 A3 c14 c3 (worthRow E xs) _ _ _ _ _ ho14.ints o134.ints (by omega)).mono ?_
  rintro e w15 ⟨rfl, hb15⟩
  obtain ⟨a143, a143'⟩ := keep2 hb15 ⟨a131, a131'⟩ (by first | omega | (simp; omega) | simp)
  obtain ⟨a144, a144'⟩ := keep2 hb15 ⟨a132, a132'⟩ (by first | omega | (simp; omega) | simp)
  have o145 := o133.below hb15 (by first | omega | (simp; omega) | simp)
  have o146 := o134.below hb15 (by first | omega | (simp; omega) | simp)
  have o147 := o135.below hb15 (by first | omega | (simp; omega) | simp)
  have o148 := o136.below hb15 (by first | omega | (simp; omega) | simp)
  have o149 := o137.below hb15 (by first | omega | (simp; omega) | simp)
  have o150 := o138.below hb15 (by first | omega | (simp; omega) | simp)
  have o151 := ho14.below hb15 (by first | omega | (simp; omega) | simp)
  have hz152 := hb15.size
  have B153 := B140.trans (hb15.mono (by first | omega | (simp; omega) | simp))
  clear hb15
  have z154 : w.heap.size < w15.heap.size := by omega
  have z155 : w4.heap.size < w15.heap.size := by omega
  go_wp2_with fail
  refine (heldIntS_below A5 c5 (worthRow E xs).length 1 _ _ _ o148.ints hR (by omega) (by omega)).mono ?_
  rintro e w16 ⟨rfl, hb16⟩
  obtain ⟨a156, a156'⟩ := keep2 hb16 ⟨a143, a143'⟩ (by first | omega | (simp; omega) | simp)
  obtain ⟨a157, a157'⟩ := keep2 hb16 ⟨a144, a144'⟩ (by first | omega | (simp; omega) | simp)
  have o158 := o145.below hb16 (by first | omega | (simp; omega) | simp)
  have o159 := o146.below hb16 (by first | omega | (simp; omega) | simp)
  have o160 := o147.below hb16 (by first | omega | (simp; omega) | simp)
  have o161 := o148.below hb16 (by first | omega | (simp; omega) | simp)
  have o162 := o149.below hb16 (by first | omega | (simp; omega) | simp)
  have o163 := o150.below hb16 (by first | omega | (simp; omega) | simp)
  have o164 := o151.below hb16 (by first | omega | (simp; omega) | simp)
  have hz165 := hb16.size
  have B166 := B153.trans (hb16.mono (by first | omega | (simp; omega) | simp))
  clear hb16
  have z167 : w.heap.size < w16.heap.size := by omega
  have z168 : w4.heap.size < w16.heap.size := by omega
  go_wp2
  go_ret
  exact ⟨rfl, B166⟩

set_option maxRecDepth 10000 in
set_option maxHeartbeats 400000 in
theorem exWorthRow_big (E : Int) (A : Option Addr) (c : Nat) (xs : List Int) (w : World) (hl : ¬ xs.length ≤ 1048576) (hm : xs.length ≤ 9223372036854775807) :
    Calls Try.prog 13 #[.agg #[.int .i64 E, .slice A xs.length c]] w fun e w' => e = .returned (.bool true) ∧ Below w.heap.size w w' := by
  have B0 := (Below.refl w.heap.size w).alloc (Nat.le_refl _) (.cells #[.int .i64 E, .slice A xs.length c] 45)
  go_enter Try.func13, Try.ntmps13
  go_wp2_with fail
  refine (szCase_no E A c xs.length 1048576 _ (by omega) (by omega) hm).mono ?_
  rintro e w1 ⟨rfl, hb1⟩
  go_wp2
  go_ret
  exact ⟨rfl, B0.trans (hb1.mono (by simp))⟩

theorem exWorthRow_all (E : Int) (A : Option Addr) (c : Nat) (xs : List Int) (w : World) (h : Ints w 0 w.heap.size A xs) (hm : xs.length ≤ 9223372036854775807) :
    Calls Try.prog 13 #[.agg #[.int .i64 E, .slice A xs.length c]] w fun e w' => e = .returned (.bool true) ∧ Below w.heap.size w w' := by
  by_cases hl : xs.length ≤ 1048576
  · exact exWorthRow_walk E A c xs w h hl
  · exact exWorthRow_big E A c xs w hl hm

end Go.Proofs.Ythhcjomfpjopdaa
