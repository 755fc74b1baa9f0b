/-
  The exact law of MissRow returns true, and writes nothing that was there. No condition.
-/
import Derived.Test.YthhcjomfpjopdaaExactCase
import Derived.Test.YthhcjomfpjopdaaGame
import Derived.Test.YthhcjomfpjopdaaGame6I
import Derived.Deep.RegionHeld3
namespace Go.Proofs.Ythhcjomfpjopdaa
open Go.RowKit

set_option maxRecDepth 10000 in
set_option maxHeartbeats 1600000 in
theorem exMissRow_walk (E : Int) (A : Option Addr) (c : Nat) (xs : List Int) (D : Option Addr) (d : Nat) (ys : List Int) (w : World) (h : Ints w 0 w.heap.size A xs) (h' : Ints w 0 w.heap.size D ys) (hl : xs.length ≤ 1048576) (hl' : ys.length ≤ 1048576) :
    Calls Try.prog 11 #[.agg #[.int .i64 E, .slice A xs.length c], .slice D ys.length d] w fun e w' => e = .returned (.bool true) ∧ Below w.heap.size w w' := by
  have hR : (missRow E xs ys).length ≤ 1048576 := (by have e := missRow_len E xs ys; omega)
  have x1 := new2 w (.int .i64 E) (.slice A xs.length c) 45
  have B2 := (Below.refl w.heap.size w).alloc (Nat.le_refl _) (.cells #[.int .i64 E, .slice A xs.length c] 45)
  go_enter Try.func11, Try.ntmps11
  obtain ⟨a3, a3'⟩ := x1
  go_wp2_with fail
  refine (szCase_yes E A c xs.length 1048576 _ (by omega) (by omega)).mono ?_
  rintro e w1 ⟨rfl, hb1⟩
  obtain ⟨a4, a4'⟩ := keep2 hb1 ⟨a3, a3'⟩ (by first | omega | (simp; omega) | simp)
  have hz5 := hb1.size
  simp at hz5
  have B6 := B2.trans (hb1.mono (by first | omega | (simp; omega) | simp))
  clear hb1
  have z7 : w.heap.size < w1.heap.size := by omega
  have e8 : ¬ (1048576 - (xs.length : Int) < 0) := by omega
  go_wp2_with fail
  refine (toCase_any E A c xs _ 0 w.heap.size (h.below B6 (Nat.le_refl _)) (by first | omega | (simp; omega) | simp) hl).mono ?_
  rintro e w2 ⟨A2, c2, rfl, ho2, hb2⟩
  obtain ⟨a9, a9'⟩ := keep2 hb2 ⟨a4, a4'⟩ (by first | omega | (simp; omega) | simp)
  have hz10 := hb2.size
  have B11 := B6.trans (hb2.mono (by first | omega | (simp; omega) | simp))
  clear hb2
  have z12 : w.heap.size < w2.heap.size := by omega
  go_wp2_with fail
  refine (toIntS_any D d ys _ 0 w.heap.size (h'.below B11 (Nat.le_refl _)) (by first | omega | (simp; omega) | simp) hl').mono ?_
  rintro e w3 ⟨A3, c3, rfl, ho3, hb3⟩
  obtain ⟨a13, a13'⟩ := keep2 hb3 ⟨a9, a9'⟩ (by first | omega | (simp; omega) | simp)
  have o14 := ho2.below hb3 (by first | omega | (simp; omega) | simp)
  have hz15 := hb3.size
  have B16 := B11.trans (hb3.mono (by first | omega | (simp; omega) | simp))
  clear hb3
  have z17 : w.heap.size < w3.heap.size := by omega
  go_wp2_with fail
  refine (specMissRow_any E A2 c2 xs A3 c3 ys _ _ _ o14.ints (by first | omega | (simp; omega) | simp) (by omega) _ _ ho3.ints (by first | omega | (simp; omega) | simp) (by omega)).mono ?_
  rintro e w4 ⟨A4, c4, rfl, ho4, hb4⟩
  obtain ⟨a18, a18'⟩ := keep2 hb4 ⟨a13, a13'⟩ (by first | omega | (simp; omega) | simp)
  have o19 := o14.below hb4 (by first | omega | (simp; omega) | simp)
  have o20 := ho3.below hb4 (by first | omega | (simp; omega) | simp)
  have hz21 := hb4.size
  have B22 := B16.trans (hb4.mono (by first | omega | (simp; omega) | simp))
  clear hb4
  have z23 : w.heap.size < w4.heap.size := by omega
  go_wp2_with fail
  refine (toCase_any E A c xs _ 0 w.heap.size (h.below B22 (Nat.le_refl _)) (by first | omega | (simp; omega) | simp) hl).mono ?_
  rintro e w5 ⟨A5, c5, rfl, ho5, hb5⟩
  obtain ⟨a24, a24'⟩ := keep2 hb5 ⟨a18, a18'⟩ (by first | omega | (simp; omega) | simp)
  have o25 := o19.below hb5 (by first | omega | (simp; omega) | simp)
  have o26 := o20.below hb5 (by first | omega | (simp; omega) | simp)
  have o27 := ho4.below hb5 (by first | omega | (simp; omega) | simp)
  have hz28 := hb5.size
  have B29 := B22.trans (hb5.mono (by first | omega | (simp; omega) | simp))
  clear hb5
  have z30 : w.heap.size < w5.heap.size := by omega
  have x31 := new2 w5 (.int .i64 E) (.slice A5 xs.length c5) 25
  have q32 := keep2 ((Below.refl w5.heap.size w5).alloc (Nat.le_refl _) (.cells #[.int .i64 E, .slice A5 xs.length c5] 25)) ⟨a24, a24'⟩ (by omega)
  have o33 := o25.alloc (by omega) (.cells #[.int .i64 E, .slice A5 xs.length c5] 25)
  have o34 := o26.alloc (by omega) (.cells #[.int .i64 E, .slice A5 xs.length c5] 25)
  have o35 := o27.alloc (by omega) (.cells #[.int .i64 E, .slice A5 xs.length c5] 25)
  have o36 := ho5.alloc (by omega) (.cells #[.int .i64 E, .slice A5 xs.length c5] 25)
  have B37 := B29.alloc (by omega) (.cells #[.int .i64 E, .slice A5 xs.length c5] 25)
  obtain ⟨a38, a38'⟩ := q32
  obtain ⟨a39, a39'⟩ := x31
  go_wp2_with fail
  refine (toIntS_any D d ys _ 0 w.heap.size (h'.below B37 (Nat.le_refl _)) (by first | omega | (simp; omega) | simp) hl').mono ?_
  rintro e w6 ⟨A6, c6, rfl, ho6, hb6⟩
  have hp6 : Own w6 (w5.heap.size + 1) w6.heap.size A6 (ys) := ho6.more (by simp) (Nat.le_refl _)
  obtain ⟨a40, a40'⟩ := keep2 hb6 ⟨a38, a38'⟩ (by first | omega | (simp; omega) | simp)
  obtain ⟨a41, a41'⟩ := keep2 hb6 ⟨a39, a39'⟩ (by first | omega | (simp; omega) | simp)
  have o42 := o33.below hb6 (by first | omega | (simp; omega) | simp)
  have o43 := o34.below hb6 (by first | omega | (simp; omega) | simp)
  have o44 := o35.below hb6 (by first | omega | (simp; omega) | simp)
  have o45 := o36.below hb6 (by first | omega | (simp; omega) | simp)
  have hz46 := hb6.size
  simp at hz46
  have B47 := B37.trans (hb6.mono (by first | omega | (simp; omega) | simp))
  clear hb6
  have z48 : w.heap.size < w6.heap.size := by omega
  have z49 : w5.heap.size < w6.heap.size := by omega
  go_wp2_with fail
  refine (implMissRow_any E A5 c5 xs A6 c6 ys _ _ _ o45.ints (by first | omega | (simp; omega) | simp) (by omega) _ _ hp6.ints (by first | omega | (simp; omega) | simp) (by omega)).mono ?_
  rintro e w7 ⟨A7, c7, rfl, ho7, hb7⟩
  obtain ⟨a50, a50'⟩ := keep2 hb7 ⟨a40, a40'⟩ (by first | omega | (simp; omega) | simp)
  obtain ⟨a51, a51'⟩ := keep2 hb7 ⟨a41, a41'⟩ (by first | omega | (simp; omega) | simp)
  have o52 := o42.below hb7 (by first | omega | (simp; omega) | simp)
  have o53 := o43.below hb7 (by first | omega | (simp; omega) | simp)
  have o54 := o44.below hb7 (by first | omega | (simp; omega) | simp)
  have o55 := o45.below hb7 (by first | omega | (simp; omega) | simp)
  have o56 := hp6.below hb7 (by first | omega | (simp; omega) | simp)
  have hz57 := hb7.size
  have B58 := B47.trans (hb7.mono (by first | omega | (simp; omega) | simp))
  clear hb7
  have z59 : w.heap.size < w7.heap.size := by omega
  have z60 : w5.heap.size < w7.heap.size := by omega
  go_wp2_with fail
  refine (eqIntS_same A7 A4 c7 c4 (missRow E xs ys) _ _ _ _ _ ho7.ints o54.ints (by omega)).mono ?_
  rintro e w8 ⟨rfl, hb8⟩
  obtain ⟨a61, a61'⟩ := keep2 hb8 ⟨a50, a50'⟩ (by first | omega | (simp; omega) | simp)
  obtain ⟨a62, a62'⟩ := keep2 hb8 ⟨a51, a51'⟩ (by first | omega | (simp; omega) | simp)
  have o63 := o52.below hb8 (by first | omega | (simp; omega) | simp)
  have o64 := o53.below hb8 (by first | omega | (simp; omega) | simp)
  have o65 := o54.below hb8 (by first | omega | (simp; omega) | simp)
  have o66 := o55.below hb8 (by first | omega | (simp; omega) | simp)
  have o67 := o56.below hb8 (by first | omega | (simp; omega) | simp)
  have o68 := ho7.below hb8 (by first | omega | (simp; omega) | simp)
  have hz69 := hb8.size
  have B70 := B58.trans (hb8.mono (by first | omega | (simp; omega) | simp))
  clear hb8
  have z71 : w.heap.size < w8.heap.size := by omega
  have z72 : w5.heap.size < w8.heap.size := by omega
  go_wp2_with fail
  have zz73 : w.heap.size ≤ w8.heap.size := by omega
  go_region_held3 (fun w' => w'.cell? ⟨w.heap.size, 0, none⟩ = some (.int .i64 E) ∧ w'.cell? ⟨w.heap.size, 1, none⟩ = some (.slice A xs.length c) ∧ w'.cell? ⟨w5.heap.size, 0, none⟩ = some (.int .i64 E) ∧ w'.cell? ⟨w5.heap.size, 1, none⟩ = some (.slice A5 xs.length c5)) (first | exact ⟨a86, a86', a87, a87'⟩ | exact ⟨a74, a74', a75, a75'⟩ | go_keep)
    (first
      | (go_at_call 40
         refine (toCase_any E A c xs _ 0 w.heap.size (h.below B70.drew (Nat.le_refl _)) (by exact zz73) hl).mono ?_
         rintro e w9 ⟨A9, c9, rfl, ho9, hbq9⟩
         have hb9 : Below w8.heap.size w8 w9 := (Below.refl _ w8).drew.trans (hbq9.mono (by exact Nat.le_refl _))
         have hp9 : Own w9 w8.heap.size w9.heap.size A9 (xs) := ho9.more (by exact Nat.le_refl _) (Nat.le_refl _)
         obtain ⟨a74, a74'⟩ := keep2 hb9 ⟨a61, a61'⟩ (by first | omega | (simp; omega) | simp)
         obtain ⟨a75, a75'⟩ := keep2 hb9 ⟨a62, a62'⟩ (by first | omega | (simp; omega) | simp)
         have o76 := o63.below hb9 (by first | omega | (simp; omega) | simp)
         have o77 := o64.below hb9 (by first | omega | (simp; omega) | simp)
         have o78 := o65.below hb9 (by first | omega | (simp; omega) | simp)
         have o79 := o66.below hb9 (by first | omega | (simp; omega) | simp)
         have o80 := o67.below hb9 (by first | omega | (simp; omega) | simp)
         have o81 := o68.below hb9 (by first | omega | (simp; omega) | simp)
         have hz82 := hb9.size
         have B83 := B70.trans (hb9.mono (by first | omega | (simp; omega) | simp))
         clear hb9
         have z84 : w.heap.size < w9.heap.size := by omega
         have z85 : w5.heap.size < w9.heap.size := by omega)
      | (go_at_call 41
         refine (eqCase_yes E A5 A9 c5 c9 xs _ _ _ _ _ o79.ints hp9.ints (by omega) (by omega) (by omega)).mono ?_
         rintro e w10 ⟨rfl, hb10⟩
         obtain ⟨a86, a86'⟩ := keep2 hb10 ⟨a74, a74'⟩ (by first | omega | (simp; omega) | simp)
         obtain ⟨a87, a87'⟩ := keep2 hb10 ⟨a75, a75'⟩ (by first | omega | (simp; omega) | simp)
         have o88 := o76.below hb10 (by first | omega | (simp; omega) | simp)
         have o89 := o77.below hb10 (by first | omega | (simp; omega) | simp)
         have o90 := o78.below hb10 (by first | omega | (simp; omega) | simp)
         have o91 := o79.below hb10 (by first | omega | (simp; omega) | simp)
         have o92 := o80.below hb10 (by first | omega | (simp; omega) | simp)
         have o93 := o81.below hb10 (by first | omega | (simp; omega) | simp)
         have o94 := hp9.below hb10 (by first | omega | (simp; omega) | simp)
         have hz95 := hb10.size
         have B96 := B83.trans (hb10.mono (by first | omega | (simp; omega) | simp))
         clear hb10
         have z97 : w.heap.size < w10.heap.size := by omega
         have z98 : w5.heap.size < w10.heap.size := by omega))
  go_wp2_with fail
  refine (toIntS_any D d ys _ 0 w.heap.size (h'.below B96 (Nat.le_refl _)) (by first | omega | (simp; omega) | simp) hl').mono ?_
  rintro e w11 ⟨A11, c11, rfl, ho11, hb11⟩
  obtain ⟨a99, a99'⟩ := keep2 hb11 ⟨a86, a86'⟩ (by first | omega | (simp; omega) | simp)
  obtain ⟨a100, a100'⟩ := keep2 hb11 ⟨a87, a87'⟩ (by first | omega | (simp; omega) | simp)
  have o101 := o88.below hb11 (by first | omega | (simp; omega) | simp)
  have o102 := o89.below hb11 (by first | omega | (simp; omega) | simp)
  have o103 := o90.below hb11 (by first | omega | (simp; omega) | simp)
  have o104 := o91.below hb11 (by first | omega | (simp; omega) | simp)
  have o105 := o92.below hb11 (by first | omega | (simp; omega) | simp)
  have o106 := o93.below hb11 (by first | omega | (simp; omega) | simp)
  have o107 := o94.below hb11 (by first | omega | (simp; omega) | simp)
  have hz108 := hb11.size
  have B109 := B96.trans (hb11.mono (by first | omega | (simp; omega) | simp))
  clear hb11
  have z110 : w.heap.size < w11.heap.size := by omega
  have z111 : w5.heap.size < w11.heap.size := by omega
  go_wp2_with fail
  refine (eqIntS_same A6 A11 c6 c11 ys _ _ _ _ _ o105.ints ho11.ints (by omega)).mono ?_
  rintro e w12 ⟨rfl, hb12⟩
  obtain ⟨a112, a112'⟩ := keep2 hb12 ⟨a99, a99'⟩ (by first | omega | (simp; omega) | simp)
  obtain ⟨a113, a113'⟩ := keep2 hb12 ⟨a100, a100'⟩ (by first | omega | (simp; omega) | simp)
  have o114 := o101.below hb12 (by first | omega | (simp; omega) | simp)
  have o115 := o102.below hb12 (by first | omega | (simp; omega) | simp)
  have o116 := o103.below hb12 (by first | omega | (simp; omega) | simp)
  have o117 := o104.below hb12 (by first | omega | (simp; omega) | simp)
  have o118 := o105.below hb12 (by first | omega | (simp; omega) | simp)
  have o119 := o106.below hb12 (by first | omega | (simp; omega) | simp)
  have o120 := o107.below hb12 (by first | omega | (simp; omega) | simp)
  have o121 := ho11.below hb12 (by first | omega | (simp; omega) | simp)
  have hz122 := hb12.size
  have B123 := B109.trans (hb12.mono (by first | omega | (simp; omega) | simp))
  clear hb12
  have z124 : w.heap.size < w12.heap.size := by omega
  have z125 : w5.heap.size < w12.heap.size := by omega
  go_wp2_with fail
  refine (markCase_any E A5 c5 xs 1 _ _ _ o117 (by first | omega | (simp; omega) | simp) hl (by omega) (by omega)).mono ?_
  rintro e w13 ⟨rfl, om13, hc13⟩
  obtain ⟨a126, a126'⟩ := keep2c hc13 ⟨a112, a112'⟩ (by first | omega | (simp; omega) | simp) (by first | omega | (simp; omega) | simp)
  obtain ⟨a127, a127'⟩ := keep2c hc13 ⟨a113, a113'⟩ (by first | omega | (simp; omega) | simp) (by first | omega | (simp; omega) | simp)
  have o128 := o114.chg hc13 (by first | omega | (simp; omega) | simp) (by first | omega | (simp; omega) | simp)
  have o129 := o115.chg hc13 (by first | omega | (simp; omega) | simp) (by first | omega | (simp; omega) | simp)
  have o130 := o116.chg hc13 (by first | omega | (simp; omega) | simp) (by first | omega | (simp; omega) | simp)
  have o132 := o118.chg hc13 (by first | omega | (simp; omega) | simp) (by first | omega | (simp; omega) | simp)
  have o133 := o119.chg hc13 (by first | omega | (simp; omega) | simp) (by first | omega | (simp; omega) | simp)
  have o134 := o120.chg hc13 (by first | omega | (simp; omega) | simp) (by first | omega | (simp; omega) | simp)
  have o135 := o121.chg hc13 (by first | omega | (simp; omega) | simp) (by first | omega | (simp; omega) | simp)
  have hz136 := hc13.size
  have B137 := B123.trans (hc13.below (by first | omega | (simp; omega) | simp) (by first | omega | (simp; omega) | simp))
  clear hc13
  have z138 : w.heap.size < w13.heap.size := by omega
  have z139 : w5.heap.size < w13.heap.size := by omega
  go_wp2_with fail
  refine (markIntS_any A6 c6 ys (1 + (xs.length : Int)) _ _ _ o132 hl' (by omega) (by omega)).mono ?_
  rintro e w14 ⟨rfl, om14, hc14⟩
  obtain ⟨a140, a140'⟩ := keep2c hc14 ⟨a126, a126'⟩ (by first | omega | (simp; omega) | simp) (by first | omega | (simp; omega) | simp)
  obtain ⟨a141, a141'⟩ := keep2c hc14 ⟨a127, a127'⟩ (by first | omega | (simp; omega) | simp) (by first | omega | (simp; omega) | simp)
  have o142 := o128.chg hc14 (by first | omega | (simp; omega) | simp) (by first | omega | (simp; omega) | simp)
  have o143 := o129.chg hc14 (by first | omega | (simp; omega) | simp) (by first | omega | (simp; omega) | simp)
  have o144 := o130.chg hc14 (by first | omega | (simp; omega) | simp) (by first | omega | (simp; omega) | simp)
  have o145 := om13.chg hc14 (by first | omega | (simp; omega) | simp) (by first | omega | (simp; omega) | simp)
  have o147 := o133.chg hc14 (by first | omega | (simp; omega) | simp) (by first | omega | (simp; omega) | simp)
  have o148 := o134.chg hc14 (by first | omega | (simp; omega) | simp) (by first | omega | (simp; omega) | simp)
  have o149 := o135.chg hc14 (by first | omega | (simp; omega) | simp) (by first | omega | (simp; omega) | simp)
  have hz150 := hc14.size
  have B151 := B137.trans (hc14.below (by first | omega | (simp; omega) | simp) (by first | omega | (simp; omega) | simp))
  clear hc14
  have z152 : w.heap.size < w14.heap.size := by omega
  have z153 : w5.heap.size < w14.heap.size := by omega
  have e154 : ¬ (1 + (xs.length : Int) + (ys.length : Int) < 0) := by omega
  go_wp2_with fail
  refine (eqIntS_same A7 A4 c7 c4 (missRow E xs ys) _ _ _ _ _ o147.ints o144.ints (by omega)).mono ?_
  rintro e w15 ⟨rfl, hb15⟩
  obtain ⟨a155, a155'⟩ := keep2 hb15 ⟨a140, a140'⟩ (by first | omega | (simp; omega) | simp)
  obtain ⟨a156, a156'⟩ := keep2 hb15 ⟨a141, a141'⟩ (by first | omega | (simp; omega) | simp)
  have o157 := o142.below hb15 (by first | omega | (simp; omega) | simp)
  have o158 := o143.below hb15 (by first | omega | (simp; omega) | simp)
  have o159 := o144.below hb15 (by first | omega | (simp; omega) | simp)
  have o160 := o145.below hb15 (by first | omega | (simp; omega) | simp)
  have o161 := om14.below hb15 (by first | omega | (simp; omega) | simp)
  have o162 := o147.below hb15 (by first | omega | (simp; omega) | simp)
  have o163 := o148.below hb15 (by first | omega | (simp; omega) | simp)
  have o164 := o149.below hb15 (by first | omega | (simp; omega) | simp)
  have hz165 := hb15.size
  have B166 := B151.trans (hb15.mono (by first | omega | (simp; omega) | simp))
  clear hb15
  have z167 : w.heap.size < w15.heap.size := by omega
  have z168 : w5.heap.size < w15.heap.size := by omega
  go_wp2_with fail
  refine (markIntS_any A7 c7 (missRow E xs ys) 1 _ _ _ o162 hR (by omega) (by omega)).mono ?_
  rintro e w16 ⟨rfl, om16, hc16⟩
  obtain ⟨a169, a169'⟩ := keep2c hc16 ⟨a155, a155'⟩ (by first | omega | (simp; omega) | simp) (by first | omega | (simp; omega) | simp)
  obtain ⟨a170, a170'⟩ := keep2c hc16 ⟨a156, a156'⟩ (by first | omega | (simp; omega) | simp) (by first | omega | (simp; omega) | simp)
  have o171 := o157.chg hc16 (by first | omega | (simp; omega) | simp) (by first | omega | (simp; omega) | simp)
  have o172 := o158.chg hc16 (by first | omega | (simp; omega) | simp) (by first | omega | (simp; omega) | simp)
  have o173 := o159.chg hc16 (by first | omega | (simp; omega) | simp) (by first | omega | (simp; omega) | simp)
  have o174 := o160.chg hc16 (by first | omega | (simp; omega) | simp) (by first | omega | (simp; omega) | simp)
  have o175 := o161.chg hc16 (by first | omega | (simp; omega) | simp) (by first | omega | (simp; omega) | simp)
  have o177 := o163.chg hc16 (by first | omega | (simp; omega) | simp) (by first | omega | (simp; omega) | simp)
  have o178 := o164.chg hc16 (by first | omega | (simp; omega) | simp) (by first | omega | (simp; omega) | simp)
  have hz179 := hc16.size
  have B180 := B166.trans (hc16.below (by first | omega | (simp; omega) | simp) (by first | omega | (simp; omega) | simp))
  clear hc16
  have z181 : w.heap.size < w16.heap.size := by omega
  have z182 : w5.heap.size < w16.heap.size := by omega
  have e183 : ¬ (1 + ((missRow E xs ys).length : Int) < 0) := by omega
  have e184 : (1 + ((missRow E xs ys).length : Int) != 1 + ((missRow E xs ys).length : Int)) = false := by simp
  go_wp2_with fail
  refine (heldIntS_below A7 c7 (missRow E xs ys).length 1 _ _ _ om16.ints hR (by omega) (by omega)).mono ?_
  rintro e w17 ⟨rfl, hb17⟩
  obtain ⟨a185, a185'⟩ := keep2 hb17 ⟨a169, a169'⟩ (by first | omega | (simp; omega) | simp)
  obtain ⟨a186, a186'⟩ := keep2 hb17 ⟨a170, a170'⟩ (by first | omega | (simp; omega) | simp)
  have o187 := o171.below hb17 (by first | omega | (simp; omega) | simp)
  have o188 := o172.below hb17 (by first | omega | (simp; omega) | simp)
  have o189 := o173.below hb17 (by first | omega | (simp; omega) | simp)
  have o190 := o174.below hb17 (by first | omega | (simp; omega) | simp)
  have o191 := o175.below hb17 (by first | omega | (simp; omega) | simp)
  have o192 := om16.below hb17 (by first | omega | (simp; omega) | simp)
  have o193 := o177.below hb17 (by first | omega | (simp; omega) | simp)
  have o194 := o178.below hb17 (by first | omega | (simp; omega) | simp)
  have hz195 := hb17.size
  have B196 := B180.trans (hb17.mono (by first | omega | (simp; omega) | simp))
  clear hb17
  have z197 : w.heap.size < w17.heap.size := by omega
  have z198 : w5.heap.size < w17.heap.size := by omega
  go_wp2_with fail
  refine (toCase_any E A c xs _ 0 w.heap.size (h.below B196 (Nat.le_refl _)) (by first | omega | (simp; omega) | simp) hl).mono ?_
  rintro e w18 ⟨A18, c18, rfl, ho18, hb18⟩
  obtain ⟨a199, a199'⟩ := keep2 hb18 ⟨a185, a185'⟩ (by first | omega | (simp; omega) | simp)
  obtain ⟨a200, a200'⟩ := keep2 hb18 ⟨a186, a186'⟩ (by first | omega | (simp; omega) | simp)
  have o201 := o187.below hb18 (by first | omega | (simp; omega) | simp)
  have o202 := o188.below hb18 (by first | omega | (simp; omega) | simp)
  have o203 := o189.below hb18 (by first | omega | (simp; omega) | simp)
  have o204 := o190.below hb18 (by first | omega | (simp; omega) | simp)
  have o205 := o191.below hb18 (by first | omega | (simp; omega) | simp)
  have o206 := o192.below hb18 (by first | omega | (simp; omega) | simp)
  have o207 := o193.below hb18 (by first | omega | (simp; omega) | simp)
  have o208 := o194.below hb18 (by first | omega | (simp; omega) | simp)
  have hz209 := hb18.size
  have B210 := B196.trans (hb18.mono (by first | omega | (simp; omega) | simp))
  clear hb18
  have z211 : w.heap.size < w18.heap.size := by omega
  have z212 : w5.heap.size < w18.heap.size := by omega
  go_wp2_with fail
  refine (toIntS_any D d ys _ 0 w.heap.size (h'.below B210 (Nat.le_refl _)) (by first | omega | (simp; omega) | simp) hl').mono ?_
  rintro e w19 ⟨A19, c19, rfl, ho19, hb19⟩
  obtain ⟨a213, a213'⟩ := keep2 hb19 ⟨a199, a199'⟩ (by first | omega | (simp; omega) | simp)
  obtain ⟨a214, a214'⟩ := keep2 hb19 ⟨a200, a200'⟩ (by first | omega | (simp; omega) | simp)
  have o215 := o201.below hb19 (by first | omega | (simp; omega) | simp)
  have o216 := o202.below hb19 (by first | omega | (simp; omega) | simp)
  have o217 := o203.below hb19 (by first | omega | (simp; omega) | simp)
  have o218 := o204.below hb19 (by first | omega | (simp; omega) | simp)
  have o219 := o205.below hb19 (by first | omega | (simp; omega) | simp)
  have o220 := o206.below hb19 (by first | omega | (simp; omega) | simp)
  have o221 := o207.below hb19 (by first | omega | (simp; omega) | simp)
  have o222 := o208.below hb19 (by first | omega | (simp; omega) | simp)
  have o223 := ho18.below hb19 (by first | omega | (simp; omega) | simp)
  have hz224 := hb19.size
  have B225 := B210.trans (hb19.mono (by first | omega | (simp; omega) | simp))
  clear hb19
  have z226 : w.heap.size < w19.heap.size := by omega
  have z227 : w5.heap.size < w19.heap.size := by omega
  go_wp2_with fail
  refine (implMissRow_any E A18 c18 xs A19 c19 ys _ _ _ o223.ints (by first | omega | (simp; omega) | simp) (by omega) _ _ ho19.ints (by first | omega | (simp; omega) | simp) (by omega)).mono ?_
  rintro e w20 ⟨A20, c20, rfl, ho20, hb20⟩
  obtain ⟨a228, a228'⟩ := keep2 hb20 ⟨a213, a213'⟩ (by first | omega | (simp; omega) | simp)
  obtain ⟨a229, a229'⟩ := keep2 hb20 ⟨a214, a214'⟩ (by first | omega | (simp; omega) | simp)
  have o230 := o215.below hb20 (by first | omega | (simp; omega) | simp)
  have o231 := o216.below hb20 (by first | omega | (simp; omega) | simp)
  have o232 := o217.below hb20 (by first | omega | (simp; omega) | simp)
  have o233 := o218.below hb20 (by first | omega | (simp; omega) | simp)
  have o234 := o219.below hb20 (by first | omega | (simp; omega) | simp)
  have o235 := o220.below hb20 (by first | omega | (simp; omega) | simp)
  have o236 := o221.below hb20 (by first | omega | (simp; omega) | simp)
  have o237 := o222.below hb20 (by first | omega | (simp; omega) | simp)
  have o238 := o223.below hb20 (by first | omega | (simp; omega) | simp)
  have o239 := ho19.below hb20 (by first | omega | (simp; omega) | simp)
  have hz240 := hb20.size
  have B241 := B225.trans (hb20.mono (by first | omega | (simp; omega) | simp))
  clear hb20
  have z242 : w.heap.size < w20.heap.size := by omega
  have z243 : w5.heap.size < w20.heap.size := by omega
  go_wp2_with fail
  refine (eqIntS_same A20 A4 c20 c4 (missRow E xs ys) _ _ _ _ _ ho20.ints o232.ints (by omega)).mono ?_
  rintro e w21 ⟨rfl, hb21⟩
  obtain ⟨a244, a244'⟩ := keep2 hb21 ⟨a228, a228'⟩ (by first | omega | (simp; omega) | simp)
  obtain ⟨a245, a245'⟩ := keep2 hb21 ⟨a229, a229'⟩ (by first | omega | (simp; omega) | simp)
  have o246 := o230.below hb21 (by first | omega | (simp; omega) | simp)
  have o247 := o231.below hb21 (by first | omega | (simp; omega) | simp)
  have o248 := o232.below hb21 (by first | omega | (simp; omega) | simp)
  have o249 := o233.below hb21 (by first | omega | (simp; omega) | simp)
  have o250 := o234.below hb21 (by first | omega | (simp; omega) | simp)
  have o251 := o235.below hb21 (by first | omega | (simp; omega) | simp)
  have o252 := o236.below hb21 (by first | omega | (simp; omega) | simp)
  have o253 := o237.below hb21 (by first | omega | (simp; omega) | simp)
  have o254 := o238.below hb21 (by first | omega | (simp; omega) | simp)
  have o255 := o239.below hb21 (by first | omega | (simp; omega) | simp)
  have o256 := ho20.below hb21 (by first | omega | (simp; omega) | simp)
  have hz257 := hb21.size
  have B258 := B241.trans (hb21.mono (by first | omega | (simp; omega) | simp))
  clear hb21
  have z259 : w.heap.size < w21.heap.size := by omega
  have z260 : w5.heap.size < w21.heap.size := by omega
  go_wp2_with fail
  refine (heldIntS_below A7 c7 (missRow E xs ys).length 1 _ _ _ o251.ints hR (by omega) (by omega)).mono ?_
  rintro e w22 ⟨rfl, hb22⟩
  obtain ⟨a261, a261'⟩ := keep2 hb22 ⟨a244, a244'⟩ (by first | omega | (simp; omega) | simp)
  obtain ⟨a262, a262'⟩ := keep2 hb22 ⟨a245, a245'⟩ (by first | omega | (simp; omega) | simp)
  have o263 := o246.below hb22 (by first | omega | (simp; omega) | simp)
  have o264 := o247.below hb22 (by first | omega | (simp; omega) | simp)
  have o265 := o248.below hb22 (by first | omega | (simp; omega) | simp)
  have o266 := o249.below hb22 (by first | omega | (simp; omega) | simp)
  have o267 := o250.below hb22 (by first | omega | (simp; omega) | simp)
  have o268 := o251.below hb22 (by first | omega | (simp; omega) | simp)
  have o269 := o252.below hb22 (by first | omega | (simp; omega) | simp)
  have o270 := o253.below hb22 (by first | omega | (simp; omega) | simp)
  have o271 := o254.below hb22 (by first | omega | (simp; omega) | simp)
  have o272 := o255.below hb22 (by first | omega | (simp; omega) | simp)
  have o273 := o256.below hb22 (by first | omega | (simp; omega) | simp)
  have hz274 := hb22.size
  have B275 := B258.trans (hb22.mono (by first | omega | (simp; omega) | simp))
  clear hb22
  have z276 : w.heap.size < w22.heap.size := by omega
  have z277 : w5.heap.size < w22.heap.size := by omega
  go_wp2
  go_ret
  exact ⟨rfl, B275⟩

set_option maxRecDepth 10000 in
set_option maxHeartbeats 400000 in
theorem exMissRow_big (E : Int) (A : Option Addr) (c : Nat) (xs : List Int) (D : Option Addr) (d : Nat) (ys : List Int) (w : World) (hl : ¬ xs.length ≤ 1048576) (hm : xs.length ≤ 9223372036854775807) (hl' : ys.length ≤ 1048576) :
    Calls Try.prog 11 #[.agg #[.int .i64 E, .slice A xs.length c], .slice D ys.length d] w fun e w' => e = .returned (.bool true) ∧ Below w.heap.size w w' := by
  have B0 := (Below.refl w.heap.size w).alloc (Nat.le_refl _) (.cells #[.int .i64 E, .slice A xs.length c] 45)
  go_enter Try.func11, Try.ntmps11
  go_wp2_with fail
  refine (szCase_no E A c xs.length 1048576 _ (by omega) (by omega) hm).mono ?_
  rintro e w1 ⟨rfl, hb1⟩
  go_wp2
  go_ret
  exact ⟨rfl, B0.trans (hb1.mono (by simp))⟩

set_option maxRecDepth 10000 in
set_option maxHeartbeats 400000 in
theorem exMissRow_big2 (E : Int) (A : Option Addr) (c : Nat) (xs : List Int) (D : Option Addr) (d : Nat) (ys : List Int) (w : World) (hl' : ¬ ys.length ≤ 1048576) (hm' : ys.length ≤ 9223372036854775807) :
    Calls Try.prog 11 #[.agg #[.int .i64 E, .slice A xs.length c], .slice D ys.length d] w fun e w' => e = .returned (.bool true) ∧ Below w.heap.size w w' := by
  have B0 := (Below.refl w.heap.size w).alloc (Nat.le_refl _) (.cells #[.int .i64 E, .slice A xs.length c] 45)
  go_enter Try.func11, Try.ntmps11
  go_wp2
  go_ret
  exact ⟨rfl, B0⟩

theorem exMissRow_all (E : Int) (A : Option Addr) (c : Nat) (xs : List Int) (D : Option Addr) (d : Nat) (ys : List Int) (w : World) (h : Ints w 0 w.heap.size A xs) (h' : Ints w 0 w.heap.size D ys) (hm : xs.length ≤ 9223372036854775807) (hm' : ys.length ≤ 9223372036854775807) :
    Calls Try.prog 11 #[.agg #[.int .i64 E, .slice A xs.length c], .slice D ys.length d] w fun e w' => e = .returned (.bool true) ∧ Below w.heap.size w w' := by
  by_cases hl' : ys.length ≤ 1048576
  · by_cases hl : xs.length ≤ 1048576
    · exact exMissRow_walk E A c xs D d ys w h h' hl hl'
    · exact exMissRow_big E A c xs D d ys w hl hm hl'
  · exact exMissRow_big2 E A c xs D d ys w hl' hm'

end Go.Proofs.Ythhcjomfpjopdaa
