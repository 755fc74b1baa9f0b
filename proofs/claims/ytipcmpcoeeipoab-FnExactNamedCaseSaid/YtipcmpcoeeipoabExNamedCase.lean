/-
  The exact law of NamedCase returns true, and writes nothing that was there. No condition.
-/
import Derived.Test.YtipcmpcoeeipoabExactCase
import Derived.Test.YtipcmpcoeeipoabNamed
import Derived.Deep.RegionHeld3
namespace Go.Proofs.Ytipcmpcoeeipoab
open Go.RowKit

set_option maxHeartbeats 1600000 in
theorem exNamedCase_walk (E : Int) (A : Option Addr) (c : Nat) (xs : List Int) (D : Option Addr) (d : Nat) (ys : List Int) (w : World) (h : Ints w 0 w.heap.size A xs) (h' : Ints w 0 w.heap.size D ys) (hl : xs.length ≤ 1048576) (hl' : ys.length ≤ 1048576) :
    Calls Try.prog 9 #[.agg #[.int .i64 E, .slice A xs.length c], .slice D ys.length d] w fun e w' => e = .returned (.bool true) ∧ Below w.heap.size w w' := by
  have hR : (namedXs E xs ys).length ≤ 1048576 := Nat.le_trans (namedXs_len E xs ys) hl
  have x1 := new2 w (.int .i64 E) (.slice A xs.length c) 24
  have B2 := (Below.refl w.heap.size w).alloc (Nat.le_refl _) (.cells #[.int .i64 E, .slice A xs.length c] 24)
  go_enter Try.func9, Try.ntmps9
  obtain ⟨a3, a3'⟩ := x1
  go_wp2_with fail
  refine (szCase_yes E A c xs.length 1048576 _ (by omega) (by omega)).mono ?_
  rintro e w1 ⟨rfl, hb1⟩
  obtain ⟨a4, a4'⟩ := keep2 hb1 ⟨a3, a3'⟩ (by first | omega | (simp; omega) | simp)
  have hz5 := hb1.size
  simp at hz5
  have B6 := B2.trans (hb1.mono (by first | omega | (simp; omega) | simp))
  clear hb1
  have z7 : w.heap.size < w1.heap.size := by omega
  have e8 : ¬ (1048576 - (xs.length : Int) < 0) := by omega
  go_wp2_with fail
  refine (toCase_any E A c xs _ 0 w.heap.size (h.below B6 (Nat.le_refl _)) (by first | omega | (simp; omega) | simp) hl).mono ?_
  rintro e w2 ⟨A2, c2, rfl, ho2, hb2⟩
  obtain ⟨a9, a9'⟩ := keep2 hb2 ⟨a4, a4'⟩ (by first | omega | (simp; omega) | simp)
  have hz10 := hb2.size
  have B11 := B6.trans (hb2.mono (by first | omega | (simp; omega) | simp))
  clear hb2
  have z12 : w.heap.size < w2.heap.size := by omega
  go_wp2_with fail
  refine (toIntS_any D d ys _ 0 w.heap.size (h'.below B11 (Nat.le_refl _)) (by first | omega | (simp; omega) | simp) hl').mono ?_
  rintro e w3 ⟨A3, c3, rfl, ho3, hb3⟩
  obtain ⟨a13, a13'⟩ := keep2 hb3 ⟨a9, a9'⟩ (by first | omega | (simp; omega) | simp)
  have o14 := ho2.below hb3 (by first | omega | (simp; omega) | simp)
  have hz15 := hb3.size
  have B16 := B11.trans (hb3.mono (by first | omega | (simp; omega) | simp))
  clear hb3
  have z17 : w.heap.size < w3.heap.size := by omega
  go_wp2_with fail
  refine (specNamedCase_any E A2 c2 xs A3 c3 ys _ _ _ o14.ints (by first | omega | (simp; omega) | simp) (by omega) _ _ ho3.ints (by first | omega | (simp; omega) | simp) (by omega)).mono ?_
  rintro e w4 ⟨A4, c4, rfl, ho4, hb4⟩
  obtain ⟨a18, a18'⟩ := keep2 hb4 ⟨a13, a13'⟩ (by first | omega | (simp; omega) | simp)
  have o19 := o14.below hb4 (by first | omega | (simp; omega) | simp)
  have o20 := ho3.below hb4 (by first | omega | (simp; omega) | simp)
  have hz21 := hb4.size
  have B22 := B16.trans (hb4.mono (by first | omega | (simp; omega) | simp))
  clear hb4
  have z23 : w.heap.size < w4.heap.size := by omega
  have x24 := new2 w4 (.int .i64 (namedE E xs ys)) (.slice A4 (namedXs E xs ys).length c4) 27
  have q25 := keep2 ((Below.refl w4.heap.size w4).alloc (Nat.le_refl _) (.cells #[.int .i64 (namedE E xs ys), .slice A4 (namedXs E xs ys).length c4] 27)) ⟨a18, a18'⟩ (by omega)
  have o26 := o19.alloc (by omega) (.cells #[.int .i64 (namedE E xs ys), .slice A4 (namedXs E xs ys).length c4] 27)
  have o27 := o20.alloc (by omega) (.cells #[.int .i64 (namedE E xs ys), .slice A4 (namedXs E xs ys).length c4] 27)
  have o28 := ho4.alloc (by omega) (.cells #[.int .i64 (namedE E xs ys), .slice A4 (namedXs E xs ys).length c4] 27)
  have B29 := B22.alloc (by omega) (.cells #[.int .i64 (namedE E xs ys), .slice A4 (namedXs E xs ys).length c4] 27)
  obtain ⟨a30, a30'⟩ := q25
  obtain ⟨a31, a31'⟩ := x24
  go_wp2_with fail
  refine (toCase_any E A c xs _ 0 w.heap.size (h.below B29 (Nat.le_refl _)) (by first | omega | (simp; omega) | simp) hl).mono ?_
  rintro e w5 ⟨A5, c5, rfl, ho5, hb5⟩
  have hp5 : Own w5 (w4.heap.size + 1) w5.heap.size A5 (xs) := ho5.more (by simp) (Nat.le_refl _)
  obtain ⟨a32, a32'⟩ := keep2 hb5 ⟨a30, a30'⟩ (by first | omega | (simp; omega) | simp)
  obtain ⟨a33, a33'⟩ := keep2 hb5 ⟨a31, a31'⟩ (by first | omega | (simp; omega) | simp)
  have o34 := o26.below hb5 (by first | omega | (simp; omega) | simp)
  have o35 := o27.below hb5 (by first | omega | (simp; omega) | simp)
  have o36 := o28.below hb5 (by first | omega | (simp; omega) | simp)
  have hz37 := hb5.size
  simp at hz37
  have B38 := B29.trans (hb5.mono (by first | omega | (simp; omega) | simp))
  clear hb5
  have z39 : w.heap.size < w5.heap.size := by omega
  have z40 : w4.heap.size < w5.heap.size := by omega
  have x41 := new2 w5 (.int .i64 E) (.slice A5 xs.length c5) 27
  have q42 := keep2 ((Below.refl w5.heap.size w5).alloc (Nat.le_refl _) (.cells #[.int .i64 E, .slice A5 xs.length c5] 27)) ⟨a32, a32'⟩ (by omega)
  have q43 := keep2 ((Below.refl w5.heap.size w5).alloc (Nat.le_refl _) (.cells #[.int .i64 E, .slice A5 xs.length c5] 27)) ⟨a33, a33'⟩ (by omega)
  have o44 := o34.alloc (by omega) (.cells #[.int .i64 E, .slice A5 xs.length c5] 27)
  have o45 := o35.alloc (by omega) (.cells #[.int .i64 E, .slice A5 xs.length c5] 27)
  have o46 := o36.alloc (by omega) (.cells #[.int .i64 E, .slice A5 xs.length c5] 27)
  have o47 := hp5.alloc (by omega) (.cells #[.int .i64 E, .slice A5 xs.length c5] 27)
  have B48 := B38.alloc (by omega) (.cells #[.int .i64 E, .slice A5 xs.length c5] 27)
  obtain ⟨a49, a49'⟩ := q42
  obtain ⟨a50, a50'⟩ := q43
  obtain ⟨a51, a51'⟩ := x41
  go_wp2_with fail
  refine (toIntS_any D d ys _ 0 w.heap.size (h'.below B48 (Nat.le_refl _)) (by first | omega | (simp; omega) | simp) hl').mono ?_
  rintro e w6 ⟨A6, c6, rfl, ho6, hb6⟩
  have hp6 : Own w6 (w5.heap.size + 1) w6.heap.size A6 (ys) := ho6.more (by simp) (Nat.le_refl _)
  obtain ⟨a52, a52'⟩ := keep2 hb6 ⟨a49, a49'⟩ (by first | omega | (simp; omega) | simp)
  obtain ⟨a53, a53'⟩ := keep2 hb6 ⟨a50, a50'⟩ (by first | omega | (simp; omega) | simp)
  obtain ⟨a54, a54'⟩ := keep2 hb6 ⟨a51, a51'⟩ (by first | omega | (simp; omega) | simp)
  have o55 := o44.below hb6 (by first | omega | (simp; omega) | simp)
  have o56 := o45.below hb6 (by first | omega | (simp; omega) | simp)
  have o57 := o46.below hb6 (by first | omega | (simp; omega) | simp)
  have o58 := o47.below hb6 (by first | omega | (simp; omega) | simp)
  have hz59 := hb6.size
  simp at hz59
  have B60 := B48.trans (hb6.mono (by first | omega | (simp; omega) | simp))
  clear hb6
  have z61 : w.heap.size < w6.heap.size := by omega
  have z62 : w4.heap.size < w6.heap.size := by omega
  have z63 : w5.heap.size < w6.heap.size := by omega
  go_wp2_with fail
  refine (implNamedCase_any E A5 c5 xs A6 c6 ys _ _ _ o58.ints (by first | omega | (simp; omega) | simp) (by omega) _ _ hp6.ints (by first | omega | (simp; omega) | simp) (by omega)).mono ?_
  rintro e w7 ⟨A7, c7, rfl, ho7, hb7⟩
  obtain ⟨a64, a64'⟩ := keep2 hb7 ⟨a52, a52'⟩ (by first | omega | (simp; omega) | simp)
  obtain ⟨a65, a65'⟩ := keep2 hb7 ⟨a53, a53'⟩ (by first | omega | (simp; omega) | simp)
  obtain ⟨a66, a66'⟩ := keep2 hb7 ⟨a54, a54'⟩ (by first | omega | (simp; omega) | simp)
  have o67 := o55.below hb7 (by first | omega | (simp; omega) | simp)
  have o68 := o56.below hb7 (by first | omega | (simp; omega) | simp)
  have o69 := o57.below hb7 (by first | omega | (simp; omega) | simp)
  have o70 := o58.below hb7 (by first | omega | (simp; omega) | simp)
  have o71 := hp6.below hb7 (by first | omega | (simp; omega) | simp)
  have hz72 := hb7.size
  have B73 := B60.trans (hb7.mono (by first | omega | (simp; omega) | simp))
  clear hb7
  have z74 : w.heap.size < w7.heap.size := by omega
  have z75 : w4.heap.size < w7.heap.size := by omega
  have z76 : w5.heap.size < w7.heap.size := by omega
  have x77 := new2 w7 (.int .i64 (namedE E xs ys)) (.slice A7 (namedXs E xs ys).length c7) 27
  have q78 := keep2 ((Below.refl w7.heap.size w7).alloc (Nat.le_refl _) (.cells #[.int .i64 (namedE E xs ys), .slice A7 (namedXs E xs ys).length c7] 27)) ⟨a64, a64'⟩ (by omega)
  have q79 := keep2 ((Below.refl w7.heap.size w7).alloc (Nat.le_refl _) (.cells #[.int .i64 (namedE E xs ys), .slice A7 (namedXs E xs ys).length c7] 27)) ⟨a65, a65'⟩ (by omega)
  have q80 := keep2 ((Below.refl w7.heap.size w7).alloc (Nat.le_refl _) (.cells #[.int .i64 (namedE E xs ys), .slice A7 (namedXs E xs ys).length c7] 27)) ⟨a66, a66'⟩ (by omega)
  have o81 := o67.alloc (by omega) (.cells #[.int .i64 (namedE E xs ys), .slice A7 (namedXs E xs ys).length c7] 27)
  have o82 := o68.alloc (by omega) (.cells #[.int .i64 (namedE E xs ys), .slice A7 (namedXs E xs ys).length c7] 27)
  have o83 := o69.alloc (by omega) (.cells #[.int .i64 (namedE E xs ys), .slice A7 (namedXs E xs ys).length c7] 27)
  have o84 := o70.alloc (by omega) (.cells #[.int .i64 (namedE E xs ys), .slice A7 (namedXs E xs ys).length c7] 27)
  have o85 := o71.alloc (by omega) (.cells #[.int .i64 (namedE E xs ys), .slice A7 (namedXs E xs ys).length c7] 27)
  have o86 := ho7.alloc (by omega) (.cells #[.int .i64 (namedE E xs ys), .slice A7 (namedXs E xs ys).length c7] 27)
  have B87 := B73.alloc (by omega) (.cells #[.int .i64 (namedE E xs ys), .slice A7 (namedXs E xs ys).length c7] 27)
  have e88 : (namedB E xs ys != namedB E xs ys) = false := by simp
  obtain ⟨a89, a89'⟩ := q78
  obtain ⟨a90, a90'⟩ := q79
  obtain ⟨a91, a91'⟩ := q80
  obtain ⟨a92, a92'⟩ := x77
  go_wp2_with fail
  refine (eqCase_yes (namedE E xs ys) A7 A4 c7 c4 (namedXs E xs ys) _ _ _ _ _ o86.ints o83.ints (by first | omega | (simp; omega) | simp) (by first | omega | (simp; omega) | simp) (by omega)).mono ?_
  rintro e w8 ⟨rfl, hb8⟩
  obtain ⟨a93, a93'⟩ := keep2 hb8 ⟨a89, a89'⟩ (by first | omega | (simp; omega) | simp)
  obtain ⟨a94, a94'⟩ := keep2 hb8 ⟨a90, a90'⟩ (by first | omega | (simp; omega) | simp)
  obtain ⟨a95, a95'⟩ := keep2 hb8 ⟨a91, a91'⟩ (by first | omega | (simp; omega) | simp)
  obtain ⟨a96, a96'⟩ := keep2 hb8 ⟨a92, a92'⟩ (by first | omega | (simp; omega) | simp)
  have o97 := o81.below hb8 (by first | omega | (simp; omega) | simp)
  have o98 := o82.below hb8 (by first | omega | (simp; omega) | simp)
  have o99 := o83.below hb8 (by first | omega | (simp; omega) | simp)
  have o100 := o84.below hb8 (by first | omega | (simp; omega) | simp)
  have o101 := o85.below hb8 (by first | omega | (simp; omega) | simp)
  have o102 := o86.below hb8 (by first | omega | (simp; omega) | simp)
  have hz103 := hb8.size
  simp at hz103
  have B104 := B87.trans (hb8.mono (by first | omega | (simp; omega) | simp))
  clear hb8
  have z105 : w.heap.size < w8.heap.size := by omega
  have z106 : w4.heap.size < w8.heap.size := by omega
  have z107 : w5.heap.size < w8.heap.size := by omega
  have z108 : w7.heap.size < w8.heap.size := by omega
  go_wp2_with fail
  have zz109 : w.heap.size ≤ w8.heap.size := by omega
  go_region_held3 (fun w' => w'.cell? ⟨w.heap.size, 0, none⟩ = some (.int .i64 E) ∧ w'.cell? ⟨w.heap.size, 1, none⟩ = some (.slice A xs.length c) ∧ w'.cell? ⟨w5.heap.size, 0, none⟩ = some (.int .i64 E) ∧ w'.cell? ⟨w5.heap.size, 1, none⟩ = some (.slice A5 xs.length c5)) (first | exact ⟨a126, a126', a128, a128'⟩ | exact ⟨a110, a110', a112, a112'⟩ | go_keep)
    (first
      | (go_at_call 14
         refine (toCase_any E A c xs _ 0 w.heap.size (h.below B104.drew (Nat.le_refl _)) (by exact zz109) hl).mono ?_
         rintro e w9 ⟨A9, c9, rfl, ho9, hbq9⟩
         have hb9 : Below w8.heap.size w8 w9 := (Below.refl _ w8).drew.trans (hbq9.mono (by exact Nat.le_refl _))
         have hp9 : Own w9 w8.heap.size w9.heap.size A9 (xs) := ho9.more (by exact Nat.le_refl _) (Nat.le_refl _)
         obtain ⟨a110, a110'⟩ := keep2 hb9 ⟨a93, a93'⟩ (by first | omega | (simp; omega) | simp)
         obtain ⟨a111, a111'⟩ := keep2 hb9 ⟨a94, a94'⟩ (by first | omega | (simp; omega) | simp)
         obtain ⟨a112, a112'⟩ := keep2 hb9 ⟨a95, a95'⟩ (by first | omega | (simp; omega) | simp)
         obtain ⟨a113, a113'⟩ := keep2 hb9 ⟨a96, a96'⟩ (by first | omega | (simp; omega) | simp)
         have o114 := o97.below hb9 (by first | omega | (simp; omega) | simp)
         have o115 := o98.below hb9 (by first | omega | (simp; omega) | simp)
         have o116 := o99.below hb9 (by first | omega | (simp; omega) | simp)
         have o117 := o100.below hb9 (by first | omega | (simp; omega) | simp)
         have o118 := o101.below hb9 (by first | omega | (simp; omega) | simp)
         have o119 := o102.below hb9 (by first | omega | (simp; omega) | simp)
         have hz120 := hb9.size
         have B121 := B104.trans (hb9.mono (by first | omega | (simp; omega) | simp))
         clear hb9
         have z122 : w.heap.size < w9.heap.size := by omega
         have z123 : w4.heap.size < w9.heap.size := by omega
         have z124 : w5.heap.size < w9.heap.size := by omega
         have z125 : w7.heap.size < w9.heap.size := by omega)
      | (go_at_call 16
         refine (eqCase_yes E A5 A9 c5 c9 xs _ _ _ _ _ o117.ints hp9.ints (by omega) (by omega) (by omega)).mono ?_
         rintro e w10 ⟨rfl, hb10⟩
         obtain ⟨a126, a126'⟩ := keep2 hb10 ⟨a110, a110'⟩ (by first | omega | (simp; omega) | simp)
         obtain ⟨a127, a127'⟩ := keep2 hb10 ⟨a111, a111'⟩ (by first | omega | (simp; omega) | simp)
         obtain ⟨a128, a128'⟩ := keep2 hb10 ⟨a112, a112'⟩ (by first | omega | (simp; omega) | simp)
         obtain ⟨a129, a129'⟩ := keep2 hb10 ⟨a113, a113'⟩ (by first | omega | (simp; omega) | simp)
         have o130 := o114.below hb10 (by first | omega | (simp; omega) | simp)
         have o131 := o115.below hb10 (by first | omega | (simp; omega) | simp)
         have o132 := o116.below hb10 (by first | omega | (simp; omega) | simp)
         have o133 := o117.below hb10 (by first | omega | (simp; omega) | simp)
         have o134 := o118.below hb10 (by first | omega | (simp; omega) | simp)
         have o135 := o119.below hb10 (by first | omega | (simp; omega) | simp)
         have o136 := hp9.below hb10 (by first | omega | (simp; omega) | simp)
         have hz137 := hb10.size
         have B138 := B121.trans (hb10.mono (by first | omega | (simp; omega) | simp))
         clear hb10
         have z139 : w.heap.size < w10.heap.size := by omega
         have z140 : w4.heap.size < w10.heap.size := by omega
         have z141 : w5.heap.size < w10.heap.size := by omega
         have z142 : w7.heap.size < w10.heap.size := by omega))
  go_wp2_with fail
  refine (toIntS_any D d ys _ 0 w.heap.size (h'.below B138 (Nat.le_refl _)) (by first | omega | (simp; omega) | simp) hl').mono ?_
  rintro e w11 ⟨A11, c11, rfl, ho11, hb11⟩
  obtain ⟨a143, a143'⟩ := keep2 hb11 ⟨a126, a126'⟩ (by first | omega | (simp; omega) | simp)
  obtain ⟨a144, a144'⟩ := keep2 hb11 ⟨a127, a127'⟩ (by first | omega | (simp; omega) | simp)
  obtain ⟨a145, a145'⟩ := keep2 hb11 ⟨a128, a128'⟩ (by first | omega | (simp; omega) | simp)
  obtain ⟨a146, a146'⟩ := keep2 hb11 ⟨a129, a129'⟩ (by first | omega | (simp; omega) | simp)
  have o147 := o130.below hb11 (by first | omega | (simp; omega) | simp)
  have o148 := o131.below hb11 (by first | omega | (simp; omega) | simp)
  have o149 := o132.below hb11 (by first | omega | (simp; omega) | simp)
  have o150 := o133.below hb11 (by first | omega | (simp; omega) | simp)
  have o151 := o134.below hb11 (by first | omega | (simp; omega) | simp)
  have o152 := o135.below hb11 (by first | omega | (simp; omega) | simp)
  have o153 := o136.below hb11 (by first | omega | (simp; omega) | simp)
  have hz154 := hb11.size
  have B155 := B138.trans (hb11.mono (by first | omega | (simp; omega) | simp))
  clear hb11
  have z156 : w.heap.size < w11.heap.size := by omega
  have z157 : w4.heap.size < w11.heap.size := by omega
  have z158 : w5.heap.size < w11.heap.size := by omega
  have z159 : w7.heap.size < w11.heap.size := by omega
  go_wp2_with fail
  refine (eqIntS_same A6 A11 c6 c11 ys _ _ _ _ _ o151.ints ho11.ints (by omega)).mono ?_
  rintro e w12 ⟨rfl, hb12⟩
  obtain ⟨a160, a160'⟩ := keep2 hb12 ⟨a143, a143'⟩ (by first | omega | (simp; omega) | simp)
  obtain ⟨a161, a161'⟩ := keep2 hb12 ⟨a144, a144'⟩ (by first | omega | (simp; omega) | simp)
  obtain ⟨a162, a162'⟩ := keep2 hb12 ⟨a145, a145'⟩ (by first | omega | (simp; omega) | simp)
  obtain ⟨a163, a163'⟩ := keep2 hb12 ⟨a146, a146'⟩ (by first | omega | (simp; omega) | simp)
  have o164 := o147.below hb12 (by first | omega | (simp; omega) | simp)
  have o165 := o148.below hb12 (by first | omega | (simp; omega) | simp)
  have o166 := o149.below hb12 (by first | omega | (simp; omega) | simp)
  have o167 := o150.below hb12 (by first | omega | (simp; omega) | simp)
  have o168 := o151.below hb12 (by first | omega | (simp; omega) | simp)
  have o169 := o152.below hb12 (by first | omega | (simp; omega) | simp)
  have o170 := o153.below hb12 (by first | omega | (simp; omega) | simp)
  have o171 := ho11.below hb12 (by first | omega | (simp; omega) | simp)
  have hz172 := hb12.size
  have B173 := B155.trans (hb12.mono (by first | omega | (simp; omega) | simp))
  clear hb12
  have z174 : w.heap.size < w12.heap.size := by omega
  have z175 : w4.heap.size < w12.heap.size := by omega
  have z176 : w5.heap.size < w12.heap.size := by omega
  have z177 : w7.heap.size < w12.heap.size := by omega
  go_wp2_with fail
  refine (markCase_any E A5 c5 xs 1 _ _ _ o167 (by first | omega | (simp; omega) | simp) hl (by omega) (by omega)).mono ?_
  rintro e w13 ⟨rfl, om13, hc13⟩
  obtain ⟨a178, a178'⟩ := keep2c hc13 ⟨a160, a160'⟩ (by first | omega | (simp; omega) | simp) (by first | omega | (simp; omega) | simp)
  obtain ⟨a179, a179'⟩ := keep2c hc13 ⟨a161, a161'⟩ (by first | omega | (simp; omega) | simp) (by first | omega | (simp; omega) | simp)
  obtain ⟨a180, a180'⟩ := keep2c hc13 ⟨a162, a162'⟩ (by first | omega | (simp; omega) | simp) (by first | omega | (simp; omega) | simp)
  obtain ⟨a181, a181'⟩ := keep2c hc13 ⟨a163, a163'⟩ (by first | omega | (simp; omega) | simp) (by first | omega | (simp; omega) | simp)
  have o182 := o164.chg hc13 (by first | omega | (simp; omega) | simp) (by first | omega | (simp; omega) | simp)
  have o183 := o165.chg hc13 (by first | omega | (simp; omega) | simp) (by first | omega | (simp; omega) | simp)
  have o184 := o166.chg hc13 (by first | omega | (simp; omega) | simp) (by first | omega | (simp; omega) | simp)
  have o186 := o168.chg hc13 (by first | omega | (simp; omega) | simp) (by first | omega | (simp; omega) | simp)
  have o187 := o169.chg hc13 (by first | omega | (simp; omega) | simp) (by first | omega | (simp; omega) | simp)
  have o188 := o170.chg hc13 (by first | omega | (simp; omega) | simp) (by first | omega | (simp; omega) | simp)
  have o189 := o171.chg hc13 (by first | omega | (simp; omega) | simp) (by first | omega | (simp; omega) | simp)
  have hz190 := hc13.size
  have B191 := B173.trans (hc13.below (by first | omega | (simp; omega) | simp) (by first | omega | (simp; omega) | simp))
  clear hc13
  have z192 : w.heap.size < w13.heap.size := by omega
  have z193 : w4.heap.size < w13.heap.size := by omega
  have z194 : w5.heap.size < w13.heap.size := by omega
  have z195 : w7.heap.size < w13.heap.size := by omega
  go_wp2_with fail
  refine (markIntS_any A6 c6 ys (1 + (xs.length : Int)) _ _ _ o186 hl' (by omega) (by omega)).mono ?_
  rintro e w14 ⟨rfl, om14, hc14⟩
  obtain ⟨a196, a196'⟩ := keep2c hc14 ⟨a178, a178'⟩ (by first | omega | (simp; omega) | simp) (by first | omega | (simp; omega) | simp)
  obtain ⟨a197, a197'⟩ := keep2c hc14 ⟨a179, a179'⟩ (by first | omega | (simp; omega) | simp) (by first | omega | (simp; omega) | simp)
  obtain ⟨a198, a198'⟩ := keep2c hc14 ⟨a180, a180'⟩ (by first | omega | (simp; omega) | simp) (by first | omega | (simp; omega) | simp)
  obtain ⟨a199, a199'⟩ := keep2c hc14 ⟨a181, a181'⟩ (by first | omega | (simp; omega) | simp) (by first | omega | (simp; omega) | simp)
  have o200 := o182.chg hc14 (by first | omega | (simp; omega) | simp) (by first | omega | (simp; omega) | simp)
  have o201 := o183.chg hc14 (by first | omega | (simp; omega) | simp) (by first | omega | (simp; omega) | simp)
  have o202 := o184.chg hc14 (by first | omega | (simp; omega) | simp) (by first | omega | (simp; omega) | simp)
  have o203 := om13.chg hc14 (by first | omega | (simp; omega) | simp) (by first | omega | (simp; omega) | simp)
  have o205 := o187.chg hc14 (by first | omega | (simp; omega) | simp) (by first | omega | (simp; omega) | simp)
  have o206 := o188.chg hc14 (by first | omega | (simp; omega) | simp) (by first | omega | (simp; omega) | simp)
  have o207 := o189.chg hc14 (by first | omega | (simp; omega) | simp) (by first | omega | (simp; omega) | simp)
  have hz208 := hc14.size
  have B209 := B191.trans (hc14.below (by first | omega | (simp; omega) | simp) (by first | omega | (simp; omega) | simp))
  clear hc14
  have z210 : w.heap.size < w14.heap.size := by omega
  have z211 : w4.heap.size < w14.heap.size := by omega
  have z212 : w5.heap.size < w14.heap.size := by omega
  have z213 : w7.heap.size < w14.heap.size := by omega
  have e214 : ¬ (1 + (xs.length : Int) + (ys.length : Int) < 0) := by omega
  go_wp2_with fail
  refine (eqCase_yes (namedE E xs ys) A7 A4 c7 c4 (namedXs E xs ys) _ _ _ _ _ o205.ints o202.ints (by first | omega | (simp; omega) | simp) (by first | omega | (simp; omega) | simp) (by omega)).mono ?_
  rintro e w15 ⟨rfl, hb15⟩
  obtain ⟨a215, a215'⟩ := keep2 hb15 ⟨a196, a196'⟩ (by first | omega | (simp; omega) | simp)
  obtain ⟨a216, a216'⟩ := keep2 hb15 ⟨a197, a197'⟩ (by first | omega | (simp; omega) | simp)
  obtain ⟨a217, a217'⟩ := keep2 hb15 ⟨a198, a198'⟩ (by first | omega | (simp; omega) | simp)
  obtain ⟨a218, a218'⟩ := keep2 hb15 ⟨a199, a199'⟩ (by first | omega | (simp; omega) | simp)
  have o219 := o200.below hb15 (by first | omega | (simp; omega) | simp)
  have o220 := o201.below hb15 (by first | omega | (simp; omega) | simp)
  have o221 := o202.below hb15 (by first | omega | (simp; omega) | simp)
  have o222 := o203.below hb15 (by first | omega | (simp; omega) | simp)
  have o223 := om14.below hb15 (by first | omega | (simp; omega) | simp)
  have o224 := o205.below hb15 (by first | omega | (simp; omega) | simp)
  have o225 := o206.below hb15 (by first | omega | (simp; omega) | simp)
  have o226 := o207.below hb15 (by first | omega | (simp; omega) | simp)
  have hz227 := hb15.size
  have B228 := B209.trans (hb15.mono (by first | omega | (simp; omega) | simp))
  clear hb15
  have z229 : w.heap.size < w15.heap.size := by omega
  have z230 : w4.heap.size < w15.heap.size := by omega
  have z231 : w5.heap.size < w15.heap.size := by omega
  have z232 : w7.heap.size < w15.heap.size := by omega
  go_wp2_with fail
  refine (markCase_any (namedE E xs ys) A7 c7 (namedXs E xs ys) 1 _ _ _ o224 (by first | omega | (simp; omega) | simp) hR (by omega) (by omega)).mono ?_
  rintro e w16 ⟨rfl, om16, hc16⟩
  obtain ⟨a233, a233'⟩ := keep2c hc16 ⟨a215, a215'⟩ (by first | omega | (simp; omega) | simp) (by first | omega | (simp; omega) | simp)
  obtain ⟨a234, a234'⟩ := keep2c hc16 ⟨a216, a216'⟩ (by first | omega | (simp; omega) | simp) (by first | omega | (simp; omega) | simp)
  obtain ⟨a235, a235'⟩ := keep2c hc16 ⟨a217, a217'⟩ (by first | omega | (simp; omega) | simp) (by first | omega | (simp; omega) | simp)
  obtain ⟨a236, a236'⟩ := keep2c hc16 ⟨a218, a218'⟩ (by first | omega | (simp; omega) | simp) (by first | omega | (simp; omega) | simp)
  have o237 := o219.chg hc16 (by first | omega | (simp; omega) | simp) (by first | omega | (simp; omega) | simp)
  have o238 := o220.chg hc16 (by first | omega | (simp; omega) | simp) (by first | omega | (simp; omega) | simp)
  have o239 := o221.chg hc16 (by first | omega | (simp; omega) | simp) (by first | omega | (simp; omega) | simp)
  have o240 := o222.chg hc16 (by first | omega | (simp; omega) | simp) (by first | omega | (simp; omega) | simp)
  have o241 := o223.chg hc16 (by first | omega | (simp; omega) | simp) (by first | omega | (simp; omega) | simp)
  have o243 := o225.chg hc16 (by first | omega | (simp; omega) | simp) (by first | omega | (simp; omega) | simp)
  have o244 := o226.chg hc16 (by first | omega | (simp; omega) | simp) (by first | omega | (simp; omega) | simp)
  have hz245 := hc16.size
  have B246 := B228.trans (hc16.below (by first | omega | (simp; omega) | simp) (by first | omega | (simp; omega) | simp))
  clear hc16
  have z247 : w.heap.size < w16.heap.size := by omega
  have z248 : w4.heap.size < w16.heap.size := by omega
  have z249 : w5.heap.size < w16.heap.size := by omega
  have z250 : w7.heap.size < w16.heap.size := by omega
  have e251 : ¬ (1 + ((namedXs E xs ys).length : Int) < 0) := by omega
  have e252 : (1 + ((namedXs E xs ys).length : Int) != 1 + ((namedXs E xs ys).length : Int)) = false := by simp
  go_wp2_with fail
  refine (heldCase_any (namedE E xs ys) A7 c7 (namedXs E xs ys).length 1 _ _ _ om16.ints (by first | omega | (simp; omega) | simp) hR (by omega) (by omega)).mono ?_
  rintro e w17 ⟨rfl, hb17⟩
  obtain ⟨a253, a253'⟩ := keep2 hb17 ⟨a233, a233'⟩ (by first | omega | (simp; omega) | simp)
  obtain ⟨a254, a254'⟩ := keep2 hb17 ⟨a234, a234'⟩ (by first | omega | (simp; omega) | simp)
  obtain ⟨a255, a255'⟩ := keep2 hb17 ⟨a235, a235'⟩ (by first | omega | (simp; omega) | simp)
  obtain ⟨a256, a256'⟩ := keep2 hb17 ⟨a236, a236'⟩ (by first | omega | (simp; omega) | simp)
  have o257 := o237.below hb17 (by first | omega | (simp; omega) | simp)
  have o258 := o238.below hb17 (by first | omega | (simp; omega) | simp)
  have o259 := o239.below hb17 (by first | omega | (simp; omega) | simp)
  have o260 := o240.below hb17 (by first | omega | (simp; omega) | simp)
  have o261 := o241.below hb17 (by first | omega | (simp; omega) | simp)
  have o262 := om16.below hb17 (by first | omega | (simp; omega) | simp)
  have o263 := o243.below hb17 (by first | omega | (simp; omega) | simp)
  have o264 := o244.below hb17 (by first | omega | (simp; omega) | simp)
  have hz265 := hb17.size
  have B266 := B246.trans (hb17.mono (by first | omega | (simp; omega) | simp))
  clear hb17
  have z267 : w.heap.size < w17.heap.size := by omega
  have z268 : w4.heap.size < w17.heap.size := by omega
  have z269 : w5.heap.size < w17.heap.size := by omega
  have z270 : w7.heap.size < w17.heap.size := by omega
  go_wp2_with fail
  refine (toCase_any E A c xs _ 0 w.heap.size (h.below B266 (Nat.le_refl _)) (by first | omega | (simp; omega) | simp) hl).mono ?_
  rintro e w18 ⟨A18, c18, rfl, ho18, hb18⟩
  obtain ⟨a271, a271'⟩ := keep2 hb18 ⟨a253, a253'⟩ (by first | omega | (simp; omega) | simp)
  obtain ⟨a272, a272'⟩ := keep2 hb18 ⟨a254, a254'⟩ (by first | omega | (simp; omega) | simp)
  obtain ⟨a273, a273'⟩ := keep2 hb18 ⟨a255, a255'⟩ (by first | omega | (simp; omega) | simp)
  obtain ⟨a274, a274'⟩ := keep2 hb18 ⟨a256, a256'⟩ (by first | omega | (simp; omega) | simp)
  have o275 := o257.below hb18 (by first | omega | (simp; omega) | simp)
  have o276 := o258.below hb18 (by first | omega | (simp; omega) | simp)
  have o277 := o259.below hb18 (by first | omega | (simp; omega) | simp)
  have o278 := o260.below hb18 (by first | omega | (simp; omega) | simp)
  have o279 := o261.below hb18 (by first | omega | (simp; omega) | simp)
  have o280 := o262.below hb18 (by first | omega | (simp; omega) | simp)
  have o281 := o263.below hb18 (by first | omega | (simp; omega) | simp)
  have o282 := o264.below hb18 (by first | omega | (simp; omega) | simp)
  have hz283 := hb18.size
  have B284 := B266.trans (hb18.mono (by first | omega | (simp; omega) | simp))
  clear hb18
  have z285 : w.heap.size < w18.heap.size := by omega
  have z286 : w4.heap.size < w18.heap.size := by omega
  have z287 : w5.heap.size < w18.heap.size := by omega
  have z288 : w7.heap.size < w18.heap.size := by omega
  go_wp2_with fail
  refine (toIntS_any D d ys _ 0 w.heap.size (h'.below B284 (Nat.le_refl _)) (by first | omega | (simp; omega) | simp) hl').mono ?_
  rintro e w19 ⟨A19, c19, rfl, ho19, hb19⟩
  obtain ⟨a289, a289'⟩ := keep2 hb19 ⟨a271, a271'⟩ (by first | omega | (simp; omega) | simp)
  obtain ⟨a290, a290'⟩ := keep2 hb19 ⟨a272, a272'⟩ (by first | omega | (simp; omega) | simp)
  obtain ⟨a291, a291'⟩ := keep2 hb19 ⟨a273, a273'⟩ (by first | omega | (simp; omega) | simp)
  obtain ⟨a292, a292'⟩ := keep2 hb19 ⟨a274, a274'⟩ (by first | omega | (simp; omega) | simp)
  have o293 := o275.below hb19 (by first | omega | (simp; omega) | simp)
  have o294 := o276.below hb19 (by first | omega | (simp; omega) | simp)
  have o295 := o277.below hb19 (by first | omega | (simp; omega) | simp)
  have o296 := o278.below hb19 (by first | omega | (simp; omega) | simp)
  have o297 := o279.below hb19 (by first | omega | (simp; omega) | simp)
  have o298 := o280.below hb19 (by first | omega | (simp; omega) | simp)
  have o299 := o281.below hb19 (by first | omega | (simp; omega) | simp)
  have o300 := o282.below hb19 (by first | omega | (simp; omega) | simp)
  have o301 := ho18.below hb19 (by first | omega | (simp; omega) | simp)
  have hz302 := hb19.size
  have B303 := B284.trans (hb19.mono (by first | omega | (simp; omega) | simp))
  clear hb19
  have z304 : w.heap.size < w19.heap.size := by omega
  have z305 : w4.heap.size < w19.heap.size := by omega
  have z306 : w5.heap.size < w19.heap.size := by omega
  have z307 : w7.heap.size < w19.heap.size := by omega
  go_wp2_with fail
  refine (implNamedCase_any E A18 c18 xs A19 c19 ys _ _ _ o301.ints (by first | omega | (simp; omega) | simp) (by omega) _ _ ho19.ints (by first | omega | (simp; omega) | simp) (by omega)).mono ?_
  rintro e w20 ⟨A20, c20, rfl, ho20, hb20⟩
  obtain ⟨a308, a308'⟩ := keep2 hb20 ⟨a289, a289'⟩ (by first | omega | (simp; omega) | simp)
  obtain ⟨a309, a309'⟩ := keep2 hb20 ⟨a290, a290'⟩ (by first | omega | (simp; omega) | simp)
  obtain ⟨a310, a310'⟩ := keep2 hb20 ⟨a291, a291'⟩ (by first | omega | (simp; omega) | simp)
  obtain ⟨a311, a311'⟩ := keep2 hb20 ⟨a292, a292'⟩ (by first | omega | (simp; omega) | simp)
  have o312 := o293.below hb20 (by first | omega | (simp; omega) | simp)
  have o313 := o294.below hb20 (by first | omega | (simp; omega) | simp)
  have o314 := o295.below hb20 (by first | omega | (simp; omega) | simp)
  have o315 := o296.below hb20 (by first | omega | (simp; omega) | simp)
  have o316 := o297.below hb20 (by first | omega | (simp; omega) | simp)
  have o317 := o298.below hb20 (by first | omega | (simp; omega) | simp)
  have o318 := o299.below hb20 (by first | omega | (simp; omega) | simp)
  have o319 := o300.below hb20 (by first | omega | (simp; omega) | simp)
  have o320 := o301.below hb20 (by first | omega | (simp; omega) | simp)
  have o321 := ho19.below hb20 (by first | omega | (simp; omega) | simp)
  have hz322 := hb20.size
  have B323 := B303.trans (hb20.mono (by first | omega | (simp; omega) | simp))
  clear hb20
  have z324 : w.heap.size < w20.heap.size := by omega
  have z325 : w4.heap.size < w20.heap.size := by omega
  have z326 : w5.heap.size < w20.heap.size := by omega
  have z327 : w7.heap.size < w20.heap.size := by omega
  have x328 := new2 w20 (.int .i64 (namedE E xs ys)) (.slice A20 (namedXs E xs ys).length c20) 27
  have q329 := keep2 ((Below.refl w20.heap.size w20).alloc (Nat.le_refl _) (.cells #[.int .i64 (namedE E xs ys), .slice A20 (namedXs E xs ys).length c20] 27)) ⟨a308, a308'⟩ (by omega)
  have q330 := keep2 ((Below.refl w20.heap.size w20).alloc (Nat.le_refl _) (.cells #[.int .i64 (namedE E xs ys), .slice A20 (namedXs E xs ys).length c20] 27)) ⟨a309, a309'⟩ (by omega)
  have q331 := keep2 ((Below.refl w20.heap.size w20).alloc (Nat.le_refl _) (.cells #[.int .i64 (namedE E xs ys), .slice A20 (namedXs E xs ys).length c20] 27)) ⟨a310, a310'⟩ (by omega)
  have q332 := keep2 ((Below.refl w20.heap.size w20).alloc (Nat.le_refl _) (.cells #[.int .i64 (namedE E xs ys), .slice A20 (namedXs E xs ys).length c20] 27)) ⟨a311, a311'⟩ (by omega)
  have o333 := o312.alloc (by omega) (.cells #[.int .i64 (namedE E xs ys), .slice A20 (namedXs E xs ys).length c20] 27)
  have o334 := o313.alloc (by omega) (.cells #[.int .i64 (namedE E xs ys), .slice A20 (namedXs E xs ys).length c20] 27)
  have o335 := o314.alloc (by omega) (.cells #[.int .i64 (namedE E xs ys), .slice A20 (namedXs E xs ys).length c20] 27)
  have o336 := o315.alloc (by omega) (.cells #[.int .i64 (namedE E xs ys), .slice A20 (namedXs E xs ys).length c20] 27)
  have o337 := o316.alloc (by omega) (.cells #[.int .i64 (namedE E xs ys), .slice A20 (namedXs E xs ys).length c20] 27)
  have o338 := o317.alloc (by omega) (.cells #[.int .i64 (namedE E xs ys), .slice A20 (namedXs E xs ys).length c20] 27)
  have o339 := o318.alloc (by omega) (.cells #[.int .i64 (namedE E xs ys), .slice A20 (namedXs E xs ys).length c20] 27)
  have o340 := o319.alloc (by omega) (.cells #[.int .i64 (namedE E xs ys), .slice A20 (namedXs E xs ys).length c20] 27)
  have o341 := o320.alloc (by omega) (.cells #[.int .i64 (namedE E xs ys), .slice A20 (namedXs E xs ys).length c20] 27)
  have o342 := o321.alloc (by omega) (.cells #[.int .i64 (namedE E xs ys), .slice A20 (namedXs E xs ys).length c20] 27)
  have o343 := ho20.alloc (by omega) (.cells #[.int .i64 (namedE E xs ys), .slice A20 (namedXs E xs ys).length c20] 27)
  have B344 := B323.alloc (by omega) (.cells #[.int .i64 (namedE E xs ys), .slice A20 (namedXs E xs ys).length c20] 27)
  obtain ⟨a345, a345'⟩ := q329
  obtain ⟨a346, a346'⟩ := q330
  obtain ⟨a347, a347'⟩ := q331
  obtain ⟨a348, a348'⟩ := q332
  obtain ⟨a349, a349'⟩ := x328
  go_wp2_with fail
  refine (eqCase_yes (namedE E xs ys) A20 A4 c20 c4 (namedXs E xs ys) _ _ _ _ _ o343.ints o335.ints (by first | omega | (simp; omega) | simp) (by first | omega | (simp; omega) | simp) (by omega)).mono ?_
  rintro e w21 ⟨rfl, hb21⟩
  obtain ⟨a350, a350'⟩ := keep2 hb21 ⟨a345, a345'⟩ (by first | omega | (simp; omega) | simp)
  obtain ⟨a351, a351'⟩ := keep2 hb21 ⟨a346, a346'⟩ (by first | omega | (simp; omega) | simp)
  obtain ⟨a352, a352'⟩ := keep2 hb21 ⟨a347, a347'⟩ (by first | omega | (simp; omega) | simp)
  obtain ⟨a353, a353'⟩ := keep2 hb21 ⟨a348, a348'⟩ (by first | omega | (simp; omega) | simp)
  obtain ⟨a354, a354'⟩ := keep2 hb21 ⟨a349, a349'⟩ (by first | omega | (simp; omega) | simp)
  have o355 := o333.below hb21 (by first | omega | (simp; omega) | simp)
  have o356 := o334.below hb21 (by first | omega | (simp; omega) | simp)
  have o357 := o335.below hb21 (by first | omega | (simp; omega) | simp)
  have o358 := o336.below hb21 (by first | omega | (simp; omega) | simp)
  have o359 := o337.below hb21 (by first | omega | (simp; omega) | simp)
  have o360 := o338.below hb21 (by first | omega | (simp; omega) | simp)
  have o361 := o339.below hb21 (by first | omega | (simp; omega) | simp)
  have o362 := o340.below hb21 (by first | omega | (simp; omega) | simp)
  have o363 := o341.below hb21 (by first | omega | (simp; omega) | simp)
  have o364 := o342.below hb21 (by first | omega | (simp; omega) | simp)
  have o365 := o343.below hb21 (by first | omega | (simp; omega) | simp)
  have hz366 := hb21.size
  simp at hz366
  have B367 := B344.trans (hb21.mono (by first | omega | (simp; omega) | simp))
  clear hb21
  have z368 : w.heap.size < w21.heap.size := by omega
  have z369 : w4.heap.size < w21.heap.size := by omega
  have z370 : w5.heap.size < w21.heap.size := by omega
  have z371 : w7.heap.size < w21.heap.size := by omega
  have z372 : w20.heap.size < w21.heap.size := by omega
  go_wp2_with fail
  refine (heldCase_any (namedE E xs ys) A7 c7 (namedXs E xs ys).length 1 _ _ _ o360.ints (by first | omega | (simp; omega) | simp) hR (by omega) (by omega)).mono ?_
  rintro e w22 ⟨rfl, hb22⟩
  obtain ⟨a373, a373'⟩ := keep2 hb22 ⟨a350, a350'⟩ (by first | omega | (simp; omega) | simp)
  obtain ⟨a374, a374'⟩ := keep2 hb22 ⟨a351, a351'⟩ (by first | omega | (simp; omega) | simp)
  obtain ⟨a375, a375'⟩ := keep2 hb22 ⟨a352, a352'⟩ (by first | omega | (simp; omega) | simp)
  obtain ⟨a376, a376'⟩ := keep2 hb22 ⟨a353, a353'⟩ (by first | omega | (simp; omega) | simp)
  obtain ⟨a377, a377'⟩ := keep2 hb22 ⟨a354, a354'⟩ (by first | omega | (simp; omega) | simp)
  have o378 := o355.below hb22 (by first | omega | (simp; omega) | simp)
  have o379 := o356.below hb22 (by first | omega | (simp; omega) | simp)
  have o380 := o357.below hb22 (by first | omega | (simp; omega) | simp)
  have o381 := o358.below hb22 (by first | omega | (simp; omega) | simp)
  have o382 := o359.below hb22 (by first | omega | (simp; omega) | simp)
  have o383 := o360.below hb22 (by first | omega | (simp; omega) | simp)
  have o384 := o361.below hb22 (by first | omega | (simp; omega) | simp)
  have o385 := o362.below hb22 (by first | omega | (simp; omega) | simp)
  have o386 := o363.below hb22 (by first | omega | (simp; omega) | simp)
  have o387 := o364.below hb22 (by first | omega | (simp; omega) | simp)
  have o388 := o365.below hb22 (by first | omega | (simp; omega) | simp)
  have hz389 := hb22.size
  have B390 := B367.trans (hb22.mono (by first | omega | (simp; omega) | simp))
  clear hb22
  have z391 : w.heap.size < w22.heap.size := by omega
  have z392 : w4.heap.size < w22.heap.size := by omega
  have z393 : w5.heap.size < w22.heap.size := by omega
  have z394 : w7.heap.size < w22.heap.size := by omega
  have z395 : w20.heap.size < w22.heap.size := by omega
  go_wp2
  go_ret
  exact ⟨rfl, B390⟩

set_option maxHeartbeats 400000 in
theorem exNamedCase_big (E : Int) (A : Option Addr) (c : Nat) (xs : List Int) (D : Option Addr) (d : Nat) (ys : List Int) (w : World) (hl : ¬ xs.length ≤ 1048576) (hm : xs.length ≤ 9223372036854775807) (hl' : ys.length ≤ 1048576) :
    Calls Try.prog 9 #[.agg #[.int .i64 E, .slice A xs.length c], .slice D ys.length d] w fun e w' => e = .returned (.bool true) ∧ Below w.heap.size w w' := by
  have B0 := (Below.refl w.heap.size w).alloc (Nat.le_refl _) (.cells #[.int .i64 E, .slice A xs.length c] 24)
  go_enter Try.func9, Try.ntmps9
  go_wp2_with fail
  refine (szCase_no E A c xs.length 1048576 _ (by omega) (by omega) hm).mono ?_
  rintro e w1 ⟨rfl, hb1⟩
  go_wp2
  go_ret
  exact ⟨rfl, B0.trans (hb1.mono (by simp))⟩

set_option maxHeartbeats 400000 in
theorem exNamedCase_big2 (E : Int) (A : Option Addr) (c : Nat) (xs : List Int) (D : Option Addr) (d : Nat) (ys : List Int) (w : World) (hl' : ¬ ys.length ≤ 1048576) (hm' : ys.length ≤ 9223372036854775807) :
    Calls Try.prog 9 #[.agg #[.int .i64 E, .slice A xs.length c], .slice D ys.length d] w fun e w' => e = .returned (.bool true) ∧ Below w.heap.size w w' := by
  have B0 := (Below.refl w.heap.size w).alloc (Nat.le_refl _) (.cells #[.int .i64 E, .slice A xs.length c] 24)
  go_enter Try.func9, Try.ntmps9
  go_wp2
  go_ret
  exact ⟨rfl, B0⟩

theorem exNamedCase_all (E : Int) (A : Option Addr) (c : Nat) (xs : List Int) (D : Option Addr) (d : Nat) (ys : List Int) (w : World) (h : Ints w 0 w.heap.size A xs) (h' : Ints w 0 w.heap.size D ys) (hm : xs.length ≤ 9223372036854775807) (hm' : ys.length ≤ 9223372036854775807) :
    Calls Try.prog 9 #[.agg #[.int .i64 E, .slice A xs.length c], .slice D ys.length d] w fun e w' => e = .returned (.bool true) ∧ Below w.heap.size w w' := by
  by_cases hl' : ys.length ≤ 1048576
  · by_cases hl : xs.length ≤ 1048576
    · exact exNamedCase_walk E A c xs D d ys w h h' hl hl'
    · exact exNamedCase_big E A c xs D d ys w hl hm hl'
  · exact exNamedCase_big2 E A c xs D d ys w hl' hm'

end Go.Proofs.Ytipcmpcoeeipoab
