/-
  The exact law of PairsOk returns true, and writes nothing that was there. No condition.
-/
import Derived.Test.YtbegdcnljafloaaExactCase
import Derived.Test.YtbegdcnljafloaaAgreeI
import Derived.Deep.RegionHeld3
namespace Go.Proofs.Ytbegdcnljafloaa
open Go.RowKit

set_option maxRecDepth 10000 in
set_option maxHeartbeats 1600000 in
theorem exPairsOk_walk (E : Int) (A : Option Addr) (c : Nat) (xs : List Int) (D : Option Addr) (d : Nat) (ys : List Int) (w : World) (h : Ints w 0 w.heap.size A xs) (h' : Ints w 0 w.heap.size D ys) (hl : xs.length ≤ 1048576) (hl' : ys.length ≤ 1048576) :
    Calls Try.prog 10 #[.agg #[.int .i64 E, .slice A xs.length c], .slice D ys.length d] w fun e w' => e = .returned (.bool true) ∧ Below w.heap.size w w' := by
  have x1 := new2 w (.int .i64 E) (.slice A xs.length c) 45
  have B2 := (Below.refl w.heap.size w).alloc (Nat.le_refl _) (.cells #[.int .i64 E, .slice A xs.length c] 45)
  go_enter Try.func10, Try.ntmps10
  obtain ⟨a3, a3'⟩ := x1
  go_wp2_with fail
  refine (szCase_yes E A c xs.length 1048576 _ (by omega) (by omega)).mono ?_
  rintro e w1 ⟨rfl, hb1⟩
  obtain ⟨a4, a4'⟩ := keep2 hb1 ⟨a3, a3'⟩ (by first | omega | (simp; omega) | simp)
  have hz5 := hb1.size
  simp at hz5
  have B6 := B2.trans (hb1.mono (by first | omega | (simp; omega) | simp))
  clear hb1
  have z7 : w.heap.size < w1.heap.size := by omega
  have e8 : ¬ (1048576 - (xs.length : Int) < 0) := by omega
  go_wp2_with fail
  refine (toCase_any E A c xs _ 0 w.heap.size (h.below B6 (Nat.le_refl _)) (by first | omega | (simp; omega) | simp) hl).mono ?_
  rintro e w2 ⟨A2, c2, rfl, ho2, hb2⟩
  obtain ⟨a9, a9'⟩ := keep2 hb2 ⟨a4, a4'⟩ (by first | omega | (simp; omega) | simp)
  have hz10 := hb2.size
  have B11 := B6.trans (hb2.mono (by first | omega | (simp; omega) | simp))
  clear hb2
  have z12 : w.heap.size < w2.heap.size := by omega
  go_wp2_with fail
  refine (toIntS_any D d ys _ 0 w.heap.size (h'.below B11 (Nat.le_refl _)) (by first | omega | (simp; omega) | simp) hl').mono ?_
  rintro e w3 ⟨A3, c3, rfl, ho3, hb3⟩
  obtain ⟨a13, a13'⟩ := keep2 hb3 ⟨a9, a9'⟩ (by first | omega | (simp; omega) | simp)
  have o14 := ho2.below hb3 (by first | omega | (simp; omega) | simp)
  have hz15 := hb3.size
  have B16 := B11.trans (hb3.mono (by first | omega | (simp; omega) | simp))
  clear hb3
  have z17 : w.heap.size < w3.heap.size := by omega
  go_wp2_with fail
  refine (specPairsOk_any E A2 c2 xs A3 c3 ys _ _ _ o14.ints (by first | omega | (simp; omega) | simp) (by omega) _ _ ho3.ints (by first | omega | (simp; omega) | simp) (by omega)).mono ?_
  rintro e w4 ⟨rfl, hb4⟩
  obtain ⟨a18, a18'⟩ := keep2 hb4 ⟨a13, a13'⟩ (by first | omega | (simp; omega) | simp)
  have o19 := o14.below hb4 (by first | omega | (simp; omega) | simp)
  have o20 := ho3.below hb4 (by first | omega | (simp; omega) | simp)
  have hz21 := hb4.size
  have B22 := B16.trans (hb4.mono (by first | omega | (simp; omega) | simp))
  clear hb4
  have z23 : w.heap.size < w4.heap.size := by omega
  go_wp2_with fail
  refine (toCase_any E A c xs _ 0 w.heap.size (h.below B22 (Nat.le_refl _)) (by first | omega | (simp; omega) | simp) hl).mono ?_
  rintro e w5 ⟨A5, c5, rfl, ho5, hb5⟩
  obtain ⟨a24, a24'⟩ := keep2 hb5 ⟨a18, a18'⟩ (by first | omega | (simp; omega) | simp)
  have o25 := o19.below hb5 (by first | omega | (simp; omega) | simp)
  have o26 := o20.below hb5 (by first | omega | (simp; omega) | simp)
  have hz27 := hb5.size
  have B28 := B22.trans (hb5.mono (by first | omega | (simp; omega) | simp))
  clear hb5
  have z29 : w.heap.size < w5.heap.size := by omega
  have x30 := new2 w5 (.int .i64 E) (.slice A5 xs.length c5) 31
  have q31 := keep2 ((Below.refl w5.heap.size w5).alloc (Nat.le_refl _) (.cells #[.int .i64 E, .slice A5 xs.length c5] 31)) ⟨a24, a24'⟩ (by omega)
  have o32 := o25.alloc (by omega) (.cells #[.int .i64 E, .slice A5 xs.length c5] 31)
  have o33 := o26.alloc (by omega) (.cells #[.int .i64 E, .slice A5 xs.length c5] 31)
  have o34 := ho5.alloc (by omega) (.cells #[.int .i64 E, .slice A5 xs.length c5] 31)
  have B35 := B28.alloc (by omega) (.cells #[.int .i64 E, .slice A5 xs.length c5] 31)
  obtain ⟨a36, a36'⟩ := q31
  obtain ⟨a37, a37'⟩ := x30
  go_wp2_with fail
  refine (toIntS_any D d ys _ 0 w.heap.size (h'.below B35 (Nat.le_refl _)) (by first | omega | (simp; omega) | simp) hl').mono ?_
  rintro e w6 ⟨A6, c6, rfl, ho6, hb6⟩
  have hp6 : Own w6 (w5.heap.size + 1) w6.heap.size A6 (ys) := ho6.more (by simp) (Nat.le_refl _)
  obtain ⟨a38, a38'⟩ := keep2 hb6 ⟨a36, a36'⟩ (by first | omega | (simp; omega) | simp)
  obtain ⟨a39, a39'⟩ := keep2 hb6 ⟨a37, a37'⟩ (by first | omega | (simp; omega) | simp)
  have o40 := o32.below hb6 (by first | omega | (simp; omega) | simp)
  have o41 := o33.below hb6 (by first | omega | (simp; omega) | simp)
  have o42 := o34.below hb6 (by first | omega | (simp; omega) | simp)
  have hz43 := hb6.size
  simp at hz43
  have B44 := B35.trans (hb6.mono (by first | omega | (simp; omega) | simp))
  clear hb6
  have z45 : w.heap.size < w6.heap.size := by omega
  have z46 : w5.heap.size < w6.heap.size := by omega
  go_wp2_with fail
  refine (implPairsOk_any E A5 c5 xs A6 c6 ys _ _ _ o42.ints (by first | omega | (simp; omega) | simp) (by omega) _ _ hp6.ints (by first | omega | (simp; omega) | simp) (by omega)).mono ?_
  rintro e w7 ⟨rfl, hb7⟩
  obtain ⟨a47, a47'⟩ := keep2 hb7 ⟨a38, a38'⟩ (by first | omega | (simp; omega) | simp)
  obtain ⟨a48, a48'⟩ := keep2 hb7 ⟨a39, a39'⟩ (by first | omega | (simp; omega) | simp)
  have o49 := o40.below hb7 (by first | omega | (simp; omega) | simp)
  have o50 := o41.below hb7 (by first | omega | (simp; omega) | simp)
  have o51 := o42.below hb7 (by first | omega | (simp; omega) | simp)
  have o52 := hp6.below hb7 (by first | omega | (simp; omega) | simp)
  have hz53 := hb7.size
  have B54 := B44.trans (hb7.mono (by first | omega | (simp; omega) | simp))
  clear hb7
  have z55 : w.heap.size < w7.heap.size := by omega
  have z56 : w5.heap.size < w7.heap.size := by omega
  have e57 : (agreeB E xs ys != agreeB E xs ys) = false := by simp
  go_wp2_with fail
  have zz58 : w.heap.size ≤ w7.heap.size := by omega
  go_region_held3 (fun w' => w'.cell? ⟨w.heap.size, 0, none⟩ = some (.int .i64 E) ∧ w'.cell? ⟨w.heap.size, 1, none⟩ = some (.slice A xs.length c) ∧ w'.cell? ⟨w5.heap.size, 0, none⟩ = some (.int .i64 E) ∧ w'.cell? ⟨w5.heap.size, 1, none⟩ = some (.slice A5 xs.length c5)) (first | exact ⟨a69, a69', a70, a70'⟩ | exact ⟨a59, a59', a60, a60'⟩ | go_keep)
    (first
      | (go_at_call 38
         refine (toCase_any E A c xs _ 0 w.heap.size (h.below B54.drew (Nat.le_refl _)) (by exact zz58) hl).mono ?_
         rintro e w8 ⟨A8, c8, rfl, ho8, hbq8⟩
         have hb8 : Below w7.heap.size w7 w8 := (Below.refl _ w7).drew.trans (hbq8.mono (by exact Nat.le_refl _))
         have hp8 : Own w8 w7.heap.size w8.heap.size A8 (xs) := ho8.more (by exact Nat.le_refl _) (Nat.le_refl _)
         obtain ⟨a59, a59'⟩ := keep2 hb8 ⟨a47, a47'⟩ (by first | omega | (simp; omega) | simp)
         obtain ⟨a60, a60'⟩ := keep2 hb8 ⟨a48, a48'⟩ (by first | omega | (simp; omega) | simp)
         have o61 := o49.below hb8 (by first | omega | (simp; omega) | simp)
         have o62 := o50.below hb8 (by first | omega | (simp; omega) | simp)
         have o63 := o51.below hb8 (by first | omega | (simp; omega) | simp)
         have o64 := o52.below hb8 (by first | omega | (simp; omega) | simp)
         have hz65 := hb8.size
         have B66 := B54.trans (hb8.mono (by first | omega | (simp; omega) | simp))
         clear hb8
         have z67 : w.heap.size < w8.heap.size := by omega
         have z68 : w5.heap.size < w8.heap.size := by omega)
      | (go_at_call 39
         refine (eqCase_yes E A5 A8 c5 c8 xs _ _ _ _ _ o63.ints hp8.ints (by omega) (by omega) (by omega)).mono ?_
         rintro e w9 ⟨rfl, hb9⟩
         obtain ⟨a69, a69'⟩ := keep2 hb9 ⟨a59, a59'⟩ (by first | omega | (simp; omega) | simp)
         obtain ⟨a70, a70'⟩ := keep2 hb9 ⟨a60, a60'⟩ (by first | omega | (simp; omega) | simp)
         have o71 := o61.below hb9 (by first | omega | (simp; omega) | simp)
         have o72 := o62.below hb9 (by first | omega | (simp; omega) | simp)
         have o73 := o63.below hb9 (by first | omega | (simp; omega) | simp)
         have o74 := o64.below hb9 (by first | omega | (simp; omega) | simp)
         have o75 := hp8.below hb9 (by first | omega | (simp; omega) | simp)
         have hz76 := hb9.size
         have B77 := B66.trans (hb9.mono (by first | omega | (simp; omega) | simp))
         clear hb9
         have z78 : w.heap.size < w9.heap.size := by omega
         have z79 : w5.heap.size < w9.heap.size := by omega))
  go_wp2_with fail
  refine (toIntS_any D d ys _ 0 w.heap.size (h'.below B77 (Nat.le_refl _)) (by first | omega | (simp; omega) | simp) hl').mono ?_
  rintro e w10 ⟨A10, c10, rfl, ho10, hb10⟩
  obtain ⟨a80, a80'⟩ := keep2 hb10 ⟨a69, a69'⟩ (by first | omega | (simp; omega) | simp)
  obtain ⟨a81, a81'⟩ := keep2 hb10 ⟨a70, a70'⟩ (by first | omega | (simp; omega) | simp)
  have o82 := o71.below hb10 (by first | omega | (simp; omega) | simp)
  have o83 := o72.below hb10 (by first | omega | (simp; omega) | simp)
  have o84 := o73.below hb10 (by first | omega | (simp; omega) | simp)
  have o85 := o74.below hb10 (by first | omega | (simp; omega) | simp)
  have o86 := o75.below hb10 (by first | omega | (simp; omega) | simp)
  have hz87 := hb10.size
  have B88 := B77.trans (hb10.mono (by first | omega | (simp; omega) | simp))
  clear hb10
  have z89 : w.heap.size < w10.heap.size := by omega
  have z90 : w5.heap.size < w10.heap.size := by omega
  go_wp2_with fail
  refine (eqIntS_same A6 A10 c6 c10 ys _ _ _ _ _ o85.ints ho10.ints (by omega)).mono ?_
  rintro e w11 ⟨rfl, hb11⟩
  obtain ⟨a91, a91'⟩ := keep2 hb11 ⟨a80, a80'⟩ (by first | omega | (simp; omega) | simp)
  obtain ⟨a92, a92'⟩ := keep2 hb11 ⟨a81, a81'⟩ (by first | omega | (simp; omega) | simp)
  have o93 := o82.below hb11 (by first | omega | (simp; omega) | simp)
  have o94 := o83.below hb11 (by first | omega | (simp; omega) | simp)
  have o95 := o84.below hb11 (by first | omega | (simp; omega) | simp)
  have o96 := o85.below hb11 (by first | omega | (simp; omega) | simp)
  have o97 := o86.below hb11 (by first | omega | (simp; omega) | simp)
  have o98 := ho10.below hb11 (by first | omega | (simp; omega) | simp)
  have hz99 := hb11.size
  have B100 := B88.trans (hb11.mono (by first | omega | (simp; omega) | simp))
  clear hb11
  have z101 : w.heap.size < w11.heap.size := by omega
  have z102 : w5.heap.size < w11.heap.size := by omega
  go_wp2
  go_ret
  exact ⟨rfl, B100⟩

set_option maxRecDepth 10000 in
set_option maxHeartbeats 400000 in
theorem exPairsOk_big (E : Int) (A : Option Addr) (c : Nat) (xs : List Int) (D : Option Addr) (d : Nat) (ys : List Int) (w : World) (hl : ¬ xs.length ≤ 1048576) (hm : xs.length ≤ 9223372036854775807) (hl' : ys.length ≤ 1048576) :
    Calls Try.prog 10 #[.agg #[.int .i64 E, .slice A xs.length c], .slice D ys.length d] w fun e w' => e = .returned (.bool true) ∧ Below w.heap.size w w' := by
  have B0 := (Below.refl w.heap.size w).alloc (Nat.le_refl _) (.cells #[.int .i64 E, .slice A xs.length c] 45)
  go_enter Try.func10, Try.ntmps10
  go_wp2_with fail
  refine (szCase_no E A c xs.length 1048576 _ (by omega) (by omega) hm).mono ?_
  rintro e w1 ⟨rfl, hb1⟩
  go_wp2
  go_ret
  exact ⟨rfl, B0.trans (hb1.mono (by simp))⟩

set_option maxRecDepth 10000 in
set_option maxHeartbeats 400000 in
theorem exPairsOk_big2 (E : Int) (A : Option Addr) (c : Nat) (xs : List Int) (D : Option Addr) (d : Nat) (ys : List Int) (w : World) (hl' : ¬ ys.length ≤ 1048576) (hm' : ys.length ≤ 9223372036854775807) :
    Calls Try.prog 10 #[.agg #[.int .i64 E, .slice A xs.length c], .slice D ys.length d] w fun e w' => e = .returned (.bool true) ∧ Below w.heap.size w w' := by
  have B0 := (Below.refl w.heap.size w).alloc (Nat.le_refl _) (.cells #[.int .i64 E, .slice A xs.length c] 45)
  go_enter Try.func10, Try.ntmps10
  go_wp2
  go_ret
  exact ⟨rfl, B0⟩

theorem exPairsOk_all (E : Int) (A : Option Addr) (c : Nat) (xs : List Int) (D : Option Addr) (d : Nat) (ys : List Int) (w : World) (h : Ints w 0 w.heap.size A xs) (h' : Ints w 0 w.heap.size D ys) (hm : xs.length ≤ 9223372036854775807) (hm' : ys.length ≤ 9223372036854775807) :
    Calls Try.prog 10 #[.agg #[.int .i64 E, .slice A xs.length c], .slice D ys.length d] w fun e w' => e = .returned (.bool true) ∧ Below w.heap.size w w' := by
  by_cases hl' : ys.length ≤ 1048576
  · by_cases hl : xs.length ≤ 1048576
    · exact exPairsOk_walk E A c xs D d ys w h h' hl hl'
    · exact exPairsOk_big E A c xs D d ys w hl hm hl'
  · exact exPairsOk_big2 E A c xs D d ys w hl' hm'

end Go.Proofs.Ytbegdcnljafloaa
