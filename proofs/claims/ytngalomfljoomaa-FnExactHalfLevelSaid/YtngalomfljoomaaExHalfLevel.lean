/-
  The exact law of HalfLevel returns true, and writes nothing that was there. No condition.
-/
import Derived.Test.YtngalomfljoomaaExactCase
import Derived.Test.YtngalomfljoomaaHalfI
import Derived.Deep.RegionHeld3
namespace Go.Proofs.Ytngalomfljoomaa
open Go.RowKit

set_option maxRecDepth 10000 in
set_option maxHeartbeats 1600000 in
theorem exHalfLevel_walk (E : Int) (A : Option Addr) (c : Nat) (xs : List Int) (w : World) (h : Ints w 0 w.heap.size A xs) (hl : xs.length ≤ 1048576) :
    Calls Try.prog 9 #[.agg #[.int .i64 E, .slice A xs.length c]] w fun e w' => e = .returned (.bool true) ∧ Below w.heap.size w w' := by
  have x1 := new2 w (.int .i64 E) (.slice A xs.length c) 41
  have B2 := (Below.refl w.heap.size w).alloc (Nat.le_refl _) (.cells #[.int .i64 E, .slice A xs.length c] 41)
  go_enter Try.func9, Try.ntmps9
  obtain ⟨a3, a3'⟩ := x1
  go_wp2_with fail
  refine (szCase_yes E A c xs.length 1048576 _ (by omega) (by omega)).mono ?_
  rintro e w1 ⟨rfl, hb1⟩
  obtain ⟨a4, a4'⟩ := keep2 hb1 ⟨a3, a3'⟩ (by first | omega | (simp; omega) | simp)
  have hz5 := hb1.size
  simp at hz5
  have B6 := B2.trans (hb1.mono (by first | omega | (simp; omega) | simp))
  clear hb1
  have z7 : w.heap.size < w1.heap.size := by omega
  have e8 : ¬ (1048576 - (xs.length : Int) < 0) := by omega
  go_wp2_with fail
  refine (toCase_any E A c xs _ 0 w.heap.size (h.below B6 (Nat.le_refl _)) (by first | omega | (simp; omega) | simp) hl).mono ?_
  rintro e w2 ⟨A2, c2, rfl, ho2, hb2⟩
  obtain ⟨a9, a9'⟩ := keep2 hb2 ⟨a4, a4'⟩ (by first | omega | (simp; omega) | simp)
  have hz10 := hb2.size
  have B11 := B6.trans (hb2.mono (by first | omega | (simp; omega) | simp))
  clear hb2
  have z12 : w.heap.size < w2.heap.size := by omega
  go_wp2_with fail
  refine (specHalfLevel_any E A2 c2 xs _ _ _ ho2.ints (by first | omega | (simp; omega) | simp) (by omega)).mono ?_
  rintro e w3 ⟨rfl, hb3⟩
  obtain ⟨a13, a13'⟩ := keep2 hb3 ⟨a9, a9'⟩ (by first | omega | (simp; omega) | simp)
  have o14 := ho2.below hb3 (by first | omega | (simp; omega) | simp)
  have hz15 := hb3.size
  have B16 := B11.trans (hb3.mono (by first | omega | (simp; omega) | simp))
  clear hb3
  have z17 : w.heap.size < w3.heap.size := by omega
  go_wp2_with fail
  refine (toCase_any E A c xs _ 0 w.heap.size (h.below B16 (Nat.le_refl _)) (by first | omega | (simp; omega) | simp) hl).mono ?_
  rintro e w4 ⟨A4, c4, rfl, ho4, hb4⟩
  obtain ⟨a18, a18'⟩ := keep2 hb4 ⟨a13, a13'⟩ (by first | omega | (simp; omega) | simp)
  have o19 := o14.below hb4 (by first | omega | (simp; omega) | simp)
  have hz20 := hb4.size
  have B21 := B16.trans (hb4.mono (by first | omega | (simp; omega) | simp))
  clear hb4
  have z22 : w.heap.size < w4.heap.size := by omega
  have x23 := new2 w4 (.int .i64 E) (.slice A4 xs.length c4) 25
  have q24 := keep2 ((Below.refl w4.heap.size w4).alloc (Nat.le_refl _) (.cells #[.int .i64 E, .slice A4 xs.length c4] 25)) ⟨a18, a18'⟩ (by omega)
  have o25 := o19.alloc (by omega) (.cells #[.int .i64 E, .slice A4 xs.length c4] 25)
  have o26 := ho4.alloc (by omega) (.cells #[.int .i64 E, .slice A4 xs.length c4] 25)
  have B27 := B21.alloc (by omega) (.cells #[.int .i64 E, .slice A4 xs.length c4] 25)
  obtain ⟨a28, a28'⟩ := q24
  obtain ⟨a29, a29'⟩ := x23
  go_wp2_with fail
  refine (implHalfLevel_any E A4 c4 xs _ _ _ o26.ints (by first | omega | (simp; omega) | simp) (by omega)).mono ?_
  rintro e w5 ⟨rfl, hb5⟩
  obtain ⟨a30, a30'⟩ := keep2 hb5 ⟨a28, a28'⟩ (by first | omega | (simp; omega) | simp)
  obtain ⟨a31, a31'⟩ := keep2 hb5 ⟨a29, a29'⟩ (by first | omega | (simp; omega) | simp)
  have o32 := o25.below hb5 (by first | omega | (simp; omega) | simp)
  have o33 := o26.below hb5 (by first | omega | (simp; omega) | simp)
  have hz34 := hb5.size
  simp at hz34
  have B35 := B27.trans (hb5.mono (by first | omega | (simp; omega) | simp))
  clear hb5
  have z36 : w.heap.size < w5.heap.size := by omega
  have z37 : w4.heap.size < w5.heap.size := by omega
  have e38 : (halfLvl E xs != halfLvl E xs) = false := by simp
  go_wp2_with fail
  have zz39 : w.heap.size ≤ w5.heap.size := by omega
  go_region_held3 (fun w' => w'.cell? ⟨w.heap.size, 0, none⟩ = some (.int .i64 E) ∧ w'.cell? ⟨w.heap.size, 1, none⟩ = some (.slice A xs.length c) ∧ w'.cell? ⟨w4.heap.size, 0, none⟩ = some (.int .i64 E) ∧ w'.cell? ⟨w4.heap.size, 1, none⟩ = some (.slice A4 xs.length c4)) (first | exact ⟨a48, a48', a49, a49'⟩ | exact ⟨a40, a40', a41, a41'⟩ | go_keep)
    (first
      | (go_at_call 34
         refine (toCase_any E A c xs _ 0 w.heap.size (h.below B35.drew (Nat.le_refl _)) (by exact zz39) hl).mono ?_
         rintro e w6 ⟨A6, c6, rfl, ho6, hbq6⟩
         have hb6 : Below w5.heap.size w5 w6 := (Below.refl _ w5).drew.trans (hbq6.mono (by exact Nat.le_refl _))
         have hp6 : Own w6 w5.heap.size w6.heap.size A6 (xs) := ho6.more (by exact Nat.le_refl _) (Nat.le_refl _)
         obtain ⟨a40, a40'⟩ := keep2 hb6 ⟨a30, a30'⟩ (by first | omega | (simp; omega) | simp)
         obtain ⟨a41, a41'⟩ := keep2 hb6 ⟨a31, a31'⟩ (by first | omega | (simp; omega) | simp)
         have o42 := o32.below hb6 (by first | omega | (simp; omega) | simp)
         have o43 := o33.below hb6 (by first | omega | (simp; omega) | simp)
         have hz44 := hb6.size
         have B45 := B35.trans (hb6.mono (by first | omega | (simp; omega) | simp))
         clear hb6
         have z46 : w.heap.size < w6.heap.size := by omega
         have z47 : w4.heap.size < w6.heap.size := by omega)
      | (go_at_call 36
         refine (eqCase_yes E A4 A6 c4 c6 xs _ _ _ _ _ o43.ints hp6.ints (by omega) (by omega) (by omega)).mono ?_
         rintro e w7 ⟨rfl, hb7⟩
         obtain ⟨a48, a48'⟩ := keep2 hb7 ⟨a40, a40'⟩ (by first | omega | (simp; omega) | simp)
         obtain ⟨a49, a49'⟩ := keep2 hb7 ⟨a41, a41'⟩ (by first | omega | (simp; omega) | simp)
         have o50 := o42.below hb7 (by first | omega | (simp; omega) | simp)
         have o51 := o43.below hb7 (by first | omega | (simp; omega) | simp)
         have o52 := hp6.below hb7 (by first | omega | (simp; omega) | simp)
         have hz53 := hb7.size
         have B54 := B45.trans (hb7.mono (by first | omega | (simp; omega) | simp))
         clear hb7
         have z55 : w.heap.size < w7.heap.size := by omega
         have z56 : w4.heap.size < w7.heap.size := by omega))
  go_wp2
  go_ret
  exact ⟨rfl, B54⟩

set_option maxRecDepth 10000 in
set_option maxHeartbeats 400000 in
theorem exHalfLevel_big (E : Int) (A : Option Addr) (c : Nat) (xs : List Int) (w : World) (hl : ¬ xs.length ≤ 1048576) (hm : xs.length ≤ 9223372036854775807) :
    Calls Try.prog 9 #[.agg #[.int .i64 E, .slice A xs.length c]] w fun e w' => e = .returned (.bool true) ∧ Below w.heap.size w w' := by
  have B0 := (Below.refl w.heap.size w).alloc (Nat.le_refl _) (.cells #[.int .i64 E, .slice A xs.length c] 41)
  go_enter Try.func9, Try.ntmps9
  go_wp2_with fail
  refine (szCase_no E A c xs.length 1048576 _ (by omega) (by omega) hm).mono ?_
  rintro e w1 ⟨rfl, hb1⟩
  go_wp2
  go_ret
  exact ⟨rfl, B0.trans (hb1.mono (by simp))⟩

theorem exHalfLevel_all (E : Int) (A : Option Addr) (c : Nat) (xs : List Int) (w : World) (h : Ints w 0 w.heap.size A xs) (hm : xs.length ≤ 9223372036854775807) :
    Calls Try.prog 9 #[.agg #[.int .i64 E, .slice A xs.length c]] w fun e w' => e = .returned (.bool true) ∧ Below w.heap.size w w' := by
  by_cases hl : xs.length ≤ 1048576
  · exact exHalfLevel_walk E A c xs w h hl
  · exact exHalfLevel_big E A c xs w hl hm

end Go.Proofs.Ytngalomfljoomaa
