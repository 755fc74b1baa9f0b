/-
  The exact law of CaseOk returns true, and writes nothing that was there. No condition.
-/
import Derived.Test.YtipcmpcoeeipoabExactCase
import Derived.Test.YtipcmpcoeeipoabCaseOk
import Derived.Deep.RegionHeld3
namespace Go.Proofs.Ytipcmpcoeeipoab
open Go.RowKit

set_option maxHeartbeats 400000 in
theorem exCaseOk_walk (E : Int) (A : Option Addr) (c : Nat) (xs : List Int) (w : World) (h : Ints w 0 w.heap.size A xs) (hl : xs.length ≤ 1048576) :
    Calls Try.prog 3 #[.agg #[.int .i64 E, .slice A xs.length c]] w fun e w' => e = .returned (.bool true) ∧ Below w.heap.size w w' := by
  have B0 := (Below.refl w.heap.size w).alloc (Nat.le_refl _) (.cells #[.int .i64 E, .slice A xs.length c] 24)
  have a0 := new2 w (.int .i64 E) (.slice A xs.length c) 24
  go_enter Try.func3, Try.ntmps3
  go_wp2_with fail
  refine (szCase_yes E A c xs.length 1048576 _ (by omega) (by omega)).mono ?_
  rintro e w1 ⟨rfl, hb1⟩
  obtain ⟨a1, a1'⟩ := keep2 hb1 a0 (by simp)
  have hz1 := hb1.size
  simp at hz1
  have z1 : w.heap.size < w1.heap.size := by omega
  have B1 := B0.trans (hb1.mono (by simp))
  have s1 : ¬ (1048576 - (xs.length : Int) < 0) := by omega
  clear hb1 B0 a0
  go_wp2_with fail
  refine (toCase_any E A c xs _ 0 w.heap.size (h.below B1 (Nat.le_refl _)) (by omega) hl).mono ?_
  rintro e w2 ⟨A2, c2, rfl, ho2, hb2⟩
  obtain ⟨a2, a2'⟩ := keep2 hb2 ⟨a1, a1'⟩ (by omega)
  have hz2 := hb2.size
  have z2 : w.heap.size < w2.heap.size := by omega
  have B2 := B1.trans (hb2.mono (by omega))
  clear hb2
  go_wp2_with fail
  refine (specCaseOk_any E A2 c2 xs _ _ _ ho2.ints (by omega) (by omega)).mono ?_
  rintro e w3 ⟨rfl, hb3⟩
  obtain ⟨a3, a3'⟩ := keep2 hb3 ⟨a2, a2'⟩ (by omega)
  have hz3 := hb3.size
  have z3 : w.heap.size < w3.heap.size := by omega
  have B3 := B2.trans (hb3.mono (by omega))
  clear hb3 ho2
  go_wp2_with fail
  refine (toCase_any E A c xs _ 0 w.heap.size (h.below B3 (Nat.le_refl _)) (by omega) hl).mono ?_
  rintro e w4 ⟨A4, c4, rfl, ho4, hb4⟩
  obtain ⟨a4, a4'⟩ := keep2 hb4 ⟨a3, a3'⟩ (by omega)
  have hz4 := hb4.size
  have z4 : w.heap.size < w4.heap.size := by omega
  have B4 := (B3.trans (hb4.mono (by omega))).alloc (by omega) (.cells #[.int .i64 E, .slice A4 xs.length c4] 27)
  have o4 := ho4.alloc (by omega) (.cells #[.int .i64 E, .slice A4 xs.length c4] 27)
  have x4 := new2 w4 (.int .i64 E) (.slice A4 xs.length c4) 27
  have a4n := keep2 ((Below.refl w4.heap.size w4).alloc (Nat.le_refl _) (.cells #[.int .i64 E, .slice A4 xs.length c4] 27)) ⟨a4, a4'⟩ z4
  clear hb4 ho4
  go_wp2_with fail
  refine (implCaseOk_any E A4 c4 xs _ _ _ o4.ints (by simp) (by omega)).mono ?_
  rintro e w5 ⟨rfl, hb5⟩
  obtain ⟨a5, a5'⟩ := keep2 hb5 a4n (by simp; omega)
  obtain ⟨x5, x5'⟩ := keep2 hb5 x4 (by simp)
  have hz5 := hb5.size
  simp at hz5
  have z5 : w.heap.size < w5.heap.size := by omega
  have y5 : w4.heap.size < w5.heap.size := by omega
  have B5 := B4.trans (hb5.mono (by simp; omega))
  have o5 := o4.below hb5 (by simp)
  clear hb5 B4 o4 x4 a4n
  have hX : (caseOkB E xs != caseOkB E xs) = false := by simp
  go_wp2_with fail
  go_region_held3 (fun w' => w'.cell? ⟨w.heap.size, 0, none⟩ = some (.int .i64 E) ∧ w'.cell? ⟨w.heap.size, 1, none⟩ = some (.slice A xs.length c) ∧ w'.cell? ⟨w4.heap.size, 0, none⟩ = some (.int .i64 E) ∧ w'.cell? ⟨w4.heap.size, 1, none⟩ = some (.slice A4 xs.length c4)) (first | exact ⟨a7, a7', x7, x7'⟩ | exact ⟨a6, a6', x6, x6'⟩ | go_keep)
    (first
      | (go_at_call 14
         refine (toCase_any E A c xs _ 0 w.heap.size (h.below B5.drew (Nat.le_refl _)) (by exact Nat.le_of_lt z5) hl).mono ?_
         rintro e w6 ⟨A6, c6, rfl, ho6, hb6'⟩
         have hb6 : Below w5.heap.size w5 w6 := (Below.refl _ w5).drew.trans (hb6'.mono (by exact Nat.le_refl _))
         obtain ⟨a6, a6'⟩ := keep2 hb6 ⟨a5, a5'⟩ (by omega)
         obtain ⟨x6, x6'⟩ := keep2 hb6 ⟨x5, x5'⟩ (by omega)
         have hz6 := hb6.size
         have B6 := B5.trans (hb6.mono (by omega))
         have o6 := o5.below hb6 (by omega))
      | (go_at_call 16
         refine (eqCase_yes E A4 A6 c4 c6 xs _ _ _ _ _ o6.ints ho6.ints (by omega) (by omega) (by omega)).mono ?_
         rintro e w7 ⟨rfl, hb7⟩
         obtain ⟨a7, a7'⟩ := keep2 hb7 ⟨a6, a6'⟩ (by omega)
         obtain ⟨x7, x7'⟩ := keep2 hb7 ⟨x6, x6'⟩ (by omega)
         have hz7 := hb7.size
         have B7 := B6.trans (hb7.mono (by omega))))
  go_wp2
  go_ret
  exact ⟨rfl, B7⟩

set_option maxHeartbeats 400000 in
theorem exCaseOk_big (E : Int) (A : Option Addr) (c : Nat) (xs : List Int) (w : World) (hl : ¬ xs.length ≤ 1048576) (hm : xs.length ≤ 9223372036854775807) :
    Calls Try.prog 3 #[.agg #[.int .i64 E, .slice A xs.length c]] w fun e w' => e = .returned (.bool true) ∧ Below w.heap.size w w' := by
  have B0 := (Below.refl w.heap.size w).alloc (Nat.le_refl _) (.cells #[.int .i64 E, .slice A xs.length c] 24)
  go_enter Try.func3, Try.ntmps3
  go_wp2_with fail
  refine (szCase_no E A c xs.length 1048576 _ (by omega) (by omega) hm).mono ?_
  rintro e w1 ⟨rfl, hb1⟩
  go_wp2
  go_ret
  exact ⟨rfl, B0.trans (hb1.mono (by simp))⟩

theorem exCaseOk_all (E : Int) (A : Option Addr) (c : Nat) (xs : List Int) (w : World) (h : Ints w 0 w.heap.size A xs) (hm : xs.length ≤ 9223372036854775807) :
    Calls Try.prog 3 #[.agg #[.int .i64 E, .slice A xs.length c]] w fun e w' => e = .returned (.bool true) ∧ Below w.heap.size w w' := by
  by_cases hl : xs.length ≤ 1048576
  · exact exCaseOk_walk E A c xs w h hl
  · exact exCaseOk_big E A c xs w hl hm

end Go.Proofs.Ytipcmpcoeeipoab
