/-
  The law of OtherCase returns true for every code, and writes nothing that was there. No condition.
-/
import Derived.Test.YtipcmpcoeeipoaaDrawC
import Derived.Test.YtipcmpcoeeipoaaLawLeaf
import Derived.Test.YtipcmpcoeeipoaaOtherCase
import Derived.Test.YtipcmpcoeeipoaaPure
import Derived.Deep.RegionHeld3
namespace Go.Proofs.Ytipcmpcoeeipoaa
open Go.RowKit

set_option maxHeartbeats 2000000 in
theorem fnOtherCase_walk (A0 : Option Addr) (c0 : Nat) (bs : List Int) (w : World) (h0 : Bytes w w.heap.size A0 bs) (hl : bs.length ≤ 1048576) (hc0 : bs.length ≤ c0) :
    Calls Try.prog 5 #[.slice A0 bs.length c0] w fun e w' => e = .returned (.bool true) ∧ Below w.heap.size w w' := by
  have hlm : bs.length ≤ 9223372036854775807 := by omega
  go_enter Try.func5, Try.ntmps5
  go_wp2_with fail
  refine (drawOtherCase_any A0 c0 bs _ h0 hlm hc0).mono ?_
  rintro e w1 ⟨E, A1, c1, xs, hx5, rfl, ho1, hb1⟩
  have hz1 := hb1.size
  have B2 := (Below.refl w.heap.size w).trans (hb1.mono (by first | omega | (simp; omega) | simp))
  clear hb1
  have x3 := new2 w1 (.int .i64 E) (.slice A1 xs.length c1) 25
  have o4 := ho1.alloc (by omega) (.cells #[.int .i64 E, .slice A1 xs.length c1] 25)
  have B5 := B2.alloc (by omega) (.cells #[.int .i64 E, .slice A1 xs.length c1] 25)
  have hl5 : xs.length ≤ 1152921504606846976 := by omega
  obtain ⟨a6, a6'⟩ := x3
  by_cases hok : caseOkB E xs = true
  · have hok' := hok
    have HO := Lib.hid hok'
    have hbd := caseOk_bd hok'
    have HP := Lib.hid (other_ok hok')
    have HQ : Hid (xs.sum - (xs.sum - E) = E) := by show _ = _; omega
    clear hok hok'
    go_wp2_with fail
    refine (implOtherCase_yes E A1 c1 xs _ _ _ o4.ints (by first | omega | (simp; omega) | simp) HO.out).mono ?_
    rintro e w2 ⟨A2, c2, rfl, ho2, hb2⟩
    have hp2 : Own w2 (w1.heap.size + 1) w2.heap.size A2 (xs) := ho2.more (by simp) (Nat.le_refl _)
    obtain ⟨a7, a7'⟩ := keep2 hb2 ⟨a6, a6'⟩ (by first | omega | (simp; omega) | simp)
    have o8 := o4.below hb2 (by first | omega | (simp; omega) | simp)
    have hz9 := hb2.size
    simp at hz9
    have B10 := B5.trans (hb2.mono (by first | omega | (simp; omega) | simp))
    clear hb2
    have z11 : w1.heap.size < w2.heap.size := by omega
    have x12 := new2 w2 (.int .i64 (xs.sum - E)) (.slice A2 (xs).length c2) 25
    have q13 := keep2 ((Below.refl w2.heap.size w2).alloc (Nat.le_refl _) (.cells #[.int .i64 (xs.sum - E), .slice A2 (xs).length c2] 25)) ⟨a7, a7'⟩ (by omega)
    have o14 := o8.alloc (by omega) (.cells #[.int .i64 (xs.sum - E), .slice A2 (xs).length c2] 25)
    have o15 := hp2.alloc (by omega) (.cells #[.int .i64 (xs.sum - E), .slice A2 (xs).length c2] 25)
    have B16 := B10.alloc (by omega) (.cells #[.int .i64 (xs.sum - E), .slice A2 (xs).length c2] 25)
    obtain ⟨a17, a17'⟩ := q13
    obtain ⟨a18, a18'⟩ := x12
    go_wp2_with fail
    refine (specOtherCase_yes E A1 c1 xs _ _ _ o14.ints (by first | omega | (simp; omega) | simp) HO.out).mono ?_
    rintro e w3 ⟨A3, c3, rfl, ho3, hb3⟩
    have hp3 : Own w3 (w2.heap.size + 1) w3.heap.size A3 (xs) := ho3.more (by simp) (Nat.le_refl _)
    obtain ⟨a19, a19'⟩ := keep2 hb3 ⟨a17, a17'⟩ (by first | omega | (simp; omega) | simp)
    obtain ⟨a20, a20'⟩ := keep2 hb3 ⟨a18, a18'⟩ (by first | omega | (simp; omega) | simp)
    have o21 := o14.below hb3 (by first | omega | (simp; omega) | simp)
    have o22 := o15.below hb3 (by first | omega | (simp; omega) | simp)
    have hz23 := hb3.size
    simp at hz23
    have B24 := B16.trans (hb3.mono (by first | omega | (simp; omega) | simp))
    clear hb3
    have z25 : w1.heap.size < w3.heap.size := by omega
    have z26 : w2.heap.size < w3.heap.size := by omega
    have x27 := new2 w3 (.int .i64 (xs.sum - E)) (.slice A3 (xs).length c3) 25
    have q28 := keep2 ((Below.refl w3.heap.size w3).alloc (Nat.le_refl _) (.cells #[.int .i64 (xs.sum - E), .slice A3 (xs).length c3] 25)) ⟨a19, a19'⟩ (by omega)
    have q29 := keep2 ((Below.refl w3.heap.size w3).alloc (Nat.le_refl _) (.cells #[.int .i64 (xs.sum - E), .slice A3 (xs).length c3] 25)) ⟨a20, a20'⟩ (by omega)
    have o30 := o21.alloc (by omega) (.cells #[.int .i64 (xs.sum - E), .slice A3 (xs).length c3] 25)
    have o31 := o22.alloc (by omega) (.cells #[.int .i64 (xs.sum - E), .slice A3 (xs).length c3] 25)
    have o32 := hp3.alloc (by omega) (.cells #[.int .i64 (xs.sum - E), .slice A3 (xs).length c3] 25)
    have B33 := B24.alloc (by omega) (.cells #[.int .i64 (xs.sum - E), .slice A3 (xs).length c3] 25)
    obtain ⟨a34, a34'⟩ := q28
    obtain ⟨a35, a35'⟩ := q29
    obtain ⟨a36, a36'⟩ := x27
    go_wp2_with fail
    refine (sameCase_yes (xs.sum - E) A2 A3 c2 c3 (xs) _ _ _ _ _ o31.ints o32.ints (by first | omega | (simp; omega) | simp) (by first | omega | (simp; omega) | simp) (by first | omega | simp)).mono ?_
    rintro e w4 ⟨rfl, hb4⟩
    obtain ⟨a37, a37'⟩ := keep2 hb4 ⟨a34, a34'⟩ (by first | omega | (simp; omega) | simp)
    obtain ⟨a38, a38'⟩ := keep2 hb4 ⟨a35, a35'⟩ (by first | omega | (simp; omega) | simp)
    obtain ⟨a39, a39'⟩ := keep2 hb4 ⟨a36, a36'⟩ (by first | omega | (simp; omega) | simp)
    have o40 := o30.below hb4 (by first | omega | (simp; omega) | simp)
    have o41 := o31.below hb4 (by first | omega | (simp; omega) | simp)
    have o42 := o32.below hb4 (by first | omega | (simp; omega) | simp)
    have hz43 := hb4.size
    simp at hz43
    have B44 := B33.trans (hb4.mono (by first | omega | (simp; omega) | simp))
    clear hb4
    have z45 : w1.heap.size < w4.heap.size := by omega
    have z46 : w2.heap.size < w4.heap.size := by omega
    have z47 : w3.heap.size < w4.heap.size := by omega
    go_wp2_with fail
    refine (implOtherCase_yes (xs.sum - E) A2 c2 xs _ _ _ o41.ints (by first | omega | (simp; omega) | simp) HP.out).mono ?_
    rintro e w5 ⟨A5, c5, rfl, ho5, hb5⟩
    obtain ⟨a48, a48'⟩ := keep2 hb5 ⟨a37, a37'⟩ (by first | omega | (simp; omega) | simp)
    obtain ⟨a49, a49'⟩ := keep2 hb5 ⟨a38, a38'⟩ (by first | omega | (simp; omega) | simp)
    obtain ⟨a50, a50'⟩ := keep2 hb5 ⟨a39, a39'⟩ (by first | omega | (simp; omega) | simp)
    have o51 := o40.below hb5 (by first | omega | (simp; omega) | simp)
    have o52 := o41.below hb5 (by first | omega | (simp; omega) | simp)
    have o53 := o42.below hb5 (by first | omega | (simp; omega) | simp)
    have hz54 := hb5.size
    have B55 := B44.trans (hb5.mono (by first | omega | (simp; omega) | simp))
    clear hb5
    have z56 : w1.heap.size < w5.heap.size := by omega
    have z57 : w2.heap.size < w5.heap.size := by omega
    have z58 : w3.heap.size < w5.heap.size := by omega
    have x59 := new2 w5 (.int .i64 (xs.sum - (xs.sum - E))) (.slice A5 xs.length c5) 25
    have q60 := keep2 ((Below.refl w5.heap.size w5).alloc (Nat.le_refl _) (.cells #[.int .i64 (xs.sum - (xs.sum - E)), .slice A5 xs.length c5] 25)) ⟨a48, a48'⟩ (by omega)
    have q61 := keep2 ((Below.refl w5.heap.size w5).alloc (Nat.le_refl _) (.cells #[.int .i64 (xs.sum - (xs.sum - E)), .slice A5 xs.length c5] 25)) ⟨a49, a49'⟩ (by omega)
    have q62 := keep2 ((Below.refl w5.heap.size w5).alloc (Nat.le_refl _) (.cells #[.int .i64 (xs.sum - (xs.sum - E)), .slice A5 xs.length c5] 25)) ⟨a50, a50'⟩ (by omega)
    have o63 := o51.alloc (by omega) (.cells #[.int .i64 (xs.sum - (xs.sum - E)), .slice A5 xs.length c5] 25)
    have o64 := o52.alloc (by omega) (.cells #[.int .i64 (xs.sum - (xs.sum - E)), .slice A5 xs.length c5] 25)
    have o65 := o53.alloc (by omega) (.cells #[.int .i64 (xs.sum - (xs.sum - E)), .slice A5 xs.length c5] 25)
    have o66 := ho5.alloc (by omega) (.cells #[.int .i64 (xs.sum - (xs.sum - E)), .slice A5 xs.length c5] 25)
    have B67 := B55.alloc (by omega) (.cells #[.int .i64 (xs.sum - (xs.sum - E)), .slice A5 xs.length c5] 25)
    obtain ⟨a68, a68'⟩ := q60
    obtain ⟨a69, a69'⟩ := q61
    obtain ⟨a70, a70'⟩ := q62
    obtain ⟨a71, a71'⟩ := x59
    go_wp2_with fail
    refine (implCaseOk_yes (xs.sum - E) (A2) c2 xs _ _ _ o64.ints (by first | omega | (simp; omega) | simp) (by first | omega | simp) HP.out).mono ?_
    rintro e w6 ⟨rfl, hb6⟩
    obtain ⟨a72, a72'⟩ := keep2 hb6 ⟨a68, a68'⟩ (by first | omega | (simp; omega) | simp)
    obtain ⟨a73, a73'⟩ := keep2 hb6 ⟨a69, a69'⟩ (by first | omega | (simp; omega) | simp)
    obtain ⟨a74, a74'⟩ := keep2 hb6 ⟨a70, a70'⟩ (by first | omega | (simp; omega) | simp)
    obtain ⟨a75, a75'⟩ := keep2 hb6 ⟨a71, a71'⟩ (by first | omega | (simp; omega) | simp)
    have o76 := o63.below hb6 (by first | omega | (simp; omega) | simp)
    have o77 := o64.below hb6 (by first | omega | (simp; omega) | simp)
    have o78 := o65.below hb6 (by first | omega | (simp; omega) | simp)
    have o79 := o66.below hb6 (by first | omega | (simp; omega) | simp)
    have hz80 := hb6.size
    simp at hz80
    have B81 := B67.trans (hb6.mono (by first | omega | (simp; omega) | simp))
    clear hb6
    have z82 : w1.heap.size < w6.heap.size := by omega
    have z83 : w2.heap.size < w6.heap.size := by omega
    have z84 : w3.heap.size < w6.heap.size := by omega
    have z85 : w5.heap.size < w6.heap.size := by omega
    go_wp2_with fail
    rw [HQ.out]
    refine (sameCase_yes E A5 A1 c5 c1 xs _ _ _ _ _ o79.ints o76.ints (by first | omega | (simp; omega) | simp) (by first | omega | (simp; omega) | simp) hl5).mono ?_
    rintro e w7 ⟨rfl, hb7⟩
    obtain ⟨a86, a86'⟩ := keep2 hb7 ⟨a72, a72'⟩ (by first | omega | (simp; omega) | simp)
    obtain ⟨a87, a87'⟩ := keep2 hb7 ⟨a73, a73'⟩ (by first | omega | (simp; omega) | simp)
    obtain ⟨a88, a88'⟩ := keep2 hb7 ⟨a74, a74'⟩ (by first | omega | (simp; omega) | simp)
    obtain ⟨a89, a89'⟩ := keep2 hb7 ⟨a75, a75'⟩ (by first | omega | (simp; omega) | simp)
    have o90 := o76.below hb7 (by first | omega | (simp; omega) | simp)
    have o91 := o77.below hb7 (by first | omega | (simp; omega) | simp)
    have o92 := o78.below hb7 (by first | omega | (simp; omega) | simp)
    have o93 := o79.below hb7 (by first | omega | (simp; omega) | simp)
    have hz94 := hb7.size
    have B95 := B81.trans (hb7.mono (by first | omega | (simp; omega) | simp))
    clear hb7
    have z96 : w1.heap.size < w7.heap.size := by omega
    have z97 : w2.heap.size < w7.heap.size := by omega
    have z98 : w3.heap.size < w7.heap.size := by omega
    have z99 : w5.heap.size < w7.heap.size := by omega
    go_wp2
    go_ret
    exact ⟨rfl, B95⟩
  · have hok' : caseOkB E xs = false := by simpa using hok
    have HO := Lib.hid hok'
    clear hok hok'
    go_wp2_with fail
    refine (implOtherCase_no E A1 c1 xs _ _ _ o4.ints (by first | omega | (simp; omega) | simp) hl5 HO.out).mono ?_
    rintro e w2 ⟨A2, c2, rfl, ho2, hb2⟩
    have hp2 : Own w2 (w1.heap.size + 1) w2.heap.size A2 (([] : List Int)) := ho2.more (by simp) (Nat.le_refl _)
    obtain ⟨a7, a7'⟩ := keep2 hb2 ⟨a6, a6'⟩ (by first | omega | (simp; omega) | simp)
    have o8 := o4.below hb2 (by first | omega | (simp; omega) | simp)
    have hz9 := hb2.size
    simp at hz9
    have B10 := B5.trans (hb2.mono (by first | omega | (simp; omega) | simp))
    clear hb2
    have z11 : w1.heap.size < w2.heap.size := by omega
    have x12 := new2 w2 (.int .i64 (0)) (.slice A2 (([] : List Int)).length c2) 25
    have q13 := keep2 ((Below.refl w2.heap.size w2).alloc (Nat.le_refl _) (.cells #[.int .i64 (0), .slice A2 (([] : List Int)).length c2] 25)) ⟨a7, a7'⟩ (by omega)
    have o14 := o8.alloc (by omega) (.cells #[.int .i64 (0), .slice A2 (([] : List Int)).length c2] 25)
    have o15 := hp2.alloc (by omega) (.cells #[.int .i64 (0), .slice A2 (([] : List Int)).length c2] 25)
    have B16 := B10.alloc (by omega) (.cells #[.int .i64 (0), .slice A2 (([] : List Int)).length c2] 25)
    obtain ⟨a17, a17'⟩ := q13
    obtain ⟨a18, a18'⟩ := x12
    go_wp2_with fail
    refine (specOtherCase_no E A1 c1 xs _ _ _ o14.ints (by first | omega | (simp; omega) | simp) hl5 HO.out).mono ?_
    rintro e w3 ⟨A3, c3, rfl, ho3, hb3⟩
    have hp3 : Own w3 (w2.heap.size + 1) w3.heap.size A3 (([] : List Int)) := ho3.more (by simp) (Nat.le_refl _)
    obtain ⟨a19, a19'⟩ := keep2 hb3 ⟨a17, a17'⟩ (by first | omega | (simp; omega) | simp)
    obtain ⟨a20, a20'⟩ := keep2 hb3 ⟨a18, a18'⟩ (by first | omega | (simp; omega) | simp)
    have o21 := o14.below hb3 (by first | omega | (simp; omega) | simp)
    have o22 := o15.below hb3 (by first | omega | (simp; omega) | simp)
    have hz23 := hb3.size
    simp at hz23
    have B24 := B16.trans (hb3.mono (by first | omega | (simp; omega) | simp))
    clear hb3
    have z25 : w1.heap.size < w3.heap.size := by omega
    have z26 : w2.heap.size < w3.heap.size := by omega
    have x27 := new2 w3 (.int .i64 (0)) (.slice A3 (([] : List Int)).length c3) 25
    have q28 := keep2 ((Below.refl w3.heap.size w3).alloc (Nat.le_refl _) (.cells #[.int .i64 (0), .slice A3 (([] : List Int)).length c3] 25)) ⟨a19, a19'⟩ (by omega)
    have q29 := keep2 ((Below.refl w3.heap.size w3).alloc (Nat.le_refl _) (.cells #[.int .i64 (0), .slice A3 (([] : List Int)).length c3] 25)) ⟨a20, a20'⟩ (by omega)
    have o30 := o21.alloc (by omega) (.cells #[.int .i64 (0), .slice A3 (([] : List Int)).length c3] 25)
    have o31 := o22.alloc (by omega) (.cells #[.int .i64 (0), .slice A3 (([] : List Int)).length c3] 25)
    have o32 := hp3.alloc (by omega) (.cells #[.int .i64 (0), .slice A3 (([] : List Int)).length c3] 25)
    have B33 := B24.alloc (by omega) (.cells #[.int .i64 (0), .slice A3 (([] : List Int)).length c3] 25)
    obtain ⟨a34, a34'⟩ := q28
    obtain ⟨a35, a35'⟩ := q29
    obtain ⟨a36, a36'⟩ := x27
    go_wp2_with fail
    refine (sameCase_yes (0) A2 A3 c2 c3 (([] : List Int)) _ _ _ _ _ o31.ints o32.ints (by first | omega | (simp; omega) | simp) (by first | omega | (simp; omega) | simp) (by first | omega | simp)).mono ?_
    rintro e w4 ⟨rfl, hb4⟩
    obtain ⟨a37, a37'⟩ := keep2 hb4 ⟨a34, a34'⟩ (by first | omega | (simp; omega) | simp)
    obtain ⟨a38, a38'⟩ := keep2 hb4 ⟨a35, a35'⟩ (by first | omega | (simp; omega) | simp)
    obtain ⟨a39, a39'⟩ := keep2 hb4 ⟨a36, a36'⟩ (by first | omega | (simp; omega) | simp)
    have o40 := o30.below hb4 (by first | omega | (simp; omega) | simp)
    have o41 := o31.below hb4 (by first | omega | (simp; omega) | simp)
    have o42 := o32.below hb4 (by first | omega | (simp; omega) | simp)
    have hz43 := hb4.size
    simp at hz43
    have B44 := B33.trans (hb4.mono (by first | omega | (simp; omega) | simp))
    clear hb4
    have z45 : w1.heap.size < w4.heap.size := by omega
    have z46 : w2.heap.size < w4.heap.size := by omega
    have z47 : w3.heap.size < w4.heap.size := by omega
    go_wp2_with fail
    refine (implCaseOk_no (E) (A1) c1 xs _ _ _ o40.ints (by first | omega | (simp; omega) | simp) (by first | omega | simp) HO.out).mono ?_
    rintro e w5 ⟨rfl, hb5⟩
    obtain ⟨a48, a48'⟩ := keep2 hb5 ⟨a37, a37'⟩ (by first | omega | (simp; omega) | simp)
    obtain ⟨a49, a49'⟩ := keep2 hb5 ⟨a38, a38'⟩ (by first | omega | (simp; omega) | simp)
    obtain ⟨a50, a50'⟩ := keep2 hb5 ⟨a39, a39'⟩ (by first | omega | (simp; omega) | simp)
    have o51 := o40.below hb5 (by first | omega | (simp; omega) | simp)
    have o52 := o41.below hb5 (by first | omega | (simp; omega) | simp)
    have o53 := o42.below hb5 (by first | omega | (simp; omega) | simp)
    have hz54 := hb5.size
    have B55 := B44.trans (hb5.mono (by first | omega | (simp; omega) | simp))
    clear hb5
    have z56 : w1.heap.size < w5.heap.size := by omega
    have z57 : w2.heap.size < w5.heap.size := by omega
    have z58 : w3.heap.size < w5.heap.size := by omega
    go_wp2_with fail
    refine (alive_any _).mono ?_
    rintro e w6 ⟨rfl, hb6⟩
    obtain ⟨a59, a59'⟩ := keep2 hb6 ⟨a48, a48'⟩ (by first | omega | (simp; omega) | simp)
    obtain ⟨a60, a60'⟩ := keep2 hb6 ⟨a49, a49'⟩ (by first | omega | (simp; omega) | simp)
    obtain ⟨a61, a61'⟩ := keep2 hb6 ⟨a50, a50'⟩ (by first | omega | (simp; omega) | simp)
    have o62 := o51.below hb6 (by first | omega | (simp; omega) | simp)
    have o63 := o52.below hb6 (by first | omega | (simp; omega) | simp)
    have o64 := o53.below hb6 (by first | omega | (simp; omega) | simp)
    have hz65 := hb6.size
    have B66 := B55.trans (hb6.mono (by first | omega | (simp; omega) | simp))
    clear hb6
    have z67 : w1.heap.size < w6.heap.size := by omega
    have z68 : w2.heap.size < w6.heap.size := by omega
    have z69 : w3.heap.size < w6.heap.size := by omega
    go_wp2
    go_ret
    exact ⟨rfl, B66⟩

set_option maxHeartbeats 400000 in
theorem fnOtherCase_big (A0 : Option Addr) (c0 : Nat) (bs : List Int) (w : World) (hl : ¬ bs.length ≤ 1048576) (hm : bs.length ≤ 9223372036854775807) :
    Calls Try.prog 5 #[.slice A0 bs.length c0] w fun e w' => e = .returned (.bool true) ∧ Below w.heap.size w w' := by
  go_enter Try.func5, Try.ntmps5
  go_wp2
  go_ret
  exact ⟨rfl, Below.refl _ _⟩

theorem fnOtherCase_all (A0 : Option Addr) (c0 : Nat) (bs : List Int) (w : World) (h0 : Bytes w w.heap.size A0 bs) (hm : bs.length ≤ 9223372036854775807) (hc0 : bs.length ≤ c0) :
    Calls Try.prog 5 #[.slice A0 bs.length c0] w fun e w' => e = .returned (.bool true) ∧ Below w.heap.size w w' := by
  by_cases hl : bs.length ≤ 1048576
  · exact fnOtherCase_walk A0 c0 bs w h0 hl hc0
  · exact fnOtherCase_big A0 c0 bs w hl hm

end Go.Proofs.Ytipcmpcoeeipoaa
