/-
  The law of CaseOk returns true for every code, and writes nothing that was there. No condition.
-/
import Derived.Test.YtipcmpcoeeipoaaDrawC
import Derived.Test.YtipcmpcoeeipoaaLawLeaf
import Derived.Test.YtipcmpcoeeipoaaPure
import Derived.Deep.RegionHeld3
namespace Go.Proofs.Ytipcmpcoeeipoaa
open Go.RowKit

set_option maxHeartbeats 2000000 in
theorem fnCaseOk_walk (A0 : Option Addr) (c0 : Nat) (bs : List Int) (w : World) (h0 : Bytes w w.heap.size A0 bs) (hl : bs.length ≤ 1048576) (hc0 : bs.length ≤ c0) :
    Calls Try.prog 3 #[.slice A0 bs.length c0] w fun e w' => e = .returned (.bool true) ∧ Below w.heap.size w w' := by
  have hlm : bs.length ≤ 9223372036854775807 := by omega
  go_enter Try.func3, Try.ntmps3
  go_wp2_with fail
  refine (drawCaseOk_any A0 c0 bs _ h0 hlm hc0).mono ?_
  rintro e w1 ⟨E, A1, c1, xs, hx5, rfl, ho1, hb1⟩
  have hz1 := hb1.size
  have B2 := (Below.refl w.heap.size w).trans (hb1.mono (by first | omega | (simp; omega) | simp))
  clear hb1
  have x3 := new2 w1 (.int .i64 E) (.slice A1 xs.length c1) 25
  have o4 := ho1.alloc (by omega) (.cells #[.int .i64 E, .slice A1 xs.length c1] 25)
  have B5 := B2.alloc (by omega) (.cells #[.int .i64 E, .slice A1 xs.length c1] 25)
  have hl5 : xs.length ≤ 1152921504606846976 := by omega
  obtain ⟨a6, a6'⟩ := x3
  by_cases hok : caseOkB E xs = true
  · have hok' := hok
    have HO := Lib.hid hok'
    clear hok hok'
    go_wp2_with fail
    refine (implCaseOk_yes (E) (A1) c1 xs _ _ _ o4.ints (by first | omega | (simp; omega) | simp) (by first | omega | simp) HO.out).mono ?_
    rintro e w2 ⟨rfl, hb2⟩
    obtain ⟨a7, a7'⟩ := keep2 hb2 ⟨a6, a6'⟩ (by first | omega | (simp; omega) | simp)
    have o8 := o4.below hb2 (by first | omega | (simp; omega) | simp)
    have hz9 := hb2.size
    simp at hz9
    have B10 := B5.trans (hb2.mono (by first | omega | (simp; omega) | simp))
    clear hb2
    have z11 : w1.heap.size < w2.heap.size := by omega
    go_wp2_with fail
    refine (specCaseOk_yes (E) (A1) c1 xs _ _ _ o8.ints (by first | omega | (simp; omega) | simp) (by first | omega | simp) HO.out).mono ?_
    rintro e w3 ⟨rfl, hb3⟩
    obtain ⟨a12, a12'⟩ := keep2 hb3 ⟨a7, a7'⟩ (by first | omega | (simp; omega) | simp)
    have o13 := o8.below hb3 (by first | omega | (simp; omega) | simp)
    have hz14 := hb3.size
    have B15 := B10.trans (hb3.mono (by first | omega | (simp; omega) | simp))
    clear hb3
    have z16 : w1.heap.size < w3.heap.size := by omega
    have o17 : Own (w3.alloc (.cells #[.int .i64 0] 3)) w3.heap.size (w3.heap.size + 1) (some ⟨w3.heap.size, 0, none⟩) [0] := own_new w3 3 [0]
    have q18 := keep2 ((Below.refl w3.heap.size w3).alloc (Nat.le_refl _) (.cells #[.int .i64 0] 3)) ⟨a12, a12'⟩ (by omega)
    have o19 := o13.alloc (by omega) (.cells #[.int .i64 0] 3)
    have B20 := B15.alloc (by omega) (.cells #[.int .i64 0] 3)
    obtain ⟨a21, a21'⟩ := q18
    go_wp2_with fail
    refine (implCaseOk_yes (0) (some ⟨w3.heap.size, 0, none⟩) 1 [0] _ _ _ o17.ints (by first | omega | (simp; omega) | simp) (by first | omega | simp) case_zero_zero).mono ?_
    rintro e w4 ⟨rfl, hb4⟩
    obtain ⟨a22, a22'⟩ := keep2 hb4 ⟨a21, a21'⟩ (by first | omega | (simp; omega) | simp)
    have o23 := o19.below hb4 (by first | omega | (simp; omega) | simp)
    have o24 := o17.below hb4 (by first | omega | (simp; omega) | simp)
    have hz25 := hb4.size
    simp at hz25
    have B26 := B20.trans (hb4.mono (by first | omega | (simp; omega) | simp))
    clear hb4
    have z27 : w1.heap.size < w4.heap.size := by omega
    go_wp2_with fail
    refine (implCaseOk_no (0) none 0 [] _ 0 _ Ints.nil (Nat.zero_le _) (by first | omega | simp) (case_nil 0)).mono ?_
    rintro e w5 ⟨rfl, hb5⟩
    obtain ⟨a28, a28'⟩ := keep2 hb5 ⟨a22, a22'⟩ (by first | omega | (simp; omega) | simp)
    have o29 := o23.below hb5 (by first | omega | (simp; omega) | simp)
    have o30 := o24.below hb5 (by first | omega | (simp; omega) | simp)
    have hz31 := hb5.size
    have B32 := B26.trans (hb5.mono (by first | omega | (simp; omega) | simp))
    clear hb5
    have z33 : w1.heap.size < w5.heap.size := by omega
    go_wp2_with fail
    refine (implCaseOk_yes (0) (A1) c1 xs _ _ _ o29.ints (by first | omega | (simp; omega) | simp) (by first | omega | simp) (case_of_zero HO.out)).mono ?_
    rintro e w6 ⟨rfl, hb6⟩
    obtain ⟨a34, a34'⟩ := keep2 hb6 ⟨a28, a28'⟩ (by first | omega | (simp; omega) | simp)
    have o35 := o29.below hb6 (by first | omega | (simp; omega) | simp)
    have o36 := o30.below hb6 (by first | omega | (simp; omega) | simp)
    have hz37 := hb6.size
    have B38 := B32.trans (hb6.mono (by first | omega | (simp; omega) | simp))
    clear hb6
    have z39 : w1.heap.size < w6.heap.size := by omega
    go_wp2_with fail
    refine (sameCase_yes E A1 A1 c1 c1 xs _ _ _ _ _ o35.ints o35.ints (by first | omega | (simp; omega) | simp) (by first | omega | (simp; omega) | simp) hl5).mono ?_
    rintro e w7 ⟨rfl, hb7⟩
    obtain ⟨a40, a40'⟩ := keep2 hb7 ⟨a34, a34'⟩ (by first | omega | (simp; omega) | simp)
    have o41 := o35.below hb7 (by first | omega | (simp; omega) | simp)
    have o42 := o36.below hb7 (by first | omega | (simp; omega) | simp)
    have hz43 := hb7.size
    have B44 := B38.trans (hb7.mono (by first | omega | (simp; omega) | simp))
    clear hb7
    have z45 : w1.heap.size < w7.heap.size := by omega
    go_wp2
    go_ret
    exact ⟨rfl, B44⟩
  · have hok' : caseOkB E xs = false := by simpa using hok
    have HO := Lib.hid hok'
    clear hok hok'
    go_wp2_with fail
    refine (implCaseOk_no (E) (A1) c1 xs _ _ _ o4.ints (by first | omega | (simp; omega) | simp) (by first | omega | simp) HO.out).mono ?_
    rintro e w2 ⟨rfl, hb2⟩
    obtain ⟨a7, a7'⟩ := keep2 hb2 ⟨a6, a6'⟩ (by first | omega | (simp; omega) | simp)
    have o8 := o4.below hb2 (by first | omega | (simp; omega) | simp)
    have hz9 := hb2.size
    simp at hz9
    have B10 := B5.trans (hb2.mono (by first | omega | (simp; omega) | simp))
    clear hb2
    have z11 : w1.heap.size < w2.heap.size := by omega
    go_wp2_with fail
    refine (specCaseOk_no (E) (A1) c1 xs _ _ _ o8.ints (by first | omega | (simp; omega) | simp) (by first | omega | simp) HO.out).mono ?_
    rintro e w3 ⟨rfl, hb3⟩
    obtain ⟨a12, a12'⟩ := keep2 hb3 ⟨a7, a7'⟩ (by first | omega | (simp; omega) | simp)
    have o13 := o8.below hb3 (by first | omega | (simp; omega) | simp)
    have hz14 := hb3.size
    have B15 := B10.trans (hb3.mono (by first | omega | (simp; omega) | simp))
    clear hb3
    have z16 : w1.heap.size < w3.heap.size := by omega
    have o17 : Own (w3.alloc (.cells #[.int .i64 0] 3)) w3.heap.size (w3.heap.size + 1) (some ⟨w3.heap.size, 0, none⟩) [0] := own_new w3 3 [0]
    have q18 := keep2 ((Below.refl w3.heap.size w3).alloc (Nat.le_refl _) (.cells #[.int .i64 0] 3)) ⟨a12, a12'⟩ (by omega)
    have o19 := o13.alloc (by omega) (.cells #[.int .i64 0] 3)
    have B20 := B15.alloc (by omega) (.cells #[.int .i64 0] 3)
    obtain ⟨a21, a21'⟩ := q18
    go_wp2_with fail
    refine (implCaseOk_yes (0) (some ⟨w3.heap.size, 0, none⟩) 1 [0] _ _ _ o17.ints (by first | omega | (simp; omega) | simp) (by first | omega | simp) case_zero_zero).mono ?_
    rintro e w4 ⟨rfl, hb4⟩
    obtain ⟨a22, a22'⟩ := keep2 hb4 ⟨a21, a21'⟩ (by first | omega | (simp; omega) | simp)
    have o23 := o19.below hb4 (by first | omega | (simp; omega) | simp)
    have o24 := o17.below hb4 (by first | omega | (simp; omega) | simp)
    have hz25 := hb4.size
    simp at hz25
    have B26 := B20.trans (hb4.mono (by first | omega | (simp; omega) | simp))
    clear hb4
    have z27 : w1.heap.size < w4.heap.size := by omega
    go_wp2_with fail
    refine (implCaseOk_no (0) none 0 [] _ 0 _ Ints.nil (Nat.zero_le _) (by first | omega | simp) (case_nil 0)).mono ?_
    rintro e w5 ⟨rfl, hb5⟩
    obtain ⟨a28, a28'⟩ := keep2 hb5 ⟨a22, a22'⟩ (by first | omega | (simp; omega) | simp)
    have o29 := o23.below hb5 (by first | omega | (simp; omega) | simp)
    have o30 := o24.below hb5 (by first | omega | (simp; omega) | simp)
    have hz31 := hb5.size
    have B32 := B26.trans (hb5.mono (by first | omega | (simp; omega) | simp))
    clear hb5
    have z33 : w1.heap.size < w5.heap.size := by omega
    go_wp2_with fail
    refine (sameCase_yes E A1 A1 c1 c1 xs _ _ _ _ _ o29.ints o29.ints (by first | omega | (simp; omega) | simp) (by first | omega | (simp; omega) | simp) hl5).mono ?_
    rintro e w6 ⟨rfl, hb6⟩
    obtain ⟨a34, a34'⟩ := keep2 hb6 ⟨a28, a28'⟩ (by first | omega | (simp; omega) | simp)
    have o35 := o29.below hb6 (by first | omega | (simp; omega) | simp)
    have o36 := o30.below hb6 (by first | omega | (simp; omega) | simp)
    have hz37 := hb6.size
    have B38 := B32.trans (hb6.mono (by first | omega | (simp; omega) | simp))
    clear hb6
    have z39 : w1.heap.size < w6.heap.size := by omega
    go_wp2
    go_ret
    exact ⟨rfl, B38⟩

set_option maxHeartbeats 400000 in
theorem fnCaseOk_big (A0 : Option Addr) (c0 : Nat) (bs : List Int) (w : World) (hl : ¬ bs.length ≤ 1048576) (hm : bs.length ≤ 9223372036854775807) :
    Calls Try.prog 3 #[.slice A0 bs.length c0] w fun e w' => e = .returned (.bool true) ∧ Below w.heap.size w w' := by
  go_enter Try.func3, Try.ntmps3
  go_wp2
  go_ret
  exact ⟨rfl, Below.refl _ _⟩

theorem fnCaseOk_all (A0 : Option Addr) (c0 : Nat) (bs : List Int) (w : World) (h0 : Bytes w w.heap.size A0 bs) (hm : bs.length ≤ 9223372036854775807) (hc0 : bs.length ≤ c0) :
    Calls Try.prog 3 #[.slice A0 bs.length c0] w fun e w' => e = .returned (.bool true) ∧ Below w.heap.size w w' := by
  by_cases hl : bs.length ≤ 1048576
  · exact fnCaseOk_walk A0 c0 bs w h0 hl hc0
  · exact fnCaseOk_big A0 c0 bs w hl hm

end Go.Proofs.Ytipcmpcoeeipoaa
