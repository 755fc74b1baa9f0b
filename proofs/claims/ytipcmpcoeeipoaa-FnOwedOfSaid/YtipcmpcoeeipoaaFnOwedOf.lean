/-
  The law of OwedOf returns true for every code, and writes nothing that was there. No condition.
-/
import Derived.Test.YtipcmpcoeeipoaaDrawC
import Derived.Test.YtipcmpcoeeipoaaLawLeaf
import Derived.Test.YtipcmpcoeeipoaaOwedOf
import Derived.Test.YtipcmpcoeeipoaaOtherCase
import Derived.Deep.RegionHeld3
namespace Go.Proofs.Ytipcmpcoeeipoaa
open Go.RowKit

set_option maxHeartbeats 2000000 in
theorem fnOwedOf_walk (A0 : Option Addr) (c0 : Nat) (bs : List Int) (w : World) (h0 : Bytes w w.heap.size A0 bs) (hl : bs.length ≤ 1048576) (hc0 : bs.length ≤ c0) :
    Calls Try.prog 4 #[.slice A0 bs.length c0] w fun e w' => e = .returned (.bool true) ∧ Below w.heap.size w w' := by
  have hlm : bs.length ≤ 9223372036854775807 := by omega
  go_enter Try.func4, Try.ntmps4
  go_wp2_with fail
  refine (drawOwedOf_any A0 c0 bs _ h0 hlm hc0).mono ?_
  rintro e w1 ⟨E, A1, c1, xs, hx5, rfl, ho1, hb1⟩
  have hz1 := hb1.size
  have B2 := (Below.refl w.heap.size w).trans (hb1.mono (by first | omega | (simp; omega) | simp))
  clear hb1
  have x3 := new2 w1 (.int .i64 E) (.slice A1 xs.length c1) 25
  have o4 := ho1.alloc (by omega) (.cells #[.int .i64 E, .slice A1 xs.length c1] 25)
  have B5 := B2.alloc (by omega) (.cells #[.int .i64 E, .slice A1 xs.length c1] 25)
  have hl5 : xs.length ≤ 1152921504606846976 := by omega
  obtain ⟨a6, a6'⟩ := x3
  by_cases hok : caseOkB E xs = true
  · have hok' := hok
    have hv : owedOf E xs = xs.sum := by simp [owedOf, hok']
    have HV := Lib.hid hv
    have HO := Lib.hid hok'
    have hbd := caseOk_bd hok'
    clear hok hok' hv
    go_wp2_with fail
    refine (implOwedOf_any E A1 c1 xs _ _ _ o4.ints (by first | omega | (simp; omega) | simp) hl5).mono ?_
    rintro e w2 ⟨he2, hb2⟩
    rw [HV.out] at he2
    subst he2
    obtain ⟨a7, a7'⟩ := keep2 hb2 ⟨a6, a6'⟩ (by first | omega | (simp; omega) | simp)
    have o8 := o4.below hb2 (by first | omega | (simp; omega) | simp)
    have hz9 := hb2.size
    simp at hz9
    have B10 := B5.trans (hb2.mono (by first | omega | (simp; omega) | simp))
    clear hb2
    have z11 : w1.heap.size < w2.heap.size := by omega
    go_wp2_with fail
    refine (specOwedOf_any E A1 c1 xs _ _ _ o8.ints (by first | omega | (simp; omega) | simp) hl5).mono ?_
    rintro e w3 ⟨he3, hb3⟩
    rw [HV.out] at he3
    subst he3
    obtain ⟨a12, a12'⟩ := keep2 hb3 ⟨a7, a7'⟩ (by first | omega | (simp; omega) | simp)
    have o13 := o8.below hb3 (by first | omega | (simp; omega) | simp)
    have hz14 := hb3.size
    have B15 := B10.trans (hb3.mono (by first | omega | (simp; omega) | simp))
    clear hb3
    have z16 : w1.heap.size < w3.heap.size := by omega
    have e17 : (xs.sum != xs.sum) = false := by simp
    have e18 : ¬ (xs.sum < 0) := by omega
    go_wp2_with fail
    refine (implOtherCase_yes E A1 c1 xs _ _ _ o13.ints (by first | omega | (simp; omega) | simp) HO.out).mono ?_
    rintro e w4 ⟨A4, c4, rfl, ho4, hb4⟩
    obtain ⟨a19, a19'⟩ := keep2 hb4 ⟨a12, a12'⟩ (by first | omega | (simp; omega) | simp)
    have o20 := o13.below hb4 (by first | omega | (simp; omega) | simp)
    have hz21 := hb4.size
    have B22 := B15.trans (hb4.mono (by first | omega | (simp; omega) | simp))
    clear hb4
    have z23 : w1.heap.size < w4.heap.size := by omega
    have x24 := new2 w4 (.int .i64 (xs.sum - E)) (.slice A4 xs.length c4) 25
    have q25 := keep2 ((Below.refl w4.heap.size w4).alloc (Nat.le_refl _) (.cells #[.int .i64 (xs.sum - E), .slice A4 xs.length c4] 25)) ⟨a19, a19'⟩ (by omega)
    have o26 := o20.alloc (by omega) (.cells #[.int .i64 (xs.sum - E), .slice A4 xs.length c4] 25)
    have o27 := ho4.alloc (by omega) (.cells #[.int .i64 (xs.sum - E), .slice A4 xs.length c4] 25)
    have B28 := B22.alloc (by omega) (.cells #[.int .i64 (xs.sum - E), .slice A4 xs.length c4] 25)
    have hs2 : (E + (xs.sum - E) == xs.sum) = true := by simp; omega
    obtain ⟨a29, a29'⟩ := q25
    obtain ⟨a30, a30'⟩ := x24
    go_wp2
    go_ret
    exact ⟨rfl, B28⟩
  · have hok' : caseOkB E xs = false := by simpa using hok
    have hv : owedOf E xs = -1 := by simp [owedOf, hok']
    have HV := Lib.hid hv
    have HO := Lib.hid hok'
    clear hok hok' hv
    go_wp2_with fail
    refine (implOwedOf_any E A1 c1 xs _ _ _ o4.ints (by first | omega | (simp; omega) | simp) hl5).mono ?_
    rintro e w2 ⟨he2, hb2⟩
    rw [HV.out] at he2
    subst he2
    obtain ⟨a7, a7'⟩ := keep2 hb2 ⟨a6, a6'⟩ (by first | omega | (simp; omega) | simp)
    have o8 := o4.below hb2 (by first | omega | (simp; omega) | simp)
    have hz9 := hb2.size
    simp at hz9
    have B10 := B5.trans (hb2.mono (by first | omega | (simp; omega) | simp))
    clear hb2
    have z11 : w1.heap.size < w2.heap.size := by omega
    go_wp2_with fail
    refine (specOwedOf_any E A1 c1 xs _ _ _ o8.ints (by first | omega | (simp; omega) | simp) hl5).mono ?_
    rintro e w3 ⟨he3, hb3⟩
    rw [HV.out] at he3
    subst he3
    obtain ⟨a12, a12'⟩ := keep2 hb3 ⟨a7, a7'⟩ (by first | omega | (simp; omega) | simp)
    have o13 := o8.below hb3 (by first | omega | (simp; omega) | simp)
    have hz14 := hb3.size
    have B15 := B10.trans (hb3.mono (by first | omega | (simp; omega) | simp))
    clear hb3
    have z16 : w1.heap.size < w3.heap.size := by omega
    go_wp2_with fail
    refine (implCaseOk_no (E) (A1) c1 xs _ _ _ o13.ints (by first | omega | (simp; omega) | simp) (by first | omega | simp) HO.out).mono ?_
    rintro e w4 ⟨rfl, hb4⟩
    obtain ⟨a17, a17'⟩ := keep2 hb4 ⟨a12, a12'⟩ (by first | omega | (simp; omega) | simp)
    have o18 := o13.below hb4 (by first | omega | (simp; omega) | simp)
    have hz19 := hb4.size
    have B20 := B15.trans (hb4.mono (by first | omega | (simp; omega) | simp))
    clear hb4
    have z21 : w1.heap.size < w4.heap.size := by omega
    go_wp2_with fail
    refine (alive_any _).mono ?_
    rintro e w5 ⟨rfl, hb5⟩
    obtain ⟨a22, a22'⟩ := keep2 hb5 ⟨a17, a17'⟩ (by first | omega | (simp; omega) | simp)
    have o23 := o18.below hb5 (by first | omega | (simp; omega) | simp)
    have hz24 := hb5.size
    have B25 := B20.trans (hb5.mono (by first | omega | (simp; omega) | simp))
    clear hb5
    have z26 : w1.heap.size < w5.heap.size := by omega
    go_wp2
    go_ret
    exact ⟨rfl, B25⟩

set_option maxHeartbeats 400000 in
theorem fnOwedOf_big (A0 : Option Addr) (c0 : Nat) (bs : List Int) (w : World) (hl : ¬ bs.length ≤ 1048576) (hm : bs.length ≤ 9223372036854775807) :
    Calls Try.prog 4 #[.slice A0 bs.length c0] w fun e w' => e = .returned (.bool true) ∧ Below w.heap.size w w' := by
  go_enter Try.func4, Try.ntmps4
  go_wp2
  go_ret
  exact ⟨rfl, Below.refl _ _⟩

theorem fnOwedOf_all (A0 : Option Addr) (c0 : Nat) (bs : List Int) (w : World) (h0 : Bytes w w.heap.size A0 bs) (hm : bs.length ≤ 9223372036854775807) (hc0 : bs.length ≤ c0) :
    Calls Try.prog 4 #[.slice A0 bs.length c0] w fun e w' => e = .returned (.bool true) ∧ Below w.heap.size w w' := by
  by_cases hl : bs.length ≤ 1048576
  · exact fnOwedOf_walk A0 c0 bs w h0 hl hc0
  · exact fnOwedOf_big A0 c0 bs w hl hm

end Go.Proofs.Ytipcmpcoeeipoaa
