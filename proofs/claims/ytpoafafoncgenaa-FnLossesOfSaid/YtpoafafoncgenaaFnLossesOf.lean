/-
  The law of LossesOf returns true for every code, and writes nothing that was there. No condition.
-/
import Derived.Test.YtpoafafoncgenaaDrawL
import Derived.Test.YtpoafafoncgenaaLawLeaf
import Derived.Test.YtpoafafoncgenaaLossLaw
import Derived.Test.YtpoafafoncgenaaOtherCase
import Derived.Deep.RegionHeld3
namespace Go.Proofs.Ytpoafafoncgenaa
open Go.RowKit

set_option maxRecDepth 10000 in
set_option maxHeartbeats 2000000 in
theorem fnLossesOf_walk (A0 : Option Addr) (c0 : Nat) (bs : List Int) (w : World) (h0 : Bytes w w.heap.size A0 bs) (hl : bs.length ≤ 1048576) (hc0 : bs.length ≤ c0) :
    Calls Try.prog 5 #[.slice A0 bs.length c0] w fun e w' => e = .returned (.bool true) ∧ Below w.heap.size w w' := by
  have hlm : bs.length ≤ 9223372036854775807 := by omega
  go_enter Try.func5, Try.ntmps5
  go_wp2_with fail
  refine (drawLossesOf_any A0 c0 bs _ h0 hlm hc0).mono ?_
  rintro e w1 ⟨E, A1, c1, D1, d1, xs, ys, hx5, hy5, hyb, rfl, ho1, hq1, hb1⟩
  have hz1 := hb1.size
  have B2 := (Below.refl w.heap.size w).trans (hb1.mono (by first | omega | (simp; omega) | simp))
  clear hb1
  have x3 := new2 w1 (.int .i64 E) (.slice A1 xs.length c1) 25
  have o4 := ho1.alloc (by omega) (.cells #[.int .i64 E, .slice A1 xs.length c1] 25)
  have o5 := hq1.alloc (by omega) (.cells #[.int .i64 E, .slice A1 xs.length c1] 25)
  have B6 := B2.alloc (by omega) (.cells #[.int .i64 E, .slice A1 xs.length c1] 25)
  have hl5 : xs.length ≤ 1152921504606846976 := by omega
  have hl6 : ys.length ≤ 1152921504606846976 := by omega
  obtain ⟨a7, a7'⟩ := x3
  by_cases haw : awardsB E xs ys = true
  · have haw' : awardsB E xs ys = true := by simpa using haw
    have HO := Lib.hid haw'
    have hA := (awardsB_iff _ _ _).1 haw'
    have HC := Lib.hid hA.1
    have hbd := caseOk_bd hA.1
    have HY := Lib.hid hA.2.1
    have HP := Lib.hid (other_ok hA.1)
    have HL := Lib.hid (aw_loss haw')
    have HN := Lib.hid (lossesRow_length hA.2.1)
    have hll : (lossesRow xs ys).length ≤ 1152921504606846976 := by rw [lossesRow_length hA.2.1]; omega
    have hb0 : (((lossesRow xs ys).length : Int) == 0) = false := beq_eq_false_iff_ne.2 (by rw [lossesRow_length hA.2.1, hA.2.1]; omega)
    clear hA
    clear haw haw'
    go_wp2_with fail
    refine (implLossesOf_yes E A1 c1 xs D1 d1 ys _ _ _ o4.ints (by first | omega | (simp; omega) | simp) hl5 _ _ o5.ints (by first | omega | (simp; omega) | simp) hl6 HO.out).mono ?_
    rintro e w2 ⟨A2, c2, rfl, ho2, hb2⟩
    have hp2 : Own w2 (w1.heap.size + 1) w2.heap.size A2 (lossesRow xs ys) := ho2.more (by simp) (Nat.le_refl _)
    obtain ⟨a8, a8'⟩ := keep2 hb2 ⟨a7, a7'⟩ (by first | omega | (simp; omega) | simp)
    have o9 := o4.below hb2 (by first | omega | (simp; omega) | simp)
    have o10 := o5.below hb2 (by first | omega | (simp; omega) | simp)
    have hz11 := hb2.size
    simp at hz11
    have B12 := B6.trans (hb2.mono (by first | omega | (simp; omega) | simp))
    clear hb2
    have z13 : w1.heap.size < w2.heap.size := by omega
    go_wp2_with fail
    refine (specLossesOf_yes E A1 c1 xs D1 d1 ys _ _ _ o9.ints (by first | omega | (simp; omega) | simp) hl5 _ _ o10.ints (by first | omega | (simp; omega) | simp) hl6 HO.out).mono ?_
    rintro e w3 ⟨A3, c3, rfl, ho3, hb3⟩
    obtain ⟨a14, a14'⟩ := keep2 hb3 ⟨a8, a8'⟩ (by first | omega | (simp; omega) | simp)
    have o15 := o9.below hb3 (by first | omega | (simp; omega) | simp)
    have o16 := o10.below hb3 (by first | omega | (simp; omega) | simp)
    have o17 := hp2.below hb3 (by first | omega | (simp; omega) | simp)
    have hz18 := hb3.size
    have B19 := B12.trans (hb3.mono (by first | omega | (simp; omega) | simp))
    clear hb3
    have z20 : w1.heap.size < w3.heap.size := by omega
    go_wp2_with fail
    refine (sameInts_below A2 A3 c2 c3 (lossesRow xs ys) _ _ _ _ _ o17.ints ho3.ints (by first | exact hll | simp)).mono ?_
    rintro e w4 ⟨rfl, hb4⟩
    obtain ⟨a21, a21'⟩ := keep2 hb4 ⟨a14, a14'⟩ (by first | omega | (simp; omega) | simp)
    have o22 := o15.below hb4 (by first | omega | (simp; omega) | simp)
    have o23 := o16.below hb4 (by first | omega | (simp; omega) | simp)
    have o24 := o17.below hb4 (by first | omega | (simp; omega) | simp)
    have o25 := ho3.below hb4 (by first | omega | (simp; omega) | simp)
    have hz26 := hb4.size
    have B27 := B19.trans (hb4.mono (by first | omega | (simp; omega) | simp))
    clear hb4
    have z28 : w1.heap.size < w4.heap.size := by omega
    go_wp2_with fail
    refine (implOtherCase_yes E A1 c1 xs _ _ _ o22.ints (by first | omega | (simp; omega) | simp) HC.out).mono ?_
    rintro e w5 ⟨A5, c5, rfl, ho5, hb5⟩
    obtain ⟨a29, a29'⟩ := keep2 hb5 ⟨a21, a21'⟩ (by first | omega | (simp; omega) | simp)
    have o30 := o22.below hb5 (by first | omega | (simp; omega) | simp)
    have o31 := o23.below hb5 (by first | omega | (simp; omega) | simp)
    have o32 := o24.below hb5 (by first | omega | (simp; omega) | simp)
    have o33 := o25.below hb5 (by first | omega | (simp; omega) | simp)
    have hz34 := hb5.size
    have B35 := B27.trans (hb5.mono (by first | omega | (simp; omega) | simp))
    clear hb5
    have z36 : w1.heap.size < w5.heap.size := by omega
    have x37 := new2 w5 (.int .i64 (xs.sum - E)) (.slice A5 xs.length c5) 25
    have q38 := keep2 ((Below.refl w5.heap.size w5).alloc (Nat.le_refl _) (.cells #[.int .i64 (xs.sum - E), .slice A5 xs.length c5] 25)) ⟨a29, a29'⟩ (by omega)
    have o39 := o30.alloc (by omega) (.cells #[.int .i64 (xs.sum - E), .slice A5 xs.length c5] 25)
    have o40 := o31.alloc (by omega) (.cells #[.int .i64 (xs.sum - E), .slice A5 xs.length c5] 25)
    have o41 := o32.alloc (by omega) (.cells #[.int .i64 (xs.sum - E), .slice A5 xs.length c5] 25)
    have o42 := o33.alloc (by omega) (.cells #[.int .i64 (xs.sum - E), .slice A5 xs.length c5] 25)
    have o43 := ho5.alloc (by omega) (.cells #[.int .i64 (xs.sum - E), .slice A5 xs.length c5] 25)
    have B44 := B35.alloc (by omega) (.cells #[.int .i64 (xs.sum - E), .slice A5 xs.length c5] 25)
    obtain ⟨a45, a45'⟩ := q38
    obtain ⟨a46, a46'⟩ := x37
    go_wp2_with fail
    refine (implAwardsOk_is (xs.sum - E) A5 c5 xs A2 c2 (lossesRow xs ys) _ _ _ o43.ints (by first | omega | (simp; omega) | simp) hl5 _ _ o41.ints (by first | omega | (simp; omega) | simp) hll HL.out).mono ?_
    rintro e w6 ⟨rfl, hb6⟩
    obtain ⟨a47, a47'⟩ := keep2 hb6 ⟨a45, a45'⟩ (by first | omega | (simp; omega) | simp)
    obtain ⟨a48, a48'⟩ := keep2 hb6 ⟨a46, a46'⟩ (by first | omega | (simp; omega) | simp)
    have o49 := o39.below hb6 (by first | omega | (simp; omega) | simp)
    have o50 := o40.below hb6 (by first | omega | (simp; omega) | simp)
    have o51 := o41.below hb6 (by first | omega | (simp; omega) | simp)
    have o52 := o42.below hb6 (by first | omega | (simp; omega) | simp)
    have o53 := o43.below hb6 (by first | omega | (simp; omega) | simp)
    have hz54 := hb6.size
    simp at hz54
    have B55 := B44.trans (hb6.mono (by first | omega | (simp; omega) | simp))
    clear hb6
    have z56 : w1.heap.size < w6.heap.size := by omega
    have z57 : w5.heap.size < w6.heap.size := by omega
    go_wp2_with fail
    refine (implLossesOf_back (xs.sum - E) A5 c5 xs A2 c2 ys _ _ _ o53.ints (by first | omega | (simp; omega) | simp) hl5 _ _ o51.ints (by first | omega | (simp; omega) | simp) hll HL.out HY.out).mono ?_
    rintro e w7 ⟨A7, c7, rfl, ho7, hb7⟩
    obtain ⟨a58, a58'⟩ := keep2 hb7 ⟨a47, a47'⟩ (by first | omega | (simp; omega) | simp)
    obtain ⟨a59, a59'⟩ := keep2 hb7 ⟨a48, a48'⟩ (by first | omega | (simp; omega) | simp)
    have o60 := o49.below hb7 (by first | omega | (simp; omega) | simp)
    have o61 := o50.below hb7 (by first | omega | (simp; omega) | simp)
    have o62 := o51.below hb7 (by first | omega | (simp; omega) | simp)
    have o63 := o52.below hb7 (by first | omega | (simp; omega) | simp)
    have o64 := o53.below hb7 (by first | omega | (simp; omega) | simp)
    have hz65 := hb7.size
    have B66 := B55.trans (hb7.mono (by first | omega | (simp; omega) | simp))
    clear hb7
    have z67 : w1.heap.size < w7.heap.size := by omega
    have z68 : w5.heap.size < w7.heap.size := by omega
    go_wp2_with fail
    refine (sameInts_below A7 D1 c7 d1 ys _ _ _ _ _ ho7.ints o61.ints hl6).mono ?_
    rintro e w8 ⟨rfl, hb8⟩
    obtain ⟨a69, a69'⟩ := keep2 hb8 ⟨a58, a58'⟩ (by first | omega | (simp; omega) | simp)
    obtain ⟨a70, a70'⟩ := keep2 hb8 ⟨a59, a59'⟩ (by first | omega | (simp; omega) | simp)
    have o71 := o60.below hb8 (by first | omega | (simp; omega) | simp)
    have o72 := o61.below hb8 (by first | omega | (simp; omega) | simp)
    have o73 := o62.below hb8 (by first | omega | (simp; omega) | simp)
    have o74 := o63.below hb8 (by first | omega | (simp; omega) | simp)
    have o75 := o64.below hb8 (by first | omega | (simp; omega) | simp)
    have o76 := ho7.below hb8 (by first | omega | (simp; omega) | simp)
    have hz77 := hb8.size
    have B78 := B66.trans (hb8.mono (by first | omega | (simp; omega) | simp))
    clear hb8
    have z79 : w1.heap.size < w8.heap.size := by omega
    have z80 : w5.heap.size < w8.heap.size := by omega
    go_wp2
    go_ret
    exact ⟨rfl, B78⟩
  · have haw' : awardsB E xs ys = false := by simpa using haw
    have HO := Lib.hid haw'
    clear haw haw'
    go_wp2_with fail
    refine (implLossesOf_no E A1 c1 xs D1 d1 ys _ _ _ o4.ints (by first | omega | (simp; omega) | simp) hl5 _ _ o5.ints (by first | omega | (simp; omega) | simp) hl6 HO.out).mono ?_
    rintro e w2 ⟨A2, c2, rfl, ho2, hb2⟩
    have hp2 : Own w2 (w1.heap.size + 1) w2.heap.size A2 (([] : List Int)) := ho2.more (by simp) (Nat.le_refl _)
    obtain ⟨a8, a8'⟩ := keep2 hb2 ⟨a7, a7'⟩ (by first | omega | (simp; omega) | simp)
    have o9 := o4.below hb2 (by first | omega | (simp; omega) | simp)
    have o10 := o5.below hb2 (by first | omega | (simp; omega) | simp)
    have hz11 := hb2.size
    simp at hz11
    have B12 := B6.trans (hb2.mono (by first | omega | (simp; omega) | simp))
    clear hb2
    have z13 : w1.heap.size < w2.heap.size := by omega
    go_wp2_with fail
    refine (specLossesOf_no E A1 c1 xs D1 d1 ys _ _ _ o9.ints (by first | omega | (simp; omega) | simp) hl5 _ _ o10.ints (by first | omega | (simp; omega) | simp) hl6 HO.out).mono ?_
    rintro e w3 ⟨A3, c3, rfl, ho3, hb3⟩
    obtain ⟨a14, a14'⟩ := keep2 hb3 ⟨a8, a8'⟩ (by first | omega | (simp; omega) | simp)
    have o15 := o9.below hb3 (by first | omega | (simp; omega) | simp)
    have o16 := o10.below hb3 (by first | omega | (simp; omega) | simp)
    have o17 := hp2.below hb3 (by first | omega | (simp; omega) | simp)
    have hz18 := hb3.size
    have B19 := B12.trans (hb3.mono (by first | omega | (simp; omega) | simp))
    clear hb3
    have z20 : w1.heap.size < w3.heap.size := by omega
    go_wp2_with fail
    refine (sameInts_below A2 A3 c2 c3 (([] : List Int)) _ _ _ _ _ o17.ints ho3.ints (by first | exact hll | simp)).mono ?_
    rintro e w4 ⟨rfl, hb4⟩
    obtain ⟨a21, a21'⟩ := keep2 hb4 ⟨a14, a14'⟩ (by first | omega | (simp; omega) | simp)
    have o22 := o15.below hb4 (by first | omega | (simp; omega) | simp)
    have o23 := o16.below hb4 (by first | omega | (simp; omega) | simp)
    have o24 := o17.below hb4 (by first | omega | (simp; omega) | simp)
    have o25 := ho3.below hb4 (by first | omega | (simp; omega) | simp)
    have hz26 := hb4.size
    have B27 := B19.trans (hb4.mono (by first | omega | (simp; omega) | simp))
    clear hb4
    have z28 : w1.heap.size < w4.heap.size := by omega
    go_wp2_with fail
    refine (implAwardsOk_is E A1 c1 xs D1 d1 ys _ _ _ o22.ints (by first | omega | (simp; omega) | simp) hl5 _ _ o23.ints (by first | omega | (simp; omega) | simp) hl6 HO.out).mono ?_
    rintro e w5 ⟨rfl, hb5⟩
    obtain ⟨a29, a29'⟩ := keep2 hb5 ⟨a21, a21'⟩ (by first | omega | (simp; omega) | simp)
    have o30 := o22.below hb5 (by first | omega | (simp; omega) | simp)
    have o31 := o23.below hb5 (by first | omega | (simp; omega) | simp)
    have o32 := o24.below hb5 (by first | omega | (simp; omega) | simp)
    have o33 := o25.below hb5 (by first | omega | (simp; omega) | simp)
    have hz34 := hb5.size
    have B35 := B27.trans (hb5.mono (by first | omega | (simp; omega) | simp))
    clear hb5
    have z36 : w1.heap.size < w5.heap.size := by omega
    go_wp2_with fail
    refine (alive_any _).mono ?_
    rintro e w6 ⟨rfl, hb6⟩
    obtain ⟨a37, a37'⟩ := keep2 hb6 ⟨a29, a29'⟩ (by first | omega | (simp; omega) | simp)
    have o38 := o30.below hb6 (by first | omega | (simp; omega) | simp)
    have o39 := o31.below hb6 (by first | omega | (simp; omega) | simp)
    have o40 := o32.below hb6 (by first | omega | (simp; omega) | simp)
    have o41 := o33.below hb6 (by first | omega | (simp; omega) | simp)
    have hz42 := hb6.size
    have B43 := B35.trans (hb6.mono (by first | omega | (simp; omega) | simp))
    clear hb6
    have z44 : w1.heap.size < w6.heap.size := by omega
    go_wp2
    go_ret
    exact ⟨rfl, B43⟩

set_option maxRecDepth 10000 in
set_option maxHeartbeats 400000 in
theorem fnLossesOf_big (A0 : Option Addr) (c0 : Nat) (bs : List Int) (w : World) (hl : ¬ bs.length ≤ 1048576) (hm : bs.length ≤ 9223372036854775807) :
    Calls Try.prog 5 #[.slice A0 bs.length c0] w fun e w' => e = .returned (.bool true) ∧ Below w.heap.size w w' := by
  go_enter Try.func5, Try.ntmps5
  go_wp2
  go_ret
  exact ⟨rfl, Below.refl _ _⟩

theorem fnLossesOf_all (A0 : Option Addr) (c0 : Nat) (bs : List Int) (w : World) (h0 : Bytes w w.heap.size A0 bs) (hm : bs.length ≤ 9223372036854775807) (hc0 : bs.length ≤ c0) :
    Calls Try.prog 5 #[.slice A0 bs.length c0] w fun e w' => e = .returned (.bool true) ∧ Below w.heap.size w w' := by
  by_cases hl : bs.length ≤ 1048576
  · exact fnLossesOf_walk A0 c0 bs w h0 hl hc0
  · exact fnLossesOf_big A0 c0 bs w hl hm

end Go.Proofs.Ytpoafafoncgenaa
