/-
  The law of WholeShares returns true for every code, and writes nothing that was there. No condition.
-/
import Derived.Test.YtdhbeodgebdjjaaDrawS
import Derived.Test.YtdhbeodgebdjjaaLawLeaf
import Derived.Test.YtdhbeodgebdjjaaShareRow
import Derived.Test.YtdhbeodgebdjjaaOwedOf
import Derived.Test.YtdhbeodgebdjjaaOtherCase
import Derived.Test.YtdhbeodgebdjjaaWholeLaw
import Derived.Test.YtdhbeodgebdjjaaUnitsIs
import Derived.Deep.RegionHeld3
namespace Go.Proofs.Ytdhbeodgebdjjaa
open Go.RowKit

set_option maxRecDepth 10000 in
set_option maxHeartbeats 2000000 in
theorem fnWholeShares_walk (A0 : Option Addr) (c0 : Nat) (bs : List Int) (w : World) (h0 : Bytes w w.heap.size A0 bs) (hl : bs.length ≤ 1048576) (hc0 : bs.length ≤ c0) :
    Calls Try.prog 6 #[.slice A0 bs.length c0] w fun e w' => e = .returned (.bool true) ∧ Below w.heap.size w w' := by
  have hlm : bs.length ≤ 9223372036854775807 := by omega
  go_enter Try.func6, Try.ntmps6
  go_wp2_with fail
  refine (drawWholeShares_any A0 c0 bs _ h0 hlm hc0).mono ?_
  rintro e w1 ⟨E, A1, c1, xs, hx5, rfl, ho1, hb1⟩
  have hz1 := hb1.size
  have B2 := (Below.refl w.heap.size w).trans (hb1.mono (by first | omega | (simp; omega) | simp))
  clear hb1
  have x3 := new2 w1 (.int .i64 E) (.slice A1 xs.length c1) 25
  have o4 := ho1.alloc (by omega) (.cells #[.int .i64 E, .slice A1 xs.length c1] 25)
  have B5 := B2.alloc (by omega) (.cells #[.int .i64 E, .slice A1 xs.length c1] 25)
  have hl5 : xs.length ≤ 1152921504606846976 := by omega
  obtain ⟨a6, a6'⟩ := x3
  by_cases hok : caseOkB E xs = true
  · have hok' := hok
    have HO := Lib.hid hok'
    have hbd := caseOk_bd hok'
    have hca := Lib.hid (fun k hk hw hs => shW_at hok' k hk hw hs)
    have hcv := Lib.hid (fun k hk => share_bd hok' k hk)
    have hss := shW_small hok'
    have hv : owedOf E xs = xs.sum := by simp [owedOf, hok]
    have HV := Lib.hid hv
    have hsu := shW_sum hok'
    have heq : ((shW E xs).sum == E) = true := by rw [hsu]; simp
    have hcl := shW_length E xs
    have HL := Lib.hid hcl
    have hcl2 := shareRow_length E xs
    have HL2 := Lib.hid hcl2
    have hb0 : (((shW E xs).length : Int) == 0) = false := by rw [hcl]; exact beq_eq_false_iff_ne.2 (by omega)
    have hb1 : (((shareRow E xs).length : Int) != ((shW E xs).length : Int)) = false := by rw [hcl, hcl2]; simp
    have hcl6 : (shW E xs).length ≤ 5 := by rw [hcl]; exact hx5
    have HD : Hid (∃ d, d = max 1 xs.sum) := ⟨_, rfl⟩
    clear hcl hcl2 hv hsu
    clear hok hok'
    go_wp2_with fail
    refine (implWholeShares_is E A1 c1 xs _ _ _ o4.ints (by first | omega | (simp; omega) | simp) hl5 HO.out).mono ?_
    rintro e w2 ⟨A2, c2, rfl, ho2, hb2⟩
    have hp2 : Own w2 (w1.heap.size + 1) w2.heap.size A2 (shW E xs) := ho2.more (by simp) (Nat.le_refl _)
    obtain ⟨a7, a7'⟩ := keep2 hb2 ⟨a6, a6'⟩ (by first | omega | (simp; omega) | simp)
    have o8 := o4.below hb2 (by first | omega | (simp; omega) | simp)
    have hz9 := hb2.size
    simp at hz9
    have B10 := B5.trans (hb2.mono (by first | omega | (simp; omega) | simp))
    clear hb2
    have z11 : w1.heap.size < w2.heap.size := by omega
    go_wp2_with fail
    refine (specWholeShares_is E A1 c1 xs _ _ _ o8.ints (by first | omega | (simp; omega) | simp) hl5 HO.out).mono ?_
    rintro e w3 ⟨A3, c3, rfl, ho3, hb3⟩
    obtain ⟨a12, a12'⟩ := keep2 hb3 ⟨a7, a7'⟩ (by first | omega | (simp; omega) | simp)
    have o13 := o8.below hb3 (by first | omega | (simp; omega) | simp)
    have o14 := hp2.below hb3 (by first | omega | (simp; omega) | simp)
    have hz15 := hb3.size
    have B16 := B10.trans (hb3.mono (by first | omega | (simp; omega) | simp))
    clear hb3
    have z17 : w1.heap.size < w3.heap.size := by omega
    go_wp2_with fail
    refine (sameInts_below A2 A3 c2 c3 (shW E xs) _ _ _ _ _ o14.ints ho3.ints (by omega)).mono ?_
    rintro e w4 ⟨rfl, hb4⟩
    obtain ⟨a18, a18'⟩ := keep2 hb4 ⟨a12, a12'⟩ (by first | omega | (simp; omega) | simp)
    have o19 := o13.below hb4 (by first | omega | (simp; omega) | simp)
    have o20 := o14.below hb4 (by first | omega | (simp; omega) | simp)
    have o21 := ho3.below hb4 (by first | omega | (simp; omega) | simp)
    have hz22 := hb4.size
    have B23 := B16.trans (hb4.mono (by first | omega | (simp; omega) | simp))
    clear hb4
    have z24 : w1.heap.size < w4.heap.size := by omega
    go_wp2_with fail
    refine (implShareRow_yes E A1 c1 xs _ _ _ o19.ints (by first | omega | (simp; omega) | simp) HO.out).mono ?_
    rintro e w5 ⟨A5, c5, rfl, ho5, hb5⟩
    obtain ⟨a25, a25'⟩ := keep2 hb5 ⟨a18, a18'⟩ (by first | omega | (simp; omega) | simp)
    have o26 := o19.below hb5 (by first | omega | (simp; omega) | simp)
    have o27 := o20.below hb5 (by first | omega | (simp; omega) | simp)
    have o28 := o21.below hb5 (by first | omega | (simp; omega) | simp)
    have hz29 := hb5.size
    have B30 := B23.trans (hb5.mono (by first | omega | (simp; omega) | simp))
    clear hb5
    have z31 : w1.heap.size < w5.heap.size := by omega
    go_wp2_with fail
    refine (implOwedOf_any E A1 c1 xs _ _ _ o26.ints (by first | omega | (simp; omega) | simp) hl5).mono ?_
    rintro e w6 ⟨he6, hb6⟩
    rw [HV.out] at he6
    subst he6
    obtain ⟨a32, a32'⟩ := keep2 hb6 ⟨a25, a25'⟩ (by first | omega | (simp; omega) | simp)
    have o33 := o26.below hb6 (by first | omega | (simp; omega) | simp)
    have o34 := o27.below hb6 (by first | omega | (simp; omega) | simp)
    have o35 := o28.below hb6 (by first | omega | (simp; omega) | simp)
    have o36 := ho5.below hb6 (by first | omega | (simp; omega) | simp)
    have hz37 := hb6.size
    have B38 := B30.trans (hb6.mono (by first | omega | (simp; omega) | simp))
    clear hb6
    have z39 : w1.heap.size < w6.heap.size := by omega
    obtain ⟨d, hd⟩ : ∃ d, d = max 1 xs.sum := ⟨_, rfl⟩
    rw [← hd] at hca
    have hdm : max xs.sum 1 = d := by omega
    have hd1 : 1 ≤ d := by omega
    have hd2 : d ≤ 48 := by omega
    have hdz : d ≠ 0 := by omega
    have hz3 : (d == 0) = false := by simpa using hdz
    have hz4 : (d = 0) = False := by simpa using hdz
    clear hd
    go_wp2
    go_loopw [7] (fun i wr => ∃ k : Nat, k ≤ (shW E xs).length ∧ i = .int .i64 k ∧ Below w6.heap.size w6 wr) (fun i _ => (shW E xs).length - (intOf i).toNat)
    case atStart => exact ⟨0, Nat.zero_le _, rfl, Below.refl _ _⟩
    case round =>
      obtain ⟨k, hk, rfl, hbl⟩ := hrel
      obtain ⟨w7, rfl⟩ : ∃ x, x = wr := ⟨_, rfl⟩
      have hbl0 := hbl
      obtain ⟨a40, a40'⟩ := keep2 hbl ⟨a32, a32'⟩ (by first | omega | (simp; omega) | simp)
      have o41 := o33.below hbl (by first | omega | (simp; omega) | simp)
      have o42 := o34.below hbl (by first | omega | (simp; omega) | simp)
      have o43 := o35.below hbl (by first | omega | (simp; omega) | simp)
      have o44 := o36.below hbl (by first | omega | (simp; omega) | simp)
      have hz45 := hbl.size
      have B46 := B38.trans (hbl.mono (by first | omega | (simp; omega) | simp))
      clear hbl
      have z47 : w1.heap.size < w7.heap.size := by omega
      by_cases hlt : k < (shW E xs).length
      · obtain ⟨b0_, o0_, rfl, _, hbh0, hc0⟩ := o42.ints.at_ (k := k) hlt
        obtain ⟨b1_, o1_, rfl, _, hbh1, hc1⟩ := o44.ints.at_ (k := k) (by rw [HL2.out, ← HL.out]; exact hlt)
        obtain ⟨b2_, o2_, rfl, _, hbh2, hc2⟩ := o41.ints.at_ (k := k) (by rw [← HL.out]; exact hlt)
        have hv := hca.out k (by rw [← HL.out]; exact hlt) hlt (by rw [HL2.out, ← HL.out]; exact hlt)
        have hv2 := hcv.out k (by rw [← HL.out]; exact hlt)
        rw [← shareRow_at E xs k (by rw [← HL.out]; exact hlt)] at hv2
        generalize (shW E xs)[k]'hlt = vw at hc0 hv
        generalize (shareRow E xs)[k]'(by rw [HL2.out, ← HL.out]; exact hlt) = vs at hc1 hv hv2
        generalize xs[k]'(by rw [← HL.out]; exact hlt) = vx at hc2 hv
        have hle := Int.ediv_le_self d hv2.1
        have htd : vs.tdiv d = vs / d := Int.tdiv_eq_ediv_of_nonneg hv2.1
        have hw0 : IntKind.i64.wrap (vs / d) = vs / d := IntWalk.i64_in _ (by omega)
        have hw1 : IntKind.i64.wrap (vs / d + 1) = vs / d + 1 := IntWalk.i64_in _ (by omega)
        have hd3 : decide (vw < vs / d) = false := by simp only [decide_eq_false_iff_not]; omega
        have hd4 : decide (vs / d + 1 < vw) = false := by simp only [decide_eq_false_iff_not]; omega
        have hd5 : decide (vx < vw) = false := by simp only [decide_eq_false_iff_not]; omega
        clear hv hle
        have hk0 : (0 : Int) ≤ (k : Int) := by omega
        have hk1 : (k : Int) < ((shW E xs).length : Int) := by omega
        have hk2 : (k : Int) < (xs.length : Int) := by have := HL.out; omega
        have hk3 : (k : Int) < ((shareRow E xs).length : Int) := by have := HL.out; have := HL2.out; omega
        have H := Lib.hid hbl0
        go_wp2
        go_quiet (fail)
        go_wp2
        go_roundw
        case rel => exact ⟨k + 1, by omega, by go_num, below_drewN H.out _⟩
        case measure => simp [intOf]; omega
      · have hkN : k = (shW E xs).length := by omega
        subst hkN
        clear hbl0
        go_wp2
        go_quiet ((go_at_call 19; exact quiet_left (lsumOf_any _ _ _ _ _ _ (o42.ints.drewN _) hss)))
        go_wp2
        go_ret
        exact ⟨rfl, below_drewN B46 _⟩
  · have hok' : caseOkB E xs = false := by simpa using hok
    have HO := Lib.hid hok'
    clear hok hok'
    go_wp2_with fail
    refine (implWholeShares_none E A1 c1 xs _ _ _ o4.ints (by first | omega | (simp; omega) | simp) hl5 HO.out).mono ?_
    rintro e w2 ⟨A2, c2, rfl, ho2, hb2⟩
    have hp2 : Own w2 (w1.heap.size + 1) w2.heap.size A2 (([] : List Int)) := ho2.more (by simp) (Nat.le_refl _)
    obtain ⟨a7, a7'⟩ := keep2 hb2 ⟨a6, a6'⟩ (by first | omega | (simp; omega) | simp)
    have o8 := o4.below hb2 (by first | omega | (simp; omega) | simp)
    have hz9 := hb2.size
    simp at hz9
    have B10 := B5.trans (hb2.mono (by first | omega | (simp; omega) | simp))
    clear hb2
    have z11 : w1.heap.size < w2.heap.size := by omega
    go_wp2_with fail
    refine (specWholeShares_no E A1 c1 xs _ _ _ o8.ints (by first | omega | (simp; omega) | simp) hl5 HO.out).mono ?_
    rintro e w3 ⟨A3, c3, rfl, ho3, hb3⟩
    obtain ⟨a12, a12'⟩ := keep2 hb3 ⟨a7, a7'⟩ (by first | omega | (simp; omega) | simp)
    have o13 := o8.below hb3 (by first | omega | (simp; omega) | simp)
    have o14 := hp2.below hb3 (by first | omega | (simp; omega) | simp)
    have hz15 := hb3.size
    have B16 := B10.trans (hb3.mono (by first | omega | (simp; omega) | simp))
    clear hb3
    have z17 : w1.heap.size < w3.heap.size := by omega
    go_wp2_with fail
    refine (sameInts_below A2 A3 c2 c3 ([] : List Int) _ _ _ _ _ o14.ints ho3.ints (by simp)).mono ?_
    rintro e w4 ⟨rfl, hb4⟩
    obtain ⟨a18, a18'⟩ := keep2 hb4 ⟨a12, a12'⟩ (by first | omega | (simp; omega) | simp)
    have o19 := o13.below hb4 (by first | omega | (simp; omega) | simp)
    have o20 := o14.below hb4 (by first | omega | (simp; omega) | simp)
    have o21 := ho3.below hb4 (by first | omega | (simp; omega) | simp)
    have hz22 := hb4.size
    have B23 := B16.trans (hb4.mono (by first | omega | (simp; omega) | simp))
    clear hb4
    have z24 : w1.heap.size < w4.heap.size := by omega
    go_wp2_with fail
    refine (implCaseOk_no (E) (A1) c1 xs _ _ _ o19.ints (by first | omega | (simp; omega) | simp) (by first | omega | simp) HO.out).mono ?_
    rintro e w5 ⟨rfl, hb5⟩
    obtain ⟨a25, a25'⟩ := keep2 hb5 ⟨a18, a18'⟩ (by first | omega | (simp; omega) | simp)
    have o26 := o19.below hb5 (by first | omega | (simp; omega) | simp)
    have o27 := o20.below hb5 (by first | omega | (simp; omega) | simp)
    have o28 := o21.below hb5 (by first | omega | (simp; omega) | simp)
    have hz29 := hb5.size
    have B30 := B23.trans (hb5.mono (by first | omega | (simp; omega) | simp))
    clear hb5
    have z31 : w1.heap.size < w5.heap.size := by omega
    go_wp2_with fail
    refine (alive_any _).mono ?_
    rintro e w6 ⟨rfl, hb6⟩
    obtain ⟨a32, a32'⟩ := keep2 hb6 ⟨a25, a25'⟩ (by first | omega | (simp; omega) | simp)
    have o33 := o26.below hb6 (by first | omega | (simp; omega) | simp)
    have o34 := o27.below hb6 (by first | omega | (simp; omega) | simp)
    have o35 := o28.below hb6 (by first | omega | (simp; omega) | simp)
    have hz36 := hb6.size
    have B37 := B30.trans (hb6.mono (by first | omega | (simp; omega) | simp))
    clear hb6
    have z38 : w1.heap.size < w6.heap.size := by omega
    go_wp2
    go_ret
    exact ⟨rfl, B37⟩

set_option maxRecDepth 10000 in
set_option maxHeartbeats 400000 in
theorem fnWholeShares_big (A0 : Option Addr) (c0 : Nat) (bs : List Int) (w : World) (hl : ¬ bs.length ≤ 1048576) (hm : bs.length ≤ 9223372036854775807) :
    Calls Try.prog 6 #[.slice A0 bs.length c0] w fun e w' => e = .returned (.bool true) ∧ Below w.heap.size w w' := by
  go_enter Try.func6, Try.ntmps6
  go_wp2
  go_ret
  exact ⟨rfl, Below.refl _ _⟩

theorem fnWholeShares_all (A0 : Option Addr) (c0 : Nat) (bs : List Int) (w : World) (h0 : Bytes w w.heap.size A0 bs) (hm : bs.length ≤ 9223372036854775807) (hc0 : bs.length ≤ c0) :
    Calls Try.prog 6 #[.slice A0 bs.length c0] w fun e w' => e = .returned (.bool true) ∧ Below w.heap.size w w' := by
  by_cases hl : bs.length ≤ 1048576
  · exact fnWholeShares_walk A0 c0 bs w h0 hl hc0
  · exact fnWholeShares_big A0 c0 bs w hl hm

end Go.Proofs.Ytdhbeodgebdjjaa
