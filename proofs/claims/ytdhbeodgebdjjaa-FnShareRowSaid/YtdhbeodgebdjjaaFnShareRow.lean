/-
  The law of ShareRow returns true for every code, and writes nothing that was there. No condition.
-/
import Derived.Test.YtdhbeodgebdjjaaDrawS
import Derived.Test.YtdhbeodgebdjjaaLawLeaf
import Derived.Test.YtdhbeodgebdjjaaShareRow
import Derived.Test.YtdhbeodgebdjjaaOwedOf
import Derived.Test.YtdhbeodgebdjjaaOtherCase
import Derived.Test.YtdhbeodgebdjjaaWholeLaw
import Derived.Test.YtdhbeodgebdjjaaPure2
import Derived.Deep.RegionHeld3
namespace Go.Proofs.Ytdhbeodgebdjjaa
open Go.RowKit

set_option maxRecDepth 10000 in
set_option maxHeartbeats 2000000 in
theorem fnShareRow_walk (A0 : Option Addr) (c0 : Nat) (bs : List Int) (w : World) (h0 : Bytes w w.heap.size A0 bs) (hl : bs.length ≤ 1048576) (hc0 : bs.length ≤ c0) :
    Calls Try.prog 3 #[.slice A0 bs.length c0] w fun e w' => e = .returned (.bool true) ∧ Below w.heap.size w w' := by
  have hlm : bs.length ≤ 9223372036854775807 := by omega
  go_enter Try.func3, Try.ntmps3
  go_wp2_with fail
  refine (drawShareRow_any A0 c0 bs _ h0 hlm hc0).mono ?_
  rintro e w1 ⟨E, A1, c1, xs, hx5, rfl, ho1, hb1⟩
  have hz1 := hb1.size
  have B2 := (Below.refl w.heap.size w).trans (hb1.mono (by first | omega | (simp; omega) | simp))
  clear hb1
  have x3 := new2 w1 (.int .i64 E) (.slice A1 xs.length c1) 25
  have o4 := ho1.alloc (by omega) (.cells #[.int .i64 E, .slice A1 xs.length c1] 25)
  have B5 := B2.alloc (by omega) (.cells #[.int .i64 E, .slice A1 xs.length c1] 25)
  have hl5 : xs.length ≤ 1152921504606846976 := by omega
  obtain ⟨a6, a6'⟩ := x3
  by_cases hok : caseOkB E xs = true
  · have hok' := hok
    have HO := Lib.hid hok'
    have hbd := caseOk_bd hok'
    have HP := Lib.hid (other_ok hok')
    have hca := Lib.hid (fun k hk => share_bd hok' k hk)
    have hca2 := Lib.hid (fun k hk => share_bd (other_ok hok') k hk)
    have hss := share_small hok'
    have hv : owedOf E xs = xs.sum := by simp [owedOf, hok]
    have HV := Lib.hid hv
    have hcl := shareRow_length E xs
    have HL := Lib.hid hcl
    have hcl2 := shareRow_length (xs.sum - E) xs
    have HL2 := Lib.hid hcl2
    have hb0 : (((shareRow E xs).length : Int) == 0) = false := by rw [hcl]; exact beq_eq_false_iff_ne.2 (by omega)
    have hb1 : (((shareRow (xs.sum - E) xs).length : Int) == ((shareRow E xs).length : Int)) = true := by rw [hcl, hcl2]; simp
    have hcl6 : (shareRow E xs).length ≤ 5 := by rw [hcl]; exact hx5
    have hqb := mul_bd (a := E) (b := xs.sum) (A := 48) (B := 48) (by omega) (by omega) (by omega) (by omega)
    obtain ⟨Q, hQ⟩ : ∃ Q, E * xs.sum = Q := ⟨_, rfl⟩
    rw [hQ] at hqb
    have hwQ : IntKind.i64.wrap Q = Q := IntWalk.i64_in _ (by omega)
    have hsq : (shareRow E xs).sum = Q := by rw [share_sum, ← hQ, Int.mul_comm]
    have heq : ((shareRow E xs).sum == Q) = true := by rw [hsq]; simp
    clear hcl hcl2 hv hsq
    clear hok hok'
    go_wp2_with fail
    refine (implShareRow_yes E A1 c1 xs _ _ _ o4.ints (by first | omega | (simp; omega) | simp) HO.out).mono ?_
    rintro e w2 ⟨A2, c2, rfl, ho2, hb2⟩
    have hp2 : Own w2 (w1.heap.size + 1) w2.heap.size A2 (shareRow E xs) := ho2.more (by simp) (Nat.le_refl _)
    obtain ⟨a7, a7'⟩ := keep2 hb2 ⟨a6, a6'⟩ (by first | omega | (simp; omega) | simp)
    have o8 := o4.below hb2 (by first | omega | (simp; omega) | simp)
    have hz9 := hb2.size
    simp at hz9
    have B10 := B5.trans (hb2.mono (by first | omega | (simp; omega) | simp))
    clear hb2
    have z11 : w1.heap.size < w2.heap.size := by omega
    go_wp2_with fail
    refine (specShareRow_yes E A1 c1 xs _ _ _ o8.ints (by first | omega | (simp; omega) | simp) HO.out).mono ?_
    rintro e w3 ⟨A3, c3, rfl, ho3, hb3⟩
    obtain ⟨a12, a12'⟩ := keep2 hb3 ⟨a7, a7'⟩ (by first | omega | (simp; omega) | simp)
    have o13 := o8.below hb3 (by first | omega | (simp; omega) | simp)
    have o14 := hp2.below hb3 (by first | omega | (simp; omega) | simp)
    have hz15 := hb3.size
    have B16 := B10.trans (hb3.mono (by first | omega | (simp; omega) | simp))
    clear hb3
    have z17 : w1.heap.size < w3.heap.size := by omega
    go_wp2_with fail
    refine (sameInts_below A2 A3 c2 c3 (shareRow E xs) _ _ _ _ _ o14.ints ho3.ints (by omega)).mono ?_
    rintro e w4 ⟨rfl, hb4⟩
    obtain ⟨a18, a18'⟩ := keep2 hb4 ⟨a12, a12'⟩ (by first | omega | (simp; omega) | simp)
    have o19 := o13.below hb4 (by first | omega | (simp; omega) | simp)
    have o20 := o14.below hb4 (by first | omega | (simp; omega) | simp)
    have o21 := ho3.below hb4 (by first | omega | (simp; omega) | simp)
    have hz22 := hb4.size
    have B23 := B16.trans (hb4.mono (by first | omega | (simp; omega) | simp))
    clear hb4
    have z24 : w1.heap.size < w4.heap.size := by omega
    go_wp2_with fail
    refine (implOtherCase_yes E A1 c1 xs _ _ _ o19.ints (by first | omega | (simp; omega) | simp) HO.out).mono ?_
    rintro e w5 ⟨A5, c5, rfl, ho5, hb5⟩
    obtain ⟨a25, a25'⟩ := keep2 hb5 ⟨a18, a18'⟩ (by first | omega | (simp; omega) | simp)
    have o26 := o19.below hb5 (by first | omega | (simp; omega) | simp)
    have o27 := o20.below hb5 (by first | omega | (simp; omega) | simp)
    have o28 := o21.below hb5 (by first | omega | (simp; omega) | simp)
    have hz29 := hb5.size
    have B30 := B23.trans (hb5.mono (by first | omega | (simp; omega) | simp))
    clear hb5
    have z31 : w1.heap.size < w5.heap.size := by omega
    have x32 := new2 w5 (.int .i64 (xs.sum - E)) (.slice A5 xs.length c5) 25
    have q33 := keep2 ((Below.refl w5.heap.size w5).alloc (Nat.le_refl _) (.cells #[.int .i64 (xs.sum - E), .slice A5 xs.length c5] 25)) ⟨a25, a25'⟩ (by omega)
    have o34 := o26.alloc (by omega) (.cells #[.int .i64 (xs.sum - E), .slice A5 xs.length c5] 25)
    have o35 := o27.alloc (by omega) (.cells #[.int .i64 (xs.sum - E), .slice A5 xs.length c5] 25)
    have o36 := o28.alloc (by omega) (.cells #[.int .i64 (xs.sum - E), .slice A5 xs.length c5] 25)
    have o37 := ho5.alloc (by omega) (.cells #[.int .i64 (xs.sum - E), .slice A5 xs.length c5] 25)
    have B38 := B30.alloc (by omega) (.cells #[.int .i64 (xs.sum - E), .slice A5 xs.length c5] 25)
    obtain ⟨a39, a39'⟩ := q33
    obtain ⟨a40, a40'⟩ := x32
    go_wp2_with fail
    refine (implShareRow_yes (xs.sum - E) A5 c5 xs _ _ _ o37.ints (by first | omega | (simp; omega) | simp) HP.out).mono ?_
    rintro e w6 ⟨A6, c6, rfl, ho6, hb6⟩
    have hp6 : Own w6 (w5.heap.size + 1) w6.heap.size A6 (shareRow (xs.sum - E) xs) := ho6.more (by simp) (Nat.le_refl _)
    obtain ⟨a41, a41'⟩ := keep2 hb6 ⟨a39, a39'⟩ (by first | omega | (simp; omega) | simp)
    obtain ⟨a42, a42'⟩ := keep2 hb6 ⟨a40, a40'⟩ (by first | omega | (simp; omega) | simp)
    have o43 := o34.below hb6 (by first | omega | (simp; omega) | simp)
    have o44 := o35.below hb6 (by first | omega | (simp; omega) | simp)
    have o45 := o36.below hb6 (by first | omega | (simp; omega) | simp)
    have o46 := o37.below hb6 (by first | omega | (simp; omega) | simp)
    have hz47 := hb6.size
    simp at hz47
    have B48 := B38.trans (hb6.mono (by first | omega | (simp; omega) | simp))
    clear hb6
    have z49 : w1.heap.size < w6.heap.size := by omega
    have z50 : w5.heap.size < w6.heap.size := by omega
    go_wp2_with fail
    refine (implOwedOf_any E A1 c1 xs _ _ _ o43.ints (by first | omega | (simp; omega) | simp) hl5).mono ?_
    rintro e w7 ⟨he7, hb7⟩
    rw [HV.out] at he7
    subst he7
    obtain ⟨a51, a51'⟩ := keep2 hb7 ⟨a41, a41'⟩ (by first | omega | (simp; omega) | simp)
    obtain ⟨a52, a52'⟩ := keep2 hb7 ⟨a42, a42'⟩ (by first | omega | (simp; omega) | simp)
    have o53 := o43.below hb7 (by first | omega | (simp; omega) | simp)
    have o54 := o44.below hb7 (by first | omega | (simp; omega) | simp)
    have o55 := o45.below hb7 (by first | omega | (simp; omega) | simp)
    have o56 := o46.below hb7 (by first | omega | (simp; omega) | simp)
    have o57 := hp6.below hb7 (by first | omega | (simp; omega) | simp)
    have hz58 := hb7.size
    have B59 := B48.trans (hb7.mono (by first | omega | (simp; omega) | simp))
    clear hb7
    have z60 : w1.heap.size < w7.heap.size := by omega
    have z61 : w5.heap.size < w7.heap.size := by omega
    go_wp2
    go_loopw [9] (fun i wr => ∃ k : Nat, k ≤ (shareRow E xs).length ∧ i = .int .i64 k ∧ Below w7.heap.size w7 wr) (fun i _ => (shareRow E xs).length - (intOf i).toNat)
    case atStart => exact ⟨0, Nat.zero_le _, rfl, Below.refl _ _⟩
    case round =>
      obtain ⟨k, hk, rfl, hbl⟩ := hrel
      obtain ⟨w8, rfl⟩ : ∃ x, x = wr := ⟨_, rfl⟩
      have hbl0 := hbl
      obtain ⟨a62, a62'⟩ := keep2 hbl ⟨a51, a51'⟩ (by first | omega | (simp; omega) | simp)
      obtain ⟨a63, a63'⟩ := keep2 hbl ⟨a52, a52'⟩ (by first | omega | (simp; omega) | simp)
      have o64 := o53.below hbl (by first | omega | (simp; omega) | simp)
      have o65 := o54.below hbl (by first | omega | (simp; omega) | simp)
      have o66 := o55.below hbl (by first | omega | (simp; omega) | simp)
      have o67 := o56.below hbl (by first | omega | (simp; omega) | simp)
      have o68 := o57.below hbl (by first | omega | (simp; omega) | simp)
      have hz69 := hbl.size
      have B70 := B59.trans (hbl.mono (by first | omega | (simp; omega) | simp))
      clear hbl
      have z71 : w1.heap.size < w8.heap.size := by omega
      have z72 : w5.heap.size < w8.heap.size := by omega
      by_cases hlt : k < (shareRow E xs).length
      · obtain ⟨b0_, o0_, rfl, _, hbh0, hc0⟩ := o65.ints.at_ (k := k) hlt
        obtain ⟨b1_, o1_, rfl, _, hbh1, hc1⟩ := o68.ints.at_ (k := k) (by rw [HL2.out, ← HL.out]; exact hlt)
        obtain ⟨b2_, o2_, rfl, _, hbh2, hc2⟩ := o64.ints.at_ (k := k) (by rw [← HL.out]; exact hlt)
        have hv := hca.out k (by rw [← HL.out]; exact hlt)
        have hv2 := hca2.out k (by rw [← HL.out]; exact hlt)
        rw [← shareRow_at E xs k (by rw [← HL.out]; exact hlt)] at hv
        rw [← shareRow_at (xs.sum - E) xs k (by rw [← HL.out]; exact hlt)] at hv2
        have hq := share_both E xs.sum xs k (by rw [← HL.out]; exact hlt) hlt (by rw [HL2.out, ← HL.out]; exact hlt)
        generalize (shareRow E xs)[k]'hlt = vr at hc0 hq hv
        generalize (shareRow (xs.sum - E) xs)[k]'(by rw [HL2.out, ← HL.out]; exact hlt) = vs at hc1 hq hv2
        generalize xs[k]'(by rw [← HL.out]; exact hlt) = vx at hc2 hq
        obtain ⟨P, hP⟩ : ∃ P, vx * xs.sum = P := ⟨_, rfl⟩
        rw [hP] at hq
        have hw1 : IntKind.i64.wrap (vr + vs) = vr + vs := IntWalk.i64_in _ (by omega)
        have hw2 : IntKind.i64.wrap P = P := IntWalk.i64_in _ (by omega)
        have hd1 : (vr + vs != P) = false := by rw [hq]; simp
        clear hq
        have hk0 : (0 : Int) ≤ (k : Int) := by omega
        have hk1 : (k : Int) < ((shareRow E xs).length : Int) := by omega
        have hk2 : (k : Int) < (xs.length : Int) := by have := HL.out; omega
        have hk3 : (k : Int) < ((shareRow (xs.sum - E) xs).length : Int) := by have := HL.out; have := HL2.out; omega
        have H := Lib.hid hbl0
        go_wp2
        go_quiet (fail)
        go_wp2
        go_roundw
        case rel => exact ⟨k + 1, by omega, by go_num, below_drewN H.out _⟩
        case measure => simp [intOf]; omega
      · have hkN : k = (shareRow E xs).length := by omega
        subst hkN
        clear hbl0
        go_wp2
        go_quiet ((go_at_call 19; exact quiet_left (lsumOf_any _ _ _ _ _ _ (o65.ints.drewN _) hss)))
        go_wp2
        go_ret
        exact ⟨rfl, below_drewN B70 _⟩
  · have hok' : caseOkB E xs = false := by simpa using hok
    have HO := Lib.hid hok'
    clear hok hok'
    go_wp2_with fail
    refine (implShareRow_no E A1 c1 xs _ _ _ o4.ints (by first | omega | (simp; omega) | simp) hl5 HO.out).mono ?_
    rintro e w2 ⟨A2, c2, rfl, ho2, hb2⟩
    have hp2 : Own w2 (w1.heap.size + 1) w2.heap.size A2 (([] : List Int)) := ho2.more (by simp) (Nat.le_refl _)
    obtain ⟨a7, a7'⟩ := keep2 hb2 ⟨a6, a6'⟩ (by first | omega | (simp; omega) | simp)
    have o8 := o4.below hb2 (by first | omega | (simp; omega) | simp)
    have hz9 := hb2.size
    simp at hz9
    have B10 := B5.trans (hb2.mono (by first | omega | (simp; omega) | simp))
    clear hb2
    have z11 : w1.heap.size < w2.heap.size := by omega
    go_wp2_with fail
    refine (specShareRow_no E A1 c1 xs _ _ _ o8.ints (by first | omega | (simp; omega) | simp) hl5 HO.out).mono ?_
    rintro e w3 ⟨A3, c3, rfl, ho3, hb3⟩
    obtain ⟨a12, a12'⟩ := keep2 hb3 ⟨a7, a7'⟩ (by first | omega | (simp; omega) | simp)
    have o13 := o8.below hb3 (by first | omega | (simp; omega) | simp)
    have o14 := hp2.below hb3 (by first | omega | (simp; omega) | simp)
    have hz15 := hb3.size
    have B16 := B10.trans (hb3.mono (by first | omega | (simp; omega) | simp))
    clear hb3
    have z17 : w1.heap.size < w3.heap.size := by omega
    go_wp2_with fail
    refine (sameInts_below A2 A3 c2 c3 ([] : List Int) _ _ _ _ _ o14.ints ho3.ints (by simp)).mono ?_
    rintro e w4 ⟨rfl, hb4⟩
    obtain ⟨a18, a18'⟩ := keep2 hb4 ⟨a12, a12'⟩ (by first | omega | (simp; omega) | simp)
    have o19 := o13.below hb4 (by first | omega | (simp; omega) | simp)
    have o20 := o14.below hb4 (by first | omega | (simp; omega) | simp)
    have o21 := ho3.below hb4 (by first | omega | (simp; omega) | simp)
    have hz22 := hb4.size
    have B23 := B16.trans (hb4.mono (by first | omega | (simp; omega) | simp))
    clear hb4
    have z24 : w1.heap.size < w4.heap.size := by omega
    go_wp2_with fail
    refine (implCaseOk_no (E) (A1) c1 xs _ _ _ o19.ints (by first | omega | (simp; omega) | simp) (by first | omega | simp) HO.out).mono ?_
    rintro e w5 ⟨rfl, hb5⟩
    obtain ⟨a25, a25'⟩ := keep2 hb5 ⟨a18, a18'⟩ (by first | omega | (simp; omega) | simp)
    have o26 := o19.below hb5 (by first | omega | (simp; omega) | simp)
    have o27 := o20.below hb5 (by first | omega | (simp; omega) | simp)
    have o28 := o21.below hb5 (by first | omega | (simp; omega) | simp)
    have hz29 := hb5.size
    have B30 := B23.trans (hb5.mono (by first | omega | (simp; omega) | simp))
    clear hb5
    have z31 : w1.heap.size < w5.heap.size := by omega
    go_wp2_with fail
    refine (alive_any _).mono ?_
    rintro e w6 ⟨rfl, hb6⟩
    obtain ⟨a32, a32'⟩ := keep2 hb6 ⟨a25, a25'⟩ (by first | omega | (simp; omega) | simp)
    have o33 := o26.below hb6 (by first | omega | (simp; omega) | simp)
    have o34 := o27.below hb6 (by first | omega | (simp; omega) | simp)
    have o35 := o28.below hb6 (by first | omega | (simp; omega) | simp)
    have hz36 := hb6.size
    have B37 := B30.trans (hb6.mono (by first | omega | (simp; omega) | simp))
    clear hb6
    have z38 : w1.heap.size < w6.heap.size := by omega
    go_wp2
    go_ret
    exact ⟨rfl, B37⟩

set_option maxRecDepth 10000 in
set_option maxHeartbeats 400000 in
theorem fnShareRow_big (A0 : Option Addr) (c0 : Nat) (bs : List Int) (w : World) (hl : ¬ bs.length ≤ 1048576) (hm : bs.length ≤ 9223372036854775807) :
    Calls Try.prog 3 #[.slice A0 bs.length c0] w fun e w' => e = .returned (.bool true) ∧ Below w.heap.size w w' := by
  go_enter Try.func3, Try.ntmps3
  go_wp2
  go_ret
  exact ⟨rfl, Below.refl _ _⟩

theorem fnShareRow_all (A0 : Option Addr) (c0 : Nat) (bs : List Int) (w : World) (h0 : Bytes w w.heap.size A0 bs) (hm : bs.length ≤ 9223372036854775807) (hc0 : bs.length ≤ c0) :
    Calls Try.prog 3 #[.slice A0 bs.length c0] w fun e w' => e = .returned (.bool true) ∧ Below w.heap.size w w' := by
  by_cases hl : bs.length ≤ 1048576
  · exact fnShareRow_walk A0 c0 bs w h0 hl hc0
  · exact fnShareRow_big A0 c0 bs w hl hm

end Go.Proofs.Ytdhbeodgebdjjaa
