/-
  The law of CutCase returns true for every code, and writes nothing that was there. No condition.
-/
import Derived.Test.YtipcmpcoeeipoaaDrawC
import Derived.Test.YtipcmpcoeeipoaaLawLeaf
import Derived.Test.YtipcmpcoeeipoaaCutIdem
import Derived.Deep.RegionHeld3
namespace Go.Proofs.Ytipcmpcoeeipoaa
open Go.RowKit

set_option maxHeartbeats 2000000 in
theorem fnCutCase_walk (A0 : Option Addr) (c0 : Nat) (bs : List Int) (w : World) (h0 : Bytes w w.heap.size A0 bs) (hl : bs.length ≤ 1048576) (hc0 : bs.length ≤ c0) :
    Calls Try.prog 6 #[.slice A0 bs.length c0] w fun e w' => e = .returned (.bool true) ∧ Below w.heap.size w w' := by
  have hlm : bs.length ≤ 9223372036854775807 := by omega
  go_enter Try.func6, Try.ntmps6
  go_wp2_with fail
  refine (drawCutCase_any A0 c0 bs _ h0 hlm hc0).mono ?_
  rintro e w1 ⟨E, A1, c1, xs, hx5, rfl, ho1, hb1⟩
  have hz1 := hb1.size
  have B2 := (Below.refl w.heap.size w).trans (hb1.mono (by first | omega | (simp; omega) | simp))
  clear hb1
  have x3 := new2 w1 (.int .i64 E) (.slice A1 xs.length c1) 25
  have o4 := ho1.alloc (by omega) (.cells #[.int .i64 E, .slice A1 xs.length c1] 25)
  have B5 := B2.alloc (by omega) (.cells #[.int .i64 E, .slice A1 xs.length c1] 25)
  have hl5 : xs.length ≤ 1152921504606846976 := by omega
  obtain ⟨a6, a6'⟩ := x3
  by_cases hok : caseOkB E xs = true
  · have hok' := hok
    have HO := Lib.hid hok'
    have hbd := caseOk_bd hok'
    have HP := Lib.hid (cut_ok hok')
    have hcl := cutRow_length E xs
    have HL := Lib.hid hcl
    have hbq : (((cutRow E xs).length : Int) == (xs.length : Int)) = true := by rw [hcl]; simp
    have hEE : (E == E) = true := by simp
    have hcl6 : (cutRow E xs).length ≤ 5 := by rw [hcl]; exact hx5
    clear hcl
    clear hok hok'
    go_wp2_with fail
    refine (implCutCase_yes E A1 c1 xs _ _ _ o4.ints (by first | omega | (simp; omega) | simp) HO.out).mono ?_
    rintro e w2 ⟨A2, c2, rfl, ho2, hb2⟩
    have hp2 : Own w2 (w1.heap.size + 1) w2.heap.size A2 (cutRow E xs) := ho2.more (by simp) (Nat.le_refl _)
    obtain ⟨a7, a7'⟩ := keep2 hb2 ⟨a6, a6'⟩ (by first | omega | (simp; omega) | simp)
    have o8 := o4.below hb2 (by first | omega | (simp; omega) | simp)
    have hz9 := hb2.size
    simp at hz9
    have B10 := B5.trans (hb2.mono (by first | omega | (simp; omega) | simp))
    clear hb2
    have z11 : w1.heap.size < w2.heap.size := by omega
    have x12 := new2 w2 (.int .i64 (E)) (.slice A2 (cutRow E xs).length c2) 25
    have q13 := keep2 ((Below.refl w2.heap.size w2).alloc (Nat.le_refl _) (.cells #[.int .i64 (E), .slice A2 (cutRow E xs).length c2] 25)) ⟨a7, a7'⟩ (by omega)
    have o14 := o8.alloc (by omega) (.cells #[.int .i64 (E), .slice A2 (cutRow E xs).length c2] 25)
    have o15 := hp2.alloc (by omega) (.cells #[.int .i64 (E), .slice A2 (cutRow E xs).length c2] 25)
    have B16 := B10.alloc (by omega) (.cells #[.int .i64 (E), .slice A2 (cutRow E xs).length c2] 25)
    obtain ⟨a17, a17'⟩ := q13
    obtain ⟨a18, a18'⟩ := x12
    go_wp2_with fail
    refine (specCutCase_yes E A1 c1 xs _ _ _ o14.ints (by first | omega | (simp; omega) | simp) HO.out).mono ?_
    rintro e w3 ⟨A3, c3, rfl, ho3, hb3⟩
    have hp3 : Own w3 (w2.heap.size + 1) w3.heap.size A3 (cutRow E xs) := ho3.more (by simp) (Nat.le_refl _)
    obtain ⟨a19, a19'⟩ := keep2 hb3 ⟨a17, a17'⟩ (by first | omega | (simp; omega) | simp)
    obtain ⟨a20, a20'⟩ := keep2 hb3 ⟨a18, a18'⟩ (by first | omega | (simp; omega) | simp)
    have o21 := o14.below hb3 (by first | omega | (simp; omega) | simp)
    have o22 := o15.below hb3 (by first | omega | (simp; omega) | simp)
    have hz23 := hb3.size
    simp at hz23
    have B24 := B16.trans (hb3.mono (by first | omega | (simp; omega) | simp))
    clear hb3
    have z25 : w1.heap.size < w3.heap.size := by omega
    have z26 : w2.heap.size < w3.heap.size := by omega
    have x27 := new2 w3 (.int .i64 (E)) (.slice A3 (cutRow E xs).length c3) 25
    have q28 := keep2 ((Below.refl w3.heap.size w3).alloc (Nat.le_refl _) (.cells #[.int .i64 (E), .slice A3 (cutRow E xs).length c3] 25)) ⟨a19, a19'⟩ (by omega)
    have q29 := keep2 ((Below.refl w3.heap.size w3).alloc (Nat.le_refl _) (.cells #[.int .i64 (E), .slice A3 (cutRow E xs).length c3] 25)) ⟨a20, a20'⟩ (by omega)
    have o30 := o21.alloc (by omega) (.cells #[.int .i64 (E), .slice A3 (cutRow E xs).length c3] 25)
    have o31 := o22.alloc (by omega) (.cells #[.int .i64 (E), .slice A3 (cutRow E xs).length c3] 25)
    have o32 := hp3.alloc (by omega) (.cells #[.int .i64 (E), .slice A3 (cutRow E xs).length c3] 25)
    have B33 := B24.alloc (by omega) (.cells #[.int .i64 (E), .slice A3 (cutRow E xs).length c3] 25)
    obtain ⟨a34, a34'⟩ := q28
    obtain ⟨a35, a35'⟩ := q29
    obtain ⟨a36, a36'⟩ := x27
    go_wp2_with fail
    refine (sameCase_yes (E) A2 A3 c2 c3 (cutRow E xs) _ _ _ _ _ o31.ints o32.ints (by first | omega | (simp; omega) | simp) (by first | omega | (simp; omega) | simp) (by first | omega | simp)).mono ?_
    rintro e w4 ⟨rfl, hb4⟩
    obtain ⟨a37, a37'⟩ := keep2 hb4 ⟨a34, a34'⟩ (by first | omega | (simp; omega) | simp)
    obtain ⟨a38, a38'⟩ := keep2 hb4 ⟨a35, a35'⟩ (by first | omega | (simp; omega) | simp)
    obtain ⟨a39, a39'⟩ := keep2 hb4 ⟨a36, a36'⟩ (by first | omega | (simp; omega) | simp)
    have o40 := o30.below hb4 (by first | omega | (simp; omega) | simp)
    have o41 := o31.below hb4 (by first | omega | (simp; omega) | simp)
    have o42 := o32.below hb4 (by first | omega | (simp; omega) | simp)
    have hz43 := hb4.size
    simp at hz43
    have B44 := B33.trans (hb4.mono (by first | omega | (simp; omega) | simp))
    clear hb4
    have z45 : w1.heap.size < w4.heap.size := by omega
    have z46 : w2.heap.size < w4.heap.size := by omega
    have z47 : w3.heap.size < w4.heap.size := by omega
    go_wp2
    go_loopw [8] (fun i wr => ∃ k : Nat, k ≤ (cutRow E xs).length ∧ i = .int .i64 k ∧ Below w4.heap.size w4 wr) (fun i _ => (cutRow E xs).length - (intOf i).toNat)
    case atStart => exact ⟨0, Nat.zero_le _, rfl, Below.refl _ _⟩
    case round =>
      obtain ⟨k, hk, rfl, hbl⟩ := hrel
      obtain ⟨w5, rfl⟩ : ∃ x, x = wr := ⟨_, rfl⟩
      have hbl0 := hbl
      obtain ⟨a48, a48'⟩ := keep2 hbl ⟨a37, a37'⟩ (by first | omega | (simp; omega) | simp)
      obtain ⟨a49, a49'⟩ := keep2 hbl ⟨a38, a38'⟩ (by first | omega | (simp; omega) | simp)
      obtain ⟨a50, a50'⟩ := keep2 hbl ⟨a39, a39'⟩ (by first | omega | (simp; omega) | simp)
      have o51 := o40.below hbl (by first | omega | (simp; omega) | simp)
      have o52 := o41.below hbl (by first | omega | (simp; omega) | simp)
      have o53 := o42.below hbl (by first | omega | (simp; omega) | simp)
      have hz54 := hbl.size
      have B55 := B44.trans (hbl.mono (by first | omega | (simp; omega) | simp))
      clear hbl
      have z56 : w1.heap.size < w5.heap.size := by omega
      have z57 : w2.heap.size < w5.heap.size := by omega
      have z58 : w3.heap.size < w5.heap.size := by omega
      by_cases hlt : k < (cutRow E xs).length
      · obtain ⟨b0_, o0_, rfl, _, hbh0, hc0⟩ := o52.ints.at_ (k := k) hlt
        obtain ⟨b1_, o1_, rfl, _, hbh1, hc1⟩ := o51.ints.at_ (k := k) (by rw [← HL.out]; exact hlt)
        have hq := cut_at_le E xs k (by rw [← HL.out]; exact hlt)
        generalize (cutRow E xs)[k]'hlt = vx at hc0 hq
        have hd1 : decide ((xs[k]'(by rw [← HL.out]; exact hlt)) < vx) = false := by simp; omega
        have hd2 : decide (E < vx) = false := by simp; omega
        have hk0 : (0 : Int) ≤ (k : Int) := by omega
        have hk1 : (k : Int) < ((cutRow E xs).length : Int) := by omega
        have hk2 : (k : Int) < (xs.length : Int) := by have := HL.out; omega
        have H := Lib.hid hbl0
        go_wp2
        go_quiet (fail)
        go_wp2
        go_roundw
        case rel => exact ⟨k + 1, by omega, by go_num, below_drewN H.out _⟩
        case measure => simp [intOf]; omega
      · have hkN : k = (cutRow E xs).length := by omega
        subst hkN
        clear hbl0
        go_wp2_with fail
        refine (implCutCase_idem E A2 c2 xs _ _ _ o52.ints (by first | omega | (simp; omega) | simp) HP.out).mono ?_
        rintro e w6 ⟨A6, c6, rfl, ho6, hb6⟩
        obtain ⟨a59, a59'⟩ := keep2 hb6 ⟨a48, a48'⟩ (by first | omega | (simp; omega) | simp)
        obtain ⟨a60, a60'⟩ := keep2 hb6 ⟨a49, a49'⟩ (by first | omega | (simp; omega) | simp)
        obtain ⟨a61, a61'⟩ := keep2 hb6 ⟨a50, a50'⟩ (by first | omega | (simp; omega) | simp)
        have o62 := o51.below hb6 (by first | omega | (simp; omega) | simp)
        have o63 := o52.below hb6 (by first | omega | (simp; omega) | simp)
        have o64 := o53.below hb6 (by first | omega | (simp; omega) | simp)
        have hz65 := hb6.size
        have B66 := B55.trans (hb6.mono (by first | omega | (simp; omega) | simp))
        clear hb6
        have z67 : w1.heap.size < w6.heap.size := by omega
        have z68 : w2.heap.size < w6.heap.size := by omega
        have z69 : w3.heap.size < w6.heap.size := by omega
        have x70 := new2 w6 (.int .i64 E) (.slice A6 (cutRow E xs).length c6) 25
        have q71 := keep2 ((Below.refl w6.heap.size w6).alloc (Nat.le_refl _) (.cells #[.int .i64 E, .slice A6 (cutRow E xs).length c6] 25)) ⟨a59, a59'⟩ (by omega)
        have q72 := keep2 ((Below.refl w6.heap.size w6).alloc (Nat.le_refl _) (.cells #[.int .i64 E, .slice A6 (cutRow E xs).length c6] 25)) ⟨a60, a60'⟩ (by omega)
        have q73 := keep2 ((Below.refl w6.heap.size w6).alloc (Nat.le_refl _) (.cells #[.int .i64 E, .slice A6 (cutRow E xs).length c6] 25)) ⟨a61, a61'⟩ (by omega)
        have o74 := o62.alloc (by omega) (.cells #[.int .i64 E, .slice A6 (cutRow E xs).length c6] 25)
        have o75 := o63.alloc (by omega) (.cells #[.int .i64 E, .slice A6 (cutRow E xs).length c6] 25)
        have o76 := o64.alloc (by omega) (.cells #[.int .i64 E, .slice A6 (cutRow E xs).length c6] 25)
        have o77 := ho6.alloc (by omega) (.cells #[.int .i64 E, .slice A6 (cutRow E xs).length c6] 25)
        have B78 := B66.alloc (by omega) (.cells #[.int .i64 E, .slice A6 (cutRow E xs).length c6] 25)
        obtain ⟨a79, a79'⟩ := q71
        obtain ⟨a80, a80'⟩ := q72
        obtain ⟨a81, a81'⟩ := q73
        obtain ⟨a82, a82'⟩ := x70
        go_wp2_with fail
        refine (implCaseOk_yes (E) (A2) c2 (cutRow E xs) _ _ _ o75.ints (by first | omega | (simp; omega) | simp) (by first | omega | simp) HP.out).mono ?_
        rintro e w7 ⟨rfl, hb7⟩
        obtain ⟨a83, a83'⟩ := keep2 hb7 ⟨a79, a79'⟩ (by first | omega | (simp; omega) | simp)
        obtain ⟨a84, a84'⟩ := keep2 hb7 ⟨a80, a80'⟩ (by first | omega | (simp; omega) | simp)
        obtain ⟨a85, a85'⟩ := keep2 hb7 ⟨a81, a81'⟩ (by first | omega | (simp; omega) | simp)
        obtain ⟨a86, a86'⟩ := keep2 hb7 ⟨a82, a82'⟩ (by first | omega | (simp; omega) | simp)
        have o87 := o74.below hb7 (by first | omega | (simp; omega) | simp)
        have o88 := o75.below hb7 (by first | omega | (simp; omega) | simp)
        have o89 := o76.below hb7 (by first | omega | (simp; omega) | simp)
        have o90 := o77.below hb7 (by first | omega | (simp; omega) | simp)
        have hz91 := hb7.size
        simp at hz91
        have B92 := B78.trans (hb7.mono (by first | omega | (simp; omega) | simp))
        clear hb7
        have z93 : w1.heap.size < w7.heap.size := by omega
        have z94 : w2.heap.size < w7.heap.size := by omega
        have z95 : w3.heap.size < w7.heap.size := by omega
        have z96 : w6.heap.size < w7.heap.size := by omega
        go_wp2_with fail
        refine (sameCase_yes E A6 A2 c6 c2 (cutRow E xs) _ _ _ _ _ o90.ints o88.ints (by first | omega | (simp; omega) | simp) (by first | omega | (simp; omega) | simp) (by omega)).mono ?_
        rintro e w8 ⟨rfl, hb8⟩
        obtain ⟨a97, a97'⟩ := keep2 hb8 ⟨a83, a83'⟩ (by first | omega | (simp; omega) | simp)
        obtain ⟨a98, a98'⟩ := keep2 hb8 ⟨a84, a84'⟩ (by first | omega | (simp; omega) | simp)
        obtain ⟨a99, a99'⟩ := keep2 hb8 ⟨a85, a85'⟩ (by first | omega | (simp; omega) | simp)
        obtain ⟨a100, a100'⟩ := keep2 hb8 ⟨a86, a86'⟩ (by first | omega | (simp; omega) | simp)
        have o101 := o87.below hb8 (by first | omega | (simp; omega) | simp)
        have o102 := o88.below hb8 (by first | omega | (simp; omega) | simp)
        have o103 := o89.below hb8 (by first | omega | (simp; omega) | simp)
        have o104 := o90.below hb8 (by first | omega | (simp; omega) | simp)
        have hz105 := hb8.size
        have B106 := B92.trans (hb8.mono (by first | omega | (simp; omega) | simp))
        clear hb8
        have z107 : w1.heap.size < w8.heap.size := by omega
        have z108 : w2.heap.size < w8.heap.size := by omega
        have z109 : w3.heap.size < w8.heap.size := by omega
        have z110 : w6.heap.size < w8.heap.size := by omega
        go_wp2
        go_ret
        exact ⟨rfl, B106⟩
  · have hok' : caseOkB E xs = false := by simpa using hok
    have HO := Lib.hid hok'
    clear hok hok'
    go_wp2_with fail
    refine (implCutCase_no E A1 c1 xs _ _ _ o4.ints (by first | omega | (simp; omega) | simp) hl5 HO.out).mono ?_
    rintro e w2 ⟨A2, c2, rfl, ho2, hb2⟩
    have hp2 : Own w2 (w1.heap.size + 1) w2.heap.size A2 (([] : List Int)) := ho2.more (by simp) (Nat.le_refl _)
    obtain ⟨a7, a7'⟩ := keep2 hb2 ⟨a6, a6'⟩ (by first | omega | (simp; omega) | simp)
    have o8 := o4.below hb2 (by first | omega | (simp; omega) | simp)
    have hz9 := hb2.size
    simp at hz9
    have B10 := B5.trans (hb2.mono (by first | omega | (simp; omega) | simp))
    clear hb2
    have z11 : w1.heap.size < w2.heap.size := by omega
    have x12 := new2 w2 (.int .i64 (0)) (.slice A2 (([] : List Int)).length c2) 25
    have q13 := keep2 ((Below.refl w2.heap.size w2).alloc (Nat.le_refl _) (.cells #[.int .i64 (0), .slice A2 (([] : List Int)).length c2] 25)) ⟨a7, a7'⟩ (by omega)
    have o14 := o8.alloc (by omega) (.cells #[.int .i64 (0), .slice A2 (([] : List Int)).length c2] 25)
    have o15 := hp2.alloc (by omega) (.cells #[.int .i64 (0), .slice A2 (([] : List Int)).length c2] 25)
    have B16 := B10.alloc (by omega) (.cells #[.int .i64 (0), .slice A2 (([] : List Int)).length c2] 25)
    obtain ⟨a17, a17'⟩ := q13
    obtain ⟨a18, a18'⟩ := x12
    go_wp2_with fail
    refine (specCutCase_no E A1 c1 xs _ _ _ o14.ints (by first | omega | (simp; omega) | simp) hl5 HO.out).mono ?_
    rintro e w3 ⟨A3, c3, rfl, ho3, hb3⟩
    have hp3 : Own w3 (w2.heap.size + 1) w3.heap.size A3 (([] : List Int)) := ho3.more (by simp) (Nat.le_refl _)
    obtain ⟨a19, a19'⟩ := keep2 hb3 ⟨a17, a17'⟩ (by first | omega | (simp; omega) | simp)
    obtain ⟨a20, a20'⟩ := keep2 hb3 ⟨a18, a18'⟩ (by first | omega | (simp; omega) | simp)
    have o21 := o14.below hb3 (by first | omega | (simp; omega) | simp)
    have o22 := o15.below hb3 (by first | omega | (simp; omega) | simp)
    have hz23 := hb3.size
    simp at hz23
    have B24 := B16.trans (hb3.mono (by first | omega | (simp; omega) | simp))
    clear hb3
    have z25 : w1.heap.size < w3.heap.size := by omega
    have z26 : w2.heap.size < w3.heap.size := by omega
    have x27 := new2 w3 (.int .i64 (0)) (.slice A3 (([] : List Int)).length c3) 25
    have q28 := keep2 ((Below.refl w3.heap.size w3).alloc (Nat.le_refl _) (.cells #[.int .i64 (0), .slice A3 (([] : List Int)).length c3] 25)) ⟨a19, a19'⟩ (by omega)
    have q29 := keep2 ((Below.refl w3.heap.size w3).alloc (Nat.le_refl _) (.cells #[.int .i64 (0), .slice A3 (([] : List Int)).length c3] 25)) ⟨a20, a20'⟩ (by omega)
    have o30 := o21.alloc (by omega) (.cells #[.int .i64 (0), .slice A3 (([] : List Int)).length c3] 25)
    have o31 := o22.alloc (by omega) (.cells #[.int .i64 (0), .slice A3 (([] : List Int)).length c3] 25)
    have o32 := hp3.alloc (by omega) (.cells #[.int .i64 (0), .slice A3 (([] : List Int)).length c3] 25)
    have B33 := B24.alloc (by omega) (.cells #[.int .i64 (0), .slice A3 (([] : List Int)).length c3] 25)
    obtain ⟨a34, a34'⟩ := q28
    obtain ⟨a35, a35'⟩ := q29
    obtain ⟨a36, a36'⟩ := x27
    go_wp2_with fail
    refine (sameCase_yes (0) A2 A3 c2 c3 (([] : List Int)) _ _ _ _ _ o31.ints o32.ints (by first | omega | (simp; omega) | simp) (by first | omega | (simp; omega) | simp) (by first | omega | simp)).mono ?_
    rintro e w4 ⟨rfl, hb4⟩
    obtain ⟨a37, a37'⟩ := keep2 hb4 ⟨a34, a34'⟩ (by first | omega | (simp; omega) | simp)
    obtain ⟨a38, a38'⟩ := keep2 hb4 ⟨a35, a35'⟩ (by first | omega | (simp; omega) | simp)
    obtain ⟨a39, a39'⟩ := keep2 hb4 ⟨a36, a36'⟩ (by first | omega | (simp; omega) | simp)
    have o40 := o30.below hb4 (by first | omega | (simp; omega) | simp)
    have o41 := o31.below hb4 (by first | omega | (simp; omega) | simp)
    have o42 := o32.below hb4 (by first | omega | (simp; omega) | simp)
    have hz43 := hb4.size
    simp at hz43
    have B44 := B33.trans (hb4.mono (by first | omega | (simp; omega) | simp))
    clear hb4
    have z45 : w1.heap.size < w4.heap.size := by omega
    have z46 : w2.heap.size < w4.heap.size := by omega
    have z47 : w3.heap.size < w4.heap.size := by omega
    go_wp2_with fail
    refine (alive_any _).mono ?_
    rintro e w5 ⟨rfl, hb5⟩
    obtain ⟨a48, a48'⟩ := keep2 hb5 ⟨a37, a37'⟩ (by first | omega | (simp; omega) | simp)
    obtain ⟨a49, a49'⟩ := keep2 hb5 ⟨a38, a38'⟩ (by first | omega | (simp; omega) | simp)
    obtain ⟨a50, a50'⟩ := keep2 hb5 ⟨a39, a39'⟩ (by first | omega | (simp; omega) | simp)
    have o51 := o40.below hb5 (by first | omega | (simp; omega) | simp)
    have o52 := o41.below hb5 (by first | omega | (simp; omega) | simp)
    have o53 := o42.below hb5 (by first | omega | (simp; omega) | simp)
    have hz54 := hb5.size
    have B55 := B44.trans (hb5.mono (by first | omega | (simp; omega) | simp))
    clear hb5
    have z56 : w1.heap.size < w5.heap.size := by omega
    have z57 : w2.heap.size < w5.heap.size := by omega
    have z58 : w3.heap.size < w5.heap.size := by omega
    go_wp2
    go_ret
    exact ⟨rfl, B55⟩

set_option maxHeartbeats 400000 in
theorem fnCutCase_big (A0 : Option Addr) (c0 : Nat) (bs : List Int) (w : World) (hl : ¬ bs.length ≤ 1048576) (hm : bs.length ≤ 9223372036854775807) :
    Calls Try.prog 6 #[.slice A0 bs.length c0] w fun e w' => e = .returned (.bool true) ∧ Below w.heap.size w w' := by
  go_enter Try.func6, Try.ntmps6
  go_wp2
  go_ret
  exact ⟨rfl, Below.refl _ _⟩

theorem fnCutCase_all (A0 : Option Addr) (c0 : Nat) (bs : List Int) (w : World) (h0 : Bytes w w.heap.size A0 bs) (hm : bs.length ≤ 9223372036854775807) (hc0 : bs.length ≤ c0) :
    Calls Try.prog 6 #[.slice A0 bs.length c0] w fun e w' => e = .returned (.bool true) ∧ Below w.heap.size w w' := by
  by_cases hl : bs.length ≤ 1048576
  · exact fnCutCase_walk A0 c0 bs w h0 hl hc0
  · exact fnCutCase_big A0 c0 bs w hl hm

end Go.Proofs.Ytipcmpcoeeipoaa
