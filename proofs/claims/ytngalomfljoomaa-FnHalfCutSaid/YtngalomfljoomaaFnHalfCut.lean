/-
  The law of half awards of cut claims and of the rest returns true for every code, and writes nothing that was there. No condition.
-/
import Derived.Test.YtngalomfljoomaaDrawP
import Derived.Test.YtngalomfljoomaaGA
import Derived.Test.YtngalomfljoomaaHalfI
import Derived.Test.YtngalomfljoomaaHalfLv
import Derived.Test.YtngalomfljoomaaGB
import Derived.Deep.RegionHeld3
namespace Go.Proofs.Ytngalomfljoomaa
open Go.RowKit

set_option maxRecDepth 10000 in
set_option maxHeartbeats 2000000 in
theorem fnHalfCut_walk (A0 : Option Addr) (c0 : Nat) (bs : List Int) (w : World) (h0 : Bytes w w.heap.size A0 bs) (hl : bs.length ≤ 1048576) (hc0 : bs.length ≤ c0) :
    Calls Try.prog 5 #[.slice A0 bs.length c0] w fun e w' => e = .returned (.bool true) ∧ Below w.heap.size w w' := by
  have hlm : bs.length ≤ 9223372036854775807 := by omega
  go_enter Try.func5, Try.ntmps5
  go_wp2_with fail
  refine (drawHalfAwards_any A0 c0 bs _ h0 hlm hc0).mono ?_
  rintro e w1 ⟨E, A1, c1, xs, hx5, rfl, ho1, hb1⟩
  have hz1 := hb1.size
  have B2 := (Below.refl w.heap.size w).trans (hb1.mono (by first | omega | (simp; omega) | simp))
  clear hb1
  have x3 := new2 w1 (.int .i64 E) (.slice A1 xs.length c1) 25
  have o4 := ho1.alloc (by omega) (.cells #[.int .i64 E, .slice A1 xs.length c1] 25)
  have B5 := B2.alloc (by omega) (.cells #[.int .i64 E, .slice A1 xs.length c1] 25)
  have hl5 : xs.length ≤ 1152921504606846976 := by omega
  obtain ⟨a6, a6'⟩ := x3
  by_cases hok : caseOkB E xs = true
  · have hok' := hok
    have HO := Lib.hid hok'
    have hbd := caseOk_bd hok'
    have hsm := caseOk_small hok'
    have HP := Lib.hid (other_ok hok')
    have HR := Lib.hid (rest_ok hok')
    have HC := Lib.hid (cut_ok hok')
    have HCE := Lib.hid (half_cut hok' (cut_ok hok'))
    have HN := Lib.hid (halfAw_length E xs)
    have HX := Lib.hid (fun k hk => half_rest_at hok' k hk)
    have hrb := Lib.hid (fun k hk => half_rights_bd hok' k hk)
    have hlb := Lib.hid (fun k hk => half_at_bd hok' k hk)
    have HPN : Hid ((halfAw (E - (rightsRow E xs).sum) (cutRow (xs.sum - E) xs)).length = xs.length) := by show _ = _; rw [halfAw_length, cutRow_length]
    have HRN := Lib.hid (rightsRow_length E xs)
    have hb0 : (((halfAw E xs).length : Int) == 0) = false := beq_eq_false_iff_ne.2 (by rw [halfAw_length]; omega)
    have hn5 : (halfAw E xs).length ≤ 5 := by rw [halfAw_length]; omega
    have hbq1 : (((halfAw (E - (rightsRow E xs).sum) (cutRow (xs.sum - E) xs)).length : Int) != ((halfAw E xs).length : Int)) = false := by rw [HPN.out, HN.out]; simp
    have hbq2 : (((rightsRow E xs).length : Int) != ((halfAw E xs).length : Int)) = false := by rw [HRN.out, HN.out]; simp
    clear hok hok'
    go_wp2_with fail
    refine (implHalfAwards_yes E A1 c1 xs _ _ _ o4.ints (by first | omega | (simp; omega) | simp) HO.out).mono ?_
    rintro e w2 ⟨A2, c2, rfl, ho2, hb2⟩
    have hp2 : Own w2 (w1.heap.size + 1) w2.heap.size A2 (halfAw E xs) := ho2.more (by simp) (Nat.le_refl _)
    obtain ⟨a7, a7'⟩ := keep2 hb2 ⟨a6, a6'⟩ (by first | omega | (simp; omega) | simp)
    have o8 := o4.below hb2 (by first | omega | (simp; omega) | simp)
    have hz9 := hb2.size
    simp at hz9
    have B10 := B5.trans (hb2.mono (by first | omega | (simp; omega) | simp))
    clear hb2
    have z11 : w1.heap.size < w2.heap.size := by omega
    go_wp2_with fail
    refine (implCutCase_yes E A1 c1 xs _ _ _ o8.ints (by first | omega | (simp; omega) | simp) HO.out).mono ?_
    rintro e w3 ⟨A3, c3, rfl, ho3, hb3⟩
    obtain ⟨a12, a12'⟩ := keep2 hb3 ⟨a7, a7'⟩ (by first | omega | (simp; omega) | simp)
    have o13 := o8.below hb3 (by first | omega | (simp; omega) | simp)
    have o14 := hp2.below hb3 (by first | omega | (simp; omega) | simp)
    have hz15 := hb3.size
    have B16 := B10.trans (hb3.mono (by first | omega | (simp; omega) | simp))
    clear hb3
    have z17 : w1.heap.size < w3.heap.size := by omega
    have x18 := new2 w3 (.int .i64 (E)) (.slice A3 (cutRow E xs).length c3) 25
    have q19 := keep2 ((Below.refl w3.heap.size w3).alloc (Nat.le_refl _) (.cells #[.int .i64 (E), .slice A3 (cutRow E xs).length c3] 25)) ⟨a12, a12'⟩ (by omega)
    have o20 := o13.alloc (by omega) (.cells #[.int .i64 (E), .slice A3 (cutRow E xs).length c3] 25)
    have o21 := o14.alloc (by omega) (.cells #[.int .i64 (E), .slice A3 (cutRow E xs).length c3] 25)
    have o22 := ho3.alloc (by omega) (.cells #[.int .i64 (E), .slice A3 (cutRow E xs).length c3] 25)
    have B23 := B16.alloc (by omega) (.cells #[.int .i64 (E), .slice A3 (cutRow E xs).length c3] 25)
    obtain ⟨a24, a24'⟩ := q19
    obtain ⟨a25, a25'⟩ := x18
    go_wp2_with fail
    refine (implRestCut_yes E A1 c1 xs _ _ _ o20.ints (by first | omega | (simp; omega) | simp) HO.out).mono ?_
    rintro e w4 ⟨A4, c4, rfl, ho4, hb4⟩
    have hp4 : Own w4 (w3.heap.size + 1) w4.heap.size A4 (cutRow (xs.sum - E) xs) := ho4.more (by simp) (Nat.le_refl _)
    obtain ⟨a26, a26'⟩ := keep2 hb4 ⟨a24, a24'⟩ (by first | omega | (simp; omega) | simp)
    obtain ⟨a27, a27'⟩ := keep2 hb4 ⟨a25, a25'⟩ (by first | omega | (simp; omega) | simp)
    have o28 := o20.below hb4 (by first | omega | (simp; omega) | simp)
    have o29 := o21.below hb4 (by first | omega | (simp; omega) | simp)
    have o30 := o22.below hb4 (by first | omega | (simp; omega) | simp)
    have hz31 := hb4.size
    simp at hz31
    have B32 := B23.trans (hb4.mono (by first | omega | (simp; omega) | simp))
    clear hb4
    have z33 : w1.heap.size < w4.heap.size := by omega
    have z34 : w3.heap.size < w4.heap.size := by omega
    have x35 := new2 w4 (.int .i64 (E - (rightsRow E xs).sum)) (.slice A4 (cutRow (xs.sum - E) xs).length c4) 25
    have q36 := keep2 ((Below.refl w4.heap.size w4).alloc (Nat.le_refl _) (.cells #[.int .i64 (E - (rightsRow E xs).sum), .slice A4 (cutRow (xs.sum - E) xs).length c4] 25)) ⟨a26, a26'⟩ (by omega)
    have q37 := keep2 ((Below.refl w4.heap.size w4).alloc (Nat.le_refl _) (.cells #[.int .i64 (E - (rightsRow E xs).sum), .slice A4 (cutRow (xs.sum - E) xs).length c4] 25)) ⟨a27, a27'⟩ (by omega)
    have o38 := o28.alloc (by omega) (.cells #[.int .i64 (E - (rightsRow E xs).sum), .slice A4 (cutRow (xs.sum - E) xs).length c4] 25)
    have o39 := o29.alloc (by omega) (.cells #[.int .i64 (E - (rightsRow E xs).sum), .slice A4 (cutRow (xs.sum - E) xs).length c4] 25)
    have o40 := o30.alloc (by omega) (.cells #[.int .i64 (E - (rightsRow E xs).sum), .slice A4 (cutRow (xs.sum - E) xs).length c4] 25)
    have o41 := hp4.alloc (by omega) (.cells #[.int .i64 (E - (rightsRow E xs).sum), .slice A4 (cutRow (xs.sum - E) xs).length c4] 25)
    have B42 := B32.alloc (by omega) (.cells #[.int .i64 (E - (rightsRow E xs).sum), .slice A4 (cutRow (xs.sum - E) xs).length c4] 25)
    obtain ⟨a43, a43'⟩ := q36
    obtain ⟨a44, a44'⟩ := q37
    obtain ⟨a45, a45'⟩ := x35
    go_wp2_with fail
    refine (implRightsOf_yes E A1 c1 xs _ _ _ o38.ints (by first | omega | (simp; omega) | simp) HO.out).mono ?_
    rintro e w5 ⟨A5, c5, rfl, ho5, hb5⟩
    have hp5 : Own w5 (w4.heap.size + 1) w5.heap.size A5 (rightsRow E xs) := ho5.more (by simp) (Nat.le_refl _)
    obtain ⟨a46, a46'⟩ := keep2 hb5 ⟨a43, a43'⟩ (by first | omega | (simp; omega) | simp)
    obtain ⟨a47, a47'⟩ := keep2 hb5 ⟨a44, a44'⟩ (by first | omega | (simp; omega) | simp)
    obtain ⟨a48, a48'⟩ := keep2 hb5 ⟨a45, a45'⟩ (by first | omega | (simp; omega) | simp)
    have o49 := o38.below hb5 (by first | omega | (simp; omega) | simp)
    have o50 := o39.below hb5 (by first | omega | (simp; omega) | simp)
    have o51 := o40.below hb5 (by first | omega | (simp; omega) | simp)
    have o52 := o41.below hb5 (by first | omega | (simp; omega) | simp)
    have hz53 := hb5.size
    simp at hz53
    have B54 := B42.trans (hb5.mono (by first | omega | (simp; omega) | simp))
    clear hb5
    have z55 : w1.heap.size < w5.heap.size := by omega
    have z56 : w3.heap.size < w5.heap.size := by omega
    have z57 : w4.heap.size < w5.heap.size := by omega
    go_wp2_with fail
    refine (implHalfAwards_yes (E - (rightsRow E xs).sum) A4 c4 (cutRow (xs.sum - E) xs) _ _ _ o52.ints (by first | omega | (simp; omega) | simp) HR.out).mono ?_
    rintro e w6 ⟨A6, c6, rfl, ho6, hb6⟩
    obtain ⟨a58, a58'⟩ := keep2 hb6 ⟨a46, a46'⟩ (by first | omega | (simp; omega) | simp)
    obtain ⟨a59, a59'⟩ := keep2 hb6 ⟨a47, a47'⟩ (by first | omega | (simp; omega) | simp)
    obtain ⟨a60, a60'⟩ := keep2 hb6 ⟨a48, a48'⟩ (by first | omega | (simp; omega) | simp)
    have o61 := o49.below hb6 (by first | omega | (simp; omega) | simp)
    have o62 := o50.below hb6 (by first | omega | (simp; omega) | simp)
    have o63 := o51.below hb6 (by first | omega | (simp; omega) | simp)
    have o64 := o52.below hb6 (by first | omega | (simp; omega) | simp)
    have o65 := hp5.below hb6 (by first | omega | (simp; omega) | simp)
    have hz66 := hb6.size
    have B67 := B54.trans (hb6.mono (by first | omega | (simp; omega) | simp))
    clear hb6
    have z68 : w1.heap.size < w6.heap.size := by omega
    have z69 : w3.heap.size < w6.heap.size := by omega
    have z70 : w4.heap.size < w6.heap.size := by omega
    go_wp2
    go_loopw [11] (fun i wr => ∃ k : Nat, k ≤ (halfAw E xs).length ∧ i = .int .i64 k ∧ Below w6.heap.size w6 wr) (fun i _ => (halfAw E xs).length - (intOf i).toNat)
    case atStart => exact ⟨0, Nat.zero_le _, rfl, Below.refl _ _⟩
    case round =>
      obtain ⟨k, hk, rfl, hbl⟩ := hrel
      obtain ⟨w7, rfl⟩ : ∃ x, x = wr := ⟨_, rfl⟩
      have hbl0 := hbl
      obtain ⟨a71, a71'⟩ := keep2 hbl ⟨a58, a58'⟩ (by first | omega | (simp; omega) | simp)
      obtain ⟨a72, a72'⟩ := keep2 hbl ⟨a59, a59'⟩ (by first | omega | (simp; omega) | simp)
      obtain ⟨a73, a73'⟩ := keep2 hbl ⟨a60, a60'⟩ (by first | omega | (simp; omega) | simp)
      have o74 := o61.below hbl (by first | omega | (simp; omega) | simp)
      have o75 := o62.below hbl (by first | omega | (simp; omega) | simp)
      have o76 := o63.below hbl (by first | omega | (simp; omega) | simp)
      have o77 := o64.below hbl (by first | omega | (simp; omega) | simp)
      have o78 := o65.below hbl (by first | omega | (simp; omega) | simp)
      have o79 := ho6.below hbl (by first | omega | (simp; omega) | simp)
      have hz80 := hbl.size
      have B81 := B67.trans (hbl.mono (by first | omega | (simp; omega) | simp))
      clear hbl
      have z82 : w1.heap.size < w7.heap.size := by omega
      have z83 : w3.heap.size < w7.heap.size := by omega
      have z84 : w4.heap.size < w7.heap.size := by omega
      by_cases hlt : k < (halfAw E xs).length
      · obtain ⟨b0_, o0_, rfl, _, hbh0, hc0⟩ := o75.ints.at_ (k := k) hlt
        obtain ⟨b1_, o1_, rfl, _, hbh1, hc1⟩ := o79.ints.at_ (k := k) (by rw [HPN.out, ← HN.out]; exact hlt)
        obtain ⟨b2_, o2_, rfl, _, hbh2, hc2⟩ := o78.ints.at_ (k := k) (by rw [HRN.out, ← HN.out]; exact hlt)
        have hkx : k < xs.length := by rw [← HN.out]; exact hlt
        have hx := HX.out k hkx
        have hv := hrb.out k hkx
        have hw := hlb.out k hkx
        generalize (halfAw E xs)[k]'hlt = vo at hc0 hx hw
        generalize (halfAw (E - (rightsRow E xs).sum) (cutRow (xs.sum - E) xs))[k]'(by rw [HPN.out]; exact hkx) = vp at hc1 hx
        generalize (rightsRow E xs)[k]'(by rw [HRN.out]; exact hkx) = vr at hc2 hx hv
        have hw1 : IntKind.i64.wrap (48 * vr) = 48 * vr := IntWalk.i64_in _ (by omega)
        have hw2 : IntKind.i64.wrap (vp + 48 * vr) = vp + 48 * vr := IntWalk.i64_in _ (by omega)
        have hd1 : (vp + 48 * vr != vo) = false := by rw [hx]; simp
        have hk0 : (0 : Int) ≤ (k : Int) := by omega
        have hk1 : (k : Int) < ((halfAw E xs).length : Int) := by omega
        have hk2 : (k : Int) < ((halfAw (E - (rightsRow E xs).sum) (cutRow (xs.sum - E) xs)).length : Int) := by rw [HPN.out]; omega
        have hk3 : (k : Int) < ((rightsRow E xs).length : Int) := by rw [HRN.out]; omega
        have H := Lib.hid hbl0
        go_wp2
        go_quiet (fail)
        go_wp2
        go_roundw
        case rel => exact ⟨k + 1, by omega, by go_num, below_drewN H.out _⟩
        case measure => simp [intOf]; omega
      · have hkN : k = (halfAw E xs).length := by omega
        subst hkN
        clear hbl0
        go_wp2_with fail
        refine (alive_any _).mono ?_
        rintro e w8 ⟨rfl, hb8⟩
        obtain ⟨a85, a85'⟩ := keep2 hb8 ⟨a71, a71'⟩ (by first | omega | (simp; omega) | simp)
        obtain ⟨a86, a86'⟩ := keep2 hb8 ⟨a72, a72'⟩ (by first | omega | (simp; omega) | simp)
        obtain ⟨a87, a87'⟩ := keep2 hb8 ⟨a73, a73'⟩ (by first | omega | (simp; omega) | simp)
        have o88 := o74.below hb8 (by first | omega | (simp; omega) | simp)
        have o89 := o75.below hb8 (by first | omega | (simp; omega) | simp)
        have o90 := o76.below hb8 (by first | omega | (simp; omega) | simp)
        have o91 := o77.below hb8 (by first | omega | (simp; omega) | simp)
        have o92 := o78.below hb8 (by first | omega | (simp; omega) | simp)
        have o93 := o79.below hb8 (by first | omega | (simp; omega) | simp)
        have hz94 := hb8.size
        have B95 := B81.trans (hb8.mono (by first | omega | (simp; omega) | simp))
        clear hb8
        have z96 : w1.heap.size < w8.heap.size := by omega
        have z97 : w3.heap.size < w8.heap.size := by omega
        have z98 : w4.heap.size < w8.heap.size := by omega
        go_wp2_with fail
        refine (implHalf_is E A3 c3 (cutRow E xs) (halfAw E xs) _ _ _ o90.ints (by first | omega | (simp; omega) | simp) HC.out HCE.out).mono ?_
        rintro e w9 ⟨A9, c9, rfl, ho9, hb9⟩
        obtain ⟨a99, a99'⟩ := keep2 hb9 ⟨a85, a85'⟩ (by first | omega | (simp; omega) | simp)
        obtain ⟨a100, a100'⟩ := keep2 hb9 ⟨a86, a86'⟩ (by first | omega | (simp; omega) | simp)
        obtain ⟨a101, a101'⟩ := keep2 hb9 ⟨a87, a87'⟩ (by first | omega | (simp; omega) | simp)
        have o102 := o88.below hb9 (by first | omega | (simp; omega) | simp)
        have o103 := o89.below hb9 (by first | omega | (simp; omega) | simp)
        have o104 := o90.below hb9 (by first | omega | (simp; omega) | simp)
        have o105 := o91.below hb9 (by first | omega | (simp; omega) | simp)
        have o106 := o92.below hb9 (by first | omega | (simp; omega) | simp)
        have o107 := o93.below hb9 (by first | omega | (simp; omega) | simp)
        have hz108 := hb9.size
        have B109 := B95.trans (hb9.mono (by first | omega | (simp; omega) | simp))
        clear hb9
        have z110 : w1.heap.size < w9.heap.size := by omega
        have z111 : w3.heap.size < w9.heap.size := by omega
        have z112 : w4.heap.size < w9.heap.size := by omega
        go_wp2_with fail
        refine (sameInts_below A9 A2 c9 c2 (halfAw E xs) _ _ _ _ _ ho9.ints o103.ints (by rw [halfAw_length]; omega)).mono ?_
        rintro e w10 ⟨rfl, hb10⟩
        obtain ⟨a113, a113'⟩ := keep2 hb10 ⟨a99, a99'⟩ (by first | omega | (simp; omega) | simp)
        obtain ⟨a114, a114'⟩ := keep2 hb10 ⟨a100, a100'⟩ (by first | omega | (simp; omega) | simp)
        obtain ⟨a115, a115'⟩ := keep2 hb10 ⟨a101, a101'⟩ (by first | omega | (simp; omega) | simp)
        have o116 := o102.below hb10 (by first | omega | (simp; omega) | simp)
        have o117 := o103.below hb10 (by first | omega | (simp; omega) | simp)
        have o118 := o104.below hb10 (by first | omega | (simp; omega) | simp)
        have o119 := o105.below hb10 (by first | omega | (simp; omega) | simp)
        have o120 := o106.below hb10 (by first | omega | (simp; omega) | simp)
        have o121 := o107.below hb10 (by first | omega | (simp; omega) | simp)
        have o122 := ho9.below hb10 (by first | omega | (simp; omega) | simp)
        have hz123 := hb10.size
        have B124 := B109.trans (hb10.mono (by first | omega | (simp; omega) | simp))
        clear hb10
        have z125 : w1.heap.size < w10.heap.size := by omega
        have z126 : w3.heap.size < w10.heap.size := by omega
        have z127 : w4.heap.size < w10.heap.size := by omega
        go_wp2
        go_ret
        exact ⟨rfl, B124⟩
  · have hok' : caseOkB E xs = false := by simpa using hok
    have HO := Lib.hid hok'
    clear hok hok'
    go_wp2_with fail
    refine (implHalfAwards_no E A1 c1 xs _ _ _ o4.ints (by first | omega | (simp; omega) | simp) hl5 HO.out).mono ?_
    rintro e w2 ⟨A2, c2, rfl, ho2, hb2⟩
    have hp2 : Own w2 (w1.heap.size + 1) w2.heap.size A2 (([] : List Int)) := ho2.more (by simp) (Nat.le_refl _)
    obtain ⟨a7, a7'⟩ := keep2 hb2 ⟨a6, a6'⟩ (by first | omega | (simp; omega) | simp)
    have o8 := o4.below hb2 (by first | omega | (simp; omega) | simp)
    have hz9 := hb2.size
    simp at hz9
    have B10 := B5.trans (hb2.mono (by first | omega | (simp; omega) | simp))
    clear hb2
    have z11 : w1.heap.size < w2.heap.size := by omega
    go_wp2_with fail
    refine (specHalfAwards_no E A1 c1 xs _ _ _ o8.ints (by first | omega | (simp; omega) | simp) hl5 HO.out).mono ?_
    rintro e w3 ⟨A3, c3, rfl, ho3, hb3⟩
    obtain ⟨a12, a12'⟩ := keep2 hb3 ⟨a7, a7'⟩ (by first | omega | (simp; omega) | simp)
    have o13 := o8.below hb3 (by first | omega | (simp; omega) | simp)
    have o14 := hp2.below hb3 (by first | omega | (simp; omega) | simp)
    have hz15 := hb3.size
    have B16 := B10.trans (hb3.mono (by first | omega | (simp; omega) | simp))
    clear hb3
    have z17 : w1.heap.size < w3.heap.size := by omega
    go_wp2_with fail
    refine (alive_any _).mono ?_
    rintro e w4 ⟨rfl, hb4⟩
    obtain ⟨a18, a18'⟩ := keep2 hb4 ⟨a12, a12'⟩ (by first | omega | (simp; omega) | simp)
    have o19 := o13.below hb4 (by first | omega | (simp; omega) | simp)
    have o20 := o14.below hb4 (by first | omega | (simp; omega) | simp)
    have o21 := ho3.below hb4 (by first | omega | (simp; omega) | simp)
    have hz22 := hb4.size
    have B23 := B16.trans (hb4.mono (by first | omega | (simp; omega) | simp))
    clear hb4
    have z24 : w1.heap.size < w4.heap.size := by omega
    go_wp2
    go_ret
    exact ⟨rfl, B23⟩

set_option maxRecDepth 10000 in
set_option maxHeartbeats 400000 in
theorem fnHalfCut_big (A0 : Option Addr) (c0 : Nat) (bs : List Int) (w : World) (hl : ¬ bs.length ≤ 1048576) (hm : bs.length ≤ 9223372036854775807) :
    Calls Try.prog 5 #[.slice A0 bs.length c0] w fun e w' => e = .returned (.bool true) ∧ Below w.heap.size w w' := by
  go_enter Try.func5, Try.ntmps5
  go_wp2
  go_ret
  exact ⟨rfl, Below.refl _ _⟩

theorem fnHalfCut_all (A0 : Option Addr) (c0 : Nat) (bs : List Int) (w : World) (h0 : Bytes w w.heap.size A0 bs) (hm : bs.length ≤ 9223372036854775807) (hc0 : bs.length ≤ c0) :
    Calls Try.prog 5 #[.slice A0 bs.length c0] w fun e w' => e = .returned (.bool true) ∧ Below w.heap.size w w' := by
  by_cases hl : bs.length ≤ 1048576
  · exact fnHalfCut_walk A0 c0 bs w h0 hl hc0
  · exact fnHalfCut_big A0 c0 bs w hl hm

end Go.Proofs.Ytngalomfljoomaa
