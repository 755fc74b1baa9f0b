/-
  The law of AwardsOk returns true for every code, and writes nothing that was there. No condition.
-/
import Derived.Test.YtpoafafoncgenaaDrawL
import Derived.Test.YtpoafafoncgenaaLawLeaf
import Derived.Test.YtpoafafoncgenaaAwLaw
import Derived.Test.YtpoafafoncgenaaRightsOf
import Derived.Deep.RegionHeld3
namespace Go.Proofs.Ytpoafafoncgenaa
open Go.RowKit

set_option maxRecDepth 10000 in
set_option maxHeartbeats 2000000 in
theorem fnAwardsOk_walk (A0 : Option Addr) (c0 : Nat) (bs : List Int) (w : World) (h0 : Bytes w w.heap.size A0 bs) (hl : bs.length ≤ 1048576) (hc0 : bs.length ≤ c0) :
    Calls Try.prog 4 #[.slice A0 bs.length c0] w fun e w' => e = .returned (.bool true) ∧ Below w.heap.size w w' := by
  have hlm : bs.length ≤ 9223372036854775807 := by omega
  go_enter Try.func4, Try.ntmps4
  go_wp2_with fail
  refine (drawAwardsOk_any A0 c0 bs _ h0 hlm hc0).mono ?_
  rintro e w1 ⟨E, A1, c1, D1, d1, xs, ys, hx5, hy5, hyb, rfl, ho1, hq1, hb1⟩
  have hz1 := hb1.size
  have B2 := (Below.refl w.heap.size w).trans (hb1.mono (by first | omega | (simp; omega) | simp))
  clear hb1
  have x3 := new2 w1 (.int .i64 E) (.slice A1 xs.length c1) 25
  have o4 := ho1.alloc (by omega) (.cells #[.int .i64 E, .slice A1 xs.length c1] 25)
  have o5 := hq1.alloc (by omega) (.cells #[.int .i64 E, .slice A1 xs.length c1] 25)
  have B6 := B2.alloc (by omega) (.cells #[.int .i64 E, .slice A1 xs.length c1] 25)
  have hl5 : xs.length ≤ 1152921504606846976 := by omega
  have hl6 : ys.length ≤ 1152921504606846976 := by omega
  obtain ⟨a7, a7'⟩ := x3
  by_cases hok : caseOkB E xs = true
  · by_cases haw : awardsB E xs ys = true
    · have HO : Hid (awardsB E xs ys = true) := haw
      have HC := Lib.hid hok
      have hbd := caseOk_bd hok
      have hsm := caseOk_small hok
      have hca := Lib.hid (fun k hk => case_at' hok k hk)
      have HAL := Lib.hid (all_aw hok)
      have HRl := Lib.hid (inP_length xs)
      have HRR := Lib.hid (rightsRow_length E xs)
      have hrb := Lib.hid (fun k hk => rights_at_bd hok k hk)
      have hll : (inP xs).length ≤ 1152921504606846976 := by rw [inP_length]; omega
      have hA := (awardsB_iff _ _ _).1 haw
      have HY := Lib.hid hA.2.1
      have HRT := Lib.hid (fun k h1 h2 => aw_right hA k h1 h2)
      have hbq : (((rightsRow E xs).length : Int) != (ys.length : Int)) = false := by rw [rightsRow_length, hA.2.1]; simp
      clear hA
      clear haw
      clear hok
      go_wp2_with fail
      refine (implAwardsOk_is E A1 c1 xs D1 d1 ys _ _ _ o4.ints (by first | omega | (simp; omega) | simp) hl5 _ _ o5.ints (by first | omega | (simp; omega) | simp) hl6 HO.out).mono ?_
      rintro e w2 ⟨rfl, hb2⟩
      obtain ⟨a8, a8'⟩ := keep2 hb2 ⟨a7, a7'⟩ (by first | omega | (simp; omega) | simp)
      have o9 := o4.below hb2 (by first | omega | (simp; omega) | simp)
      have o10 := o5.below hb2 (by first | omega | (simp; omega) | simp)
      have hz11 := hb2.size
      simp at hz11
      have B12 := B6.trans (hb2.mono (by first | omega | (simp; omega) | simp))
      clear hb2
      have z13 : w1.heap.size < w2.heap.size := by omega
      go_wp2_with fail
      refine (specAwardsOk_is E A1 c1 xs D1 d1 ys _ _ _ o9.ints (by first | omega | (simp; omega) | simp) hl5 _ _ o10.ints (by first | omega | (simp; omega) | simp) hl6 HO.out).mono ?_
      rintro e w3 ⟨rfl, hb3⟩
      obtain ⟨a14, a14'⟩ := keep2 hb3 ⟨a8, a8'⟩ (by first | omega | (simp; omega) | simp)
      have o15 := o9.below hb3 (by first | omega | (simp; omega) | simp)
      have o16 := o10.below hb3 (by first | omega | (simp; omega) | simp)
      have hz17 := hb3.size
      have B18 := B12.trans (hb3.mono (by first | omega | (simp; omega) | simp))
      clear hb3
      have z19 : w1.heap.size < w3.heap.size := by omega
      go_wp2_with fail
      refine (specCaseOk_yes (E) (A1) c1 xs _ _ _ o15.ints (by first | omega | (simp; omega) | simp) (by first | omega | simp) HC.out).mono ?_
      rintro e w4 ⟨rfl, hb4⟩
      obtain ⟨a20, a20'⟩ := keep2 hb4 ⟨a14, a14'⟩ (by first | omega | (simp; omega) | simp)
      have o21 := o15.below hb4 (by first | omega | (simp; omega) | simp)
      have o22 := o16.below hb4 (by first | omega | (simp; omega) | simp)
      have hz23 := hb4.size
      have B24 := B18.trans (hb4.mono (by first | omega | (simp; omega) | simp))
      clear hb4
      have z25 : w1.heap.size < w4.heap.size := by omega
      go_wp2_with fail
      refine (implRightsOf_yes E A1 c1 xs _ _ _ o21.ints (by first | omega | (simp; omega) | simp) HC.out).mono ?_
      rintro e w5 ⟨A5, c5, rfl, ho5, hb5⟩
      obtain ⟨a26, a26'⟩ := keep2 hb5 ⟨a20, a20'⟩ (by first | omega | (simp; omega) | simp)
      have o27 := o21.below hb5 (by first | omega | (simp; omega) | simp)
      have o28 := o22.below hb5 (by first | omega | (simp; omega) | simp)
      have hz29 := hb5.size
      have B30 := B24.trans (hb5.mono (by first | omega | (simp; omega) | simp))
      clear hb5
      have z31 : w1.heap.size < w5.heap.size := by omega
      have q32 := keep2 ((Below.refl w5.heap.size w5).alloc (Nat.le_refl _) (.cells #[] 3)) ⟨a26, a26'⟩ (by omega)
      have o33 := o27.alloc (by omega) (.cells #[] 3)
      have o34 := o28.alloc (by omega) (.cells #[] 3)
      have o35 := ho5.alloc (by omega) (.cells #[] 3)
      have B36 := B30.alloc (by omega) (.cells #[] 3)
      have hR0 : (w5.alloc (.cells #[] 3)).ownsRow w5.heap.size 3 1 (.slice (some ⟨w5.heap.size, 0, none⟩) 0 0) ((inP xs).take 0).length (ints ((inP xs).take 0)) := World.ownsRow_made w5 #[] 0 (Nat.le_refl _) (by unfold maxLen; omega) rfl
      have hsz9 := hsz w5 (.cells #[] 3)
      obtain ⟨W, hW⟩ : ∃ W, W = w5.alloc (.cells #[] 3) := ⟨_, rfl⟩
      rw [← hW] at q32 o33 o34 o35 B36 hR0 hsz9
      obtain ⟨a37, a37'⟩ := q32
      go_wp2
      rw [← hW]
      clear hW
      obtain ⟨i0, hi0, hj0, hj1, hj2⟩ := info_parts info_int
      go_loopw [7, 8] (fun v i wr => ∃ k : Nat, k ≤ xs.length ∧ i = .int .i64 k ∧ wr.ownsRow w5.heap.size 3 1 v ((inP xs).take k).length (ints ((inP xs).take k)) ∧ Below w5.heap.size W wr) (fun _ i _ => xs.length - (intOf i).toNat)
      case atStart => exact ⟨0, Nat.zero_le _, rfl, hR0, Below.refl _ _⟩
      case round =>
        obtain ⟨k, hk, rfl, hown, hbl⟩ := hrel
        obtain ⟨wo, rfl⟩ : ∃ x, x = wr := ⟨_, rfl⟩
        clear hR0
        have zo := hbl.size
        obtain ⟨s0, s1⟩ := keep2 hbl ⟨a37, a37'⟩ (by omega)
        have kx := o33.ints.below hbl (by omega)
        have ky := o34.ints.below hbl (by omega)
        have kr := o35.ints.below hbl (by omega)
        by_cases hlt : k < xs.length
        · have hlen : ((inP xs).take k).length = k := by rw [List.length_take, HRl.out]; omega
          rw [hlen] at hown
          clear hlen
          have HV := Lib.hid (inP_at xs k hlt)
          have hx := hca.out k hlt
          have hly : k < ys.length := by rw [HY.out]; exact hlt
          have hlr : k < (rightsRow E xs).length := by rw [HRR.out]; exact hlt
          have hrt := HRT.out k hlt hly
          have hrv := hrb.out k hlt
          obtain ⟨b2_, o2_, rfl, _, hbh2, hc2⟩ := ky.at_ hly
          obtain ⟨b3_, o3_, rfl, _, hbh3, hc3⟩ := kr.at_ hlr
          generalize ys[k]'hly = y at hc2 hrt
          generalize (rightsRow E xs)[k]'hlr = r at hc3 hrt hrv
          have hw1 : IntKind.i64.wrap (48 * r) = 48 * r := IntWalk.i64_in _ (by omega)
          have hw2 : IntKind.i64.wrap (48 * E) = 48 * E := IntWalk.i64_in _ (by omega)
          have hd1 : decide (y < 48 * r) = false := by simp only [decide_eq_false_iff_not]; omega
          have hd2 : decide (48 * E < y) = false := by simp only [decide_eq_false_iff_not]; omega
          have hk2 : (k : Int) < (ys.length : Int) := by omega
          have hk3 : (k : Int) < ((rightsRow E xs).length : Int) := by omega
          obtain ⟨b1_, o1_, rfl, _, hbh1, hc1⟩ := kx.at_ hlt
          generalize xs[k] = x at hc1 hx HV
          have hw48 : IntKind.i64.wrap (48 * x) = 48 * x := IntWalk.i64_in _ (by omega)
          have hk0 : (0 : Int) ≤ (k : Int) := by omega
          have hk1 : (k : Int) < (xs.length : Int) := by omega
          have hWB : w5.heap.size ≤ wo.heap.size := by omega
          go_wp2_with fail
          go_quiet (fail)
          generalize hW9 : World.drewN _ _ = W9
          have hown9 : W9.ownsRow w5.heap.size 3 1 u7 k (ints ((inP xs).take k)) := by rw [← hW9]; exact hown
          have hbl9 : Below w5.heap.size W W9 := by rw [← hW9]; exact below_drewN hbl _
          have s9 : W9.cell? ⟨w1.heap.size, 0, none⟩ = some (.int .i64 E) := by rw [← hW9]; exact s0
          have s9' : W9.cell? ⟨w1.heap.size, 1, none⟩ = some (.slice (some ⟨b1_, o1_, none⟩) xs.length c1) := by rw [← hW9]; exact s1
          have hc9 : W9.cell? ⟨b1_, o1_ + k, none⟩ = some (.int .i64 x) := by rw [← hW9]; exact hc1
          have hz9 : w5.heap.size ≤ W9.heap.size := by rw [← hW9]; exact hWB
          clear hW9 hown hbl s0 s1 hc1
          have hA := hown9.alloc (.cells #[.int .i64 (48 * x)] 3)
          go_wp2_with (at_builtin; refine wpList_append_own _ rfl _ _ 23 rfl w5.heap.size 3 i0 (.int .i64 0) 1 8 Try.underlying23 hi0 hj0 hj1 hj2 rfl (by decide) _ _ _ rfl hA ⟨W9.heap.size, 0, none⟩ 1 1 [.int .i64 (48 * x)] rfl rfl (news_one _ _ _) (one_cell _) (by unfold maxLen; omega) (by omega) (by rw [hsz]; omega) ?_; intro v1 w9 hownA hgrowA _)
          have hn := append_one (R := inP xs) (k := k) (by rw [HRl.out]; exact hlt) _ HV.out rfl hownA
          have hb9 := (hbl9.alloc hz9 (.cells #[.int .i64 (48 * x)] 3)).grown hgrowA (by rw [hsz]; omega) (fun g hg => ((hown9.lt g hg).1))
          have H := Lib.hid (And.intro hn hb9)
          clear hn hb9 hownA hgrowA hown9 hA hbl9
          go_wp2
          go_roundw
          case rel => exact ⟨k + 1, by omega, by go_num, H.out.1, H.out.2⟩
          case measure => simp [intOf]; omega
        · obtain rfl : k = xs.length := by omega
          have he : (inP xs).take xs.length = inP xs := by rw [← HRl.out]; exact List.take_length
          rw [he] at hown
          obtain ⟨Aw, cw, rfl, _, how⟩ := own_of_row hown
          have hBF := B36.trans (hbl.mono (by omega))
          have hoi := how.ints
          clear hown hbl how he
          go_wp2_with fail
          have hWW : w.heap.size ≤ wo.heap.size := by omega
          have g_c : w1.heap.size < wo.heap.size := by omega
          have g_kc : w1.heap.size ≤ wo.heap.size := by omega
          have g_ka : wo.heap.size ≤ wo.heap.size := by omega
          have hS0 : (fun w' : World => w'.cell? ⟨w1.heap.size, 0, none⟩ = some (.int .i64 E) ∧ w'.cell? ⟨w1.heap.size, 1, none⟩ = some (.slice A1 xs.length c1) ∧ Ints w' (w.heap.size) (w1.heap.size) (A1) (xs) ∧ Ints w' (w5.heap.size) (wo.heap.size) (Aw) (inP xs) ∧ wo.heap.size ≤ w'.heap.size ∧ Below w.heap.size w w') wo.drew := ⟨s0, s1, kx, hoi, Nat.le_refl _, hBF.drew⟩
          first
            | (go_region_held3 (fun w' => w'.cell? ⟨w1.heap.size, 0, none⟩ = some (.int .i64 E) ∧ w'.cell? ⟨w1.heap.size, 1, none⟩ = some (.slice A1 xs.length c1) ∧ Ints w' (w.heap.size) (w1.heap.size) (A1) (xs) ∧ Ints w' (w5.heap.size) (wo.heap.size) (Aw) (inP xs) ∧ wo.heap.size ≤ w'.heap.size ∧ Below w.heap.size w w') (first | assumption | exact hS0 | exact HS9 | go_keep)
              (first
                | (go_at_call 27
                   obtain ⟨y0, y1, kc, ka, zz, BB⟩ := (by assumption : (fun w' : World => w'.cell? ⟨w1.heap.size, 0, none⟩ = some (.int .i64 E) ∧ w'.cell? ⟨w1.heap.size, 1, none⟩ = some (.slice A1 xs.length c1) ∧ Ints w' (w.heap.size) (w1.heap.size) (A1) (xs) ∧ Ints w' (w5.heap.size) (wo.heap.size) (Aw) (inP xs) ∧ wo.heap.size ≤ w'.heap.size ∧ Below w.heap.size w w') _)
                   refine (lsumOf_any A1 c1 xs _ _ _ kc hsm).mono ?_
                   rintro e w9 ⟨rfl, rfl⟩)
                | (go_at_call 24
                   obtain ⟨y0, y1, kc, ka, zz, BB⟩ := (by assumption : (fun w' : World => w'.cell? ⟨w1.heap.size, 0, none⟩ = some (.int .i64 E) ∧ w'.cell? ⟨w1.heap.size, 1, none⟩ = some (.slice A1 xs.length c1) ∧ Ints w' (w.heap.size) (w1.heap.size) (A1) (xs) ∧ Ints w' (w5.heap.size) (wo.heap.size) (Aw) (inP xs) ∧ wo.heap.size ≤ w'.heap.size ∧ Below w.heap.size w w') _)
                   refine (implAwardsOk_is xs.sum A1 c1 xs Aw cw (inP xs) _ _ _ kc (by omega) hl5 _ _ ka (by omega) hll HAL.out).mono ?_
                   rintro e w9 ⟨rfl, hb9⟩
                   have HS9 : (fun w' => w'.cell? ⟨w1.heap.size, 0, none⟩ = some (.int .i64 E) ∧ w'.cell? ⟨w1.heap.size, 1, none⟩ = some (.slice A1 xs.length c1) ∧ Ints w' (w.heap.size) (w1.heap.size) (A1) (xs) ∧ Ints w' (w5.heap.size) (wo.heap.size) (Aw) (inP xs) ∧ wo.heap.size ≤ w'.heap.size ∧ Below w.heap.size w w') w9 := ⟨(keep2 hb9 ⟨y0, y1⟩ (by omega)).1, (keep2 hb9 ⟨y0, y1⟩ (by omega)).2, kc.below hb9 (by omega), ka.below hb9 (by omega), Nat.le_trans zz hb9.size, BB.trans (hb9.mono (by omega))⟩)))
            | fail
          go_wp2
          go_ret
          exact ⟨rfl, HS9.2.2.2.2.2⟩
    · have HO : Hid (awardsB E xs ys = false) := by show _ = _; simpa using haw
      have HC := Lib.hid hok
      have hbd := caseOk_bd hok
      have hsm := caseOk_small hok
      have hca := Lib.hid (fun k hk => case_at' hok k hk)
      have HAL := Lib.hid (all_aw hok)
      have HRl := Lib.hid (inP_length xs)
      have HRR := Lib.hid (rightsRow_length E xs)
      have hrb := Lib.hid (fun k hk => rights_at_bd hok k hk)
      have hll : (inP xs).length ≤ 1152921504606846976 := by rw [inP_length]; omega
      clear haw
      clear hok
      go_wp2_with fail
      refine (implAwardsOk_is E A1 c1 xs D1 d1 ys _ _ _ o4.ints (by first | omega | (simp; omega) | simp) hl5 _ _ o5.ints (by first | omega | (simp; omega) | simp) hl6 HO.out).mono ?_
      rintro e w2 ⟨rfl, hb2⟩
      obtain ⟨a8, a8'⟩ := keep2 hb2 ⟨a7, a7'⟩ (by first | omega | (simp; omega) | simp)
      have o9 := o4.below hb2 (by first | omega | (simp; omega) | simp)
      have o10 := o5.below hb2 (by first | omega | (simp; omega) | simp)
      have hz11 := hb2.size
      simp at hz11
      have B12 := B6.trans (hb2.mono (by first | omega | (simp; omega) | simp))
      clear hb2
      have z13 : w1.heap.size < w2.heap.size := by omega
      go_wp2_with fail
      refine (specAwardsOk_is E A1 c1 xs D1 d1 ys _ _ _ o9.ints (by first | omega | (simp; omega) | simp) hl5 _ _ o10.ints (by first | omega | (simp; omega) | simp) hl6 HO.out).mono ?_
      rintro e w3 ⟨rfl, hb3⟩
      obtain ⟨a14, a14'⟩ := keep2 hb3 ⟨a8, a8'⟩ (by first | omega | (simp; omega) | simp)
      have o15 := o9.below hb3 (by first | omega | (simp; omega) | simp)
      have o16 := o10.below hb3 (by first | omega | (simp; omega) | simp)
      have hz17 := hb3.size
      have B18 := B12.trans (hb3.mono (by first | omega | (simp; omega) | simp))
      clear hb3
      have z19 : w1.heap.size < w3.heap.size := by omega
      go_wp2_with fail
      refine (specCaseOk_yes (E) (A1) c1 xs _ _ _ o15.ints (by first | omega | (simp; omega) | simp) (by first | omega | simp) HC.out).mono ?_
      rintro e w4 ⟨rfl, hb4⟩
      obtain ⟨a20, a20'⟩ := keep2 hb4 ⟨a14, a14'⟩ (by first | omega | (simp; omega) | simp)
      have o21 := o15.below hb4 (by first | omega | (simp; omega) | simp)
      have o22 := o16.below hb4 (by first | omega | (simp; omega) | simp)
      have hz23 := hb4.size
      have B24 := B18.trans (hb4.mono (by first | omega | (simp; omega) | simp))
      clear hb4
      have z25 : w1.heap.size < w4.heap.size := by omega
      go_wp2_with fail
      refine (implRightsOf_yes E A1 c1 xs _ _ _ o21.ints (by first | omega | (simp; omega) | simp) HC.out).mono ?_
      rintro e w5 ⟨A5, c5, rfl, ho5, hb5⟩
      obtain ⟨a26, a26'⟩ := keep2 hb5 ⟨a20, a20'⟩ (by first | omega | (simp; omega) | simp)
      have o27 := o21.below hb5 (by first | omega | (simp; omega) | simp)
      have o28 := o22.below hb5 (by first | omega | (simp; omega) | simp)
      have hz29 := hb5.size
      have B30 := B24.trans (hb5.mono (by first | omega | (simp; omega) | simp))
      clear hb5
      have z31 : w1.heap.size < w5.heap.size := by omega
      have q32 := keep2 ((Below.refl w5.heap.size w5).alloc (Nat.le_refl _) (.cells #[] 3)) ⟨a26, a26'⟩ (by omega)
      have o33 := o27.alloc (by omega) (.cells #[] 3)
      have o34 := o28.alloc (by omega) (.cells #[] 3)
      have o35 := ho5.alloc (by omega) (.cells #[] 3)
      have B36 := B30.alloc (by omega) (.cells #[] 3)
      have hR0 : (w5.alloc (.cells #[] 3)).ownsRow w5.heap.size 3 1 (.slice (some ⟨w5.heap.size, 0, none⟩) 0 0) ((inP xs).take 0).length (ints ((inP xs).take 0)) := World.ownsRow_made w5 #[] 0 (Nat.le_refl _) (by unfold maxLen; omega) rfl
      have hsz9 := hsz w5 (.cells #[] 3)
      obtain ⟨W, hW⟩ : ∃ W, W = w5.alloc (.cells #[] 3) := ⟨_, rfl⟩
      rw [← hW] at q32 o33 o34 o35 B36 hR0 hsz9
      obtain ⟨a37, a37'⟩ := q32
      go_wp2
      rw [← hW]
      clear hW
      obtain ⟨i0, hi0, hj0, hj1, hj2⟩ := info_parts info_int
      go_loopw [7, 8] (fun v i wr => ∃ k : Nat, k ≤ xs.length ∧ i = .int .i64 k ∧ wr.ownsRow w5.heap.size 3 1 v ((inP xs).take k).length (ints ((inP xs).take k)) ∧ Below w5.heap.size W wr) (fun _ i _ => xs.length - (intOf i).toNat)
      case atStart => exact ⟨0, Nat.zero_le _, rfl, hR0, Below.refl _ _⟩
      case round =>
        obtain ⟨k, hk, rfl, hown, hbl⟩ := hrel
        obtain ⟨wo, rfl⟩ : ∃ x, x = wr := ⟨_, rfl⟩
        clear hR0
        have zo := hbl.size
        obtain ⟨s0, s1⟩ := keep2 hbl ⟨a37, a37'⟩ (by omega)
        have kx := o33.ints.below hbl (by omega)
        have ky := o34.ints.below hbl (by omega)
        have kr := o35.ints.below hbl (by omega)
        by_cases hlt : k < xs.length
        · have hlen : ((inP xs).take k).length = k := by rw [List.length_take, HRl.out]; omega
          rw [hlen] at hown
          clear hlen
          have HV := Lib.hid (inP_at xs k hlt)
          have hx := hca.out k hlt
          obtain ⟨b1_, o1_, rfl, _, hbh1, hc1⟩ := kx.at_ hlt
          generalize xs[k] = x at hc1 hx HV
          have hw48 : IntKind.i64.wrap (48 * x) = 48 * x := IntWalk.i64_in _ (by omega)
          have hk0 : (0 : Int) ≤ (k : Int) := by omega
          have hk1 : (k : Int) < (xs.length : Int) := by omega
          have hWB : w5.heap.size ≤ wo.heap.size := by omega
          go_wp2_with fail
          go_quiet (fail)
          generalize hW9 : World.drewN _ _ = W9
          have hown9 : W9.ownsRow w5.heap.size 3 1 u7 k (ints ((inP xs).take k)) := by rw [← hW9]; exact hown
          have hbl9 : Below w5.heap.size W W9 := by rw [← hW9]; exact below_drewN hbl _
          have s9 : W9.cell? ⟨w1.heap.size, 0, none⟩ = some (.int .i64 E) := by rw [← hW9]; exact s0
          have s9' : W9.cell? ⟨w1.heap.size, 1, none⟩ = some (.slice (some ⟨b1_, o1_, none⟩) xs.length c1) := by rw [← hW9]; exact s1
          have hc9 : W9.cell? ⟨b1_, o1_ + k, none⟩ = some (.int .i64 x) := by rw [← hW9]; exact hc1
          have hz9 : w5.heap.size ≤ W9.heap.size := by rw [← hW9]; exact hWB
          clear hW9 hown hbl s0 s1 hc1
          have hA := hown9.alloc (.cells #[.int .i64 (48 * x)] 3)
          go_wp2_with (at_builtin; refine wpList_append_own _ rfl _ _ 23 rfl w5.heap.size 3 i0 (.int .i64 0) 1 8 Try.underlying23 hi0 hj0 hj1 hj2 rfl (by decide) _ _ _ rfl hA ⟨W9.heap.size, 0, none⟩ 1 1 [.int .i64 (48 * x)] rfl rfl (news_one _ _ _) (one_cell _) (by unfold maxLen; omega) (by omega) (by rw [hsz]; omega) ?_; intro v1 w9 hownA hgrowA _)
          have hn := append_one (R := inP xs) (k := k) (by rw [HRl.out]; exact hlt) _ HV.out rfl hownA
          have hb9 := (hbl9.alloc hz9 (.cells #[.int .i64 (48 * x)] 3)).grown hgrowA (by rw [hsz]; omega) (fun g hg => ((hown9.lt g hg).1))
          have H := Lib.hid (And.intro hn hb9)
          clear hn hb9 hownA hgrowA hown9 hA hbl9
          go_wp2
          go_roundw
          case rel => exact ⟨k + 1, by omega, by go_num, H.out.1, H.out.2⟩
          case measure => simp [intOf]; omega
        · obtain rfl : k = xs.length := by omega
          have he : (inP xs).take xs.length = inP xs := by rw [← HRl.out]; exact List.take_length
          rw [he] at hown
          obtain ⟨Aw, cw, rfl, _, how⟩ := own_of_row hown
          have hBF := B36.trans (hbl.mono (by omega))
          have hoi := how.ints
          clear hown hbl how he
          go_wp2_with fail
          have hWW : w.heap.size ≤ wo.heap.size := by omega
          have g_c : w1.heap.size < wo.heap.size := by omega
          have g_kc : w1.heap.size ≤ wo.heap.size := by omega
          have g_ka : wo.heap.size ≤ wo.heap.size := by omega
          have hS0 : (fun w' : World => w'.cell? ⟨w1.heap.size, 0, none⟩ = some (.int .i64 E) ∧ w'.cell? ⟨w1.heap.size, 1, none⟩ = some (.slice A1 xs.length c1) ∧ Ints w' (w.heap.size) (w1.heap.size) (A1) (xs) ∧ Ints w' (w5.heap.size) (wo.heap.size) (Aw) (inP xs) ∧ wo.heap.size ≤ w'.heap.size ∧ Below w.heap.size w w') wo.drew := ⟨s0, s1, kx, hoi, Nat.le_refl _, hBF.drew⟩
          first
            | (go_region_held3 (fun w' => w'.cell? ⟨w1.heap.size, 0, none⟩ = some (.int .i64 E) ∧ w'.cell? ⟨w1.heap.size, 1, none⟩ = some (.slice A1 xs.length c1) ∧ Ints w' (w.heap.size) (w1.heap.size) (A1) (xs) ∧ Ints w' (w5.heap.size) (wo.heap.size) (Aw) (inP xs) ∧ wo.heap.size ≤ w'.heap.size ∧ Below w.heap.size w w') (first | assumption | exact hS0 | exact HS9 | go_keep)
              (first
                | (go_at_call 27
                   obtain ⟨y0, y1, kc, ka, zz, BB⟩ := (by assumption : (fun w' : World => w'.cell? ⟨w1.heap.size, 0, none⟩ = some (.int .i64 E) ∧ w'.cell? ⟨w1.heap.size, 1, none⟩ = some (.slice A1 xs.length c1) ∧ Ints w' (w.heap.size) (w1.heap.size) (A1) (xs) ∧ Ints w' (w5.heap.size) (wo.heap.size) (Aw) (inP xs) ∧ wo.heap.size ≤ w'.heap.size ∧ Below w.heap.size w w') _)
                   refine (lsumOf_any A1 c1 xs _ _ _ kc hsm).mono ?_
                   rintro e w9 ⟨rfl, rfl⟩)
                | (go_at_call 24
                   obtain ⟨y0, y1, kc, ka, zz, BB⟩ := (by assumption : (fun w' : World => w'.cell? ⟨w1.heap.size, 0, none⟩ = some (.int .i64 E) ∧ w'.cell? ⟨w1.heap.size, 1, none⟩ = some (.slice A1 xs.length c1) ∧ Ints w' (w.heap.size) (w1.heap.size) (A1) (xs) ∧ Ints w' (w5.heap.size) (wo.heap.size) (Aw) (inP xs) ∧ wo.heap.size ≤ w'.heap.size ∧ Below w.heap.size w w') _)
                   refine (implAwardsOk_is xs.sum A1 c1 xs Aw cw (inP xs) _ _ _ kc (by omega) hl5 _ _ ka (by omega) hll HAL.out).mono ?_
                   rintro e w9 ⟨rfl, hb9⟩
                   have HS9 : (fun w' => w'.cell? ⟨w1.heap.size, 0, none⟩ = some (.int .i64 E) ∧ w'.cell? ⟨w1.heap.size, 1, none⟩ = some (.slice A1 xs.length c1) ∧ Ints w' (w.heap.size) (w1.heap.size) (A1) (xs) ∧ Ints w' (w5.heap.size) (wo.heap.size) (Aw) (inP xs) ∧ wo.heap.size ≤ w'.heap.size ∧ Below w.heap.size w w') w9 := ⟨(keep2 hb9 ⟨y0, y1⟩ (by omega)).1, (keep2 hb9 ⟨y0, y1⟩ (by omega)).2, kc.below hb9 (by omega), ka.below hb9 (by omega), Nat.le_trans zz hb9.size, BB.trans (hb9.mono (by omega))⟩)))
            | fail
          go_wp2
          go_ret
          exact ⟨rfl, HS9.2.2.2.2.2⟩
  · have HO : Hid (awardsB E xs ys = false) := aw_case ys (by simpa using hok)
    have hC : caseOkB E xs = false := by simpa using hok
    have HC := Lib.hid hC
    clear hC
    clear hok
    go_wp2_with fail
    refine (implAwardsOk_is E A1 c1 xs D1 d1 ys _ _ _ o4.ints (by first | omega | (simp; omega) | simp) hl5 _ _ o5.ints (by first | omega | (simp; omega) | simp) hl6 HO.out).mono ?_
    rintro e w2 ⟨rfl, hb2⟩
    obtain ⟨a8, a8'⟩ := keep2 hb2 ⟨a7, a7'⟩ (by first | omega | (simp; omega) | simp)
    have o9 := o4.below hb2 (by first | omega | (simp; omega) | simp)
    have o10 := o5.below hb2 (by first | omega | (simp; omega) | simp)
    have hz11 := hb2.size
    simp at hz11
    have B12 := B6.trans (hb2.mono (by first | omega | (simp; omega) | simp))
    clear hb2
    have z13 : w1.heap.size < w2.heap.size := by omega
    go_wp2_with fail
    refine (specAwardsOk_is E A1 c1 xs D1 d1 ys _ _ _ o9.ints (by first | omega | (simp; omega) | simp) hl5 _ _ o10.ints (by first | omega | (simp; omega) | simp) hl6 HO.out).mono ?_
    rintro e w3 ⟨rfl, hb3⟩
    obtain ⟨a14, a14'⟩ := keep2 hb3 ⟨a8, a8'⟩ (by first | omega | (simp; omega) | simp)
    have o15 := o9.below hb3 (by first | omega | (simp; omega) | simp)
    have o16 := o10.below hb3 (by first | omega | (simp; omega) | simp)
    have hz17 := hb3.size
    have B18 := B12.trans (hb3.mono (by first | omega | (simp; omega) | simp))
    clear hb3
    have z19 : w1.heap.size < w3.heap.size := by omega
    go_wp2_with fail
    refine (specCaseOk_no (E) (A1) c1 xs _ _ _ o15.ints (by first | omega | (simp; omega) | simp) (by first | omega | simp) HC.out).mono ?_
    rintro e w4 ⟨rfl, hb4⟩
    obtain ⟨a20, a20'⟩ := keep2 hb4 ⟨a14, a14'⟩ (by first | omega | (simp; omega) | simp)
    have o21 := o15.below hb4 (by first | omega | (simp; omega) | simp)
    have o22 := o16.below hb4 (by first | omega | (simp; omega) | simp)
    have hz23 := hb4.size
    have B24 := B18.trans (hb4.mono (by first | omega | (simp; omega) | simp))
    clear hb4
    have z25 : w1.heap.size < w4.heap.size := by omega
    go_wp2_with fail
    refine (alive_any _).mono ?_
    rintro e w5 ⟨rfl, hb5⟩
    obtain ⟨a26, a26'⟩ := keep2 hb5 ⟨a20, a20'⟩ (by first | omega | (simp; omega) | simp)
    have o27 := o21.below hb5 (by first | omega | (simp; omega) | simp)
    have o28 := o22.below hb5 (by first | omega | (simp; omega) | simp)
    have hz29 := hb5.size
    have B30 := B24.trans (hb5.mono (by first | omega | (simp; omega) | simp))
    clear hb5
    have z31 : w1.heap.size < w5.heap.size := by omega
    go_wp2
    go_ret
    exact ⟨rfl, B30⟩

set_option maxRecDepth 10000 in
set_option maxHeartbeats 400000 in
theorem fnAwardsOk_big (A0 : Option Addr) (c0 : Nat) (bs : List Int) (w : World) (hl : ¬ bs.length ≤ 1048576) (hm : bs.length ≤ 9223372036854775807) :
    Calls Try.prog 4 #[.slice A0 bs.length c0] w fun e w' => e = .returned (.bool true) ∧ Below w.heap.size w w' := by
  go_enter Try.func4, Try.ntmps4
  go_wp2
  go_ret
  exact ⟨rfl, Below.refl _ _⟩

theorem fnAwardsOk_all (A0 : Option Addr) (c0 : Nat) (bs : List Int) (w : World) (h0 : Bytes w w.heap.size A0 bs) (hm : bs.length ≤ 9223372036854775807) (hc0 : bs.length ≤ c0) :
    Calls Try.prog 4 #[.slice A0 bs.length c0] w fun e w' => e = .returned (.bool true) ∧ Below w.heap.size w w' := by
  by_cases hl : bs.length ≤ 1048576
  · exact fnAwardsOk_walk A0 c0 bs w h0 hl hc0
  · exact fnAwardsOk_big A0 c0 bs w hl hm

end Go.Proofs.Ytpoafafoncgenaa
