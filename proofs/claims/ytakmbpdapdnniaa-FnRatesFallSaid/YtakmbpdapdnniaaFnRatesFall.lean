/-
  The law of RatesFall returns true for every code, and writes nothing that was there. No condition.
-/
import Derived.Test.YtakmbpdapdnniaaDrawQ
import Derived.Test.YtakmbpdapdnniaaLawLeaf
import Derived.Test.YtakmbpdapdnniaaRatesLaw
import Derived.Test.YtakmbpdapdnniaaAwLaw
import Derived.Test.YtakmbpdapdnniaaLossLaw
import Derived.Test.YtakmbpdapdnniaaOtherCase
import Derived.Test.YtakmbpdapdnniaaOwedOf
import Derived.Test.YtakmbpdapdnniaaShareRow
import Derived.Test.YtakmbpdapdnniaaImplEven
import Derived.Deep.RegionHeld3
namespace Go.Proofs.Ytakmbpdapdnniaa
open Go.RowKit

set_option maxRecDepth 10000 in
set_option maxHeartbeats 2000000 in
theorem fnRatesFall_walk (A0 : Option Addr) (c0 : Nat) (bs : List Int) (w : World) (h0 : Bytes w w.heap.size A0 bs) (hl : bs.length ≤ 1048576) (hc0 : bs.length ≤ c0) :
    Calls Try.prog 4 #[.slice A0 bs.length c0] w fun e w' => e = .returned (.bool true) ∧ Below w.heap.size w w' := by
  have hlm : bs.length ≤ 9223372036854775807 := by omega
  go_enter Try.func4, Try.ntmps4
  go_wp2_with fail
  refine (drawRatesFall_any A0 c0 bs _ h0 hlm hc0).mono ?_
  rintro e w1 ⟨E, A1, c1, D1, d1, xs, ys, hx5, hy5, hyb, rfl, ho1, hq1, hb1⟩
  have hz1 := hb1.size
  have B2 := (Below.refl w.heap.size w).trans (hb1.mono (by first | omega | (simp; omega) | simp))
  clear hb1
  have x3 := new2 w1 (.int .i64 E) (.slice A1 xs.length c1) 25
  have o4 := ho1.alloc (by omega) (.cells #[.int .i64 E, .slice A1 xs.length c1] 25)
  have o5 := hq1.alloc (by omega) (.cells #[.int .i64 E, .slice A1 xs.length c1] 25)
  have B6 := B2.alloc (by omega) (.cells #[.int .i64 E, .slice A1 xs.length c1] 25)
  have hl5 : xs.length ≤ 1152921504606846976 := by omega
  have hl6 : ys.length ≤ 1152921504606846976 := by omega
  obtain ⟨a7, a7'⟩ := x3
  by_cases hok : caseOkB E xs = true
  · by_cases hf : rateB false E xs ys = true
    · by_cases hr : rateB true E xs ys = true
      · by_cases hq : keepsB E xs ys = true
        · have HC := Lib.hid hok
          have hbd := caseOk_bd hok
          have HKA : Hid (rateB false E xs (evenAw E xs) = true) := fall_aw hok
          have hLa : (evenAw E xs).length ≤ 1152921504606846976 := by rw [evenAw_length]; exact hl5
          have hv : owedOf E xs = xs.sum := by simp [owedOf, hok]
          have HV := Lib.hid hv
          have HSL := Lib.hid (shareRow_length E xs)
          have HSB := Lib.hid (fun k hk => share_bd hok k hk)
          clear hv
          have HF : Hid (rateB false E xs ys = true) := by show _ = _; exact hf
          have HR : Hid (rateB true E xs ys = true) := by show _ = _; exact hr
          have hyn : ys.length = xs.length := ((awardsB_iff _ _ _).1 ((rateB_iff _ _ _ _).1 hf).1).2.1
          have HYN := Lib.hid hyn
          have hy1 : 1 ≤ ys.length := by omega
          clear hyn
          have HK : Hid (keepsB E xs ys = true) := by show _ = _; exact hq
          have HE := Lib.hid (fun k h1 h2 h3 => rates_share hr hf hq k h1 h2 h3)
          have hrg := Lib.hid (aw_range ((awardsB_iff _ _ _).1 ((rateB_iff _ _ _ _).1 hf).1).1 ((awardsB_iff _ _ _).1 ((rateB_iff _ _ _ _).1 hf).1).2.1 ((awardsB_iff _ _ _).1 ((rateB_iff _ _ _ _).1 hf).1).2.2.1)
          clear hf hr hq
          clear hok
          go_wp2_with fail
          refine (implFall_is E A1 c1 xs D1 d1 ys true _ _ _ o4.ints (by first | omega | (simp; omega) | simp) hl5 _ _ o5.ints (by first | omega | (simp; omega) | simp) hl6 HF.out).mono ?_
          rintro e w2 ⟨rfl, hb2⟩
          obtain ⟨a8, a8'⟩ := keep2 hb2 ⟨a7, a7'⟩ (by first | omega | (simp; omega) | simp)
          have o9 := o4.below hb2 (by first | omega | (simp; omega) | simp)
          have o10 := o5.below hb2 (by first | omega | (simp; omega) | simp)
          have hz11 := hb2.size
          simp at hz11
          have B12 := B6.trans (hb2.mono (by first | omega | (simp; omega) | simp))
          clear hb2
          have z13 : w1.heap.size < w2.heap.size := by omega
          go_wp2_with fail
          refine (specFall_is E A1 c1 xs D1 d1 ys true _ _ _ o9.ints (by first | omega | (simp; omega) | simp) hl5 _ _ o10.ints (by first | omega | (simp; omega) | simp) hl6 HF.out).mono ?_
          rintro e w3 ⟨rfl, hb3⟩
          obtain ⟨a14, a14'⟩ := keep2 hb3 ⟨a8, a8'⟩ (by first | omega | (simp; omega) | simp)
          have o15 := o9.below hb3 (by first | omega | (simp; omega) | simp)
          have o16 := o10.below hb3 (by first | omega | (simp; omega) | simp)
          have hz17 := hb3.size
          have B18 := B12.trans (hb3.mono (by first | omega | (simp; omega) | simp))
          clear hb3
          have z19 : w1.heap.size < w3.heap.size := by omega
          go_wp2_with fail
          refine (specCaseOk_yes (E) (A1) c1 xs _ _ _ o15.ints (by first | omega | (simp; omega) | simp) (by first | omega | simp) HC.out).mono ?_
          rintro e w4 ⟨rfl, hb4⟩
          obtain ⟨a20, a20'⟩ := keep2 hb4 ⟨a14, a14'⟩ (by first | omega | (simp; omega) | simp)
          have o21 := o15.below hb4 (by first | omega | (simp; omega) | simp)
          have o22 := o16.below hb4 (by first | omega | (simp; omega) | simp)
          have hz23 := hb4.size
          have B24 := B18.trans (hb4.mono (by first | omega | (simp; omega) | simp))
          clear hb4
          have z25 : w1.heap.size < w4.heap.size := by omega
          go_wp2_with fail
          refine (implShareRow_yes E A1 c1 xs _ _ _ o21.ints (by first | omega | (simp; omega) | simp) HC.out).mono ?_
          rintro e w5 ⟨A5, c5, rfl, ho5, hb5⟩
          obtain ⟨a26, a26'⟩ := keep2 hb5 ⟨a20, a20'⟩ (by first | omega | (simp; omega) | simp)
          have o27 := o21.below hb5 (by first | omega | (simp; omega) | simp)
          have o28 := o22.below hb5 (by first | omega | (simp; omega) | simp)
          have hz29 := hb5.size
          have B30 := B24.trans (hb5.mono (by first | omega | (simp; omega) | simp))
          clear hb5
          have z31 : w1.heap.size < w5.heap.size := by omega
          go_wp2_with fail
          refine (implOwedOf_any E A1 c1 xs _ _ _ o27.ints (by first | omega | (simp; omega) | simp) hl5).mono ?_
          rintro e w6 ⟨he6, hb6⟩
          rw [HV.out] at he6
          subst he6
          obtain ⟨a32, a32'⟩ := keep2 hb6 ⟨a26, a26'⟩ (by first | omega | (simp; omega) | simp)
          have o33 := o27.below hb6 (by first | omega | (simp; omega) | simp)
          have o34 := o28.below hb6 (by first | omega | (simp; omega) | simp)
          have o35 := ho5.below hb6 (by first | omega | (simp; omega) | simp)
          have hz36 := hb6.size
          have B37 := B30.trans (hb6.mono (by first | omega | (simp; omega) | simp))
          clear hb6
          have z38 : w1.heap.size < w6.heap.size := by omega
          go_wp2
          go_loopw [8] (fun i wr => ∃ k : Nat, k ≤ ys.length ∧ i = .int .i64 k ∧ Below w6.heap.size w6 wr) (fun i _ => ys.length - (intOf i).toNat)
          case atStart => exact ⟨0, Nat.zero_le _, rfl, Below.refl _ _⟩
          case round =>
            obtain ⟨k, hk, rfl, hbl⟩ := hrel
            obtain ⟨w7, rfl⟩ : ∃ x, x = wr := ⟨_, rfl⟩
            have hbl0 := hbl
            have hzl := hbl.size
            obtain ⟨a39, a39'⟩ := keep2 hbl ⟨a32, a32'⟩ (by first | omega | (simp; omega) | simp)
            have o40 := o33.below hbl (by first | omega | (simp; omega) | simp)
            have o41 := o34.below hbl (by first | omega | (simp; omega) | simp)
            have o42 := o35.below hbl (by first | omega | (simp; omega) | simp)
            have hz43 := hbl.size
            have B44 := B37.trans (hbl.mono (by first | omega | (simp; omega) | simp))
            clear hbl
            have z45 : w1.heap.size < w7.heap.size := by omega
            by_cases hlt : k < ys.length
            · have hk0 : (0 : Int) ≤ (k : Int) := by omega
              have hk1 : (k : Int) < (ys.length : Int) := by omega
              have hkx : k < xs.length := by rw [← HYN.out]; exact hlt
              have hks : k < (shareRow E xs).length := by rw [HSL.out]; exact hkx
              have hk2 : (k : Int) < ((shareRow E xs).length : Int) := by omega
              go_wp2_with fail
              refine (implRise_is E A1 c1 xs D1 d1 ys true _ _ _ o40.ints (by first | omega | (simp; omega) | simp) hl5 _ _ o41.ints (by first | omega | (simp; omega) | simp) hl6 HR.out).mono ?_
              rintro e w8 ⟨rfl, hb8⟩
              have hx0 := hbl0.trans (hb8.mono (by omega))
              obtain ⟨a46, a46'⟩ := keep2 hb8 ⟨a39, a39'⟩ (by first | omega | (simp; omega) | simp)
              have o47 := o40.below hb8 (by first | omega | (simp; omega) | simp)
              have o48 := o41.below hb8 (by first | omega | (simp; omega) | simp)
              have o49 := o42.below hb8 (by first | omega | (simp; omega) | simp)
              have hz50 := hb8.size
              have B51 := B44.trans (hb8.mono (by first | omega | (simp; omega) | simp))
              clear hb8
              have z52 : w1.heap.size < w8.heap.size := by omega
              go_wp2_with fail
              refine (implKeeps_is E A1 c1 xs D1 d1 ys true _ _ _ o47.ints (by first | omega | (simp; omega) | simp) hl5 _ _ o48.ints (by first | omega | (simp; omega) | simp) hl6 HK.out).mono ?_
              rintro e w9 ⟨rfl, hb9⟩
              have hx1 := hx0.trans (hb9.mono (by omega))
              obtain ⟨a53, a53'⟩ := keep2 hb9 ⟨a46, a46'⟩ (by first | omega | (simp; omega) | simp)
              have o54 := o47.below hb9 (by first | omega | (simp; omega) | simp)
              have o55 := o48.below hb9 (by first | omega | (simp; omega) | simp)
              have o56 := o49.below hb9 (by first | omega | (simp; omega) | simp)
              have hz57 := hb9.size
              have B58 := B51.trans (hb9.mono (by first | omega | (simp; omega) | simp))
              clear hb9
              have z59 : w1.heap.size < w9.heap.size := by omega
              obtain ⟨b1_, o1_, rfl, _, hbh1, hc1⟩ := o55.ints.at_ hlt
              obtain ⟨b2_, o2_, rfl, _, hbh2, hc2⟩ := o56.ints.at_ hks
              have hq := HE.out k hkx hlt hks
              have hvy := hrg.out _ (List.getElem_mem hlt)
              have hvs := HSB.out k hkx
              rw [← shareRow_at E xs k hkx] at hvs
              generalize ys[k]'hlt = y at hc1 hq hvy
              generalize (shareRow E xs)[k]'hks = s at hc2 hq hvs
              obtain ⟨P, hP⟩ : ∃ P, y * xs.sum = P := ⟨_, rfl⟩
              rw [hP] at hq
              have hwP : IntKind.i64.wrap P = P := IntWalk.i64_in _ (by omega)
              have hws : IntKind.i64.wrap (48 * s) = 48 * s := IntWalk.i64_in _ (by omega)
              have hd1 : (P != 48 * s) = false := by rw [hq]; simp
              have hb1 : (((shareRow E xs).length : Int) != (ys.length : Int)) = false := by rw [HSL.out, HYN.out]; simp
              clear hq
              have H := Lib.hid hx1
              go_wp2
              go_quiet (fail)
              go_wp2
              go_roundw
              case rel => exact ⟨k + 1, by omega, by go_num, below_drewN H.out _⟩
              case measure => simp [intOf]; omega
            · have hkN : k = ys.length := by omega
              subst hkN
              clear hbl0
              go_wp2_with fail
              have hWW : w.heap.size ≤ w7.heap.size := by first | omega | (simp; omega) | simp
              have g_c : w1.heap.size < w7.heap.size := by first | omega | (simp; omega) | simp
              have g_kc : w1.heap.size ≤ w7.heap.size := by first | omega | (simp; omega) | simp
              refine wp_region_held_drew (S := (fun w' : World => w'.cell? ⟨w1.heap.size, 0, none⟩ = some (.int .i64 E) ∧ w'.cell? ⟨w1.heap.size, 1, none⟩ = some (.slice A1 xs.length c1) ∧ Ints w' (w.heap.size) (w1.heap.size) (A1) (xs) ∧ w7.heap.size ≤ w'.heap.size ∧ Below w.heap.size w w')) (by kernel_rfl) ⟨a39, a39', o40.ints, Nat.le_refl _, B44.drew⟩ (fun hHeld => ?_)
              refine wpAnyH_take (i := 0) (oi := ?oi39) (v := ?vv39) ?hi39 ?hs39 ?hf39 ?ha39 ?hq39 ?hy39 hHeld ?hr39
              case hi39 => (simp only [List.getElem?_toArray, List.getElem?_cons_zero]; exact rfl)
              case hs39 => kernel_rfl
              case hf39 => kernel_rfl
              case ha39 => kernel_rfl
              case hq39 => exact fun _ _ _ h => h
              case hy39 =>
                refine Or.inl ⟨by rfl, ?_⟩
                intro w' hSw
                try dsimp only at hSw
                go_simp
                first | done | with_reducible rfl
              simp only [Act.put, List.setIfInBounds_toArray, List.set_cons_succ, List.set_cons_zero]
              refine wpAnyH_take (i := 1) (oi := ?oi40) (v := ?vv40) ?hi40 ?hs40 ?hf40 ?ha40 ?hq40 ?hy40 hHeld ?hr40
              case hi40 => (simp only [List.getElem?_toArray, List.getElem?_cons_succ, List.getElem?_cons_zero]; exact rfl)
              case hs40 => kernel_rfl
              case hf40 => kernel_rfl
              case ha40 => kernel_rfl
              case hq40 => exact fun _ _ _ h => h
              case hy40 =>
                refine Or.inl ⟨by rfl, ?_⟩
                intro w' hSw
                try dsimp only at hSw
                go_simp
                first | done | with_reducible rfl
              simp only [Act.put, List.setIfInBounds_toArray, List.set_cons_succ, List.set_cons_zero]
              refine wpAnyH_ready (rs := [2]) (by kernel_rfl) (by simp) ?_
              refine AllReadyH.cons rfl (fun K hK => ?_) AllReadyH.nil
              go_simp
              go_at_call 22
              obtain ⟨y0, y1, kc, zz, BB⟩ := hHeld
              (with_reducible refine (implEvenAwards_yes E A1 c1 xs _ _ _ kc (by omega) HC.out).mono ?_)
              rintro e w8_ ⟨Ax, cx, rfl, hox, hb9⟩
              refine hK.out _ _ ⟨(keep2 hb9 ⟨y0, y1⟩ (by omega)).1, (keep2 hb9 ⟨y0, y1⟩ (by omega)).2, kc.below hb9 (by omega), Nat.le_trans zz hb9.size, BB.trans (hb9.mono (by omega))⟩ (fun hHeld => ?_)
              clear hb9 BB zz kc y1 y0
              clear hK K
              try simp only [Act.put, List.setIfInBounds_toArray, List.set_cons_zero, List.set_cons_succ]
              refine wpAnyH_ready (rs := [3]) (by kernel_rfl) (by simp) ?_
              refine AllReadyH.cons rfl (fun K hK => ?_) AllReadyH.nil
              go_simp
              go_at_call 14
              obtain ⟨y0, y1, kc, zz, BB⟩ := hHeld
              (with_reducible refine (implFall_is E A1 c1 xs Ax cx (evenAw E xs) true _ _ _ kc (by omega) hl5 _ _ hox.ints (by omega) hLa HKA.out).mono ?_)
              rintro e w9_ ⟨rfl, hb9⟩
              have hox := hox.below hb9 (Nat.le_refl _)
              have hox := hox.more (Nat.le_refl _) hb9.size
              refine hK.out _ _ ⟨(keep2 hb9 ⟨y0, y1⟩ (by omega)).1, (keep2 hb9 ⟨y0, y1⟩ (by omega)).2, kc.below hb9 (by omega), Nat.le_trans zz hb9.size, BB.trans (hb9.mono (by omega))⟩ (fun hHeld => ?_)
              clear hb9 BB zz kc y1 y0
              clear hK K
              try simp only [Act.put, List.setIfInBounds_toArray, List.set_cons_zero, List.set_cons_succ]
              refine wpAnyH_take (i := 4) (oi := ?oi41) (v := ?vv41) ?hi41 ?hs41 ?hf41 ?ha41 ?hq41 ?hy41 hHeld ?hr41
              case hi41 => (simp only [List.getElem?_toArray, List.getElem?_cons_succ, List.getElem?_cons_zero]; exact rfl)
              case hs41 => kernel_rfl
              case hf41 => kernel_rfl
              case ha41 => kernel_rfl
              case hq41 => exact fun _ _ _ h => h
              case hy41 =>
                refine Or.inl ⟨by rfl, ?_⟩
                intro w' hSw
                try dsimp only at hSw
                go_simp
                first | done | with_reducible rfl
              simp only [Act.put, List.setIfInBounds_toArray, List.set_cons_succ, List.set_cons_zero]
              refine wpAnyH_ready (rs := [5]) (by kernel_rfl) (by simp) ?_
              refine AllReadyH.cons rfl (fun K hK => ?_) AllReadyH.nil
              go_simp
              go_at_call 11
              obtain ⟨y0, y1, kc, zz, BB⟩ := hHeld
              (with_reducible refine (alive_any _).mono ?_)
              rintro e w10_ ⟨rfl, hb9⟩
              have hox := hox.below hb9 (Nat.le_refl _)
              have hox := hox.more (Nat.le_refl _) hb9.size
              refine hK.out _ _ ⟨(keep2 hb9 ⟨y0, y1⟩ (by omega)).1, (keep2 hb9 ⟨y0, y1⟩ (by omega)).2, kc.below hb9 (by omega), Nat.le_trans zz hb9.size, BB.trans (hb9.mono (by omega))⟩ (fun hHeld => ?_)
              clear hb9 BB zz kc y1 y0
              clear hK K
              try simp only [Act.put, List.setIfInBounds_toArray, List.set_cons_zero, List.set_cons_succ]
              refine wpAnyH_take (i := 6) (oi := ?oi42) (v := ?vv42) ?hi42 ?hs42 ?hf42 ?ha42 ?hq42 ?hy42 hHeld ?hr42
              case hi42 => (simp only [List.getElem?_toArray, List.getElem?_cons_succ, List.getElem?_cons_zero]; exact rfl)
              case hs42 => kernel_rfl
              case hf42 => kernel_rfl
              case ha42 => kernel_rfl
              case hq42 => exact fun _ _ _ h => h
              case hy42 =>
                refine Or.inl ⟨by rfl, ?_⟩
                intro w' hSw
                try dsimp only at hSw
                go_simp
                first | done | with_reducible rfl
              simp only [Act.put, List.setIfInBounds_toArray, List.set_cons_succ, List.set_cons_zero]
              refine wpAnyH_take (i := 7) (oi := ?oi43) (v := ?vv43) ?hi43 ?hs43 ?hf43 ?ha43 ?hq43 ?hy43 hHeld ?hr43
              case hi43 => (simp only [List.getElem?_toArray, List.getElem?_cons_succ, List.getElem?_cons_zero]; exact rfl)
              case hs43 => kernel_rfl
              case hf43 => kernel_rfl
              case ha43 => kernel_rfl
              case hq43 => exact fun _ _ _ h => h
              case hy43 =>
                refine Or.inl ⟨by rfl, ?_⟩
                intro w' hSw
                try dsimp only at hSw
                go_simp
                first | done | with_reducible rfl
              simp only [Act.put, List.setIfInBounds_toArray, List.set_cons_succ, List.set_cons_zero]
              refine wpAnyH_done (by kernel_rfl) ?_ _
              obtain ⟨y0, y1, kc, zz, BB⟩ := hHeld
              go_wp2
              go_ret
              exact ⟨rfl, BB⟩
        · have HC := Lib.hid hok
          have hbd := caseOk_bd hok
          have HKA : Hid (rateB false E xs (evenAw E xs) = true) := fall_aw hok
          have hLa : (evenAw E xs).length ≤ 1152921504606846976 := by rw [evenAw_length]; exact hl5
          have hv : owedOf E xs = xs.sum := by simp [owedOf, hok]
          have HV := Lib.hid hv
          have HSL := Lib.hid (shareRow_length E xs)
          have HSB := Lib.hid (fun k hk => share_bd hok k hk)
          clear hv
          have HF : Hid (rateB false E xs ys = true) := by show _ = _; exact hf
          have HR : Hid (rateB true E xs ys = true) := by show _ = _; exact hr
          have hyn : ys.length = xs.length := ((awardsB_iff _ _ _).1 ((rateB_iff _ _ _ _).1 hf).1).2.1
          have HYN := Lib.hid hyn
          have hy1 : 1 ≤ ys.length := by omega
          clear hyn
          have HK : Hid (keepsB E xs ys = false) := by show _ = _; simpa using hq
          clear hf hr hq
          clear hok
          go_wp2_with fail
          refine (implFall_is E A1 c1 xs D1 d1 ys true _ _ _ o4.ints (by first | omega | (simp; omega) | simp) hl5 _ _ o5.ints (by first | omega | (simp; omega) | simp) hl6 HF.out).mono ?_
          rintro e w2 ⟨rfl, hb2⟩
          obtain ⟨a8, a8'⟩ := keep2 hb2 ⟨a7, a7'⟩ (by first | omega | (simp; omega) | simp)
          have o9 := o4.below hb2 (by first | omega | (simp; omega) | simp)
          have o10 := o5.below hb2 (by first | omega | (simp; omega) | simp)
          have hz11 := hb2.size
          simp at hz11
          have B12 := B6.trans (hb2.mono (by first | omega | (simp; omega) | simp))
          clear hb2
          have z13 : w1.heap.size < w2.heap.size := by omega
          go_wp2_with fail
          refine (specFall_is E A1 c1 xs D1 d1 ys true _ _ _ o9.ints (by first | omega | (simp; omega) | simp) hl5 _ _ o10.ints (by first | omega | (simp; omega) | simp) hl6 HF.out).mono ?_
          rintro e w3 ⟨rfl, hb3⟩
          obtain ⟨a14, a14'⟩ := keep2 hb3 ⟨a8, a8'⟩ (by first | omega | (simp; omega) | simp)
          have o15 := o9.below hb3 (by first | omega | (simp; omega) | simp)
          have o16 := o10.below hb3 (by first | omega | (simp; omega) | simp)
          have hz17 := hb3.size
          have B18 := B12.trans (hb3.mono (by first | omega | (simp; omega) | simp))
          clear hb3
          have z19 : w1.heap.size < w3.heap.size := by omega
          go_wp2_with fail
          refine (specCaseOk_yes (E) (A1) c1 xs _ _ _ o15.ints (by first | omega | (simp; omega) | simp) (by first | omega | simp) HC.out).mono ?_
          rintro e w4 ⟨rfl, hb4⟩
          obtain ⟨a20, a20'⟩ := keep2 hb4 ⟨a14, a14'⟩ (by first | omega | (simp; omega) | simp)
          have o21 := o15.below hb4 (by first | omega | (simp; omega) | simp)
          have o22 := o16.below hb4 (by first | omega | (simp; omega) | simp)
          have hz23 := hb4.size
          have B24 := B18.trans (hb4.mono (by first | omega | (simp; omega) | simp))
          clear hb4
          have z25 : w1.heap.size < w4.heap.size := by omega
          go_wp2_with fail
          refine (implShareRow_yes E A1 c1 xs _ _ _ o21.ints (by first | omega | (simp; omega) | simp) HC.out).mono ?_
          rintro e w5 ⟨A5, c5, rfl, ho5, hb5⟩
          obtain ⟨a26, a26'⟩ := keep2 hb5 ⟨a20, a20'⟩ (by first | omega | (simp; omega) | simp)
          have o27 := o21.below hb5 (by first | omega | (simp; omega) | simp)
          have o28 := o22.below hb5 (by first | omega | (simp; omega) | simp)
          have hz29 := hb5.size
          have B30 := B24.trans (hb5.mono (by first | omega | (simp; omega) | simp))
          clear hb5
          have z31 : w1.heap.size < w5.heap.size := by omega
          go_wp2_with fail
          refine (implOwedOf_any E A1 c1 xs _ _ _ o27.ints (by first | omega | (simp; omega) | simp) hl5).mono ?_
          rintro e w6 ⟨he6, hb6⟩
          rw [HV.out] at he6
          subst he6
          obtain ⟨a32, a32'⟩ := keep2 hb6 ⟨a26, a26'⟩ (by first | omega | (simp; omega) | simp)
          have o33 := o27.below hb6 (by first | omega | (simp; omega) | simp)
          have o34 := o28.below hb6 (by first | omega | (simp; omega) | simp)
          have o35 := ho5.below hb6 (by first | omega | (simp; omega) | simp)
          have hz36 := hb6.size
          have B37 := B30.trans (hb6.mono (by first | omega | (simp; omega) | simp))
          clear hb6
          have z38 : w1.heap.size < w6.heap.size := by omega
          go_wp2
          refine wp_loop_rounds 1 ?_
          rw [rounds_succ]
          have hy2 : (0 : Int) < (ys.length : Int) := by omega
          go_wp2_with fail
          refine (implRise_is E A1 c1 xs D1 d1 ys true _ _ _ o33.ints (by first | omega | (simp; omega) | simp) hl5 _ _ o34.ints (by first | omega | (simp; omega) | simp) hl6 HR.out).mono ?_
          rintro e w7 ⟨rfl, hb7⟩
          obtain ⟨a39, a39'⟩ := keep2 hb7 ⟨a32, a32'⟩ (by first | omega | (simp; omega) | simp)
          have o40 := o33.below hb7 (by first | omega | (simp; omega) | simp)
          have o41 := o34.below hb7 (by first | omega | (simp; omega) | simp)
          have o42 := o35.below hb7 (by first | omega | (simp; omega) | simp)
          have hz43 := hb7.size
          have B44 := B37.trans (hb7.mono (by first | omega | (simp; omega) | simp))
          clear hb7
          have z45 : w1.heap.size < w7.heap.size := by omega
          go_wp2_with fail
          refine (implKeeps_is E A1 c1 xs D1 d1 ys false _ _ _ o40.ints (by first | omega | (simp; omega) | simp) hl5 _ _ o41.ints (by first | omega | (simp; omega) | simp) hl6 HK.out).mono ?_
          rintro e w8 ⟨rfl, hb8⟩
          obtain ⟨a46, a46'⟩ := keep2 hb8 ⟨a39, a39'⟩ (by first | omega | (simp; omega) | simp)
          have o47 := o40.below hb8 (by first | omega | (simp; omega) | simp)
          have o48 := o41.below hb8 (by first | omega | (simp; omega) | simp)
          have o49 := o42.below hb8 (by first | omega | (simp; omega) | simp)
          have hz50 := hb8.size
          have B51 := B44.trans (hb8.mono (by first | omega | (simp; omega) | simp))
          clear hb8
          have z52 : w1.heap.size < w8.heap.size := by omega
          go_wp2_with fail
          have hWW : w.heap.size ≤ w8.heap.size := by first | omega | (simp; omega) | simp
          have g_c : w1.heap.size < w8.heap.size := by first | omega | (simp; omega) | simp
          have g_kc : w1.heap.size ≤ w8.heap.size := by first | omega | (simp; omega) | simp
          refine wp_region_held_drew (S := (fun w' : World => w'.cell? ⟨w1.heap.size, 0, none⟩ = some (.int .i64 E) ∧ w'.cell? ⟨w1.heap.size, 1, none⟩ = some (.slice A1 xs.length c1) ∧ Ints w' (w.heap.size) (w1.heap.size) (A1) (xs) ∧ w8.heap.size ≤ w'.heap.size ∧ Below w.heap.size w w')) (by kernel_rfl) ⟨a46, a46', o47.ints, Nat.le_refl _, B51.drew⟩ (fun hHeld => ?_)
          refine wpAnyH_take (i := 0) (oi := ?oi44) (v := ?vv44) ?hi44 ?hs44 ?hf44 ?ha44 ?hq44 ?hy44 hHeld ?hr44
          case hi44 => (simp only [List.getElem?_toArray, List.getElem?_cons_zero]; exact rfl)
          case hs44 => kernel_rfl
          case hf44 => kernel_rfl
          case ha44 => kernel_rfl
          case hq44 => exact fun _ _ _ h => h
          case hy44 =>
            refine Or.inl ⟨by rfl, ?_⟩
            intro w' hSw
            try dsimp only at hSw
            go_simp
            first | done | with_reducible rfl
          simp only [Act.put, List.setIfInBounds_toArray, List.set_cons_succ, List.set_cons_zero]
          refine wpAnyH_take (i := 1) (oi := ?oi45) (v := ?vv45) ?hi45 ?hs45 ?hf45 ?ha45 ?hq45 ?hy45 hHeld ?hr45
          case hi45 => (simp only [List.getElem?_toArray, List.getElem?_cons_succ, List.getElem?_cons_zero]; exact rfl)
          case hs45 => kernel_rfl
          case hf45 => kernel_rfl
          case ha45 => kernel_rfl
          case hq45 => exact fun _ _ _ h => h
          case hy45 =>
            refine Or.inl ⟨by rfl, ?_⟩
            intro w' hSw
            try dsimp only at hSw
            go_simp
            first | done | with_reducible rfl
          simp only [Act.put, List.setIfInBounds_toArray, List.set_cons_succ, List.set_cons_zero]
          refine wpAnyH_ready (rs := [2]) (by kernel_rfl) (by simp) ?_
          refine AllReadyH.cons rfl (fun K hK => ?_) AllReadyH.nil
          go_simp
          go_at_call 22
          obtain ⟨y0, y1, kc, zz, BB⟩ := hHeld
          (with_reducible refine (implEvenAwards_yes E A1 c1 xs _ _ _ kc (by omega) HC.out).mono ?_)
          rintro e w9_ ⟨Ax, cx, rfl, hox, hb9⟩
          refine hK.out _ _ ⟨(keep2 hb9 ⟨y0, y1⟩ (by omega)).1, (keep2 hb9 ⟨y0, y1⟩ (by omega)).2, kc.below hb9 (by omega), Nat.le_trans zz hb9.size, BB.trans (hb9.mono (by omega))⟩ (fun hHeld => ?_)
          clear hb9 BB zz kc y1 y0
          clear hK K
          try simp only [Act.put, List.setIfInBounds_toArray, List.set_cons_zero, List.set_cons_succ]
          refine wpAnyH_ready (rs := [3]) (by kernel_rfl) (by simp) ?_
          refine AllReadyH.cons rfl (fun K hK => ?_) AllReadyH.nil
          go_simp
          go_at_call 14
          obtain ⟨y0, y1, kc, zz, BB⟩ := hHeld
          (with_reducible refine (implFall_is E A1 c1 xs Ax cx (evenAw E xs) true _ _ _ kc (by omega) hl5 _ _ hox.ints (by omega) hLa HKA.out).mono ?_)
          rintro e w10_ ⟨rfl, hb9⟩
          have hox := hox.below hb9 (Nat.le_refl _)
          have hox := hox.more (Nat.le_refl _) hb9.size
          refine hK.out _ _ ⟨(keep2 hb9 ⟨y0, y1⟩ (by omega)).1, (keep2 hb9 ⟨y0, y1⟩ (by omega)).2, kc.below hb9 (by omega), Nat.le_trans zz hb9.size, BB.trans (hb9.mono (by omega))⟩ (fun hHeld => ?_)
          clear hb9 BB zz kc y1 y0
          clear hK K
          try simp only [Act.put, List.setIfInBounds_toArray, List.set_cons_zero, List.set_cons_succ]
          refine wpAnyH_take (i := 4) (oi := ?oi46) (v := ?vv46) ?hi46 ?hs46 ?hf46 ?ha46 ?hq46 ?hy46 hHeld ?hr46
          case hi46 => (simp only [List.getElem?_toArray, List.getElem?_cons_succ, List.getElem?_cons_zero]; exact rfl)
          case hs46 => kernel_rfl
          case hf46 => kernel_rfl
          case ha46 => kernel_rfl
          case hq46 => exact fun _ _ _ h => h
          case hy46 =>
            refine Or.inl ⟨by rfl, ?_⟩
            intro w' hSw
            try dsimp only at hSw
            go_simp
            first | done | with_reducible rfl
          simp only [Act.put, List.setIfInBounds_toArray, List.set_cons_succ, List.set_cons_zero]
          refine wpAnyH_ready (rs := [5]) (by kernel_rfl) (by simp) ?_
          refine AllReadyH.cons rfl (fun K hK => ?_) AllReadyH.nil
          go_simp
          go_at_call 11
          obtain ⟨y0, y1, kc, zz, BB⟩ := hHeld
          (with_reducible refine (alive_any _).mono ?_)
          rintro e w11_ ⟨rfl, hb9⟩
          have hox := hox.below hb9 (Nat.le_refl _)
          have hox := hox.more (Nat.le_refl _) hb9.size
          refine hK.out _ _ ⟨(keep2 hb9 ⟨y0, y1⟩ (by omega)).1, (keep2 hb9 ⟨y0, y1⟩ (by omega)).2, kc.below hb9 (by omega), Nat.le_trans zz hb9.size, BB.trans (hb9.mono (by omega))⟩ (fun hHeld => ?_)
          clear hb9 BB zz kc y1 y0
          clear hK K
          try simp only [Act.put, List.setIfInBounds_toArray, List.set_cons_zero, List.set_cons_succ]
          refine wpAnyH_take (i := 6) (oi := ?oi47) (v := ?vv47) ?hi47 ?hs47 ?hf47 ?ha47 ?hq47 ?hy47 hHeld ?hr47
          case hi47 => (simp only [List.getElem?_toArray, List.getElem?_cons_succ, List.getElem?_cons_zero]; exact rfl)
          case hs47 => kernel_rfl
          case hf47 => kernel_rfl
          case ha47 => kernel_rfl
          case hq47 => exact fun _ _ _ h => h
          case hy47 =>
            refine Or.inl ⟨by rfl, ?_⟩
            intro w' hSw
            try dsimp only at hSw
            go_simp
            first | done | with_reducible rfl
          simp only [Act.put, List.setIfInBounds_toArray, List.set_cons_succ, List.set_cons_zero]
          refine wpAnyH_take (i := 7) (oi := ?oi48) (v := ?vv48) ?hi48 ?hs48 ?hf48 ?ha48 ?hq48 ?hy48 hHeld ?hr48
          case hi48 => (simp only [List.getElem?_toArray, List.getElem?_cons_succ, List.getElem?_cons_zero]; exact rfl)
          case hs48 => kernel_rfl
          case hf48 => kernel_rfl
          case ha48 => kernel_rfl
          case hq48 => exact fun _ _ _ h => h
          case hy48 =>
            refine Or.inl ⟨by rfl, ?_⟩
            intro w' hSw
            try dsimp only at hSw
            go_simp
            first | done | with_reducible rfl
          simp only [Act.put, List.setIfInBounds_toArray, List.set_cons_succ, List.set_cons_zero]
          refine wpAnyH_done (by kernel_rfl) ?_ _
          obtain ⟨y0, y1, kc, zz, BB⟩ := hHeld
          go_wp2
          go_ret
          exact ⟨rfl, BB⟩
      · have HC := Lib.hid hok
        have hbd := caseOk_bd hok
        have HKA : Hid (rateB false E xs (evenAw E xs) = true) := fall_aw hok
        have hLa : (evenAw E xs).length ≤ 1152921504606846976 := by rw [evenAw_length]; exact hl5
        have hv : owedOf E xs = xs.sum := by simp [owedOf, hok]
        have HV := Lib.hid hv
        have HSL := Lib.hid (shareRow_length E xs)
        have HSB := Lib.hid (fun k hk => share_bd hok k hk)
        clear hv
        have HF : Hid (rateB false E xs ys = true) := by show _ = _; exact hf
        have HR : Hid (rateB true E xs ys = false) := by show _ = _; simpa using hr
        have hyn : ys.length = xs.length := ((awardsB_iff _ _ _).1 ((rateB_iff _ _ _ _).1 hf).1).2.1
        have HYN := Lib.hid hyn
        have hy1 : 1 ≤ ys.length := by omega
        clear hyn
        clear hf hr
        clear hok
        go_wp2_with fail
        refine (implFall_is E A1 c1 xs D1 d1 ys true _ _ _ o4.ints (by first | omega | (simp; omega) | simp) hl5 _ _ o5.ints (by first | omega | (simp; omega) | simp) hl6 HF.out).mono ?_
        rintro e w2 ⟨rfl, hb2⟩
        obtain ⟨a8, a8'⟩ := keep2 hb2 ⟨a7, a7'⟩ (by first | omega | (simp; omega) | simp)
        have o9 := o4.below hb2 (by first | omega | (simp; omega) | simp)
        have o10 := o5.below hb2 (by first | omega | (simp; omega) | simp)
        have hz11 := hb2.size
        simp at hz11
        have B12 := B6.trans (hb2.mono (by first | omega | (simp; omega) | simp))
        clear hb2
        have z13 : w1.heap.size < w2.heap.size := by omega
        go_wp2_with fail
        refine (specFall_is E A1 c1 xs D1 d1 ys true _ _ _ o9.ints (by first | omega | (simp; omega) | simp) hl5 _ _ o10.ints (by first | omega | (simp; omega) | simp) hl6 HF.out).mono ?_
        rintro e w3 ⟨rfl, hb3⟩
        obtain ⟨a14, a14'⟩ := keep2 hb3 ⟨a8, a8'⟩ (by first | omega | (simp; omega) | simp)
        have o15 := o9.below hb3 (by first | omega | (simp; omega) | simp)
        have o16 := o10.below hb3 (by first | omega | (simp; omega) | simp)
        have hz17 := hb3.size
        have B18 := B12.trans (hb3.mono (by first | omega | (simp; omega) | simp))
        clear hb3
        have z19 : w1.heap.size < w3.heap.size := by omega
        go_wp2_with fail
        refine (specCaseOk_yes (E) (A1) c1 xs _ _ _ o15.ints (by first | omega | (simp; omega) | simp) (by first | omega | simp) HC.out).mono ?_
        rintro e w4 ⟨rfl, hb4⟩
        obtain ⟨a20, a20'⟩ := keep2 hb4 ⟨a14, a14'⟩ (by first | omega | (simp; omega) | simp)
        have o21 := o15.below hb4 (by first | omega | (simp; omega) | simp)
        have o22 := o16.below hb4 (by first | omega | (simp; omega) | simp)
        have hz23 := hb4.size
        have B24 := B18.trans (hb4.mono (by first | omega | (simp; omega) | simp))
        clear hb4
        have z25 : w1.heap.size < w4.heap.size := by omega
        go_wp2_with fail
        refine (implShareRow_yes E A1 c1 xs _ _ _ o21.ints (by first | omega | (simp; omega) | simp) HC.out).mono ?_
        rintro e w5 ⟨A5, c5, rfl, ho5, hb5⟩
        obtain ⟨a26, a26'⟩ := keep2 hb5 ⟨a20, a20'⟩ (by first | omega | (simp; omega) | simp)
        have o27 := o21.below hb5 (by first | omega | (simp; omega) | simp)
        have o28 := o22.below hb5 (by first | omega | (simp; omega) | simp)
        have hz29 := hb5.size
        have B30 := B24.trans (hb5.mono (by first | omega | (simp; omega) | simp))
        clear hb5
        have z31 : w1.heap.size < w5.heap.size := by omega
        go_wp2_with fail
        refine (implOwedOf_any E A1 c1 xs _ _ _ o27.ints (by first | omega | (simp; omega) | simp) hl5).mono ?_
        rintro e w6 ⟨he6, hb6⟩
        rw [HV.out] at he6
        subst he6
        obtain ⟨a32, a32'⟩ := keep2 hb6 ⟨a26, a26'⟩ (by first | omega | (simp; omega) | simp)
        have o33 := o27.below hb6 (by first | omega | (simp; omega) | simp)
        have o34 := o28.below hb6 (by first | omega | (simp; omega) | simp)
        have o35 := ho5.below hb6 (by first | omega | (simp; omega) | simp)
        have hz36 := hb6.size
        have B37 := B30.trans (hb6.mono (by first | omega | (simp; omega) | simp))
        clear hb6
        have z38 : w1.heap.size < w6.heap.size := by omega
        go_wp2
        refine wp_loop_rounds 1 ?_
        rw [rounds_succ]
        have hy2 : (0 : Int) < (ys.length : Int) := by omega
        go_wp2_with fail
        refine (implRise_is E A1 c1 xs D1 d1 ys false _ _ _ o33.ints (by first | omega | (simp; omega) | simp) hl5 _ _ o34.ints (by first | omega | (simp; omega) | simp) hl6 HR.out).mono ?_
        rintro e w7 ⟨rfl, hb7⟩
        obtain ⟨a39, a39'⟩ := keep2 hb7 ⟨a32, a32'⟩ (by first | omega | (simp; omega) | simp)
        have o40 := o33.below hb7 (by first | omega | (simp; omega) | simp)
        have o41 := o34.below hb7 (by first | omega | (simp; omega) | simp)
        have o42 := o35.below hb7 (by first | omega | (simp; omega) | simp)
        have hz43 := hb7.size
        have B44 := B37.trans (hb7.mono (by first | omega | (simp; omega) | simp))
        clear hb7
        have z45 : w1.heap.size < w7.heap.size := by omega
        go_wp2_with fail
        have hWW : w.heap.size ≤ w7.heap.size := by first | omega | (simp; omega) | simp
        have g_c : w1.heap.size < w7.heap.size := by first | omega | (simp; omega) | simp
        have g_kc : w1.heap.size ≤ w7.heap.size := by first | omega | (simp; omega) | simp
        refine wp_region_held_drew (S := (fun w' : World => w'.cell? ⟨w1.heap.size, 0, none⟩ = some (.int .i64 E) ∧ w'.cell? ⟨w1.heap.size, 1, none⟩ = some (.slice A1 xs.length c1) ∧ Ints w' (w.heap.size) (w1.heap.size) (A1) (xs) ∧ w7.heap.size ≤ w'.heap.size ∧ Below w.heap.size w w')) (by kernel_rfl) ⟨a39, a39', o40.ints, Nat.le_refl _, B44.drew⟩ (fun hHeld => ?_)
        refine wpAnyH_take (i := 0) (oi := ?oi49) (v := ?vv49) ?hi49 ?hs49 ?hf49 ?ha49 ?hq49 ?hy49 hHeld ?hr49
        case hi49 => (simp only [List.getElem?_toArray, List.getElem?_cons_zero]; exact rfl)
        case hs49 => kernel_rfl
        case hf49 => kernel_rfl
        case ha49 => kernel_rfl
        case hq49 => exact fun _ _ _ h => h
        case hy49 =>
          refine Or.inl ⟨by rfl, ?_⟩
          intro w' hSw
          try dsimp only at hSw
          go_simp
          first | done | with_reducible rfl
        simp only [Act.put, List.setIfInBounds_toArray, List.set_cons_succ, List.set_cons_zero]
        refine wpAnyH_take (i := 1) (oi := ?oi50) (v := ?vv50) ?hi50 ?hs50 ?hf50 ?ha50 ?hq50 ?hy50 hHeld ?hr50
        case hi50 => (simp only [List.getElem?_toArray, List.getElem?_cons_succ, List.getElem?_cons_zero]; exact rfl)
        case hs50 => kernel_rfl
        case hf50 => kernel_rfl
        case ha50 => kernel_rfl
        case hq50 => exact fun _ _ _ h => h
        case hy50 =>
          refine Or.inl ⟨by rfl, ?_⟩
          intro w' hSw
          try dsimp only at hSw
          go_simp
          first | done | with_reducible rfl
        simp only [Act.put, List.setIfInBounds_toArray, List.set_cons_succ, List.set_cons_zero]
        refine wpAnyH_ready (rs := [2]) (by kernel_rfl) (by simp) ?_
        refine AllReadyH.cons rfl (fun K hK => ?_) AllReadyH.nil
        go_simp
        go_at_call 22
        obtain ⟨y0, y1, kc, zz, BB⟩ := hHeld
        (with_reducible refine (implEvenAwards_yes E A1 c1 xs _ _ _ kc (by omega) HC.out).mono ?_)
        rintro e w8_ ⟨Ax, cx, rfl, hox, hb9⟩
        refine hK.out _ _ ⟨(keep2 hb9 ⟨y0, y1⟩ (by omega)).1, (keep2 hb9 ⟨y0, y1⟩ (by omega)).2, kc.below hb9 (by omega), Nat.le_trans zz hb9.size, BB.trans (hb9.mono (by omega))⟩ (fun hHeld => ?_)
        clear hb9 BB zz kc y1 y0
        clear hK K
        try simp only [Act.put, List.setIfInBounds_toArray, List.set_cons_zero, List.set_cons_succ]
        refine wpAnyH_ready (rs := [3]) (by kernel_rfl) (by simp) ?_
        refine AllReadyH.cons rfl (fun K hK => ?_) AllReadyH.nil
        go_simp
        go_at_call 14
        obtain ⟨y0, y1, kc, zz, BB⟩ := hHeld
        (with_reducible refine (implFall_is E A1 c1 xs Ax cx (evenAw E xs) true _ _ _ kc (by omega) hl5 _ _ hox.ints (by omega) hLa HKA.out).mono ?_)
        rintro e w9_ ⟨rfl, hb9⟩
        have hox := hox.below hb9 (Nat.le_refl _)
        have hox := hox.more (Nat.le_refl _) hb9.size
        refine hK.out _ _ ⟨(keep2 hb9 ⟨y0, y1⟩ (by omega)).1, (keep2 hb9 ⟨y0, y1⟩ (by omega)).2, kc.below hb9 (by omega), Nat.le_trans zz hb9.size, BB.trans (hb9.mono (by omega))⟩ (fun hHeld => ?_)
        clear hb9 BB zz kc y1 y0
        clear hK K
        try simp only [Act.put, List.setIfInBounds_toArray, List.set_cons_zero, List.set_cons_succ]
        refine wpAnyH_take (i := 4) (oi := ?oi51) (v := ?vv51) ?hi51 ?hs51 ?hf51 ?ha51 ?hq51 ?hy51 hHeld ?hr51
        case hi51 => (simp only [List.getElem?_toArray, List.getElem?_cons_succ, List.getElem?_cons_zero]; exact rfl)
        case hs51 => kernel_rfl
        case hf51 => kernel_rfl
        case ha51 => kernel_rfl
        case hq51 => exact fun _ _ _ h => h
        case hy51 =>
          refine Or.inl ⟨by rfl, ?_⟩
          intro w' hSw
          try dsimp only at hSw
          go_simp
          first | done | with_reducible rfl
        simp only [Act.put, List.setIfInBounds_toArray, List.set_cons_succ, List.set_cons_zero]
        refine wpAnyH_ready (rs := [5]) (by kernel_rfl) (by simp) ?_
        refine AllReadyH.cons rfl (fun K hK => ?_) AllReadyH.nil
        go_simp
        go_at_call 11
        obtain ⟨y0, y1, kc, zz, BB⟩ := hHeld
        (with_reducible refine (alive_any _).mono ?_)
        rintro e w10_ ⟨rfl, hb9⟩
        have hox := hox.below hb9 (Nat.le_refl _)
        have hox := hox.more (Nat.le_refl _) hb9.size
        refine hK.out _ _ ⟨(keep2 hb9 ⟨y0, y1⟩ (by omega)).1, (keep2 hb9 ⟨y0, y1⟩ (by omega)).2, kc.below hb9 (by omega), Nat.le_trans zz hb9.size, BB.trans (hb9.mono (by omega))⟩ (fun hHeld => ?_)
        clear hb9 BB zz kc y1 y0
        clear hK K
        try simp only [Act.put, List.setIfInBounds_toArray, List.set_cons_zero, List.set_cons_succ]
        refine wpAnyH_take (i := 6) (oi := ?oi52) (v := ?vv52) ?hi52 ?hs52 ?hf52 ?ha52 ?hq52 ?hy52 hHeld ?hr52
        case hi52 => (simp only [List.getElem?_toArray, List.getElem?_cons_succ, List.getElem?_cons_zero]; exact rfl)
        case hs52 => kernel_rfl
        case hf52 => kernel_rfl
        case ha52 => kernel_rfl
        case hq52 => exact fun _ _ _ h => h
        case hy52 =>
          refine Or.inl ⟨by rfl, ?_⟩
          intro w' hSw
          try dsimp only at hSw
          go_simp
          first | done | with_reducible rfl
        simp only [Act.put, List.setIfInBounds_toArray, List.set_cons_succ, List.set_cons_zero]
        refine wpAnyH_take (i := 7) (oi := ?oi53) (v := ?vv53) ?hi53 ?hs53 ?hf53 ?ha53 ?hq53 ?hy53 hHeld ?hr53
        case hi53 => (simp only [List.getElem?_toArray, List.getElem?_cons_succ, List.getElem?_cons_zero]; exact rfl)
        case hs53 => kernel_rfl
        case hf53 => kernel_rfl
        case ha53 => kernel_rfl
        case hq53 => exact fun _ _ _ h => h
        case hy53 =>
          refine Or.inl ⟨by rfl, ?_⟩
          intro w' hSw
          try dsimp only at hSw
          go_simp
          first | done | with_reducible rfl
        simp only [Act.put, List.setIfInBounds_toArray, List.set_cons_succ, List.set_cons_zero]
        refine wpAnyH_done (by kernel_rfl) ?_ _
        obtain ⟨y0, y1, kc, zz, BB⟩ := hHeld
        go_wp2
        go_ret
        exact ⟨rfl, BB⟩
    · have HC := Lib.hid hok
      have hbd := caseOk_bd hok
      have HKA : Hid (rateB false E xs (evenAw E xs) = true) := fall_aw hok
      have hLa : (evenAw E xs).length ≤ 1152921504606846976 := by rw [evenAw_length]; exact hl5
      have hv : owedOf E xs = xs.sum := by simp [owedOf, hok]
      have HV := Lib.hid hv
      have HSL := Lib.hid (shareRow_length E xs)
      have HSB := Lib.hid (fun k hk => share_bd hok k hk)
      clear hv
      have HF : Hid (rateB false E xs ys = false) := by show _ = _; simpa using hf
      clear hf
      clear hok
      go_wp2_with fail
      refine (implFall_is E A1 c1 xs D1 d1 ys false _ _ _ o4.ints (by first | omega | (simp; omega) | simp) hl5 _ _ o5.ints (by first | omega | (simp; omega) | simp) hl6 HF.out).mono ?_
      rintro e w2 ⟨rfl, hb2⟩
      obtain ⟨a8, a8'⟩ := keep2 hb2 ⟨a7, a7'⟩ (by first | omega | (simp; omega) | simp)
      have o9 := o4.below hb2 (by first | omega | (simp; omega) | simp)
      have o10 := o5.below hb2 (by first | omega | (simp; omega) | simp)
      have hz11 := hb2.size
      simp at hz11
      have B12 := B6.trans (hb2.mono (by first | omega | (simp; omega) | simp))
      clear hb2
      have z13 : w1.heap.size < w2.heap.size := by omega
      go_wp2_with fail
      refine (specFall_is E A1 c1 xs D1 d1 ys false _ _ _ o9.ints (by first | omega | (simp; omega) | simp) hl5 _ _ o10.ints (by first | omega | (simp; omega) | simp) hl6 HF.out).mono ?_
      rintro e w3 ⟨rfl, hb3⟩
      obtain ⟨a14, a14'⟩ := keep2 hb3 ⟨a8, a8'⟩ (by first | omega | (simp; omega) | simp)
      have o15 := o9.below hb3 (by first | omega | (simp; omega) | simp)
      have o16 := o10.below hb3 (by first | omega | (simp; omega) | simp)
      have hz17 := hb3.size
      have B18 := B12.trans (hb3.mono (by first | omega | (simp; omega) | simp))
      clear hb3
      have z19 : w1.heap.size < w3.heap.size := by omega
      go_wp2_with fail
      refine (specCaseOk_yes (E) (A1) c1 xs _ _ _ o15.ints (by first | omega | (simp; omega) | simp) (by first | omega | simp) HC.out).mono ?_
      rintro e w4 ⟨rfl, hb4⟩
      obtain ⟨a20, a20'⟩ := keep2 hb4 ⟨a14, a14'⟩ (by first | omega | (simp; omega) | simp)
      have o21 := o15.below hb4 (by first | omega | (simp; omega) | simp)
      have o22 := o16.below hb4 (by first | omega | (simp; omega) | simp)
      have hz23 := hb4.size
      have B24 := B18.trans (hb4.mono (by first | omega | (simp; omega) | simp))
      clear hb4
      have z25 : w1.heap.size < w4.heap.size := by omega
      go_wp2_with fail
      refine (implShareRow_yes E A1 c1 xs _ _ _ o21.ints (by first | omega | (simp; omega) | simp) HC.out).mono ?_
      rintro e w5 ⟨A5, c5, rfl, ho5, hb5⟩
      obtain ⟨a26, a26'⟩ := keep2 hb5 ⟨a20, a20'⟩ (by first | omega | (simp; omega) | simp)
      have o27 := o21.below hb5 (by first | omega | (simp; omega) | simp)
      have o28 := o22.below hb5 (by first | omega | (simp; omega) | simp)
      have hz29 := hb5.size
      have B30 := B24.trans (hb5.mono (by first | omega | (simp; omega) | simp))
      clear hb5
      have z31 : w1.heap.size < w5.heap.size := by omega
      go_wp2_with fail
      refine (implOwedOf_any E A1 c1 xs _ _ _ o27.ints (by first | omega | (simp; omega) | simp) hl5).mono ?_
      rintro e w6 ⟨he6, hb6⟩
      rw [HV.out] at he6
      subst he6
      obtain ⟨a32, a32'⟩ := keep2 hb6 ⟨a26, a26'⟩ (by first | omega | (simp; omega) | simp)
      have o33 := o27.below hb6 (by first | omega | (simp; omega) | simp)
      have o34 := o28.below hb6 (by first | omega | (simp; omega) | simp)
      have o35 := ho5.below hb6 (by first | omega | (simp; omega) | simp)
      have hz36 := hb6.size
      have B37 := B30.trans (hb6.mono (by first | omega | (simp; omega) | simp))
      clear hb6
      have z38 : w1.heap.size < w6.heap.size := by omega
      go_wp2
      refine wp_loop_rounds 1 ?_
      rw [rounds_succ]
      by_cases hy0 : 0 < ys.length
      · go_wp2_with fail
        have hWW : w.heap.size ≤ w6.heap.size := by first | omega | (simp; omega) | simp
        have g_c : w1.heap.size < w6.heap.size := by first | omega | (simp; omega) | simp
        have g_kc : w1.heap.size ≤ w6.heap.size := by first | omega | (simp; omega) | simp
        refine wp_region_held_drew (S := (fun w' : World => w'.cell? ⟨w1.heap.size, 0, none⟩ = some (.int .i64 E) ∧ w'.cell? ⟨w1.heap.size, 1, none⟩ = some (.slice A1 xs.length c1) ∧ Ints w' (w.heap.size) (w1.heap.size) (A1) (xs) ∧ w6.heap.size ≤ w'.heap.size ∧ Below w.heap.size w w')) (by kernel_rfl) ⟨a32, a32', o33.ints, Nat.le_refl _, B37.drew⟩ (fun hHeld => ?_)
        refine wpAnyH_take (i := 0) (oi := ?oi54) (v := ?vv54) ?hi54 ?hs54 ?hf54 ?ha54 ?hq54 ?hy54 hHeld ?hr54
        case hi54 => (simp only [List.getElem?_toArray, List.getElem?_cons_zero]; exact rfl)
        case hs54 => kernel_rfl
        case hf54 => kernel_rfl
        case ha54 => kernel_rfl
        case hq54 => exact fun _ _ _ h => h
        case hy54 =>
          refine Or.inl ⟨by rfl, ?_⟩
          intro w' hSw
          try dsimp only at hSw
          go_simp
          first | done | with_reducible rfl
        simp only [Act.put, List.setIfInBounds_toArray, List.set_cons_succ, List.set_cons_zero]
        refine wpAnyH_take (i := 1) (oi := ?oi55) (v := ?vv55) ?hi55 ?hs55 ?hf55 ?ha55 ?hq55 ?hy55 hHeld ?hr55
        case hi55 => (simp only [List.getElem?_toArray, List.getElem?_cons_succ, List.getElem?_cons_zero]; exact rfl)
        case hs55 => kernel_rfl
        case hf55 => kernel_rfl
        case ha55 => kernel_rfl
        case hq55 => exact fun _ _ _ h => h
        case hy55 =>
          refine Or.inl ⟨by rfl, ?_⟩
          intro w' hSw
          try dsimp only at hSw
          go_simp
          first | done | with_reducible rfl
        simp only [Act.put, List.setIfInBounds_toArray, List.set_cons_succ, List.set_cons_zero]
        refine wpAnyH_ready (rs := [2]) (by kernel_rfl) (by simp) ?_
        refine AllReadyH.cons rfl (fun K hK => ?_) AllReadyH.nil
        go_simp
        go_at_call 22
        obtain ⟨y0, y1, kc, zz, BB⟩ := hHeld
        (with_reducible refine (implEvenAwards_yes E A1 c1 xs _ _ _ kc (by omega) HC.out).mono ?_)
        rintro e w7_ ⟨Ax, cx, rfl, hox, hb9⟩
        refine hK.out _ _ ⟨(keep2 hb9 ⟨y0, y1⟩ (by omega)).1, (keep2 hb9 ⟨y0, y1⟩ (by omega)).2, kc.below hb9 (by omega), Nat.le_trans zz hb9.size, BB.trans (hb9.mono (by omega))⟩ (fun hHeld => ?_)
        clear hb9 BB zz kc y1 y0
        clear hK K
        try simp only [Act.put, List.setIfInBounds_toArray, List.set_cons_zero, List.set_cons_succ]
        refine wpAnyH_ready (rs := [3]) (by kernel_rfl) (by simp) ?_
        refine AllReadyH.cons rfl (fun K hK => ?_) AllReadyH.nil
        go_simp
        go_at_call 14
        obtain ⟨y0, y1, kc, zz, BB⟩ := hHeld
        (with_reducible refine (implFall_is E A1 c1 xs Ax cx (evenAw E xs) true _ _ _ kc (by omega) hl5 _ _ hox.ints (by omega) hLa HKA.out).mono ?_)
        rintro e w8_ ⟨rfl, hb9⟩
        have hox := hox.below hb9 (Nat.le_refl _)
        have hox := hox.more (Nat.le_refl _) hb9.size
        refine hK.out _ _ ⟨(keep2 hb9 ⟨y0, y1⟩ (by omega)).1, (keep2 hb9 ⟨y0, y1⟩ (by omega)).2, kc.below hb9 (by omega), Nat.le_trans zz hb9.size, BB.trans (hb9.mono (by omega))⟩ (fun hHeld => ?_)
        clear hb9 BB zz kc y1 y0
        clear hK K
        try simp only [Act.put, List.setIfInBounds_toArray, List.set_cons_zero, List.set_cons_succ]
        refine wpAnyH_take (i := 4) (oi := ?oi56) (v := ?vv56) ?hi56 ?hs56 ?hf56 ?ha56 ?hq56 ?hy56 hHeld ?hr56
        case hi56 => (simp only [List.getElem?_toArray, List.getElem?_cons_succ, List.getElem?_cons_zero]; exact rfl)
        case hs56 => kernel_rfl
        case hf56 => kernel_rfl
        case ha56 => kernel_rfl
        case hq56 => exact fun _ _ _ h => h
        case hy56 =>
          refine Or.inl ⟨by rfl, ?_⟩
          intro w' hSw
          try dsimp only at hSw
          go_simp
          first | done | with_reducible rfl
        simp only [Act.put, List.setIfInBounds_toArray, List.set_cons_succ, List.set_cons_zero]
        refine wpAnyH_ready (rs := [5]) (by kernel_rfl) (by simp) ?_
        refine AllReadyH.cons rfl (fun K hK => ?_) AllReadyH.nil
        go_simp
        go_at_call 11
        obtain ⟨y0, y1, kc, zz, BB⟩ := hHeld
        (with_reducible refine (alive_any _).mono ?_)
        rintro e w9_ ⟨rfl, hb9⟩
        have hox := hox.below hb9 (Nat.le_refl _)
        have hox := hox.more (Nat.le_refl _) hb9.size
        refine hK.out _ _ ⟨(keep2 hb9 ⟨y0, y1⟩ (by omega)).1, (keep2 hb9 ⟨y0, y1⟩ (by omega)).2, kc.below hb9 (by omega), Nat.le_trans zz hb9.size, BB.trans (hb9.mono (by omega))⟩ (fun hHeld => ?_)
        clear hb9 BB zz kc y1 y0
        clear hK K
        try simp only [Act.put, List.setIfInBounds_toArray, List.set_cons_zero, List.set_cons_succ]
        refine wpAnyH_take (i := 6) (oi := ?oi57) (v := ?vv57) ?hi57 ?hs57 ?hf57 ?ha57 ?hq57 ?hy57 hHeld ?hr57
        case hi57 => (simp only [List.getElem?_toArray, List.getElem?_cons_succ, List.getElem?_cons_zero]; exact rfl)
        case hs57 => kernel_rfl
        case hf57 => kernel_rfl
        case ha57 => kernel_rfl
        case hq57 => exact fun _ _ _ h => h
        case hy57 =>
          refine Or.inl ⟨by rfl, ?_⟩
          intro w' hSw
          try dsimp only at hSw
          go_simp
          first | done | with_reducible rfl
        simp only [Act.put, List.setIfInBounds_toArray, List.set_cons_succ, List.set_cons_zero]
        refine wpAnyH_take (i := 7) (oi := ?oi58) (v := ?vv58) ?hi58 ?hs58 ?hf58 ?ha58 ?hq58 ?hy58 hHeld ?hr58
        case hi58 => (simp only [List.getElem?_toArray, List.getElem?_cons_succ, List.getElem?_cons_zero]; exact rfl)
        case hs58 => kernel_rfl
        case hf58 => kernel_rfl
        case ha58 => kernel_rfl
        case hq58 => exact fun _ _ _ h => h
        case hy58 =>
          refine Or.inl ⟨by rfl, ?_⟩
          intro w' hSw
          try dsimp only at hSw
          go_simp
          first | done | with_reducible rfl
        simp only [Act.put, List.setIfInBounds_toArray, List.set_cons_succ, List.set_cons_zero]
        refine wpAnyH_done (by kernel_rfl) ?_ _
        obtain ⟨y0, y1, kc, zz, BB⟩ := hHeld
        go_wp2
        go_ret
        exact ⟨rfl, BB⟩
      · go_wp2_with fail
        have hWW : w.heap.size ≤ w6.heap.size := by first | omega | (simp; omega) | simp
        have g_c : w1.heap.size < w6.heap.size := by first | omega | (simp; omega) | simp
        have g_kc : w1.heap.size ≤ w6.heap.size := by first | omega | (simp; omega) | simp
        refine wp_region_held_drew (S := (fun w' : World => w'.cell? ⟨w1.heap.size, 0, none⟩ = some (.int .i64 E) ∧ w'.cell? ⟨w1.heap.size, 1, none⟩ = some (.slice A1 xs.length c1) ∧ Ints w' (w.heap.size) (w1.heap.size) (A1) (xs) ∧ w6.heap.size ≤ w'.heap.size ∧ Below w.heap.size w w')) (by kernel_rfl) ⟨a32, a32', o33.ints, Nat.le_refl _, B37.drew⟩ (fun hHeld => ?_)
        refine wpAnyH_take (i := 0) (oi := ?oi59) (v := ?vv59) ?hi59 ?hs59 ?hf59 ?ha59 ?hq59 ?hy59 hHeld ?hr59
        case hi59 => (simp only [List.getElem?_toArray, List.getElem?_cons_zero]; exact rfl)
        case hs59 => kernel_rfl
        case hf59 => kernel_rfl
        case ha59 => kernel_rfl
        case hq59 => exact fun _ _ _ h => h
        case hy59 =>
          refine Or.inl ⟨by rfl, ?_⟩
          intro w' hSw
          try dsimp only at hSw
          go_simp
          first | done | with_reducible rfl
        simp only [Act.put, List.setIfInBounds_toArray, List.set_cons_succ, List.set_cons_zero]
        refine wpAnyH_take (i := 1) (oi := ?oi60) (v := ?vv60) ?hi60 ?hs60 ?hf60 ?ha60 ?hq60 ?hy60 hHeld ?hr60
        case hi60 => (simp only [List.getElem?_toArray, List.getElem?_cons_succ, List.getElem?_cons_zero]; exact rfl)
        case hs60 => kernel_rfl
        case hf60 => kernel_rfl
        case ha60 => kernel_rfl
        case hq60 => exact fun _ _ _ h => h
        case hy60 =>
          refine Or.inl ⟨by rfl, ?_⟩
          intro w' hSw
          try dsimp only at hSw
          go_simp
          first | done | with_reducible rfl
        simp only [Act.put, List.setIfInBounds_toArray, List.set_cons_succ, List.set_cons_zero]
        refine wpAnyH_ready (rs := [2]) (by kernel_rfl) (by simp) ?_
        refine AllReadyH.cons rfl (fun K hK => ?_) AllReadyH.nil
        go_simp
        go_at_call 22
        obtain ⟨y0, y1, kc, zz, BB⟩ := hHeld
        (with_reducible refine (implEvenAwards_yes E A1 c1 xs _ _ _ kc (by omega) HC.out).mono ?_)
        rintro e w7_ ⟨Ax, cx, rfl, hox, hb9⟩
        refine hK.out _ _ ⟨(keep2 hb9 ⟨y0, y1⟩ (by omega)).1, (keep2 hb9 ⟨y0, y1⟩ (by omega)).2, kc.below hb9 (by omega), Nat.le_trans zz hb9.size, BB.trans (hb9.mono (by omega))⟩ (fun hHeld => ?_)
        clear hb9 BB zz kc y1 y0
        clear hK K
        try simp only [Act.put, List.setIfInBounds_toArray, List.set_cons_zero, List.set_cons_succ]
        refine wpAnyH_ready (rs := [3]) (by kernel_rfl) (by simp) ?_
        refine AllReadyH.cons rfl (fun K hK => ?_) AllReadyH.nil
        go_simp
        go_at_call 14
        obtain ⟨y0, y1, kc, zz, BB⟩ := hHeld
        (with_reducible refine (implFall_is E A1 c1 xs Ax cx (evenAw E xs) true _ _ _ kc (by omega) hl5 _ _ hox.ints (by omega) hLa HKA.out).mono ?_)
        rintro e w8_ ⟨rfl, hb9⟩
        have hox := hox.below hb9 (Nat.le_refl _)
        have hox := hox.more (Nat.le_refl _) hb9.size
        refine hK.out _ _ ⟨(keep2 hb9 ⟨y0, y1⟩ (by omega)).1, (keep2 hb9 ⟨y0, y1⟩ (by omega)).2, kc.below hb9 (by omega), Nat.le_trans zz hb9.size, BB.trans (hb9.mono (by omega))⟩ (fun hHeld => ?_)
        clear hb9 BB zz kc y1 y0
        clear hK K
        try simp only [Act.put, List.setIfInBounds_toArray, List.set_cons_zero, List.set_cons_succ]
        refine wpAnyH_take (i := 4) (oi := ?oi61) (v := ?vv61) ?hi61 ?hs61 ?hf61 ?ha61 ?hq61 ?hy61 hHeld ?hr61
        case hi61 => (simp only [List.getElem?_toArray, List.getElem?_cons_succ, List.getElem?_cons_zero]; exact rfl)
        case hs61 => kernel_rfl
        case hf61 => kernel_rfl
        case ha61 => kernel_rfl
        case hq61 => exact fun _ _ _ h => h
        case hy61 =>
          refine Or.inl ⟨by rfl, ?_⟩
          intro w' hSw
          try dsimp only at hSw
          go_simp
          first | done | with_reducible rfl
        simp only [Act.put, List.setIfInBounds_toArray, List.set_cons_succ, List.set_cons_zero]
        refine wpAnyH_ready (rs := [5]) (by kernel_rfl) (by simp) ?_
        refine AllReadyH.cons rfl (fun K hK => ?_) AllReadyH.nil
        go_simp
        go_at_call 11
        obtain ⟨y0, y1, kc, zz, BB⟩ := hHeld
        (with_reducible refine (alive_any _).mono ?_)
        rintro e w9_ ⟨rfl, hb9⟩
        have hox := hox.below hb9 (Nat.le_refl _)
        have hox := hox.more (Nat.le_refl _) hb9.size
        refine hK.out _ _ ⟨(keep2 hb9 ⟨y0, y1⟩ (by omega)).1, (keep2 hb9 ⟨y0, y1⟩ (by omega)).2, kc.below hb9 (by omega), Nat.le_trans zz hb9.size, BB.trans (hb9.mono (by omega))⟩ (fun hHeld => ?_)
        clear hb9 BB zz kc y1 y0
        clear hK K
        try simp only [Act.put, List.setIfInBounds_toArray, List.set_cons_zero, List.set_cons_succ]
        refine wpAnyH_take (i := 6) (oi := ?oi62) (v := ?vv62) ?hi62 ?hs62 ?hf62 ?ha62 ?hq62 ?hy62 hHeld ?hr62
        case hi62 => (simp only [List.getElem?_toArray, List.getElem?_cons_succ, List.getElem?_cons_zero]; exact rfl)
        case hs62 => kernel_rfl
        case hf62 => kernel_rfl
        case ha62 => kernel_rfl
        case hq62 => exact fun _ _ _ h => h
        case hy62 =>
          refine Or.inl ⟨by rfl, ?_⟩
          intro w' hSw
          try dsimp only at hSw
          go_simp
          first | done | with_reducible rfl
        simp only [Act.put, List.setIfInBounds_toArray, List.set_cons_succ, List.set_cons_zero]
        refine wpAnyH_take (i := 7) (oi := ?oi63) (v := ?vv63) ?hi63 ?hs63 ?hf63 ?ha63 ?hq63 ?hy63 hHeld ?hr63
        case hi63 => (simp only [List.getElem?_toArray, List.getElem?_cons_succ, List.getElem?_cons_zero]; exact rfl)
        case hs63 => kernel_rfl
        case hf63 => kernel_rfl
        case ha63 => kernel_rfl
        case hq63 => exact fun _ _ _ h => h
        case hy63 =>
          refine Or.inl ⟨by rfl, ?_⟩
          intro w' hSw
          try dsimp only at hSw
          go_simp
          first | done | with_reducible rfl
        simp only [Act.put, List.setIfInBounds_toArray, List.set_cons_succ, List.set_cons_zero]
        refine wpAnyH_done (by kernel_rfl) ?_ _
        obtain ⟨y0, y1, kc, zz, BB⟩ := hHeld
        go_wp2
        go_ret
        exact ⟨rfl, BB⟩
  · have hC : caseOkB E xs = false := by simpa using hok
    have HC := Lib.hid hC
    have HF : Hid (rateB false E xs ys = false) := rate_no (aw_case ys hC)
    clear hC
    clear hok
    go_wp2_with fail
    refine (implFall_is E A1 c1 xs D1 d1 ys false _ _ _ o4.ints (by first | omega | (simp; omega) | simp) hl5 _ _ o5.ints (by first | omega | (simp; omega) | simp) hl6 HF.out).mono ?_
    rintro e w2 ⟨rfl, hb2⟩
    obtain ⟨a8, a8'⟩ := keep2 hb2 ⟨a7, a7'⟩ (by first | omega | (simp; omega) | simp)
    have o9 := o4.below hb2 (by first | omega | (simp; omega) | simp)
    have o10 := o5.below hb2 (by first | omega | (simp; omega) | simp)
    have hz11 := hb2.size
    simp at hz11
    have B12 := B6.trans (hb2.mono (by first | omega | (simp; omega) | simp))
    clear hb2
    have z13 : w1.heap.size < w2.heap.size := by omega
    go_wp2_with fail
    refine (specFall_is E A1 c1 xs D1 d1 ys false _ _ _ o9.ints (by first | omega | (simp; omega) | simp) hl5 _ _ o10.ints (by first | omega | (simp; omega) | simp) hl6 HF.out).mono ?_
    rintro e w3 ⟨rfl, hb3⟩
    obtain ⟨a14, a14'⟩ := keep2 hb3 ⟨a8, a8'⟩ (by first | omega | (simp; omega) | simp)
    have o15 := o9.below hb3 (by first | omega | (simp; omega) | simp)
    have o16 := o10.below hb3 (by first | omega | (simp; omega) | simp)
    have hz17 := hb3.size
    have B18 := B12.trans (hb3.mono (by first | omega | (simp; omega) | simp))
    clear hb3
    have z19 : w1.heap.size < w3.heap.size := by omega
    go_wp2_with fail
    refine (specCaseOk_no (E) (A1) c1 xs _ _ _ o15.ints (by first | omega | (simp; omega) | simp) (by first | omega | simp) HC.out).mono ?_
    rintro e w4 ⟨rfl, hb4⟩
    obtain ⟨a20, a20'⟩ := keep2 hb4 ⟨a14, a14'⟩ (by first | omega | (simp; omega) | simp)
    have o21 := o15.below hb4 (by first | omega | (simp; omega) | simp)
    have o22 := o16.below hb4 (by first | omega | (simp; omega) | simp)
    have hz23 := hb4.size
    have B24 := B18.trans (hb4.mono (by first | omega | (simp; omega) | simp))
    clear hb4
    have z25 : w1.heap.size < w4.heap.size := by omega
    go_wp2_with fail
    refine (alive_any _).mono ?_
    rintro e w5 ⟨rfl, hb5⟩
    obtain ⟨a26, a26'⟩ := keep2 hb5 ⟨a20, a20'⟩ (by first | omega | (simp; omega) | simp)
    have o27 := o21.below hb5 (by first | omega | (simp; omega) | simp)
    have o28 := o22.below hb5 (by first | omega | (simp; omega) | simp)
    have hz29 := hb5.size
    have B30 := B24.trans (hb5.mono (by first | omega | (simp; omega) | simp))
    clear hb5
    have z31 : w1.heap.size < w5.heap.size := by omega
    go_wp2
    go_ret
    exact ⟨rfl, B30⟩

set_option maxRecDepth 10000 in
set_option maxHeartbeats 400000 in
theorem fnRatesFall_big (A0 : Option Addr) (c0 : Nat) (bs : List Int) (w : World) (hl : ¬ bs.length ≤ 1048576) (hm : bs.length ≤ 9223372036854775807) :
    Calls Try.prog 4 #[.slice A0 bs.length c0] w fun e w' => e = .returned (.bool true) ∧ Below w.heap.size w w' := by
  go_enter Try.func4, Try.ntmps4
  go_wp2
  go_ret
  exact ⟨rfl, Below.refl _ _⟩

theorem fnRatesFall_all (A0 : Option Addr) (c0 : Nat) (bs : List Int) (w : World) (h0 : Bytes w w.heap.size A0 bs) (hm : bs.length ≤ 9223372036854775807) (hc0 : bs.length ≤ c0) :
    Calls Try.prog 4 #[.slice A0 bs.length c0] w fun e w' => e = .returned (.bool true) ∧ Below w.heap.size w w' := by
  by_cases hl : bs.length ≤ 1048576
  · exact fnRatesFall_walk A0 c0 bs w h0 hl hc0
  · exact fnRatesFall_big A0 c0 bs w hl hm

end Go.Proofs.Ytakmbpdapdnniaa
