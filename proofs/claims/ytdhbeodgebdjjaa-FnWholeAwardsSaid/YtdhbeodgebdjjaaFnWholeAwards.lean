/-
  The law of WholeAwards returns true for every code, and writes nothing that was there. No condition.
-/
import Derived.Test.YtdhbeodgebdjjaaDrawK
import Derived.Test.YtdhbeodgebdjjaaLawLeaf
import Derived.Test.YtdhbeodgebdjjaaWholeAw
import Derived.Test.YtdhbeodgebdjjaaAwLaw
import Derived.Test.YtdhbeodgebdjjaaLossLaw
import Derived.Test.YtdhbeodgebdjjaaPure2
import Derived.Deep.RegionHeld3
namespace Go.Proofs.Ytdhbeodgebdjjaa
open Go.RowKit

set_option maxRecDepth 10000 in
set_option maxHeartbeats 2000000 in
theorem fnWholeAwards_walk (A0 : Option Addr) (c0 : Nat) (bs : List Int) (w : World) (h0 : Bytes w w.heap.size A0 bs) (hl : bs.length ≤ 1048576) (hc0 : bs.length ≤ c0) :
    Calls Try.prog 5 #[.slice A0 bs.length c0] w fun e w' => e = .returned (.bool true) ∧ Below w.heap.size w w' := by
  have hlm : bs.length ≤ 9223372036854775807 := by omega
  go_enter Try.func5, Try.ntmps5
  go_wp2_with fail
  refine (drawWholeAwards_any A0 c0 bs _ h0 hlm hc0).mono ?_
  rintro e w1 ⟨E, A1, c1, D1, d1, xs, ys, hx5, hy5, hyb, rfl, ho1, hq1, hb1⟩
  have hz1 := hb1.size
  have B2 := (Below.refl w.heap.size w).trans (hb1.mono (by first | omega | (simp; omega) | simp))
  clear hb1
  have x3 := new2 w1 (.int .i64 E) (.slice A1 xs.length c1) 25
  have o4 := ho1.alloc (by omega) (.cells #[.int .i64 E, .slice A1 xs.length c1] 25)
  have o5 := hq1.alloc (by omega) (.cells #[.int .i64 E, .slice A1 xs.length c1] 25)
  have B6 := B2.alloc (by omega) (.cells #[.int .i64 E, .slice A1 xs.length c1] 25)
  have hl5 : xs.length ≤ 1152921504606846976 := by omega
  have hl6 : ys.length ≤ 1152921504606846976 := by omega
  obtain ⟨a7, a7'⟩ := x3
  by_cases haw : awardsB E xs ys = true
  · have hA := (awardsB_iff _ _ _).1 haw
    have HC := Lib.hid hA.1
    have hbd := caseOk_bd hA.1
    have HY := Lib.hid hA.2.1
    obtain ⟨R, hR⟩ : ∃ R, R = wholeRow 48 E ys := ⟨_, rfl⟩
    have HW : Hid (wholeAw E xs ys = R) := by show _ = _; rw [hR]; exact if_pos haw
    have HWS : Hid (wholeAw E xs (inP R) = R) := by show _ = _; rw [hR]; exact whole_stays hA
    have HAG : Hid (awardsB E xs (inP R) = true) := by show _ = _; rw [hR]; exact whole_again hA
    have HRl : Hid (R.length = ys.length) := by show _ = _; rw [hR]; exact wholeRow_length 48 E ys
    have HIl : Hid ((inP R).length = R.length) := inP_length R
    have hsm : Small R := by rw [hR]; exact whole_small hA
    have HAT : Hid (∀ k (hx : k < xs.length) (hy : k < ys.length) (hw : k < R.length), 0 ≤ R[k] ∧ R[k] ≤ xs[k] ∧ 48 * R[k] - ys[k] < 48 ∧ -48 < 48 * R[k] - ys[k]) := fun k hx hy hw => by subst hR; exact whole_aw_at hA k hx hy hw
    have hse : (R.sum == E) = true := by rw [hR, whole_sum (by omega) hA.2.2.2]; simp
    have hRn : R.length ≤ 4 := by have := HRl.out; have := HY.out; omega
    have hb0 : ((R.length : Int) == 0) = false := beq_eq_false_iff_ne.2 (by have := HRl.out; have := HY.out; omega)
    have hcv := Lib.hid (fun k hk => case_at hA.1 k hk)
    have hll : (inP R).length ≤ 1152921504606846976 := by rw [inP_length]; omega
    clear hA haw hR
    go_wp2_with fail
    refine (implWholeAw_is E A1 c1 xs D1 d1 ys R _ _ _ o4.ints (by first | omega | (simp; omega) | simp) hl5 _ _ o5.ints (by first | omega | (simp; omega) | simp) hl6 HW.out).mono ?_
    rintro e w2 ⟨A2, c2, rfl, ho2, hb2⟩
    have hp2 : Own w2 (w1.heap.size + 1) w2.heap.size A2 (R) := ho2.more (by simp) (Nat.le_refl _)
    obtain ⟨a8, a8'⟩ := keep2 hb2 ⟨a7, a7'⟩ (by first | omega | (simp; omega) | simp)
    have o9 := o4.below hb2 (by first | omega | (simp; omega) | simp)
    have o10 := o5.below hb2 (by first | omega | (simp; omega) | simp)
    have hz11 := hb2.size
    simp at hz11
    have B12 := B6.trans (hb2.mono (by first | omega | (simp; omega) | simp))
    clear hb2
    have z13 : w1.heap.size < w2.heap.size := by omega
    go_wp2_with fail
    refine (specWholeAw_is E A1 c1 xs D1 d1 ys R _ _ _ o9.ints (by first | omega | (simp; omega) | simp) hl5 _ _ o10.ints (by first | omega | (simp; omega) | simp) hl6 HW.out).mono ?_
    rintro e w3 ⟨A3, c3, rfl, ho3, hb3⟩
    obtain ⟨a14, a14'⟩ := keep2 hb3 ⟨a8, a8'⟩ (by first | omega | (simp; omega) | simp)
    have o15 := o9.below hb3 (by first | omega | (simp; omega) | simp)
    have o16 := o10.below hb3 (by first | omega | (simp; omega) | simp)
    have o17 := hp2.below hb3 (by first | omega | (simp; omega) | simp)
    have hz18 := hb3.size
    have B19 := B12.trans (hb3.mono (by first | omega | (simp; omega) | simp))
    clear hb3
    have z20 : w1.heap.size < w3.heap.size := by omega
    go_wp2_with fail
    refine (sameInts_below A2 A3 c2 c3 R _ _ _ _ _ o17.ints ho3.ints (by omega)).mono ?_
    rintro e w4 ⟨rfl, hb4⟩
    obtain ⟨a21, a21'⟩ := keep2 hb4 ⟨a14, a14'⟩ (by first | omega | (simp; omega) | simp)
    have o22 := o15.below hb4 (by first | omega | (simp; omega) | simp)
    have o23 := o16.below hb4 (by first | omega | (simp; omega) | simp)
    have o24 := o17.below hb4 (by first | omega | (simp; omega) | simp)
    have o25 := ho3.below hb4 (by first | omega | (simp; omega) | simp)
    have hz26 := hb4.size
    have B27 := B19.trans (hb4.mono (by first | omega | (simp; omega) | simp))
    clear hb4
    have z28 : w1.heap.size < w4.heap.size := by omega
    have q29 := keep2 ((Below.refl w4.heap.size w4).alloc (Nat.le_refl _) (.cells #[] 3)) ⟨a21, a21'⟩ (by omega)
    have o30 := o22.alloc (by omega) (.cells #[] 3)
    have o31 := o23.alloc (by omega) (.cells #[] 3)
    have o32 := o24.alloc (by omega) (.cells #[] 3)
    have o33 := o25.alloc (by omega) (.cells #[] 3)
    have B34 := B27.alloc (by omega) (.cells #[] 3)
    have hR0 : (w4.alloc (.cells #[] 3)).ownsRow w4.heap.size 3 1 (.slice (some ⟨w4.heap.size, 0, none⟩) 0 0) ((inP R).take 0).length (ints ((inP R).take 0)) := World.ownsRow_made w4 #[] 0 (Nat.le_refl _) (by unfold maxLen; omega) rfl
    have hsz9 := hsz w4 (.cells #[] 3)
    obtain ⟨W, hW⟩ : ∃ W, W = w4.alloc (.cells #[] 3) := ⟨_, rfl⟩
    rw [← hW] at q29 o30 o31 o32 o33 B34 hR0 hsz9
    obtain ⟨a35, a35'⟩ := q29
    go_wp2
    rw [← hW]
    clear hW
    obtain ⟨i0, hi0, hj0, hj1, hj2⟩ := info_parts info_int
    go_loopw [6, 7] (fun v i wr => ∃ k : Nat, k ≤ R.length ∧ i = .int .i64 k ∧ wr.ownsRow w4.heap.size 3 1 v ((inP R).take k).length (ints ((inP R).take k)) ∧ Below w4.heap.size W wr) (fun _ i _ => R.length - (intOf i).toNat)
    case atStart => exact ⟨0, Nat.zero_le _, rfl, hR0, Below.refl _ _⟩
    case round =>
      obtain ⟨k, hk, rfl, hown, hbl⟩ := hrel
      obtain ⟨wo, rfl⟩ : ∃ x, x = wr := ⟨_, rfl⟩
      clear hR0
      have zo := hbl.size
      obtain ⟨s0, s1⟩ := keep2 hbl ⟨a35, a35'⟩ (by omega)
      have kx := o30.ints.below hbl (by omega)
      have ky := o31.ints.below hbl (by omega)
      have kr := o32.ints.below hbl (by omega)
      by_cases hlt : k < R.length
      · have hlen : ((inP R).take k).length = k := by rw [List.length_take, HIl.out]; omega
        rw [hlen] at hown
        clear hlen
        have HV := Lib.hid (inP_at R k hlt)
        have hly : k < ys.length := by rw [← HRl.out]; exact hlt
        have hlx : k < xs.length := by rw [← HY.out]; exact hly
        have hq := HAT.out k hlx hly hlt
        have hx := hcv.out k hlx
        obtain ⟨b1_, o1_, rfl, _, hbh1, hc1⟩ := kx.at_ hlx
        obtain ⟨b2_, o2_, rfl, _, hbh2, hc2⟩ := ky.at_ hly
        obtain ⟨b3_, o3_, rfl, _, hbh3, hc3⟩ := kr.at_ hlt
        generalize xs[k]'hlx = x at hc1 hx hq
        generalize ys[k]'hly = y at hc2 hq
        generalize R[k]'hlt = r at hc3 hq HV
        have hw1 : IntKind.i64.wrap (48 * r) = 48 * r := IntWalk.i64_in _ (by omega)
        have hw2 : IntKind.i64.wrap (48 * r - y) = 48 * r - y := IntWalk.i64_in _ (by omega)
        have hd1 : decide (r < 0) = false := by simp only [decide_eq_false_iff_not]; omega
        have hd2 : decide (x < r) = false := by simp only [decide_eq_false_iff_not]; omega
        have hd3 : decide (48 ≤ 48 * r - y) = false := by simp only [decide_eq_false_iff_not]; omega
        have hd4 : decide (48 * r - y ≤ -48) = false := by simp only [decide_eq_false_iff_not]; omega
        have hk0 : (0 : Int) ≤ (k : Int) := by omega
        have hk1 : (k : Int) < (xs.length : Int) := by omega
        have hk2 : (k : Int) < (ys.length : Int) := by omega
        have hk3 : (k : Int) < (R.length : Int) := by omega
        have hWB : w4.heap.size ≤ wo.heap.size := by omega
        go_wp2_with fail
        go_quiet (fail)
        go_wp2_with fail
        go_quiet (fail)
        generalize hW9 : World.drewN _ _ = W9
        have hown9 : W9.ownsRow w4.heap.size 3 1 u6 k (ints ((inP R).take k)) := by rw [← hW9]; exact hown
        have hbl9 : Below w4.heap.size W W9 := by rw [← hW9]; first | exact below_drewN hbl _ | exact below_drewN (below_drewN hbl _) _
        have hc9 : W9.cell? ⟨b3_, o3_ + k, none⟩ = some (.int .i64 r) := by rw [← hW9]; exact hc3
        have hz9 : w4.heap.size ≤ W9.heap.size := by rw [← hW9]; exact hWB
        clear hW9 hown hbl s0 s1 hc1 hc2 hc3 hq hx
        have hA := hown9.alloc (.cells #[.int .i64 (48 * r)] 3)
        go_wp2_with (at_builtin; refine wpList_append_own _ rfl _ _ 23 rfl w4.heap.size 3 i0 (.int .i64 0) 1 8 Try.underlying23 hi0 hj0 hj1 hj2 rfl (by decide) _ _ _ rfl hA ⟨W9.heap.size, 0, none⟩ 1 1 [.int .i64 (48 * r)] rfl rfl (news_one _ _ _) (one_cell _) (by unfold maxLen; omega) (by omega) (by rw [hsz]; omega) ?_; intro v1 w9 hownA hgrowA _)
        have hn := append_one (R := inP R) (k := k) (by rw [HIl.out]; exact hlt) _ HV.out rfl hownA
        have hb9 := (hbl9.alloc hz9 (.cells #[.int .i64 (48 * r)] 3)).grown hgrowA (by rw [hsz]; omega) (fun g hg => ((hown9.lt g hg).1))
        have H := Lib.hid (And.intro hn hb9)
        clear hn hb9 hownA hgrowA hown9 hA hbl9
        go_wp2
        go_roundw
        case rel => exact ⟨k + 1, by omega, by go_num, H.out.1, H.out.2⟩
        case measure => simp [intOf]; omega
      · obtain rfl : k = R.length := by omega
        have he : (inP R).take R.length = inP R := by rw [← HIl.out]; exact List.take_length
        rw [he] at hown
        obtain ⟨Aw, cw, rfl, _, how⟩ := own_of_row hown
        have hBF := B34.trans (hbl.mono (by omega))
        have hoi := how.ints
        clear hown hbl how he
        go_wp2_with fail
        have hWW : w.heap.size ≤ wo.heap.size := by first | omega | (simp; omega) | simp
        have g_c : w1.heap.size < wo.heap.size := by first | omega | (simp; omega) | simp
        have g_kc : w1.heap.size ≤ wo.heap.size := by first | omega | (simp; omega) | simp
        have g_kq : w2.heap.size ≤ wo.heap.size := by first | omega | (simp; omega) | simp
        have g_ka : wo.heap.size ≤ wo.heap.size := by first | omega | (simp; omega) | simp
        refine wp_region_held_drew (S := (fun w' : World => w'.cell? ⟨w1.heap.size, 0, none⟩ = some (.int .i64 E) ∧ w'.cell? ⟨w1.heap.size, 1, none⟩ = some (.slice A1 xs.length c1) ∧ Ints w' (w.heap.size) (w1.heap.size) (A1) (xs) ∧ Ints w' (w1.heap.size + 1) (w2.heap.size) (A2) (R) ∧ Ints w' (w4.heap.size) (wo.heap.size) (Aw) (inP R) ∧ wo.heap.size ≤ w'.heap.size ∧ Below w.heap.size w w')) (by kernel_rfl) ⟨s0, s1, kx, kr, hoi, Nat.le_refl _, hBF.drew⟩ (fun hHeld => ?_)
        refine wpAnyH_take (i := 0) (oi := ?oi1) (v := ?vv1) ?hi1 ?hs1 ?hf1 ?ha1 ?hq1 ?hy1 hHeld ?hr1
        case hi1 => (simp only [List.getElem?_toArray, List.getElem?_cons_zero]; exact rfl)
        case hs1 => kernel_rfl
        case hf1 => kernel_rfl
        case ha1 => kernel_rfl
        case hq1 => exact fun _ _ _ h => h
        case hy1 =>
          refine Or.inl ⟨by rfl, ?_⟩
          intro w' hSw
          try dsimp only at hSw
          go_simp
          first | done | with_reducible rfl
        simp only [Act.put, List.setIfInBounds_toArray, List.set_cons_succ, List.set_cons_zero]
        refine wpAnyH_take (i := 2) (oi := ?oi2) (v := ?vv2) ?hi2 ?hs2 ?hf2 ?ha2 ?hq2 ?hy2 hHeld ?hr2
        case hi2 => (simp only [List.getElem?_toArray, List.getElem?_cons_succ, List.getElem?_cons_zero]; exact rfl)
        case hs2 => kernel_rfl
        case hf2 => kernel_rfl
        case ha2 => kernel_rfl
        case hq2 => exact fun _ _ _ h => h
        case hy2 =>
          refine Or.inl ⟨by rfl, ?_⟩
          intro w' hSw
          try dsimp only at hSw
          go_simp
          first | done | with_reducible rfl
        simp only [Act.put, List.setIfInBounds_toArray, List.set_cons_succ, List.set_cons_zero]
        refine wpAnyH_take (i := 3) (oi := ?oi3) (v := ?vv3) ?hi3 ?hs3 ?hf3 ?ha3 ?hq3 ?hy3 hHeld ?hr3
        case hi3 => (simp only [List.getElem?_toArray, List.getElem?_cons_succ, List.getElem?_cons_zero]; exact rfl)
        case hs3 => kernel_rfl
        case hf3 => kernel_rfl
        case ha3 => kernel_rfl
        case hq3 => exact fun _ _ _ h => h
        case hy3 =>
          refine Or.inl ⟨by rfl, ?_⟩
          intro w' hSw
          try dsimp only at hSw
          go_simp
          first | done | with_reducible rfl
        simp only [Act.put, List.setIfInBounds_toArray, List.set_cons_succ, List.set_cons_zero]
        refine wpAnyH_ready (rs := [1]) (by kernel_rfl) (by simp) ?_
        refine AllReadyH.cons rfl (fun K hK => ?_) AllReadyH.nil
        go_simp
        go_at_call 19
        obtain ⟨y0, y1, kc, kq, ka, zz, BB⟩ := hHeld
        (with_reducible refine (lsumOf_any A2 c2 R _ _ _ kq hsm).mono ?_)
        rintro e w9 ⟨rfl, rfl⟩
        refine hK.out _ _ ⟨y0, y1, kc, kq, ka, zz, BB⟩ (fun hHeld => ?_)
        clear hK K
        try simp only [Act.put, List.setIfInBounds_toArray, List.set_cons_zero, List.set_cons_succ]
        refine wpAnyH_take (i := 4) (oi := ?oi4) (v := ?vv4) ?hi4 ?hs4 ?hf4 ?ha4 ?hq4 ?hy4 hHeld ?hr4
        case hi4 => (simp only [List.getElem?_toArray, List.getElem?_cons_succ, List.getElem?_cons_zero]; exact rfl)
        case hs4 => kernel_rfl
        case hf4 => kernel_rfl
        case ha4 => kernel_rfl
        case hq4 => exact fun _ _ _ h => h
        case hy4 =>
          refine Or.inl ⟨by rfl, ?_⟩
          intro w' hSw
          try dsimp only at hSw
          go_simp
          first | done | with_reducible rfl
        simp only [Act.put, List.setIfInBounds_toArray, List.set_cons_succ, List.set_cons_zero]
        refine wpAnyH_take (i := 5) (oi := ?oi5) (v := ?vv5) ?hi5 ?hs5 ?hf5 ?ha5 ?hq5 ?hy5 hHeld ?hr5
        case hi5 => (simp only [List.getElem?_toArray, List.getElem?_cons_succ, List.getElem?_cons_zero]; exact rfl)
        case hs5 => kernel_rfl
        case hf5 => kernel_rfl
        case ha5 => kernel_rfl
        case hq5 => exact fun _ _ _ h => h
        case hy5 =>
          refine Or.inl ⟨by rfl, ?_⟩
          intro w' hSw
          try dsimp only at hSw
          go_simp
          first | done | with_reducible rfl
        simp only [Act.put, List.setIfInBounds_toArray, List.set_cons_succ, List.set_cons_zero]
        refine wpAnyH_take (i := 6) (oi := ?oi6) (v := ?vv6) ?hi6 ?hs6 ?hf6 ?ha6 ?hq6 ?hy6 hHeld ?hr6
        case hi6 => (simp only [List.getElem?_toArray, List.getElem?_cons_succ, List.getElem?_cons_zero]; exact rfl)
        case hs6 => kernel_rfl
        case hf6 => kernel_rfl
        case ha6 => kernel_rfl
        case hq6 => exact fun _ _ _ h => h
        case hy6 =>
          refine Or.inl ⟨by rfl, ?_⟩
          intro w' hSw
          try dsimp only at hSw
          go_simp
          first | done | with_reducible rfl
        simp only [Act.put, List.setIfInBounds_toArray, List.set_cons_succ, List.set_cons_zero]
        refine wpAnyH_take (i := 7) (oi := ?oi7) (v := ?vv7) ?hi7 ?hs7 ?hf7 ?ha7 ?hq7 ?hy7 hHeld ?hr7
        case hi7 => (simp only [List.getElem?_toArray, List.getElem?_cons_succ, List.getElem?_cons_zero]; exact rfl)
        case hs7 => kernel_rfl
        case hf7 => kernel_rfl
        case ha7 => kernel_rfl
        case hq7 => exact fun _ _ _ h => h
        case hy7 =>
          refine Or.inl ⟨by rfl, ?_⟩
          intro w' hSw
          try dsimp only at hSw
          go_simp
          first | done | with_reducible rfl
        simp only [Act.put, List.setIfInBounds_toArray, List.set_cons_succ, List.set_cons_zero]
        refine wpAnyH_ready (rs := [8]) (by kernel_rfl) (by simp) ?_
        refine AllReadyH.cons rfl (fun K hK => ?_) AllReadyH.nil
        go_simp
        go_at_call 31
        obtain ⟨y0, y1, kc, kq, ka, zz, BB⟩ := hHeld
        (with_reducible refine (implAwardsOk_is E A1 c1 xs Aw cw (inP R) _ _ _ kc (by omega) hl5 _ _ ka (by omega) hll HAG.out).mono ?_)
        rintro e w5_ ⟨rfl, hb9⟩
        refine hK.out _ _ ⟨(keep2 hb9 ⟨y0, y1⟩ (by omega)).1, (keep2 hb9 ⟨y0, y1⟩ (by omega)).2, kc.below hb9 (by omega), kq.below hb9 (by omega), ka.below hb9 (by omega), Nat.le_trans zz hb9.size, BB.trans (hb9.mono (by omega))⟩ (fun hHeld => ?_)
        clear hb9 BB zz ka kq kc y1 y0
        clear hK K
        try simp only [Act.put, List.setIfInBounds_toArray, List.set_cons_zero, List.set_cons_succ]
        refine wpAnyH_take (i := 9) (oi := ?oi8) (v := ?vv8) ?hi8 ?hs8 ?hf8 ?ha8 ?hq8 ?hy8 hHeld ?hr8
        case hi8 => (simp only [List.getElem?_toArray, List.getElem?_cons_succ, List.getElem?_cons_zero]; exact rfl)
        case hs8 => kernel_rfl
        case hf8 => kernel_rfl
        case ha8 => kernel_rfl
        case hq8 => exact fun _ _ _ h => h
        case hy8 =>
          refine Or.inl ⟨by rfl, ?_⟩
          intro w' hSw
          try dsimp only at hSw
          go_simp
          first | done | with_reducible rfl
        simp only [Act.put, List.setIfInBounds_toArray, List.set_cons_succ, List.set_cons_zero]
        refine wpAnyH_take (i := 10) (oi := ?oi9) (v := ?vv9) ?hi9 ?hs9 ?hf9 ?ha9 ?hq9 ?hy9 hHeld ?hr9
        case hi9 => (simp only [List.getElem?_toArray, List.getElem?_cons_succ, List.getElem?_cons_zero]; exact rfl)
        case hs9 => kernel_rfl
        case hf9 => kernel_rfl
        case ha9 => kernel_rfl
        case hq9 => exact fun _ _ _ h => h
        case hy9 =>
          refine Or.inl ⟨by rfl, ?_⟩
          intro w' hSw
          try dsimp only at hSw
          go_simp
          first | done | with_reducible rfl
        simp only [Act.put, List.setIfInBounds_toArray, List.set_cons_succ, List.set_cons_zero]
        refine wpAnyH_take (i := 11) (oi := ?oi10) (v := ?vv10) ?hi10 ?hs10 ?hf10 ?ha10 ?hq10 ?hy10 hHeld ?hr10
        case hi10 => (simp only [List.getElem?_toArray, List.getElem?_cons_succ, List.getElem?_cons_zero]; exact rfl)
        case hs10 => kernel_rfl
        case hf10 => kernel_rfl
        case ha10 => kernel_rfl
        case hq10 => exact fun _ _ _ h => h
        case hy10 =>
          refine Or.inl ⟨by rfl, ?_⟩
          intro w' hSw
          try dsimp only at hSw
          go_simp
          first | done | with_reducible rfl
        simp only [Act.put, List.setIfInBounds_toArray, List.set_cons_succ, List.set_cons_zero]
        refine wpAnyH_take (i := 12) (oi := ?oi11) (v := ?vv11) ?hi11 ?hs11 ?hf11 ?ha11 ?hq11 ?hy11 hHeld ?hr11
        case hi11 => (simp only [List.getElem?_toArray, List.getElem?_cons_succ, List.getElem?_cons_zero]; exact rfl)
        case hs11 => kernel_rfl
        case hf11 => kernel_rfl
        case ha11 => kernel_rfl
        case hq11 => exact fun _ _ _ h => h
        case hy11 =>
          refine Or.inl ⟨by rfl, ?_⟩
          intro w' hSw
          try dsimp only at hSw
          go_simp
          first | done | with_reducible rfl
        simp only [Act.put, List.setIfInBounds_toArray, List.set_cons_succ, List.set_cons_zero]
        refine wpAnyH_take (i := 14) (oi := ?oi12) (v := ?vv12) ?hi12 ?hs12 ?hf12 ?ha12 ?hq12 ?hy12 hHeld ?hr12
        case hi12 => (simp only [List.getElem?_toArray, List.getElem?_cons_succ, List.getElem?_cons_zero]; exact rfl)
        case hs12 => kernel_rfl
        case hf12 => kernel_rfl
        case ha12 => kernel_rfl
        case hq12 => exact fun _ _ _ h => h
        case hy12 =>
          refine Or.inl ⟨by rfl, ?_⟩
          intro w' hSw
          try dsimp only at hSw
          go_simp
          first | done | with_reducible rfl
        simp only [Act.put, List.setIfInBounds_toArray, List.set_cons_succ, List.set_cons_zero]
        refine wpAnyH_ready (rs := [13]) (by kernel_rfl) (by simp) ?_
        refine AllReadyH.cons rfl (fun K hK => ?_) AllReadyH.nil
        go_simp
        go_at_call 29
        obtain ⟨y0, y1, kc, kq, ka, zz, BB⟩ := hHeld
        (with_reducible refine (implWholeAw_is E A1 c1 xs Aw cw (inP R) R _ _ _ kc (by omega) hl5 _ _ ka (by omega) hll HWS.out).mono ?_)
        rintro e w6_ ⟨Am, cm, rfl, hom, hb9⟩
        refine hK.out _ _ ⟨(keep2 hb9 ⟨y0, y1⟩ (by omega)).1, (keep2 hb9 ⟨y0, y1⟩ (by omega)).2, kc.below hb9 (by omega), kq.below hb9 (by omega), ka.below hb9 (by omega), Nat.le_trans zz hb9.size, BB.trans (hb9.mono (by omega))⟩ (fun hHeld => ?_)
        clear hb9 BB zz ka kq kc y1 y0
        clear hK K
        try simp only [Act.put, List.setIfInBounds_toArray, List.set_cons_zero, List.set_cons_succ]
        refine wpAnyH_ready (rs := [15]) (by kernel_rfl) (by simp) ?_
        refine AllReadyH.cons rfl (fun K hK => ?_) AllReadyH.nil
        go_simp
        go_at_call 13
        obtain ⟨y0, y1, kc, kq, ka, zz, BB⟩ := hHeld
        (with_reducible refine (sameInts_below Am A2 cm c2 R _ _ _ _ _ hom.ints kq (by omega)).mono ?_)
        rintro e w7_ ⟨rfl, hb9⟩
        have hom := hom.below hb9 (Nat.le_refl _)
        have hom := hom.more (Nat.le_refl _) hb9.size
        refine hK.out _ _ ⟨(keep2 hb9 ⟨y0, y1⟩ (by omega)).1, (keep2 hb9 ⟨y0, y1⟩ (by omega)).2, kc.below hb9 (by omega), kq.below hb9 (by omega), ka.below hb9 (by omega), Nat.le_trans zz hb9.size, BB.trans (hb9.mono (by omega))⟩ (fun hHeld => ?_)
        clear hb9 BB zz ka kq kc y1 y0
        clear hK K
        try simp only [Act.put, List.setIfInBounds_toArray, List.set_cons_zero, List.set_cons_succ]
        refine wpAnyH_take (i := 16) (oi := ?oi13) (v := ?vv13) ?hi13 ?hs13 ?hf13 ?ha13 ?hq13 ?hy13 hHeld ?hr13
        case hi13 => (simp only [List.getElem?_toArray, List.getElem?_cons_succ, List.getElem?_cons_zero]; exact rfl)
        case hs13 => kernel_rfl
        case hf13 => kernel_rfl
        case ha13 => kernel_rfl
        case hq13 => exact fun _ _ _ h => h
        case hy13 =>
          refine Or.inl ⟨by rfl, ?_⟩
          intro w' hSw
          try dsimp only at hSw
          go_simp
          first | done | with_reducible rfl
        simp only [Act.put, List.setIfInBounds_toArray, List.set_cons_succ, List.set_cons_zero]
        refine wpAnyH_take (i := 17) (oi := ?oi14) (v := ?vv14) ?hi14 ?hs14 ?hf14 ?ha14 ?hq14 ?hy14 hHeld ?hr14
        case hi14 => (simp only [List.getElem?_toArray, List.getElem?_cons_succ, List.getElem?_cons_zero]; exact rfl)
        case hs14 => kernel_rfl
        case hf14 => kernel_rfl
        case ha14 => kernel_rfl
        case hq14 => exact fun _ _ _ h => h
        case hy14 =>
          refine Or.inl ⟨by rfl, ?_⟩
          intro w' hSw
          try dsimp only at hSw
          go_simp
          first | done | with_reducible rfl
        simp only [Act.put, List.setIfInBounds_toArray, List.set_cons_succ, List.set_cons_zero]
        refine wpAnyH_done (by kernel_rfl) ?_ _
        obtain ⟨y0, y1, kc, kq, ka, zz, BB⟩ := hHeld
        go_wp2
        go_ret
        exact ⟨rfl, BB⟩
  · have HO : Hid (awardsB E xs ys = false) := by show _ = _; simpa using haw
    have HW : Hid (wholeAw E xs ys = []) := if_neg haw
    clear haw
    go_wp2_with fail
    refine (implWholeAw_is E A1 c1 xs D1 d1 ys [] _ _ _ o4.ints (by first | omega | (simp; omega) | simp) hl5 _ _ o5.ints (by first | omega | (simp; omega) | simp) hl6 HW.out).mono ?_
    rintro e w2 ⟨A2, c2, rfl, ho2, hb2⟩
    have hp2 : Own w2 (w1.heap.size + 1) w2.heap.size A2 (([] : List Int)) := ho2.more (by simp) (Nat.le_refl _)
    obtain ⟨a8, a8'⟩ := keep2 hb2 ⟨a7, a7'⟩ (by first | omega | (simp; omega) | simp)
    have o9 := o4.below hb2 (by first | omega | (simp; omega) | simp)
    have o10 := o5.below hb2 (by first | omega | (simp; omega) | simp)
    have hz11 := hb2.size
    simp at hz11
    have B12 := B6.trans (hb2.mono (by first | omega | (simp; omega) | simp))
    clear hb2
    have z13 : w1.heap.size < w2.heap.size := by omega
    go_wp2_with fail
    refine (specWholeAw_is E A1 c1 xs D1 d1 ys [] _ _ _ o9.ints (by first | omega | (simp; omega) | simp) hl5 _ _ o10.ints (by first | omega | (simp; omega) | simp) hl6 HW.out).mono ?_
    rintro e w3 ⟨A3, c3, rfl, ho3, hb3⟩
    obtain ⟨a14, a14'⟩ := keep2 hb3 ⟨a8, a8'⟩ (by first | omega | (simp; omega) | simp)
    have o15 := o9.below hb3 (by first | omega | (simp; omega) | simp)
    have o16 := o10.below hb3 (by first | omega | (simp; omega) | simp)
    have o17 := hp2.below hb3 (by first | omega | (simp; omega) | simp)
    have hz18 := hb3.size
    have B19 := B12.trans (hb3.mono (by first | omega | (simp; omega) | simp))
    clear hb3
    have z20 : w1.heap.size < w3.heap.size := by omega
    go_wp2_with fail
    refine (sameInts_below A2 A3 c2 c3 ([] : List Int) _ 0 0 0 0 Ints.nil Ints.nil (by simp)).mono ?_
    rintro e w4 ⟨rfl, hb4⟩
    obtain ⟨a21, a21'⟩ := keep2 hb4 ⟨a14, a14'⟩ (by first | omega | (simp; omega) | simp)
    have o22 := o15.below hb4 (by first | omega | (simp; omega) | simp)
    have o23 := o16.below hb4 (by first | omega | (simp; omega) | simp)
    have o24 := o17.below hb4 (by first | omega | (simp; omega) | simp)
    have o25 := ho3.below hb4 (by first | omega | (simp; omega) | simp)
    have hz26 := hb4.size
    have B27 := B19.trans (hb4.mono (by first | omega | (simp; omega) | simp))
    clear hb4
    have z28 : w1.heap.size < w4.heap.size := by omega
    go_wp2_with fail
    refine (implAwardsOk_is E A1 c1 xs D1 d1 ys _ _ _ o22.ints (by first | omega | (simp; omega) | simp) hl5 _ _ o23.ints (by first | omega | (simp; omega) | simp) hl6 HO.out).mono ?_
    rintro e w5 ⟨rfl, hb5⟩
    obtain ⟨a29, a29'⟩ := keep2 hb5 ⟨a21, a21'⟩ (by first | omega | (simp; omega) | simp)
    have o30 := o22.below hb5 (by first | omega | (simp; omega) | simp)
    have o31 := o23.below hb5 (by first | omega | (simp; omega) | simp)
    have o32 := o24.below hb5 (by first | omega | (simp; omega) | simp)
    have o33 := o25.below hb5 (by first | omega | (simp; omega) | simp)
    have hz34 := hb5.size
    have B35 := B27.trans (hb5.mono (by first | omega | (simp; omega) | simp))
    clear hb5
    have z36 : w1.heap.size < w5.heap.size := by omega
    go_wp2_with fail
    refine (alive_any _).mono ?_
    rintro e w6 ⟨rfl, hb6⟩
    obtain ⟨a37, a37'⟩ := keep2 hb6 ⟨a29, a29'⟩ (by first | omega | (simp; omega) | simp)
    have o38 := o30.below hb6 (by first | omega | (simp; omega) | simp)
    have o39 := o31.below hb6 (by first | omega | (simp; omega) | simp)
    have o40 := o32.below hb6 (by first | omega | (simp; omega) | simp)
    have o41 := o33.below hb6 (by first | omega | (simp; omega) | simp)
    have hz42 := hb6.size
    have B43 := B35.trans (hb6.mono (by first | omega | (simp; omega) | simp))
    clear hb6
    have z44 : w1.heap.size < w6.heap.size := by omega
    go_wp2
    go_ret
    exact ⟨rfl, B43⟩

set_option maxRecDepth 10000 in
set_option maxHeartbeats 400000 in
theorem fnWholeAwards_big (A0 : Option Addr) (c0 : Nat) (bs : List Int) (w : World) (hl : ¬ bs.length ≤ 1048576) (hm : bs.length ≤ 9223372036854775807) :
    Calls Try.prog 5 #[.slice A0 bs.length c0] w fun e w' => e = .returned (.bool true) ∧ Below w.heap.size w w' := by
  go_enter Try.func5, Try.ntmps5
  go_wp2
  go_ret
  exact ⟨rfl, Below.refl _ _⟩

theorem fnWholeAwards_all (A0 : Option Addr) (c0 : Nat) (bs : List Int) (w : World) (h0 : Bytes w w.heap.size A0 bs) (hm : bs.length ≤ 9223372036854775807) (hc0 : bs.length ≤ c0) :
    Calls Try.prog 5 #[.slice A0 bs.length c0] w fun e w' => e = .returned (.bool true) ∧ Below w.heap.size w w' := by
  by_cases hl : bs.length ≤ 1048576
  · exact fnWholeAwards_walk A0 c0 bs w h0 hl hc0
  · exact fnWholeAwards_big A0 c0 bs w hl hm

end Go.Proofs.Ytdhbeodgebdjjaa
