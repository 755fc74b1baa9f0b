/-
  The law of MidOk returns true for every code, and writes nothing that was there. No condition.
-/
import Derived.Test.YtngalomfljoomaaDrawP
import Derived.Test.YtngalomfljoomaaGA
import Derived.Test.YtngalomfljoomaaHalfI
import Derived.Test.YtngalomfljoomaaGC
import Derived.Deep.RegionHeld3
namespace Go.Proofs.Ytngalomfljoomaa
open Go.RowKit

set_option maxRecDepth 10000 in
set_option maxHeartbeats 2000000 in
theorem fnMidOk_walk (A0 : Option Addr) (c0 : Nat) (bs : List Int) (w : World) (h0 : Bytes w w.heap.size A0 bs) (hl : bs.length ≤ 1048576) (hc0 : bs.length ≤ c0) :
    Calls Try.prog 4 #[.slice A0 bs.length c0] w fun e w' => e = .returned (.bool true) ∧ Below w.heap.size w w' := by
  have hlm : bs.length ≤ 9223372036854775807 := by omega
  go_enter Try.func4, Try.ntmps4
  go_wp2_with fail
  refine (drawMidOk_any A0 c0 bs _ h0 hlm hc0).mono ?_
  rintro e w1 ⟨E, A1, c1, D1, d1, xs, ys, hx5, hy5, hyb, rfl, ho1, hq1, hb1⟩
  have hz1 := hb1.size
  have B2 := (Below.refl w.heap.size w).trans (hb1.mono (by first | omega | (simp; omega) | simp))
  clear hb1
  have x3 := new2 w1 (.int .i64 E) (.slice A1 xs.length c1) 25
  have o4 := ho1.alloc (by omega) (.cells #[.int .i64 E, .slice A1 xs.length c1] 25)
  have o5 := hq1.alloc (by omega) (.cells #[.int .i64 E, .slice A1 xs.length c1] 25)
  have B6 := B2.alloc (by omega) (.cells #[.int .i64 E, .slice A1 xs.length c1] 25)
  have hl5 : xs.length ≤ 1152921504606846976 := by omega
  have hl6 : ys.length ≤ 1152921504606846976 := by omega
  obtain ⟨a7, a7'⟩ := x3
  by_cases hok : caseOkB E xs = true
  · by_cases hmd : midB E xs ys = true
    · by_cases h2E : 2 * E = xs.sum
      · have HC := Lib.hid hok
        have hbd := caseOk_bd hok
        have hsm := caseOk_small hok
        have HMD := Lib.hid (half_mid hok)
        have hlH : (halfAw E xs).length ≤ 1152921504606846976 := by rw [halfAw_length]; exact hl5
        have HK := Lib.hid hmd
        have HYn := Lib.hid ((awardsB_iff _ _ _).1 ((midB_iff _ _ _).1 hmd).1).2.1
        have HEQ := Lib.hid (fun k hk => mid_half hmd h2E k hk)
        have HRG := Lib.hid (aw_range ((awardsB_iff _ _ _).1 ((midB_iff _ _ _).1 hmd).1).1 ((awardsB_iff _ _ _).1 ((midB_iff _ _ _).1 hmd).1).2.1 ((awardsB_iff _ _ _).1 ((midB_iff _ _ _).1 hmd).1).2.2.1)
        have HCA := Lib.hid (fun k hk => case_at hok k hk)
        have hw2E : IntKind.i64.wrap (2 * E) = 2 * E := IntWalk.i64_in _ (by omega)
        have hd2E : (2 * E == xs.sum) = true := by simpa using h2E
        clear hok hmd h2E
        go_wp2_with fail
        refine (implMid_is E A1 c1 xs D1 d1 ys _ _ _ o4.ints (by first | omega | (simp; omega) | simp) hl5 _ _ o5.ints (by first | omega | (simp; omega) | simp) hl6 true HK.out).mono ?_
        rintro e w2 ⟨rfl, hb2⟩
        obtain ⟨a8, a8'⟩ := keep2 hb2 ⟨a7, a7'⟩ (by first | omega | (simp; omega) | simp)
        have o9 := o4.below hb2 (by first | omega | (simp; omega) | simp)
        have o10 := o5.below hb2 (by first | omega | (simp; omega) | simp)
        have hz11 := hb2.size
        simp at hz11
        have B12 := B6.trans (hb2.mono (by first | omega | (simp; omega) | simp))
        clear hb2
        have z13 : w1.heap.size < w2.heap.size := by omega
        go_wp2_with fail
        refine (specMid_is E A1 c1 xs D1 d1 ys _ _ _ o9.ints (by first | omega | (simp; omega) | simp) hl5 _ _ o10.ints (by first | omega | (simp; omega) | simp) hl6 true HK.out).mono ?_
        rintro e w3 ⟨rfl, hb3⟩
        obtain ⟨a14, a14'⟩ := keep2 hb3 ⟨a8, a8'⟩ (by first | omega | (simp; omega) | simp)
        have o15 := o9.below hb3 (by first | omega | (simp; omega) | simp)
        have o16 := o10.below hb3 (by first | omega | (simp; omega) | simp)
        have hz17 := hb3.size
        have B18 := B12.trans (hb3.mono (by first | omega | (simp; omega) | simp))
        clear hb3
        have z19 : w1.heap.size < w3.heap.size := by omega
        go_wp2_with fail
        refine (specCaseOk_yes (E) (A1) c1 xs _ _ _ o15.ints (by first | omega | (simp; omega) | simp) (by first | omega | simp) HC.out).mono ?_
        rintro e w4 ⟨rfl, hb4⟩
        obtain ⟨a20, a20'⟩ := keep2 hb4 ⟨a14, a14'⟩ (by first | omega | (simp; omega) | simp)
        have o21 := o15.below hb4 (by first | omega | (simp; omega) | simp)
        have o22 := o16.below hb4 (by first | omega | (simp; omega) | simp)
        have hz23 := hb4.size
        have B24 := B18.trans (hb4.mono (by first | omega | (simp; omega) | simp))
        clear hb4
        have z25 : w1.heap.size < w4.heap.size := by omega
        have HKI : Hid (Ints w4 _ _ A1 xs) := o21.ints
        go_wp2_with fail
        go_quiet ((go_at_call 26; exact quiet_left (lsumOf_any _ _ _ _ _ _ (HKI.out.drewN _) hsm)))
        obtain ⟨w5, hw5⟩ : ∃ x, x = w4.drewN nq := ⟨_, rfl⟩
        have hb5 : Below w4.heap.size w4 w5 := by rw [hw5]; exact below_drewN (Below.refl _ _) _
        rw [← hw5]
        clear hw5
        obtain ⟨a26, a26'⟩ := keep2 hb5 ⟨a20, a20'⟩ (by first | omega | (simp; omega) | simp)
        have o27 := o21.below hb5 (by first | omega | (simp; omega) | simp)
        have o28 := o22.below hb5 (by first | omega | (simp; omega) | simp)
        have hz29 := hb5.size
        have B30 := B24.trans (hb5.mono (by first | omega | (simp; omega) | simp))
        clear hb5
        have z31 : w1.heap.size < w5.heap.size := by omega
        go_wp2
        go_loopw [6] (fun i wr => ∃ k : Nat, k ≤ ys.length ∧ i = .int .i64 k ∧ Below w5.heap.size w5 wr) (fun i _ => ys.length - (intOf i).toNat)
        case atStart => exact ⟨0, Nat.zero_le _, rfl, Below.refl _ _⟩
        case round =>
          obtain ⟨k, hk, rfl, hbl⟩ := hrel
          obtain ⟨w6, rfl⟩ : ∃ x, x = wr := ⟨_, rfl⟩
          have hbl0 := hbl
          obtain ⟨a32, a32'⟩ := keep2 hbl ⟨a26, a26'⟩ (by first | omega | (simp; omega) | simp)
          have o33 := o27.below hbl (by first | omega | (simp; omega) | simp)
          have o34 := o28.below hbl (by first | omega | (simp; omega) | simp)
          have hz35 := hbl.size
          have B36 := B30.trans (hbl.mono (by first | omega | (simp; omega) | simp))
          clear hbl
          have z37 : w1.heap.size < w6.heap.size := by omega
          by_cases hlt : k < ys.length
          · obtain ⟨b0_, o0_, rfl, _, hbh0, hc0⟩ := o34.ints.at_ (k := k) hlt
            have hkx : k < xs.length := by rw [← HYn.out]; exact hlt
            obtain ⟨b1_, o1_, rfl, _, hbh1, hc1⟩ := o33.ints.at_ hkx
            have hq := HEQ.out k hlt
            rw [getD_of_lt ys k hlt, getD_of_lt xs k hkx] at hq
            have hx := HCA.out k hkx
            have hy := HRG.out _ (List.getElem_mem hlt)
            generalize ys[k]'hlt = y at hc0 hq hy
            generalize xs[k]'hkx = x at hc1 hq hx
            have hk0 : (0 : Int) ≤ (k : Int) := by omega
            have hk1 : (k : Int) < (xs.length : Int) := by omega
            have hk2 : (k : Int) < (ys.length : Int) := by omega
            have hw1 : IntKind.i64.wrap (48 * x) = 48 * x := IntWalk.i64_in _ (by omega)
            have hw2 : IntKind.i64.wrap (2 * y) = 2 * y := IntWalk.i64_in _ (by omega)
            have hd1 : (2 * y != 48 * x) = false := by rw [hq]; simp
            clear hq
            have H := Lib.hid hbl0
            go_wp2
            go_quiet (fail)
            go_wp2
            go_roundw
            case rel => exact ⟨k + 1, by omega, by go_num, below_drewN H.out _⟩
            case measure => simp [intOf]; omega
          · have hkN : k = ys.length := by omega
            subst hkN
            clear hbl0
            go_wp2_with fail
            have hWW : w.heap.size ≤ w6.heap.size := by first | omega | (simp; omega) | simp
            have g_c : w1.heap.size < w6.heap.size := by first | omega | (simp; omega) | simp
            have g_kc : w1.heap.size ≤ w6.heap.size := by first | omega | (simp; omega) | simp
            refine wp_region_held_drew (S := (fun w' : World => w'.cell? ⟨w1.heap.size, 0, none⟩ = some (.int .i64 E) ∧ w'.cell? ⟨w1.heap.size, 1, none⟩ = some (.slice A1 xs.length c1) ∧ Ints w' (w.heap.size) (w1.heap.size) (A1) (xs) ∧ w6.heap.size ≤ w'.heap.size ∧ Below w.heap.size w w')) (by kernel_rfl) ⟨a32, a32', o33.ints, Nat.le_refl _, B36.drew⟩ (fun hHeld => ?_)
            refine wpAnyH_take (i := 0) (oi := ?oi137) (v := ?vv137) ?hi137 ?hs137 ?hf137 ?ha137 ?hq137 ?hy137 hHeld ?hr137
            case hi137 => (simp only [List.getElem?_toArray, List.getElem?_cons_zero]; exact rfl)
            case hs137 => kernel_rfl
            case hf137 => kernel_rfl
            case ha137 => kernel_rfl
            case hq137 => exact fun _ _ _ h => h
            case hy137 =>
              refine Or.inl ⟨by rfl, ?_⟩
              intro w' hSw
              try dsimp only at hSw
              go_simp
              first | done | with_reducible rfl
            simp only [Act.put, List.setIfInBounds_toArray, List.set_cons_succ, List.set_cons_zero]
            refine wpAnyH_take (i := 1) (oi := ?oi138) (v := ?vv138) ?hi138 ?hs138 ?hf138 ?ha138 ?hq138 ?hy138 hHeld ?hr138
            case hi138 => (simp only [List.getElem?_toArray, List.getElem?_cons_succ, List.getElem?_cons_zero]; exact rfl)
            case hs138 => kernel_rfl
            case hf138 => kernel_rfl
            case ha138 => kernel_rfl
            case hq138 => exact fun _ _ _ h => h
            case hy138 =>
              refine Or.inl ⟨by rfl, ?_⟩
              intro w' hSw
              try dsimp only at hSw
              go_simp
              first | done | with_reducible rfl
            simp only [Act.put, List.setIfInBounds_toArray, List.set_cons_succ, List.set_cons_zero]
            refine wpAnyH_ready (rs := [2]) (by kernel_rfl) (by simp) ?_
            refine AllReadyH.cons rfl (fun K hK => ?_) AllReadyH.nil
            go_simp
            go_at_call 11
            obtain ⟨y0, y1, kc, zz, BB⟩ := hHeld
            (with_reducible refine (implHalf_is E A1 c1 xs (halfAw E xs) _ _ _ kc (by omega) HC.out rfl).mono ?_)
            rintro e w7_ ⟨Am, cm, rfl, hom, hb9⟩
            refine hK.out _ _ ⟨(keep2 hb9 ⟨y0, y1⟩ (by omega)).1, (keep2 hb9 ⟨y0, y1⟩ (by omega)).2, kc.below hb9 (by omega), Nat.le_trans zz hb9.size, BB.trans (hb9.mono (by omega))⟩ (fun hHeld => ?_)
            clear hb9 BB zz kc y1 y0
            clear hK K
            try simp only [Act.put, List.setIfInBounds_toArray, List.set_cons_zero, List.set_cons_succ]
            refine wpAnyH_ready (rs := [3]) (by kernel_rfl) (by simp) ?_
            refine AllReadyH.cons rfl (fun K hK => ?_) AllReadyH.nil
            go_simp
            go_at_call 23
            obtain ⟨y0, y1, kc, zz, BB⟩ := hHeld
            (with_reducible refine (implMid_is E A1 c1 xs Am cm (halfAw E xs) _ _ _ kc (by omega) hl5 _ _ hom.ints (by omega) hlH true HMD.out).mono ?_)
            rintro e w8_ ⟨rfl, hb9⟩
            have hom := hom.below hb9 (Nat.le_refl _)
            have hom := hom.more (Nat.le_refl _) hb9.size
            refine hK.out _ _ ⟨(keep2 hb9 ⟨y0, y1⟩ (by omega)).1, (keep2 hb9 ⟨y0, y1⟩ (by omega)).2, kc.below hb9 (by omega), Nat.le_trans zz hb9.size, BB.trans (hb9.mono (by omega))⟩ (fun hHeld => ?_)
            clear hb9 BB zz kc y1 y0
            clear hK K
            try simp only [Act.put, List.setIfInBounds_toArray, List.set_cons_zero, List.set_cons_succ]
            refine wpAnyH_take (i := 4) (oi := ?oi139) (v := ?vv139) ?hi139 ?hs139 ?hf139 ?ha139 ?hq139 ?hy139 hHeld ?hr139
            case hi139 => (simp only [List.getElem?_toArray, List.getElem?_cons_succ, List.getElem?_cons_zero]; exact rfl)
            case hs139 => kernel_rfl
            case hf139 => kernel_rfl
            case ha139 => kernel_rfl
            case hq139 => exact fun _ _ _ h => h
            case hy139 =>
              refine Or.inl ⟨by rfl, ?_⟩
              intro w' hSw
              try dsimp only at hSw
              go_simp
              first | done | with_reducible rfl
            simp only [Act.put, List.setIfInBounds_toArray, List.set_cons_succ, List.set_cons_zero]
            refine wpAnyH_ready (rs := [5]) (by kernel_rfl) (by simp) ?_
            refine AllReadyH.cons rfl (fun K hK => ?_) AllReadyH.nil
            go_simp
            go_at_call 15
            obtain ⟨y0, y1, kc, zz, BB⟩ := hHeld
            (with_reducible refine (alive_any _).mono ?_)
            rintro e w9_ ⟨rfl, hb9⟩
            have hom := hom.below hb9 (Nat.le_refl _)
            have hom := hom.more (Nat.le_refl _) hb9.size
            refine hK.out _ _ ⟨(keep2 hb9 ⟨y0, y1⟩ (by omega)).1, (keep2 hb9 ⟨y0, y1⟩ (by omega)).2, kc.below hb9 (by omega), Nat.le_trans zz hb9.size, BB.trans (hb9.mono (by omega))⟩ (fun hHeld => ?_)
            clear hb9 BB zz kc y1 y0
            clear hK K
            try simp only [Act.put, List.setIfInBounds_toArray, List.set_cons_zero, List.set_cons_succ]
            refine wpAnyH_take (i := 6) (oi := ?oi140) (v := ?vv140) ?hi140 ?hs140 ?hf140 ?ha140 ?hq140 ?hy140 hHeld ?hr140
            case hi140 => (simp only [List.getElem?_toArray, List.getElem?_cons_succ, List.getElem?_cons_zero]; exact rfl)
            case hs140 => kernel_rfl
            case hf140 => kernel_rfl
            case ha140 => kernel_rfl
            case hq140 => exact fun _ _ _ h => h
            case hy140 =>
              refine Or.inl ⟨by rfl, ?_⟩
              intro w' hSw
              try dsimp only at hSw
              go_simp
              first | done | with_reducible rfl
            simp only [Act.put, List.setIfInBounds_toArray, List.set_cons_succ, List.set_cons_zero]
            refine wpAnyH_take (i := 7) (oi := ?oi141) (v := ?vv141) ?hi141 ?hs141 ?hf141 ?ha141 ?hq141 ?hy141 hHeld ?hr141
            case hi141 => (simp only [List.getElem?_toArray, List.getElem?_cons_succ, List.getElem?_cons_zero]; exact rfl)
            case hs141 => kernel_rfl
            case hf141 => kernel_rfl
            case ha141 => kernel_rfl
            case hq141 => exact fun _ _ _ h => h
            case hy141 =>
              refine Or.inl ⟨by rfl, ?_⟩
              intro w' hSw
              try dsimp only at hSw
              go_simp
              first | done | with_reducible rfl
            simp only [Act.put, List.setIfInBounds_toArray, List.set_cons_succ, List.set_cons_zero]
            refine wpAnyH_done (by kernel_rfl) ?_ _
            obtain ⟨y0, y1, kc, zz, BB⟩ := hHeld
            go_wp2
            go_ret
            exact ⟨rfl, BB⟩
      · have HC := Lib.hid hok
        have hbd := caseOk_bd hok
        have hsm := caseOk_small hok
        have HMD := Lib.hid (half_mid hok)
        have hlH : (halfAw E xs).length ≤ 1152921504606846976 := by rw [halfAw_length]; exact hl5
        have HK := Lib.hid hmd
        have HYn := Lib.hid ((awardsB_iff _ _ _).1 ((midB_iff _ _ _).1 hmd).1).2.1
        have hw2E : IntKind.i64.wrap (2 * E) = 2 * E := IntWalk.i64_in _ (by omega)
        have hd2E : (2 * E == xs.sum) = false := by simpa using h2E
        clear hok hmd h2E
        go_wp2_with fail
        refine (implMid_is E A1 c1 xs D1 d1 ys _ _ _ o4.ints (by first | omega | (simp; omega) | simp) hl5 _ _ o5.ints (by first | omega | (simp; omega) | simp) hl6 true HK.out).mono ?_
        rintro e w2 ⟨rfl, hb2⟩
        obtain ⟨a8, a8'⟩ := keep2 hb2 ⟨a7, a7'⟩ (by first | omega | (simp; omega) | simp)
        have o9 := o4.below hb2 (by first | omega | (simp; omega) | simp)
        have o10 := o5.below hb2 (by first | omega | (simp; omega) | simp)
        have hz11 := hb2.size
        simp at hz11
        have B12 := B6.trans (hb2.mono (by first | omega | (simp; omega) | simp))
        clear hb2
        have z13 : w1.heap.size < w2.heap.size := by omega
        go_wp2_with fail
        refine (specMid_is E A1 c1 xs D1 d1 ys _ _ _ o9.ints (by first | omega | (simp; omega) | simp) hl5 _ _ o10.ints (by first | omega | (simp; omega) | simp) hl6 true HK.out).mono ?_
        rintro e w3 ⟨rfl, hb3⟩
        obtain ⟨a14, a14'⟩ := keep2 hb3 ⟨a8, a8'⟩ (by first | omega | (simp; omega) | simp)
        have o15 := o9.below hb3 (by first | omega | (simp; omega) | simp)
        have o16 := o10.below hb3 (by first | omega | (simp; omega) | simp)
        have hz17 := hb3.size
        have B18 := B12.trans (hb3.mono (by first | omega | (simp; omega) | simp))
        clear hb3
        have z19 : w1.heap.size < w3.heap.size := by omega
        go_wp2_with fail
        refine (specCaseOk_yes (E) (A1) c1 xs _ _ _ o15.ints (by first | omega | (simp; omega) | simp) (by first | omega | simp) HC.out).mono ?_
        rintro e w4 ⟨rfl, hb4⟩
        obtain ⟨a20, a20'⟩ := keep2 hb4 ⟨a14, a14'⟩ (by first | omega | (simp; omega) | simp)
        have o21 := o15.below hb4 (by first | omega | (simp; omega) | simp)
        have o22 := o16.below hb4 (by first | omega | (simp; omega) | simp)
        have hz23 := hb4.size
        have B24 := B18.trans (hb4.mono (by first | omega | (simp; omega) | simp))
        clear hb4
        have z25 : w1.heap.size < w4.heap.size := by omega
        have HKI : Hid (Ints w4 _ _ A1 xs) := o21.ints
        go_wp2_with fail
        go_quiet ((go_at_call 26; exact quiet_left (lsumOf_any _ _ _ _ _ _ (HKI.out.drewN _) hsm)))
        obtain ⟨w5, hw5⟩ : ∃ x, x = w4.drewN nq := ⟨_, rfl⟩
        have hb5 : Below w4.heap.size w4 w5 := by rw [hw5]; exact below_drewN (Below.refl _ _) _
        rw [← hw5]
        clear hw5
        obtain ⟨a26, a26'⟩ := keep2 hb5 ⟨a20, a20'⟩ (by first | omega | (simp; omega) | simp)
        have o27 := o21.below hb5 (by first | omega | (simp; omega) | simp)
        have o28 := o22.below hb5 (by first | omega | (simp; omega) | simp)
        have hz29 := hb5.size
        have B30 := B24.trans (hb5.mono (by first | omega | (simp; omega) | simp))
        clear hb5
        have z31 : w1.heap.size < w5.heap.size := by omega
        go_wp2_with fail
        have hWW : w.heap.size ≤ w5.heap.size := by first | omega | (simp; omega) | simp
        have g_c : w1.heap.size < w5.heap.size := by first | omega | (simp; omega) | simp
        have g_kc : w1.heap.size ≤ w5.heap.size := by first | omega | (simp; omega) | simp
        refine wp_region_held_drew (S := (fun w' : World => w'.cell? ⟨w1.heap.size, 0, none⟩ = some (.int .i64 E) ∧ w'.cell? ⟨w1.heap.size, 1, none⟩ = some (.slice A1 xs.length c1) ∧ Ints w' (w.heap.size) (w1.heap.size) (A1) (xs) ∧ w5.heap.size ≤ w'.heap.size ∧ Below w.heap.size w w')) (by kernel_rfl) ⟨a26, a26', o27.ints, Nat.le_refl _, B30.drew⟩ (fun hHeld => ?_)
        refine wpAnyH_take (i := 0) (oi := ?oi142) (v := ?vv142) ?hi142 ?hs142 ?hf142 ?ha142 ?hq142 ?hy142 hHeld ?hr142
        case hi142 => (simp only [List.getElem?_toArray, List.getElem?_cons_zero]; exact rfl)
        case hs142 => kernel_rfl
        case hf142 => kernel_rfl
        case ha142 => kernel_rfl
        case hq142 => exact fun _ _ _ h => h
        case hy142 =>
          refine Or.inl ⟨by rfl, ?_⟩
          intro w' hSw
          try dsimp only at hSw
          go_simp
          first | done | with_reducible rfl
        simp only [Act.put, List.setIfInBounds_toArray, List.set_cons_succ, List.set_cons_zero]
        refine wpAnyH_take (i := 1) (oi := ?oi143) (v := ?vv143) ?hi143 ?hs143 ?hf143 ?ha143 ?hq143 ?hy143 hHeld ?hr143
        case hi143 => (simp only [List.getElem?_toArray, List.getElem?_cons_succ, List.getElem?_cons_zero]; exact rfl)
        case hs143 => kernel_rfl
        case hf143 => kernel_rfl
        case ha143 => kernel_rfl
        case hq143 => exact fun _ _ _ h => h
        case hy143 =>
          refine Or.inl ⟨by rfl, ?_⟩
          intro w' hSw
          try dsimp only at hSw
          go_simp
          first | done | with_reducible rfl
        simp only [Act.put, List.setIfInBounds_toArray, List.set_cons_succ, List.set_cons_zero]
        refine wpAnyH_ready (rs := [2]) (by kernel_rfl) (by simp) ?_
        refine AllReadyH.cons rfl (fun K hK => ?_) AllReadyH.nil
        go_simp
        go_at_call 11
        obtain ⟨y0, y1, kc, zz, BB⟩ := hHeld
        (with_reducible refine (implHalf_is E A1 c1 xs (halfAw E xs) _ _ _ kc (by omega) HC.out rfl).mono ?_)
        rintro e w6_ ⟨Am, cm, rfl, hom, hb9⟩
        refine hK.out _ _ ⟨(keep2 hb9 ⟨y0, y1⟩ (by omega)).1, (keep2 hb9 ⟨y0, y1⟩ (by omega)).2, kc.below hb9 (by omega), Nat.le_trans zz hb9.size, BB.trans (hb9.mono (by omega))⟩ (fun hHeld => ?_)
        clear hb9 BB zz kc y1 y0
        clear hK K
        try simp only [Act.put, List.setIfInBounds_toArray, List.set_cons_zero, List.set_cons_succ]
        refine wpAnyH_ready (rs := [3]) (by kernel_rfl) (by simp) ?_
        refine AllReadyH.cons rfl (fun K hK => ?_) AllReadyH.nil
        go_simp
        go_at_call 23
        obtain ⟨y0, y1, kc, zz, BB⟩ := hHeld
        (with_reducible refine (implMid_is E A1 c1 xs Am cm (halfAw E xs) _ _ _ kc (by omega) hl5 _ _ hom.ints (by omega) hlH true HMD.out).mono ?_)
        rintro e w7_ ⟨rfl, hb9⟩
        have hom := hom.below hb9 (Nat.le_refl _)
        have hom := hom.more (Nat.le_refl _) hb9.size
        refine hK.out _ _ ⟨(keep2 hb9 ⟨y0, y1⟩ (by omega)).1, (keep2 hb9 ⟨y0, y1⟩ (by omega)).2, kc.below hb9 (by omega), Nat.le_trans zz hb9.size, BB.trans (hb9.mono (by omega))⟩ (fun hHeld => ?_)
        clear hb9 BB zz kc y1 y0
        clear hK K
        try simp only [Act.put, List.setIfInBounds_toArray, List.set_cons_zero, List.set_cons_succ]
        refine wpAnyH_take (i := 4) (oi := ?oi144) (v := ?vv144) ?hi144 ?hs144 ?hf144 ?ha144 ?hq144 ?hy144 hHeld ?hr144
        case hi144 => (simp only [List.getElem?_toArray, List.getElem?_cons_succ, List.getElem?_cons_zero]; exact rfl)
        case hs144 => kernel_rfl
        case hf144 => kernel_rfl
        case ha144 => kernel_rfl
        case hq144 => exact fun _ _ _ h => h
        case hy144 =>
          refine Or.inl ⟨by rfl, ?_⟩
          intro w' hSw
          try dsimp only at hSw
          go_simp
          first | done | with_reducible rfl
        simp only [Act.put, List.setIfInBounds_toArray, List.set_cons_succ, List.set_cons_zero]
        refine wpAnyH_ready (rs := [5]) (by kernel_rfl) (by simp) ?_
        refine AllReadyH.cons rfl (fun K hK => ?_) AllReadyH.nil
        go_simp
        go_at_call 15
        obtain ⟨y0, y1, kc, zz, BB⟩ := hHeld
        (with_reducible refine (alive_any _).mono ?_)
        rintro e w8_ ⟨rfl, hb9⟩
        have hom := hom.below hb9 (Nat.le_refl _)
        have hom := hom.more (Nat.le_refl _) hb9.size
        refine hK.out _ _ ⟨(keep2 hb9 ⟨y0, y1⟩ (by omega)).1, (keep2 hb9 ⟨y0, y1⟩ (by omega)).2, kc.below hb9 (by omega), Nat.le_trans zz hb9.size, BB.trans (hb9.mono (by omega))⟩ (fun hHeld => ?_)
        clear hb9 BB zz kc y1 y0
        clear hK K
        try simp only [Act.put, List.setIfInBounds_toArray, List.set_cons_zero, List.set_cons_succ]
        refine wpAnyH_take (i := 6) (oi := ?oi145) (v := ?vv145) ?hi145 ?hs145 ?hf145 ?ha145 ?hq145 ?hy145 hHeld ?hr145
        case hi145 => (simp only [List.getElem?_toArray, List.getElem?_cons_succ, List.getElem?_cons_zero]; exact rfl)
        case hs145 => kernel_rfl
        case hf145 => kernel_rfl
        case ha145 => kernel_rfl
        case hq145 => exact fun _ _ _ h => h
        case hy145 =>
          refine Or.inl ⟨by rfl, ?_⟩
          intro w' hSw
          try dsimp only at hSw
          go_simp
          first | done | with_reducible rfl
        simp only [Act.put, List.setIfInBounds_toArray, List.set_cons_succ, List.set_cons_zero]
        refine wpAnyH_take (i := 7) (oi := ?oi146) (v := ?vv146) ?hi146 ?hs146 ?hf146 ?ha146 ?hq146 ?hy146 hHeld ?hr146
        case hi146 => (simp only [List.getElem?_toArray, List.getElem?_cons_succ, List.getElem?_cons_zero]; exact rfl)
        case hs146 => kernel_rfl
        case hf146 => kernel_rfl
        case ha146 => kernel_rfl
        case hq146 => exact fun _ _ _ h => h
        case hy146 =>
          refine Or.inl ⟨by rfl, ?_⟩
          intro w' hSw
          try dsimp only at hSw
          go_simp
          first | done | with_reducible rfl
        simp only [Act.put, List.setIfInBounds_toArray, List.set_cons_succ, List.set_cons_zero]
        refine wpAnyH_done (by kernel_rfl) ?_ _
        obtain ⟨y0, y1, kc, zz, BB⟩ := hHeld
        go_wp2
        go_ret
        exact ⟨rfl, BB⟩
    · have HC := Lib.hid hok
      have hbd := caseOk_bd hok
      have hsm := caseOk_small hok
      have HMD := Lib.hid (half_mid hok)
      have hlH : (halfAw E xs).length ≤ 1152921504606846976 := by rw [halfAw_length]; exact hl5
      have HK : Hid (midB E xs ys = false) := by show _ = _; simpa using hmd
      have hw2E : IntKind.i64.wrap (2 * E) = 2 * E := IntWalk.i64_in _ (by omega)
      clear hok hmd
      go_wp2_with fail
      refine (implMid_is E A1 c1 xs D1 d1 ys _ _ _ o4.ints (by first | omega | (simp; omega) | simp) hl5 _ _ o5.ints (by first | omega | (simp; omega) | simp) hl6 false HK.out).mono ?_
      rintro e w2 ⟨rfl, hb2⟩
      obtain ⟨a8, a8'⟩ := keep2 hb2 ⟨a7, a7'⟩ (by first | omega | (simp; omega) | simp)
      have o9 := o4.below hb2 (by first | omega | (simp; omega) | simp)
      have o10 := o5.below hb2 (by first | omega | (simp; omega) | simp)
      have hz11 := hb2.size
      simp at hz11
      have B12 := B6.trans (hb2.mono (by first | omega | (simp; omega) | simp))
      clear hb2
      have z13 : w1.heap.size < w2.heap.size := by omega
      go_wp2_with fail
      refine (specMid_is E A1 c1 xs D1 d1 ys _ _ _ o9.ints (by first | omega | (simp; omega) | simp) hl5 _ _ o10.ints (by first | omega | (simp; omega) | simp) hl6 false HK.out).mono ?_
      rintro e w3 ⟨rfl, hb3⟩
      obtain ⟨a14, a14'⟩ := keep2 hb3 ⟨a8, a8'⟩ (by first | omega | (simp; omega) | simp)
      have o15 := o9.below hb3 (by first | omega | (simp; omega) | simp)
      have o16 := o10.below hb3 (by first | omega | (simp; omega) | simp)
      have hz17 := hb3.size
      have B18 := B12.trans (hb3.mono (by first | omega | (simp; omega) | simp))
      clear hb3
      have z19 : w1.heap.size < w3.heap.size := by omega
      go_wp2_with fail
      refine (specCaseOk_yes (E) (A1) c1 xs _ _ _ o15.ints (by first | omega | (simp; omega) | simp) (by first | omega | simp) HC.out).mono ?_
      rintro e w4 ⟨rfl, hb4⟩
      obtain ⟨a20, a20'⟩ := keep2 hb4 ⟨a14, a14'⟩ (by first | omega | (simp; omega) | simp)
      have o21 := o15.below hb4 (by first | omega | (simp; omega) | simp)
      have o22 := o16.below hb4 (by first | omega | (simp; omega) | simp)
      have hz23 := hb4.size
      have B24 := B18.trans (hb4.mono (by first | omega | (simp; omega) | simp))
      clear hb4
      have z25 : w1.heap.size < w4.heap.size := by omega
      have HKI : Hid (Ints w4 _ _ A1 xs) := o21.ints
      go_wp2_with fail
      go_quiet ((go_at_call 26; exact quiet_left (lsumOf_any _ _ _ _ _ _ (HKI.out.drewN _) hsm)))
      obtain ⟨w5, hw5⟩ : ∃ x, x = w4.drewN nq := ⟨_, rfl⟩
      have hb5 : Below w4.heap.size w4 w5 := by rw [hw5]; exact below_drewN (Below.refl _ _) _
      rw [← hw5]
      clear hw5
      obtain ⟨a26, a26'⟩ := keep2 hb5 ⟨a20, a20'⟩ (by first | omega | (simp; omega) | simp)
      have o27 := o21.below hb5 (by first | omega | (simp; omega) | simp)
      have o28 := o22.below hb5 (by first | omega | (simp; omega) | simp)
      have hz29 := hb5.size
      have B30 := B24.trans (hb5.mono (by first | omega | (simp; omega) | simp))
      clear hb5
      have z31 : w1.heap.size < w5.heap.size := by omega
      go_wp2_with fail
      have hWW : w.heap.size ≤ w5.heap.size := by first | omega | (simp; omega) | simp
      have g_c : w1.heap.size < w5.heap.size := by first | omega | (simp; omega) | simp
      have g_kc : w1.heap.size ≤ w5.heap.size := by first | omega | (simp; omega) | simp
      refine wp_region_held_drew (S := (fun w' : World => w'.cell? ⟨w1.heap.size, 0, none⟩ = some (.int .i64 E) ∧ w'.cell? ⟨w1.heap.size, 1, none⟩ = some (.slice A1 xs.length c1) ∧ Ints w' (w.heap.size) (w1.heap.size) (A1) (xs) ∧ w5.heap.size ≤ w'.heap.size ∧ Below w.heap.size w w')) (by kernel_rfl) ⟨a26, a26', o27.ints, Nat.le_refl _, B30.drew⟩ (fun hHeld => ?_)
      refine wpAnyH_take (i := 0) (oi := ?oi147) (v := ?vv147) ?hi147 ?hs147 ?hf147 ?ha147 ?hq147 ?hy147 hHeld ?hr147
      case hi147 => (simp only [List.getElem?_toArray, List.getElem?_cons_zero]; exact rfl)
      case hs147 => kernel_rfl
      case hf147 => kernel_rfl
      case ha147 => kernel_rfl
      case hq147 => exact fun _ _ _ h => h
      case hy147 =>
        refine Or.inl ⟨by rfl, ?_⟩
        intro w' hSw
        try dsimp only at hSw
        go_simp
        first | done | with_reducible rfl
      simp only [Act.put, List.setIfInBounds_toArray, List.set_cons_succ, List.set_cons_zero]
      refine wpAnyH_take (i := 1) (oi := ?oi148) (v := ?vv148) ?hi148 ?hs148 ?hf148 ?ha148 ?hq148 ?hy148 hHeld ?hr148
      case hi148 => (simp only [List.getElem?_toArray, List.getElem?_cons_succ, List.getElem?_cons_zero]; exact rfl)
      case hs148 => kernel_rfl
      case hf148 => kernel_rfl
      case ha148 => kernel_rfl
      case hq148 => exact fun _ _ _ h => h
      case hy148 =>
        refine Or.inl ⟨by rfl, ?_⟩
        intro w' hSw
        try dsimp only at hSw
        go_simp
        first | done | with_reducible rfl
      simp only [Act.put, List.setIfInBounds_toArray, List.set_cons_succ, List.set_cons_zero]
      refine wpAnyH_ready (rs := [2]) (by kernel_rfl) (by simp) ?_
      refine AllReadyH.cons rfl (fun K hK => ?_) AllReadyH.nil
      go_simp
      go_at_call 11
      obtain ⟨y0, y1, kc, zz, BB⟩ := hHeld
      (with_reducible refine (implHalf_is E A1 c1 xs (halfAw E xs) _ _ _ kc (by omega) HC.out rfl).mono ?_)
      rintro e w6_ ⟨Am, cm, rfl, hom, hb9⟩
      refine hK.out _ _ ⟨(keep2 hb9 ⟨y0, y1⟩ (by omega)).1, (keep2 hb9 ⟨y0, y1⟩ (by omega)).2, kc.below hb9 (by omega), Nat.le_trans zz hb9.size, BB.trans (hb9.mono (by omega))⟩ (fun hHeld => ?_)
      clear hb9 BB zz kc y1 y0
      clear hK K
      try simp only [Act.put, List.setIfInBounds_toArray, List.set_cons_zero, List.set_cons_succ]
      refine wpAnyH_ready (rs := [3]) (by kernel_rfl) (by simp) ?_
      refine AllReadyH.cons rfl (fun K hK => ?_) AllReadyH.nil
      go_simp
      go_at_call 23
      obtain ⟨y0, y1, kc, zz, BB⟩ := hHeld
      (with_reducible refine (implMid_is E A1 c1 xs Am cm (halfAw E xs) _ _ _ kc (by omega) hl5 _ _ hom.ints (by omega) hlH true HMD.out).mono ?_)
      rintro e w7_ ⟨rfl, hb9⟩
      have hom := hom.below hb9 (Nat.le_refl _)
      have hom := hom.more (Nat.le_refl _) hb9.size
      refine hK.out _ _ ⟨(keep2 hb9 ⟨y0, y1⟩ (by omega)).1, (keep2 hb9 ⟨y0, y1⟩ (by omega)).2, kc.below hb9 (by omega), Nat.le_trans zz hb9.size, BB.trans (hb9.mono (by omega))⟩ (fun hHeld => ?_)
      clear hb9 BB zz kc y1 y0
      clear hK K
      try simp only [Act.put, List.setIfInBounds_toArray, List.set_cons_zero, List.set_cons_succ]
      refine wpAnyH_take (i := 4) (oi := ?oi149) (v := ?vv149) ?hi149 ?hs149 ?hf149 ?ha149 ?hq149 ?hy149 hHeld ?hr149
      case hi149 => (simp only [List.getElem?_toArray, List.getElem?_cons_succ, List.getElem?_cons_zero]; exact rfl)
      case hs149 => kernel_rfl
      case hf149 => kernel_rfl
      case ha149 => kernel_rfl
      case hq149 => exact fun _ _ _ h => h
      case hy149 =>
        refine Or.inl ⟨by rfl, ?_⟩
        intro w' hSw
        try dsimp only at hSw
        go_simp
        first | done | with_reducible rfl
      simp only [Act.put, List.setIfInBounds_toArray, List.set_cons_succ, List.set_cons_zero]
      refine wpAnyH_ready (rs := [5]) (by kernel_rfl) (by simp) ?_
      refine AllReadyH.cons rfl (fun K hK => ?_) AllReadyH.nil
      go_simp
      go_at_call 15
      obtain ⟨y0, y1, kc, zz, BB⟩ := hHeld
      (with_reducible refine (alive_any _).mono ?_)
      rintro e w8_ ⟨rfl, hb9⟩
      have hom := hom.below hb9 (Nat.le_refl _)
      have hom := hom.more (Nat.le_refl _) hb9.size
      refine hK.out _ _ ⟨(keep2 hb9 ⟨y0, y1⟩ (by omega)).1, (keep2 hb9 ⟨y0, y1⟩ (by omega)).2, kc.below hb9 (by omega), Nat.le_trans zz hb9.size, BB.trans (hb9.mono (by omega))⟩ (fun hHeld => ?_)
      clear hb9 BB zz kc y1 y0
      clear hK K
      try simp only [Act.put, List.setIfInBounds_toArray, List.set_cons_zero, List.set_cons_succ]
      refine wpAnyH_take (i := 6) (oi := ?oi150) (v := ?vv150) ?hi150 ?hs150 ?hf150 ?ha150 ?hq150 ?hy150 hHeld ?hr150
      case hi150 => (simp only [List.getElem?_toArray, List.getElem?_cons_succ, List.getElem?_cons_zero]; exact rfl)
      case hs150 => kernel_rfl
      case hf150 => kernel_rfl
      case ha150 => kernel_rfl
      case hq150 => exact fun _ _ _ h => h
      case hy150 =>
        refine Or.inl ⟨by rfl, ?_⟩
        intro w' hSw
        try dsimp only at hSw
        go_simp
        first | done | with_reducible rfl
      simp only [Act.put, List.setIfInBounds_toArray, List.set_cons_succ, List.set_cons_zero]
      refine wpAnyH_take (i := 7) (oi := ?oi151) (v := ?vv151) ?hi151 ?hs151 ?hf151 ?ha151 ?hq151 ?hy151 hHeld ?hr151
      case hi151 => (simp only [List.getElem?_toArray, List.getElem?_cons_succ, List.getElem?_cons_zero]; exact rfl)
      case hs151 => kernel_rfl
      case hf151 => kernel_rfl
      case ha151 => kernel_rfl
      case hq151 => exact fun _ _ _ h => h
      case hy151 =>
        refine Or.inl ⟨by rfl, ?_⟩
        intro w' hSw
        try dsimp only at hSw
        go_simp
        first | done | with_reducible rfl
      simp only [Act.put, List.setIfInBounds_toArray, List.set_cons_succ, List.set_cons_zero]
      refine wpAnyH_done (by kernel_rfl) ?_ _
      obtain ⟨y0, y1, kc, zz, BB⟩ := hHeld
      go_wp2
      go_ret
      exact ⟨rfl, BB⟩
  · have HC : Hid (caseOkB E xs = false) := by show _ = _; simpa using hok
    have HK : Hid (midB E xs ys = false) := mid_no (aw_case ys HC.out)
    clear hok
    go_wp2_with fail
    refine (implMid_is E A1 c1 xs D1 d1 ys _ _ _ o4.ints (by first | omega | (simp; omega) | simp) hl5 _ _ o5.ints (by first | omega | (simp; omega) | simp) hl6 false HK.out).mono ?_
    rintro e w2 ⟨rfl, hb2⟩
    obtain ⟨a8, a8'⟩ := keep2 hb2 ⟨a7, a7'⟩ (by first | omega | (simp; omega) | simp)
    have o9 := o4.below hb2 (by first | omega | (simp; omega) | simp)
    have o10 := o5.below hb2 (by first | omega | (simp; omega) | simp)
    have hz11 := hb2.size
    simp at hz11
    have B12 := B6.trans (hb2.mono (by first | omega | (simp; omega) | simp))
    clear hb2
    have z13 : w1.heap.size < w2.heap.size := by omega
    go_wp2_with fail
    refine (specMid_is E A1 c1 xs D1 d1 ys _ _ _ o9.ints (by first | omega | (simp; omega) | simp) hl5 _ _ o10.ints (by first | omega | (simp; omega) | simp) hl6 false HK.out).mono ?_
    rintro e w3 ⟨rfl, hb3⟩
    obtain ⟨a14, a14'⟩ := keep2 hb3 ⟨a8, a8'⟩ (by first | omega | (simp; omega) | simp)
    have o15 := o9.below hb3 (by first | omega | (simp; omega) | simp)
    have o16 := o10.below hb3 (by first | omega | (simp; omega) | simp)
    have hz17 := hb3.size
    have B18 := B12.trans (hb3.mono (by first | omega | (simp; omega) | simp))
    clear hb3
    have z19 : w1.heap.size < w3.heap.size := by omega
    go_wp2_with fail
    refine (specCaseOk_no (E) (A1) c1 xs _ _ _ o15.ints (by first | omega | (simp; omega) | simp) (by first | omega | simp) HC.out).mono ?_
    rintro e w4 ⟨rfl, hb4⟩
    obtain ⟨a20, a20'⟩ := keep2 hb4 ⟨a14, a14'⟩ (by first | omega | (simp; omega) | simp)
    have o21 := o15.below hb4 (by first | omega | (simp; omega) | simp)
    have o22 := o16.below hb4 (by first | omega | (simp; omega) | simp)
    have hz23 := hb4.size
    have B24 := B18.trans (hb4.mono (by first | omega | (simp; omega) | simp))
    clear hb4
    have z25 : w1.heap.size < w4.heap.size := by omega
    go_wp2_with fail
    refine (alive_any _).mono ?_
    rintro e w5 ⟨rfl, hb5⟩
    obtain ⟨a26, a26'⟩ := keep2 hb5 ⟨a20, a20'⟩ (by first | omega | (simp; omega) | simp)
    have o27 := o21.below hb5 (by first | omega | (simp; omega) | simp)
    have o28 := o22.below hb5 (by first | omega | (simp; omega) | simp)
    have hz29 := hb5.size
    have B30 := B24.trans (hb5.mono (by first | omega | (simp; omega) | simp))
    clear hb5
    have z31 : w1.heap.size < w5.heap.size := by omega
    go_wp2
    go_ret
    exact ⟨rfl, B30⟩

set_option maxRecDepth 10000 in
set_option maxHeartbeats 400000 in
theorem fnMidOk_big (A0 : Option Addr) (c0 : Nat) (bs : List Int) (w : World) (hl : ¬ bs.length ≤ 1048576) (hm : bs.length ≤ 9223372036854775807) :
    Calls Try.prog 4 #[.slice A0 bs.length c0] w fun e w' => e = .returned (.bool true) ∧ Below w.heap.size w w' := by
  go_enter Try.func4, Try.ntmps4
  go_wp2
  go_ret
  exact ⟨rfl, Below.refl _ _⟩

theorem fnMidOk_all (A0 : Option Addr) (c0 : Nat) (bs : List Int) (w : World) (h0 : Bytes w w.heap.size A0 bs) (hm : bs.length ≤ 9223372036854775807) (hc0 : bs.length ≤ c0) :
    Calls Try.prog 4 #[.slice A0 bs.length c0] w fun e w' => e = .returned (.bool true) ∧ Below w.heap.size w w' := by
  by_cases hl : bs.length ≤ 1048576
  · exact fnMidOk_walk A0 c0 bs w h0 hl hc0
  · exact fnMidOk_big A0 c0 bs w hl hm

end Go.Proofs.Ytngalomfljoomaa
