/-
  The law of rows that are even, also without the last one, returns true for every code, and writes nothing that was there. No condition.
-/
import Derived.Test.YtjoalilapbleiaaEvenRest
import Derived.Deep.RegionHeld3
namespace Go.Proofs.Ytjoalilapbleiaa
open Go.RowKit

set_option maxRecDepth 10000 in
set_option maxHeartbeats 2000000 in
theorem fnEvenRow_walk (A0 : Option Addr) (c0 : Nat) (bs : List Int) (w : World) (h0 : Bytes w w.heap.size A0 bs) (hl : bs.length ≤ 1048576) (hc0 : bs.length ≤ c0) :
    Calls Try.prog 6 #[.slice A0 bs.length c0] w fun e w' => e = .returned (.bool true) ∧ Below w.heap.size w w' := by
  have hlm : bs.length ≤ 9223372036854775807 := by omega
  go_enter Try.func6, Try.ntmps6
  go_wp2_with fail
  refine (drawEvenRow_any A0 c0 bs _ h0 hlm hc0).mono ?_
  rintro e w1 ⟨A1, c1, xs, E, hcc, hx1, hx4, hxb, hE0, hE1, rfl, ho1, hb1⟩
  have hz1 := hb1.size
  have B2 := (Below.refl w.heap.size w).trans (hb1.mono (by first | omega | (simp; omega) | simp))
  clear hb1
  have hxl : xs.length ≤ 1152921504606846976 := by omega
  by_cases hb : evenB xs E = true
  · have HB := Lib.hid hb
    have HX : Hid (evenXs xs E = evenOf xs E) := by show _ = _; simp [evenXs, hb]
    clear hb
    have HN := Lib.hid (evenOf_length xs E)
    have HG := Lib.hid (evenOf_rg HB.out)
    have HSU := Lib.hid (even_parts HB.out).2.2.2.2.2
    have hll : (((evenOf xs E).length : Int) != (xs.length : Int)) = false := by rw [HN.out]; simp
    have hEE : (E != E) = false := by simp
    have hEq : (E == E) = true := by simp
    have HSM : Hid (Small (evenOf xs E)) := row_small (by rw [HN.out]; omega) (fun y hy => by have := HG.out y hy; omega)
    have hRl : (evenOf xs E).length ≤ 1152921504606846976 := by rw [HN.out]; omega
    obtain ⟨m, hm⟩ : ∃ m : Nat, xs.length = m + 1 := ⟨xs.length - 1, by omega⟩
    have hRm : (evenOf xs E).length = m + 1 := by rw [HN.out]; exact hm
    have HRM := Lib.hid hRm
    have hwl : IntKind.i64.wrap (((evenOf xs E).length : Int) - 1) = (m : Int) := by rw [hRm, IntWalk.i64_in _ (by omega)]; omega
    have HM := Lib.hid hm
    clear hRm hm
    go_wp2_with fail
    refine (implEvenRow_cap A1 c1 xs E _ _ _ ho1.ints (by first | omega | (simp; omega) | simp) HB.out).mono ?_
    rintro e w2 ⟨A2, c2, hc2, rfl, ho2, hb2⟩
    have o3 := ho1.below hb2 (by first | omega | (simp; omega) | simp)
    have hz4 := hb2.size
    have B5 := B2.trans (hb2.mono (by first | omega | (simp; omega) | simp))
    clear hb2
    go_wp2_with fail
    refine (specEvenRow_is A1 c1 xs E _ _ _ o3.ints (by first | omega | (simp; omega) | simp) hxl HX.out HB.out).mono ?_
    rintro e w3 ⟨A3, c3, rfl, ho3, hb3⟩
    have o6 := o3.below hb3 (by first | omega | (simp; omega) | simp)
    have o7 := ho2.below hb3 (by first | omega | (simp; omega) | simp)
    have hz8 := hb3.size
    have B9 := B5.trans (hb3.mono (by first | omega | (simp; omega) | simp))
    clear hb3
    go_wp2_with fail
    refine (sameInts_below A2 A3 c2 c3 (evenOf xs E) _ _ _ _ _ o7.ints ho3.ints hRl).mono ?_
    rintro e w4 ⟨rfl, hb4⟩
    have o10 := o6.below hb4 (by first | omega | (simp; omega) | simp)
    have o11 := o7.below hb4 (by first | omega | (simp; omega) | simp)
    have o12 := ho3.below hb4 (by first | omega | (simp; omega) | simp)
    have hz13 := hb4.size
    have B14 := B9.trans (hb4.mono (by first | omega | (simp; omega) | simp))
    clear hb4
    go_wp2_with fail
    refine (lsumOf_is A2 c2 (evenOf xs E) _ _ _ o11.ints HSM.out HSU.out).mono ?_
    rintro e w' ⟨rfl, rfl⟩
    by_cases hm0 : m = 0
    · subst hm0
      obtain ⟨b0_, o0_, hA0, _, hbh0, hc0_⟩ := o11.ints.at_ (k := 0) (by rw [HRM.out]; omega)
      subst hA0
      rw [even_single HM.out HB.out, Nat.add_zero] at hc0_
      have hk0 : (0 : Int) < ((evenOf xs E).length : Int) := by rw [HRM.out]; omega
      go_wp2_with fail
      refine (alive_any _).mono ?_
      rintro e w5 ⟨rfl, hb5⟩
      have o15 := o10.below hb5 (by first | omega | (simp; omega) | simp)
      have o16 := o12.below hb5 (by first | omega | (simp; omega) | simp)
      have hz17 := hb5.size
      have B18 := B14.trans (hb5.mono (by first | omega | (simp; omega) | simp))
      clear hb5
      go_wp2
      go_ret
      exact ⟨rfl, B18⟩
    · have hm1 : 1 ≤ m := by omega
      have hmz : ((m : Int) == 0) = false := beq_eq_false_iff_ne.2 (by omega)
      obtain ⟨b1_, o1_, hA1, _, hbh1, hc1⟩ := o11.ints.at_ (k := m) (by rw [HRM.out]; omega)
      obtain ⟨i0, hi0, hz0, hz1, hz2⟩ := info_parts info_int
      have HER := Lib.hid (even_rest HM.out hm1 HB.out ((evenOf xs E)[m]'(by rw [HRM.out]; omega)) (getD_of_lt _ _ (by rw [HRM.out]; omega)))
      have hvb : 0 ≤ (evenOf xs E)[m]'(by rw [HRM.out]; omega) ∧ (evenOf xs E)[m]'(by rw [HRM.out]; omega) ≤ 576 := HG.out _ (List.getElem_mem _)
      generalize (evenOf xs E)[m]'(by rw [HRM.out]; omega) = V at hc1 HER hvb
      have hwV : IntKind.i64.wrap (E - V) = E - V := IntWalk.i64_in _ (by omega)
      have kx := o10.ints
      have kr := o11.ints
      obtain ⟨b3_, o3_, hA3, hb30, hb31, -⟩ := kx.news (by have := HM.out; omega)
      subst hA1
      subst hA3
      have hM1 := HM.out
      have hM2 := HRM.out
      have hmk : (m : Int) ≤ (c1 : Int) := by omega
      have hmk1 : ¬ ((c1 : Int) < (m : Int)) := by omega
      have hmk2 : ¬ ((c2 : Int) < (m : Int)) := by omega
      have hmk3 : (m : Int) ≤ (c2 : Int) := by omega
      have hm00 : (0 : Int) ≤ (m : Int) := by omega
      have hmr : (m : Int) < ((evenOf xs E).length : Int) := by omega
      have hl3 : Hid ((ints (xs.take m)).length = m * 1) := by show _ = _; rw [ints_length, List.length_take]; omega
      have hl4 : Hid ((ints ((evenOf xs E).take m)).length = m * 1) := by show _ = _; rw [ints_length, List.length_take]; omega
      have htl : (xs.take m).length = 0 + m := by rw [List.length_take]; omega
      have HTL := Lib.hid htl
      have hm3 : m ≤ 3 := by omega
      have HTM : Hid ((xs.take m).length = m) := by show _ = _; rw [List.length_take]; omega
      have HL4 : Hid ((ints ((evenOf xs E).take m)).length = m * 1) := by show _ = _; rw [ints_length, List.length_take]; omega
      have HT4 : Hid (((evenOf xs E).take m).length = m) := by show _ = _; rw [List.length_take]; omega
      clear hM1 hM2 hl4 htl
      go_wp2_with fail
      have hWW : w.heap.size ≤ w4.heap.size := by first | omega | (simp; omega) | simp
      have g_kx : w1.heap.size ≤ w4.heap.size := by first | omega | (simp; omega) | simp
      have g_kr : w2.heap.size ≤ w4.heap.size := by first | omega | (simp; omega) | simp
      have gc_0 : b1_ < w4.heap.size := by first | omega | (simp; omega) | simp
      refine wp_region_held_drew (S := (fun w' : World => Ints w' (w.heap.size) (w1.heap.size) (some ⟨b3_, o3_, none⟩) (xs) ∧ Ints w' (w1.heap.size) (w2.heap.size) (some ⟨b1_, o1_, none⟩) (evenOf xs E) ∧ w'.cell? ⟨b1_, o1_ + m, none⟩ = some (.int .i64 V) ∧ w4.heap.size ≤ w'.heap.size ∧ Below w.heap.size w w')) (by kernel_rfl) ⟨o10.ints, o11.ints, hc1, Nat.le_refl _, B14.drew⟩ (fun hHeld => ?_)
      refine wpAnyH_take (i := 1) (oi := ?oi1) (v := ?vv1) ?hi1 ?hs1 ?hf1 ?ha1 ?hq1 ?hy1 hHeld ?hr1
      case hi1 => (simp only [List.getElem?_toArray, List.getElem?_cons_succ, List.getElem?_cons_zero]; exact rfl)
      case hs1 => kernel_rfl
      case hf1 => kernel_rfl
      case ha1 => kernel_rfl
      case hq1 => exact fun _ _ _ h => h
      case hy1 =>
        refine Or.inl ⟨by rfl, ?_⟩
        intro w' hSw
        try dsimp only at hSw
        go_simp
        first | done | with_reducible rfl
      simp only [Act.put, List.setIfInBounds_toArray, List.set_cons_succ, List.set_cons_zero]
      refine wpAnyH_take (i := 2) (oi := ?oi2) (v := ?vv2) ?hi2 ?hs2 ?hf2 ?ha2 ?hq2 ?hy2 hHeld ?hr2
      case hi2 => (simp only [List.getElem?_toArray, List.getElem?_cons_succ, List.getElem?_cons_zero]; exact rfl)
      case hs2 => kernel_rfl
      case hf2 => kernel_rfl
      case ha2 => kernel_rfl
      case hq2 => exact fun _ _ _ h => h
      case hy2 =>
        refine Or.inl ⟨by rfl, ?_⟩
        intro w' hSw
        try dsimp only at hSw
        go_simp
        first | done | with_reducible rfl
      simp only [Act.put, List.setIfInBounds_toArray, List.set_cons_succ, List.set_cons_zero]
      refine wpAnyH_take (i := 3) (oi := ?oi3) (v := ?vv3) ?hi3 ?hs3 ?hf3 ?ha3 ?hq3 ?hy3 hHeld ?hr3
      case hi3 => (simp only [List.getElem?_toArray, List.getElem?_cons_succ, List.getElem?_cons_zero]; exact rfl)
      case hs3 => kernel_rfl
      case hf3 => kernel_rfl
      case ha3 => kernel_rfl
      case hq3 => exact fun _ _ _ h => h
      case hy3 =>
        refine Or.inl ⟨by rfl, ?_⟩
        intro w' hSw
        try dsimp only at hSw
        go_simp
        first | done | with_reducible rfl
      simp only [Act.put, List.setIfInBounds_toArray, List.set_cons_succ, List.set_cons_zero]
      refine wpAnyH_take (i := 5) (oi := ?oi4) (v := ?vv4) ?hi4 ?hs4 ?hf4 ?ha4 ?hq4 ?hy4 hHeld ?hr4
      case hi4 => (simp only [List.getElem?_toArray, List.getElem?_cons_succ, List.getElem?_cons_zero]; exact rfl)
      case hs4 => kernel_rfl
      case hf4 => kernel_rfl
      case ha4 => kernel_rfl
      case hq4 => exact fun _ _ _ h => h
      case hy4 =>
        refine Or.inl ⟨by rfl, ?_⟩
        intro w' hSw
        try dsimp only at hSw
        go_simp
        first | done | with_reducible rfl
      simp only [Act.put, List.setIfInBounds_toArray, List.set_cons_succ, List.set_cons_zero]
      refine wpAnyH_take (i := 6) (oi := ?oi5) (v := ?vv5) ?hi5 ?hs5 ?hf5 ?ha5 ?hq5 ?hy5 hHeld ?hr5
      case hi5 => (simp only [List.getElem?_toArray, List.getElem?_cons_succ, List.getElem?_cons_zero]; exact rfl)
      case hs5 => kernel_rfl
      case hf5 => kernel_rfl
      case ha5 => kernel_rfl
      case hq5 => exact fun _ _ _ h => h
      case hy5 =>
        refine Or.inl ⟨by rfl, ?_⟩
        intro w' hSw
        try dsimp only at hSw
        go_simp
        first | done | with_reducible rfl
      simp only [Act.put, List.setIfInBounds_toArray, List.set_cons_succ, List.set_cons_zero]
      refine wpAnyH_take (i := 7) (oi := ?oi6) (v := ?vv6) ?hi6 ?hs6 ?hf6 ?ha6 ?hq6 ?hy6 hHeld ?hr6
      case hi6 => (simp only [List.getElem?_toArray, List.getElem?_cons_succ, List.getElem?_cons_zero]; exact rfl)
      case hs6 => kernel_rfl
      case hf6 => kernel_rfl
      case ha6 => kernel_rfl
      case hq6 => exact fun _ _ _ h => h
      case hy6 =>
        refine Or.inl ⟨by rfl, ?_⟩
        intro w' hSw
        try dsimp only at hSw
        go_simp
        first | done | with_reducible rfl
      simp only [Act.put, List.setIfInBounds_toArray, List.set_cons_succ, List.set_cons_zero]
      refine wpAnyH_take (i := 8) (oi := ?oi7) (v := ?vv7) ?hi7 ?hs7 ?hf7 ?ha7 ?hq7 ?hy7 hHeld ?hr7
      case hi7 => (simp only [List.getElem?_toArray, List.getElem?_cons_succ, List.getElem?_cons_zero]; exact rfl)
      case hs7 => kernel_rfl
      case hf7 => kernel_rfl
      case ha7 => kernel_rfl
      case hq7 => exact fun _ _ _ h => h
      case hy7 =>
        refine Or.inl ⟨by rfl, ?_⟩
        intro w' hSw
        try dsimp only at hSw
        go_simp
        first | done | with_reducible rfl
      simp only [Act.put, List.setIfInBounds_toArray, List.set_cons_succ, List.set_cons_zero]
      refine wpAnyH_take (i := 9) (oi := ?oi8) (v := ?vv8) ?hi8 ?hs8 ?hf8 ?ha8 ?hq8 ?hy8 hHeld ?hr8
      case hi8 => (simp only [List.getElem?_toArray, List.getElem?_cons_succ, List.getElem?_cons_zero]; exact rfl)
      case hs8 => kernel_rfl
      case hf8 => kernel_rfl
      case ha8 => kernel_rfl
      case hq8 => exact fun _ _ _ h => h
      case hy8 =>
        refine Or.inl ⟨by rfl, ?_⟩
        intro w' hSw
        try dsimp only at hSw
        go_simp
        first | done | with_reducible rfl
      simp only [Act.put, List.setIfInBounds_toArray, List.set_cons_succ, List.set_cons_zero]
      refine wpAnyH_take (i := 10) (oi := ?oi9) (v := ?vv9) ?hi9 ?hs9 ?hf9 ?ha9 ?hq9 ?hy9 hHeld ?hr9
      case hi9 => (simp only [List.getElem?_toArray, List.getElem?_cons_succ, List.getElem?_cons_zero]; exact rfl)
      case hs9 => kernel_rfl
      case hf9 => kernel_rfl
      case ha9 => kernel_rfl
      case hq9 => exact fun _ _ _ h => h
      case hy9 =>
        refine Or.inl ⟨by rfl, ?_⟩
        intro w' hSw
        try dsimp only at hSw
        go_simp
        first | done | with_reducible rfl
      simp only [Act.put, List.setIfInBounds_toArray, List.set_cons_succ, List.set_cons_zero]
      refine wpAnyH_ready (rs := [0]) (by kernel_rfl) (by simp) ?_
      refine AllReadyH.cons (o := ?ox10) ?hx10 (fun K hK => ?_) AllReadyH.nil
      case hx10 => (simp only [List.getElem?_toArray, List.getElem?_cons_zero]; exact rfl)
      obtain ⟨kx, kr, q0, zz, BB⟩ := hHeld
      go_simp
      have hb9 : Below w4.heap.size w4.drew ((w4.alloc (.cells #[] 3)).drew) := (Below.refl w4.heap.size w4.drew).alloc (Nat.le_refl _) (.cells #[] 3)
      have hA : ((w4.alloc (.cells #[] 3)).drew).ownsRow w4.heap.size 3 1 (.slice (some ⟨w4.heap.size, 0, none⟩) 0 0) 0 [] := World.ownsRow_made w4.drew #[] 0 (Nat.le_refl _) (by unfold maxLen; omega) rfl
      have hAs : ((w4.alloc (.cells #[] 3)).drew).heap.size = w4.heap.size + 1 := hsz w4 _
      refine hK.out _ _ ⟨kx.below hb9 (by omega), kr.below hb9 (by omega), (hb9.cell (by show b1_ < _; omega)).trans q0, Nat.le_trans zz hb9.size, BB.trans (hb9.mono (by omega))⟩ (fun hHeld => ?_)
      clear BB zz q0 kr kx
      clear hb9
      clear hK K
      try simp only [Act.put, List.setIfInBounds_toArray, List.set_cons_zero, List.set_cons_succ]
      refine wpAnyH_ready (rs := [4]) (by kernel_rfl) (by simp) ?_
      refine AllReadyH.cons (o := ?ox11) ?hx11 (fun K hK => ?_) AllReadyH.nil
      case hx11 => (simp only [List.getElem?_toArray, List.getElem?_cons_succ, List.getElem?_cons_zero]; exact rfl)
      obtain ⟨kx, kr, q0, zz, BB⟩ := hHeld
      refine step_append_lies _ rfl _ _ 23 rfl w4.heap.size 3 i0 (.int .i64 0) 1 8 Try.underlying23 hi0 hz0 hz1 hz2 rfl (by decide) _ 0 [] rfl hA ⟨b3_, o3_, none⟩ m c1 (ints (xs.take m)) rfl hl3.out ((kx.take m).news_at (by rw [HTL.out]; omega)) (ints_one _) (by omega) (by unfold maxLen; omega) (by omega) (by omega) (w4.heap.size + 1) hAs ?_
      intro g cp w9 hown9 hgrow9 hat9 hlt9
      have hb9 : Below w4.heap.size ((w4.alloc (.cells #[] 3)).drew) w9 := (Below.refl _ _).grown hgrow9 (by omega) (fun g hg => (hA.lt g hg).1)
      have hn9 : w9.ownsRow w4.heap.size 3 1 (.slice (some ⟨g, 0, none⟩) (xs.take m).length cp) (xs.take m).length (ints (xs.take m)) := by rw [HTL.out]; exact hown9
      obtain ⟨Ag, cg, hAg, _, hog⟩ := own_of_row hn9
      injection hAg with hAg _ _
      subst hAg
      refine hK.out _ _ ⟨kx.below hb9 (by omega), kr.below hb9 (by omega), (hb9.cell (by show b1_ < _; omega)).trans q0, Nat.le_trans zz hb9.size, BB.trans (hb9.mono (by omega))⟩ (fun hHeld => ?_)
      clear BB zz q0 kr kx
      clear hb9 hn9 hown9 hgrow9 hA hAs
      clear hK K
      try simp only [Act.put, List.setIfInBounds_toArray, List.set_cons_zero, List.set_cons_succ]
      refine wpAnyH_ready (rs := [11]) (by kernel_rfl) (by simp) ?_
      refine AllReadyH.cons rfl (fun K hK => ?_) AllReadyH.nil
      go_simp
      go_at_call 28
      obtain ⟨kx, kr, q0, zz, BB⟩ := hHeld
      (with_reducible refine (implEvenRow_at (some ⟨g, 0, none⟩) cg m (xs.take m) (E - V) _ _ _ HTM.out hog.ints (Nat.le_refl _) HER.out.1 HER.out.2).mono ?_)
      rintro e w5_ ⟨Ab, cb, rfl, hob, hb9⟩
      refine hK.out _ _ ⟨kx.below hb9 (by omega), kr.below hb9 (by omega), (hb9.cell (by show b1_ < _; omega)).trans q0, Nat.le_trans zz hb9.size, BB.trans (hb9.mono (by omega))⟩ (fun hHeld => ?_)
      clear hb9 BB zz q0 kr kx
      clear hK K
      try simp only [Act.put, List.setIfInBounds_toArray, List.set_cons_zero, List.set_cons_succ]
      refine wpAnyH_take (i := 12) (oi := ?oi12) (v := ?vv12) ?hi12 ?hs12 ?hf12 ?ha12 ?hq12 ?hy12 hHeld ?hr12
      case hi12 => (simp only [List.getElem?_toArray, List.getElem?_cons_succ, List.getElem?_cons_zero]; exact rfl)
      case hs12 => kernel_rfl
      case hf12 => kernel_rfl
      case ha12 => kernel_rfl
      case hq12 => exact fun _ _ _ h => h
      case hy12 =>
        refine Or.inl ⟨by rfl, ?_⟩
        intro w' hSw
        try dsimp only at hSw
        go_simp
        first | done | with_reducible rfl
      simp only [Act.put, List.setIfInBounds_toArray, List.set_cons_succ, List.set_cons_zero]
      refine wpAnyH_take (i := 13) (oi := ?oi13) (v := ?vv13) ?hi13 ?hs13 ?hf13 ?ha13 ?hq13 ?hy13 hHeld ?hr13
      case hi13 => (simp only [List.getElem?_toArray, List.getElem?_cons_succ, List.getElem?_cons_zero]; exact rfl)
      case hs13 => kernel_rfl
      case hf13 => kernel_rfl
      case ha13 => kernel_rfl
      case hq13 => exact fun _ _ _ h => h
      case hy13 =>
        refine Or.inl ⟨by rfl, ?_⟩
        intro w' hSw
        try dsimp only at hSw
        go_simp
        first | done | with_reducible rfl
      simp only [Act.put, List.setIfInBounds_toArray, List.set_cons_succ, List.set_cons_zero]
      refine wpAnyH_take (i := 14) (oi := ?oi14) (v := ?vv14) ?hi14 ?hs14 ?hf14 ?ha14 ?hq14 ?hy14 hHeld ?hr14
      case hi14 => (simp only [List.getElem?_toArray, List.getElem?_cons_succ, List.getElem?_cons_zero]; exact rfl)
      case hs14 => kernel_rfl
      case hf14 => kernel_rfl
      case ha14 => kernel_rfl
      case hq14 => exact fun _ _ _ h => h
      case hy14 =>
        refine Or.inl ⟨by rfl, ?_⟩
        intro w' hSw
        try dsimp only at hSw
        go_simp
        first | done | with_reducible rfl
      simp only [Act.put, List.setIfInBounds_toArray, List.set_cons_succ, List.set_cons_zero]
      refine wpAnyH_take (i := 15) (oi := ?oi15) (v := ?vv15) ?hi15 ?hs15 ?hf15 ?ha15 ?hq15 ?hy15 hHeld ?hr15
      case hi15 => (simp only [List.getElem?_toArray, List.getElem?_cons_succ, List.getElem?_cons_zero]; exact rfl)
      case hs15 => kernel_rfl
      case hf15 => kernel_rfl
      case ha15 => kernel_rfl
      case hq15 => exact fun _ _ _ h => h
      case hy15 =>
        refine Or.inl ⟨by rfl, ?_⟩
        intro w' hSw
        try dsimp only at hSw
        go_simp
        first | done | with_reducible rfl
      simp only [Act.put, List.setIfInBounds_toArray, List.set_cons_succ, List.set_cons_zero]
      refine wpAnyH_take (i := 16) (oi := ?oi16) (v := ?vv16) ?hi16 ?hs16 ?hf16 ?ha16 ?hq16 ?hy16 hHeld ?hr16
      case hi16 => (simp only [List.getElem?_toArray, List.getElem?_cons_succ, List.getElem?_cons_zero]; exact rfl)
      case hs16 => kernel_rfl
      case hf16 => kernel_rfl
      case ha16 => kernel_rfl
      case hq16 => exact fun _ _ _ h => h
      case hy16 =>
        refine Or.inl ⟨by rfl, ?_⟩
        intro w' hSw
        try dsimp only at hSw
        go_simp
        first | done | with_reducible rfl
      simp only [Act.put, List.setIfInBounds_toArray, List.set_cons_succ, List.set_cons_zero]
      refine wpAnyH_done (by kernel_rfl) ?_ _
      obtain ⟨kx, kr, q0, zz, BB⟩ := hHeld
      have hA2 : (w5_.alloc (.cells #[] 3)).ownsRow w5_.heap.size 3 1 (.slice (some ⟨w5_.heap.size, 0, none⟩) 0 0) 0 [] := World.ownsRow_made w5_ #[] 0 (Nat.le_refl _) (by unfold maxLen; omega) rfl
      have hs2 : w5_.heap.size ≤ (w5_.alloc (.cells #[] 3)).heap.size := by rw [hsz]; omega
      have k2 := kr.alloc (by omega) (.cells #[] 3)
      have ob2 := hob.alloc (Nat.le_refl _) (.cells #[] 3)
      have B2_ := BB.alloc (by omega) (.cells #[] 3)
      go_wp2_with (at_builtin; (refine wpList_append_want (by rfl) _ _ 23 rfl w5_.heap.size 3 i0 (.int .i64 0) 1 8 Try.underlying23 hi0 hz0 hz1 hz2 rfl (by decide) _ 0 [] rfl hA2 ⟨b1_, o1_, none⟩ m c2 (ints ((evenOf xs E).take m)) rfl HL4.out ((k2.take m).news_at (by rw [HT4.out]; omega)) (ints_one _) (by unfold maxLen; omega) (by omega) hs2 ?_; intro v2 w10 hown10 hgrow10 hnil10))
      have hb10 : Below w5_.heap.size (w5_.alloc (.cells #[] 3)) w10 := (Below.refl _ _).grown hgrow10 hs2 (fun g hg => (hA2.lt g hg).1)
      have hn10 : w10.ownsRow w5_.heap.size 3 1 v2 ((evenOf xs E).take m).length (ints ((evenOf xs E).take m)) := by
        have e9 := hown10
        simp only [Nat.zero_add, List.nil_append] at e9
        rw [HT4.out]
        exact e9
      obtain ⟨Ar, cr, rfl, ho10⟩ := own_end2 hn10
      rw [HT4.out]
      have o11 := ob2.below hb10 (Nat.le_refl _)
      have B3_ := B2_.trans (hb10.mono (by omega))
      have z10 := hb10.size
      rw [hsz] at z10
      clear hn10 hown10 hgrow10 hA2 k2 ob2 B2_ hb10
      go_wp2_with fail
      refine (sameInts_at Ab Ar cb cr m m ((evenOf xs E).take m) HT4.out HT4.out _ _ _ _ _ o11.ints ho10.ints (by omega)).mono ?_
      rintro e w11 ⟨rfl, hb11⟩
      go_wp2
      go_ret
      exact ⟨rfl, B3_.trans (hb11.mono (by omega))⟩
  · have hb' : evenB xs E = false := by simpa using hb
    have HB := Lib.hid hb'
    have HX : Hid (evenXs xs E = []) := by show _ = _; simp [evenXs, hb']
    clear hb hb'
    go_wp2_with fail
    refine (implEvenRow_no A1 c1 xs E _ _ _ ho1.ints (by first | omega | (simp; omega) | simp) hxl HB.out).mono ?_
    rintro e w2 ⟨A2, c2, rfl, ho2, hb2⟩
    have o3 := ho1.below hb2 (by first | omega | (simp; omega) | simp)
    have hz4 := hb2.size
    have B5 := B2.trans (hb2.mono (by first | omega | (simp; omega) | simp))
    clear hb2
    go_wp2_with fail
    refine (specEvenRow_is A1 c1 xs E _ _ _ o3.ints (by first | omega | (simp; omega) | simp) hxl HX.out HB.out).mono ?_
    rintro e w3 ⟨A3, c3, rfl, ho3, hb3⟩
    have o6 := o3.below hb3 (by first | omega | (simp; omega) | simp)
    have o7 := ho2.below hb3 (by first | omega | (simp; omega) | simp)
    have hz8 := hb3.size
    have B9 := B5.trans (hb3.mono (by first | omega | (simp; omega) | simp))
    clear hb3
    go_wp2_with fail
    refine (sameInts_below A2 A3 c2 c3 ([] : List Int) _ 0 0 0 0 Ints.nil Ints.nil (by simp)).mono ?_
    rintro e w4 ⟨rfl, hb4⟩
    have o10 := o6.below hb4 (by first | omega | (simp; omega) | simp)
    have o11 := o7.below hb4 (by first | omega | (simp; omega) | simp)
    have o12 := ho3.below hb4 (by first | omega | (simp; omega) | simp)
    have hz13 := hb4.size
    have B14 := B9.trans (hb4.mono (by first | omega | (simp; omega) | simp))
    clear hb4
    go_wp2_with fail
    refine (alive_any _).mono ?_
    rintro e w5 ⟨rfl, hb5⟩
    have o15 := o10.below hb5 (by first | omega | (simp; omega) | simp)
    have o16 := o11.below hb5 (by first | omega | (simp; omega) | simp)
    have o17 := o12.below hb5 (by first | omega | (simp; omega) | simp)
    have hz18 := hb5.size
    have B19 := B14.trans (hb5.mono (by first | omega | (simp; omega) | simp))
    clear hb5
    go_wp2
    go_ret
    exact ⟨rfl, B19⟩

set_option maxRecDepth 10000 in
set_option maxHeartbeats 400000 in
theorem fnEvenRow_big (A0 : Option Addr) (c0 : Nat) (bs : List Int) (w : World) (hl : ¬ bs.length ≤ 1048576) (hm : bs.length ≤ 9223372036854775807) :
    Calls Try.prog 6 #[.slice A0 bs.length c0] w fun e w' => e = .returned (.bool true) ∧ Below w.heap.size w w' := by
  go_enter Try.func6, Try.ntmps6
  go_wp2
  go_ret
  exact ⟨rfl, Below.refl _ _⟩

theorem fnEvenRow_all (A0 : Option Addr) (c0 : Nat) (bs : List Int) (w : World) (h0 : Bytes w w.heap.size A0 bs) (hm : bs.length ≤ 9223372036854775807) (hc0 : bs.length ≤ c0) :
    Calls Try.prog 6 #[.slice A0 bs.length c0] w fun e w' => e = .returned (.bool true) ∧ Below w.heap.size w w' := by
  by_cases hl : bs.length ≤ 1048576
  · exact fnEvenRow_walk A0 c0 bs w h0 hl hc0
  · exact fnEvenRow_big A0 c0 bs w hl hm

end Go.Proofs.Ytjoalilapbleiaa
