/-
  The law of the level of half awards returns true for every code, and writes nothing that was there. No condition.
-/
import Derived.Test.YtngalomfljoomaaDrawP
import Derived.Test.YtngalomfljoomaaGA
import Derived.Test.YtngalomfljoomaaHalfI
import Derived.Test.YtngalomfljoomaaHalfLv
import Derived.Test.YtngalomfljoomaaGB
import Derived.Deep.RegionHeld3
namespace Go.Proofs.Ytngalomfljoomaa
open Go.RowKit

set_option maxRecDepth 10000 in
set_option maxHeartbeats 2000000 in
theorem fnHalfLevel_walk (A0 : Option Addr) (c0 : Nat) (bs : List Int) (w : World) (h0 : Bytes w w.heap.size A0 bs) (hl : bs.length ≤ 1048576) (hc0 : bs.length ≤ c0) :
    Calls Try.prog 6 #[.slice A0 bs.length c0] w fun e w' => e = .returned (.bool true) ∧ Below w.heap.size w w' := by
  have hlm : bs.length ≤ 9223372036854775807 := by omega
  go_enter Try.func6, Try.ntmps6
  go_wp2_with fail
  refine (drawHalfLevel_any A0 c0 bs _ h0 hlm hc0).mono ?_
  rintro e w1 ⟨E, A1, c1, xs, hx5, rfl, ho1, hb1⟩
  have hz1 := hb1.size
  have B2 := (Below.refl w.heap.size w).trans (hb1.mono (by first | omega | (simp; omega) | simp))
  clear hb1
  have x3 := new2 w1 (.int .i64 E) (.slice A1 xs.length c1) 25
  have o4 := ho1.alloc (by omega) (.cells #[.int .i64 E, .slice A1 xs.length c1] 25)
  have B5 := B2.alloc (by omega) (.cells #[.int .i64 E, .slice A1 xs.length c1] 25)
  have hl5 : xs.length ≤ 1152921504606846976 := by omega
  obtain ⟨a6, a6'⟩ := x3
  by_cases hok : caseOkB E xs = true
  · have hok' := hok
    have HO := Lib.hid hok'
    have hbd := caseOk_bd hok'
    have hsm := caseOk_small hok'
    have HP := Lib.hid (other_ok hok')
    obtain ⟨V, hV⟩ : ∃ V, halfLv E xs = V := ⟨_, rfl⟩
    have hlv := halfLv_bd hok'
    have hmo := half_most hok'
    have hmb := mostTo_bd xs 12 (fun x hx => ((caseOk_iff E xs).1 hok').2.2.1 x hx) (by omega) xs.length
    rw [hV] at hlv hmo
    have HV := Lib.hid hV
    have HV2 : Hid (halfLv (xs.sum - E) xs = V) := (halfLv_other E xs).trans hV
    have hVV : (V == V) = true := by simp
    have hnz : (V != V) = false := by simp
    obtain ⟨M, hM⟩ : ∃ M, mostTo xs xs.length = M := ⟨_, rfl⟩
    rw [hM] at hmo hmb
    have HM := Lib.hid hM
    have hw2E : IntKind.i64.wrap (2 * E) = 2 * E := IntWalk.i64_in _ (by omega)
    have hw2V : IntKind.i64.wrap (2 * V) = 2 * V := IntWalk.i64_in _ (by omega)
    have hw48 : IntKind.i64.wrap (48 * M) = 48 * M := IntWalk.i64_in _ (by omega)
    have hdle : decide (2 * V ≤ 48 * M) = true := by simpa using hmo.1
    have HQ : Hid (2 * E = xs.sum → (2 * V == 48 * M) = true) := fun h => by simpa using hmo.2 h
    clear hok hok' hV hmo hM
    go_wp2_with fail
    refine (implLv_is E A1 c1 xs V _ _ _ o4.ints (by first | omega | (simp; omega) | simp) HO.out HV.out).mono ?_
    rintro e w2 ⟨rfl, hb2⟩
    obtain ⟨a7, a7'⟩ := keep2 hb2 ⟨a6, a6'⟩ (by first | omega | (simp; omega) | simp)
    have o8 := o4.below hb2 (by first | omega | (simp; omega) | simp)
    have hz9 := hb2.size
    simp at hz9
    have B10 := B5.trans (hb2.mono (by first | omega | (simp; omega) | simp))
    clear hb2
    have z11 : w1.heap.size < w2.heap.size := by omega
    go_wp2_with fail
    refine (specLv_is E A1 c1 xs V _ _ _ o8.ints (by first | omega | (simp; omega) | simp) HO.out HV.out).mono ?_
    rintro e w3 ⟨rfl, hb3⟩
    obtain ⟨a12, a12'⟩ := keep2 hb3 ⟨a7, a7'⟩ (by first | omega | (simp; omega) | simp)
    have o13 := o8.below hb3 (by first | omega | (simp; omega) | simp)
    have hz14 := hb3.size
    have B15 := B10.trans (hb3.mono (by first | omega | (simp; omega) | simp))
    clear hb3
    have z16 : w1.heap.size < w3.heap.size := by omega
    go_wp2_with fail
    refine (implOtherCase_yes E A1 c1 xs _ _ _ o13.ints (by first | omega | (simp; omega) | simp) HO.out).mono ?_
    rintro e w4 ⟨A4, c4, rfl, ho4, hb4⟩
    obtain ⟨a17, a17'⟩ := keep2 hb4 ⟨a12, a12'⟩ (by first | omega | (simp; omega) | simp)
    have o18 := o13.below hb4 (by first | omega | (simp; omega) | simp)
    have hz19 := hb4.size
    have B20 := B15.trans (hb4.mono (by first | omega | (simp; omega) | simp))
    clear hb4
    have z21 : w1.heap.size < w4.heap.size := by omega
    have x22 := new2 w4 (.int .i64 (xs.sum - E)) (.slice A4 xs.length c4) 25
    have q23 := keep2 ((Below.refl w4.heap.size w4).alloc (Nat.le_refl _) (.cells #[.int .i64 (xs.sum - E), .slice A4 xs.length c4] 25)) ⟨a17, a17'⟩ (by omega)
    have o24 := o18.alloc (by omega) (.cells #[.int .i64 (xs.sum - E), .slice A4 xs.length c4] 25)
    have o25 := ho4.alloc (by omega) (.cells #[.int .i64 (xs.sum - E), .slice A4 xs.length c4] 25)
    have B26 := B20.alloc (by omega) (.cells #[.int .i64 (xs.sum - E), .slice A4 xs.length c4] 25)
    obtain ⟨a27, a27'⟩ := q23
    obtain ⟨a28, a28'⟩ := x22
    go_wp2
    go_loopw [7, 8] (fun m i wr => ∃ k : Nat, k ≤ xs.length ∧ i = .int .i64 k ∧ m = .int .i64 (mostTo xs k) ∧ Below (w4.alloc (.cells #[.int .i64 (xs.sum - E), .slice A4 xs.length c4] 25)).heap.size (w4.alloc (.cells #[.int .i64 (xs.sum - E), .slice A4 xs.length c4] 25)) wr) (fun _ i _ => xs.length - (intOf i).toNat)
    case atStart => exact ⟨0, Nat.zero_le _, rfl, rfl, Below.refl _ _⟩
    case round =>
      obtain ⟨k, hk, rfl, rfl, hbl⟩ := hrel
      obtain ⟨w5, rfl⟩ : ∃ x, x = wr := ⟨_, rfl⟩
      have hbl0 := hbl
      obtain ⟨a29, a29'⟩ := keep2 hbl ⟨a27, a27'⟩ (by first | omega | (simp; omega) | simp)
      obtain ⟨a30, a30'⟩ := keep2 hbl ⟨a28, a28'⟩ (by first | omega | (simp; omega) | simp)
      have o31 := o24.below hbl (by first | omega | (simp; omega) | simp)
      have o32 := o25.below hbl (by first | omega | (simp; omega) | simp)
      have hz33 := hbl.size
      simp at hz33
      have B34 := B26.trans (hbl.mono (by first | omega | (simp; omega) | simp))
      clear hbl
      have z35 : w1.heap.size < w5.heap.size := by omega
      have z36 : w4.heap.size < w5.heap.size := by omega
      by_cases hlt : k < xs.length
      · obtain ⟨b1_, o1_, rfl, _, hbh1, hc1⟩ := o31.ints.at_ hlt
        have HS : Hid (mostTo xs (k + 1) = max (mostTo xs k) (xs[k])) := by show _ = _; simp only [mostTo]; rw [getD_of_lt _ k hlt]
        have H := Lib.hid hbl0
        clear hbl0
        generalize mostTo xs k = mk at HS
        generalize xs[k] = rk at hc1 HS
        go_wp2
        go_roundw
        case rel => exact ⟨k + 1, by omega, by go_num, by rw [HS.out], H.out⟩
        case measure => simp [intOf] <;> omega
      · obtain rfl : k = xs.length := by omega
        clear hbl0
        rw [HM.out]
        by_cases h2E : 2 * E = xs.sum
        · have hne : (2 * E != xs.sum) = false := by rw [h2E]; simp
          have hq2 := HQ.out h2E
          clear h2E
          go_wp2_with fail
          have hWW : w.heap.size ≤ w5.heap.size := by first | omega | (simp; omega) | simp
          have g_c : w1.heap.size < w5.heap.size := by first | omega | (simp; omega) | simp
          have g_o : w4.heap.size < w5.heap.size := by first | omega | (simp; omega) | simp
          have g_kc : w1.heap.size ≤ w5.heap.size := by first | omega | (simp; omega) | simp
          have g_ko : w4.heap.size ≤ w5.heap.size := by first | omega | (simp; omega) | simp
          refine wp_region_held_drew (S := (fun w' : World => w'.cell? ⟨w1.heap.size, 0, none⟩ = some (.int .i64 E) ∧ w'.cell? ⟨w1.heap.size, 1, none⟩ = some (.slice A1 xs.length c1) ∧ w'.cell? ⟨w4.heap.size, 0, none⟩ = some (.int .i64 (xs.sum - E)) ∧ w'.cell? ⟨w4.heap.size, 1, none⟩ = some (.slice A4 xs.length c4) ∧ Ints w' (w.heap.size) (w1.heap.size) (A1) (xs) ∧ Ints w' (w3.heap.size) (w4.heap.size) (A4) (xs) ∧ w5.heap.size ≤ w'.heap.size ∧ Below w.heap.size w w')) (by kernel_rfl) ⟨a29, a29', a30, a30', o31.ints, o32.ints, Nat.le_refl _, B34.drew⟩ (fun hHeld => ?_)
          refine wpAnyH_take (i := 0) (oi := ?oi152) (v := ?vv152) ?hi152 ?hs152 ?hf152 ?ha152 ?hq152 ?hy152 hHeld ?hr152
          case hi152 => (simp only [List.getElem?_toArray, List.getElem?_cons_zero]; exact rfl)
          case hs152 => kernel_rfl
          case hf152 => kernel_rfl
          case ha152 => kernel_rfl
          case hq152 => exact fun _ _ _ h => h
          case hy152 =>
            refine Or.inl ⟨by rfl, ?_⟩
            intro w' hSw
            try dsimp only at hSw
            go_simp
            first | done | with_reducible rfl
          simp only [Act.put, List.setIfInBounds_toArray, List.set_cons_succ, List.set_cons_zero]
          refine wpAnyH_take (i := 1) (oi := ?oi153) (v := ?vv153) ?hi153 ?hs153 ?hf153 ?ha153 ?hq153 ?hy153 hHeld ?hr153
          case hi153 => (simp only [List.getElem?_toArray, List.getElem?_cons_succ, List.getElem?_cons_zero]; exact rfl)
          case hs153 => kernel_rfl
          case hf153 => kernel_rfl
          case ha153 => kernel_rfl
          case hq153 => exact fun _ _ _ h => h
          case hy153 =>
            refine Or.inl ⟨by rfl, ?_⟩
            intro w' hSw
            try dsimp only at hSw
            go_simp
            first | done | with_reducible rfl
          simp only [Act.put, List.setIfInBounds_toArray, List.set_cons_succ, List.set_cons_zero]
          refine wpAnyH_take (i := 2) (oi := ?oi154) (v := ?vv154) ?hi154 ?hs154 ?hf154 ?ha154 ?hq154 ?hy154 hHeld ?hr154
          case hi154 => (simp only [List.getElem?_toArray, List.getElem?_cons_succ, List.getElem?_cons_zero]; exact rfl)
          case hs154 => kernel_rfl
          case hf154 => kernel_rfl
          case ha154 => kernel_rfl
          case hq154 => exact fun _ _ _ h => h
          case hy154 =>
            refine Or.inl ⟨by rfl, ?_⟩
            intro w' hSw
            try dsimp only at hSw
            go_simp
            first | done | with_reducible rfl
          simp only [Act.put, List.setIfInBounds_toArray, List.set_cons_succ, List.set_cons_zero]
          refine wpAnyH_take (i := 4) (oi := ?oi155) (v := ?vv155) ?hi155 ?hs155 ?hf155 ?ha155 ?hq155 ?hy155 hHeld ?hr155
          case hi155 => (simp only [List.getElem?_toArray, List.getElem?_cons_succ, List.getElem?_cons_zero]; exact rfl)
          case hs155 => kernel_rfl
          case hf155 => kernel_rfl
          case ha155 => kernel_rfl
          case hq155 => exact fun _ _ _ h => h
          case hy155 =>
            refine Or.inl ⟨by rfl, ?_⟩
            intro w' hSw
            try dsimp only at hSw
            go_simp
            first | done | with_reducible rfl
          simp only [Act.put, List.setIfInBounds_toArray, List.set_cons_succ, List.set_cons_zero]
          refine wpAnyH_ready (rs := [3]) (by kernel_rfl) (by simp) ?_
          refine AllReadyH.cons rfl (fun K hK => ?_) AllReadyH.nil
          go_simp
          go_at_call 31
          obtain ⟨y0, y1, y2, y3, kc, ko, zz, BB⟩ := hHeld
          (with_reducible refine (implLv_is (xs.sum - E) A4 c4 xs V _ _ _ ko (by omega) HP.out HV2.out).mono ?_)
          rintro e w6_ ⟨rfl, hb9⟩
          refine hK.out _ _ ⟨(keep2 hb9 ⟨y0, y1⟩ (by omega)).1, (keep2 hb9 ⟨y0, y1⟩ (by omega)).2, (keep2 hb9 ⟨y2, y3⟩ (by omega)).1, (keep2 hb9 ⟨y2, y3⟩ (by omega)).2, kc.below hb9 (by omega), ko.below hb9 (by omega), Nat.le_trans zz hb9.size, BB.trans (hb9.mono (by omega))⟩ (fun hHeld => ?_)
          clear hb9 BB zz ko kc y3 y2 y1 y0
          clear hK K
          try simp only [Act.put, List.setIfInBounds_toArray, List.set_cons_zero, List.set_cons_succ]
          refine wpAnyH_take (i := 5) (oi := ?oi156) (v := ?vv156) ?hi156 ?hs156 ?hf156 ?ha156 ?hq156 ?hy156 hHeld ?hr156
          case hi156 => (simp only [List.getElem?_toArray, List.getElem?_cons_succ, List.getElem?_cons_zero]; exact rfl)
          case hs156 => kernel_rfl
          case hf156 => kernel_rfl
          case ha156 => kernel_rfl
          case hq156 => exact fun _ _ _ h => h
          case hy156 =>
            refine Or.inl ⟨by rfl, ?_⟩
            intro w' hSw
            try dsimp only at hSw
            go_simp
            first | done | with_reducible rfl
          simp only [Act.put, List.setIfInBounds_toArray, List.set_cons_succ, List.set_cons_zero]
          refine wpAnyH_take (i := 6) (oi := ?oi157) (v := ?vv157) ?hi157 ?hs157 ?hf157 ?ha157 ?hq157 ?hy157 hHeld ?hr157
          case hi157 => (simp only [List.getElem?_toArray, List.getElem?_cons_succ, List.getElem?_cons_zero]; exact rfl)
          case hs157 => kernel_rfl
          case hf157 => kernel_rfl
          case ha157 => kernel_rfl
          case hq157 => exact fun _ _ _ h => h
          case hy157 =>
            refine Or.inl ⟨by rfl, ?_⟩
            intro w' hSw
            try dsimp only at hSw
            go_simp
            first | done | with_reducible rfl
          simp only [Act.put, List.setIfInBounds_toArray, List.set_cons_succ, List.set_cons_zero]
          refine wpAnyH_take (i := 7) (oi := ?oi158) (v := ?vv158) ?hi158 ?hs158 ?hf158 ?ha158 ?hq158 ?hy158 hHeld ?hr158
          case hi158 => (simp only [List.getElem?_toArray, List.getElem?_cons_succ, List.getElem?_cons_zero]; exact rfl)
          case hs158 => kernel_rfl
          case hf158 => kernel_rfl
          case ha158 => kernel_rfl
          case hq158 => exact fun _ _ _ h => h
          case hy158 =>
            refine Or.inl ⟨by rfl, ?_⟩
            intro w' hSw
            try dsimp only at hSw
            go_simp
            first | done | with_reducible rfl
          simp only [Act.put, List.setIfInBounds_toArray, List.set_cons_succ, List.set_cons_zero]
          refine wpAnyH_take (i := 8) (oi := ?oi159) (v := ?vv159) ?hi159 ?hs159 ?hf159 ?ha159 ?hq159 ?hy159 hHeld ?hr159
          case hi159 => (simp only [List.getElem?_toArray, List.getElem?_cons_succ, List.getElem?_cons_zero]; exact rfl)
          case hs159 => kernel_rfl
          case hf159 => kernel_rfl
          case ha159 => kernel_rfl
          case hq159 => exact fun _ _ _ h => h
          case hy159 =>
            refine Or.inl ⟨by rfl, ?_⟩
            intro w' hSw
            try dsimp only at hSw
            go_simp
            first | done | with_reducible rfl
          simp only [Act.put, List.setIfInBounds_toArray, List.set_cons_succ, List.set_cons_zero]
          refine wpAnyH_take (i := 9) (oi := ?oi160) (v := ?vv160) ?hi160 ?hs160 ?hf160 ?ha160 ?hq160 ?hy160 hHeld ?hr160
          case hi160 => (simp only [List.getElem?_toArray, List.getElem?_cons_succ, List.getElem?_cons_zero]; exact rfl)
          case hs160 => kernel_rfl
          case hf160 => kernel_rfl
          case ha160 => kernel_rfl
          case hq160 => exact fun _ _ _ h => h
          case hy160 =>
            refine Or.inl ⟨by rfl, ?_⟩
            intro w' hSw
            try dsimp only at hSw
            go_simp
            first | done | with_reducible rfl
          simp only [Act.put, List.setIfInBounds_toArray, List.set_cons_succ, List.set_cons_zero]
          refine wpAnyH_take (i := 10) (oi := ?oi161) (v := ?vv161) ?hi161 ?hs161 ?hf161 ?ha161 ?hq161 ?hy161 hHeld ?hr161
          case hi161 => (simp only [List.getElem?_toArray, List.getElem?_cons_succ, List.getElem?_cons_zero]; exact rfl)
          case hs161 => kernel_rfl
          case hf161 => kernel_rfl
          case ha161 => kernel_rfl
          case hq161 => exact fun _ _ _ h => h
          case hy161 =>
            refine Or.inl ⟨by rfl, ?_⟩
            intro w' hSw
            try dsimp only at hSw
            go_simp
            first | done | with_reducible rfl
          simp only [Act.put, List.setIfInBounds_toArray, List.set_cons_succ, List.set_cons_zero]
          refine wpAnyH_take (i := 11) (oi := ?oi162) (v := ?vv162) ?hi162 ?hs162 ?hf162 ?ha162 ?hq162 ?hy162 hHeld ?hr162
          case hi162 => (simp only [List.getElem?_toArray, List.getElem?_cons_succ, List.getElem?_cons_zero]; exact rfl)
          case hs162 => kernel_rfl
          case hf162 => kernel_rfl
          case ha162 => kernel_rfl
          case hq162 => exact fun _ _ _ h => h
          case hy162 =>
            refine Or.inl ⟨by rfl, ?_⟩
            intro w' hSw
            try dsimp only at hSw
            go_simp
            first | done | with_reducible rfl
          simp only [Act.put, List.setIfInBounds_toArray, List.set_cons_succ, List.set_cons_zero]
          refine wpAnyH_take (i := 12) (oi := ?oi163) (v := ?vv163) ?hi163 ?hs163 ?hf163 ?ha163 ?hq163 ?hy163 hHeld ?hr163
          case hi163 => (simp only [List.getElem?_toArray, List.getElem?_cons_succ, List.getElem?_cons_zero]; exact rfl)
          case hs163 => kernel_rfl
          case hf163 => kernel_rfl
          case ha163 => kernel_rfl
          case hq163 => exact fun _ _ _ h => h
          case hy163 =>
            refine Or.inl ⟨by rfl, ?_⟩
            intro w' hSw
            try dsimp only at hSw
            go_simp
            first | done | with_reducible rfl
          simp only [Act.put, List.setIfInBounds_toArray, List.set_cons_succ, List.set_cons_zero]
          refine wpAnyH_take (i := 13) (oi := ?oi164) (v := ?vv164) ?hi164 ?hs164 ?hf164 ?ha164 ?hq164 ?hy164 hHeld ?hr164
          case hi164 => (simp only [List.getElem?_toArray, List.getElem?_cons_succ, List.getElem?_cons_zero]; exact rfl)
          case hs164 => kernel_rfl
          case hf164 => kernel_rfl
          case ha164 => kernel_rfl
          case hq164 => exact fun _ _ _ h => h
          case hy164 =>
            refine Or.inl ⟨by rfl, ?_⟩
            intro w' hSw
            try dsimp only at hSw
            go_simp
            first | done | with_reducible rfl
          simp only [Act.put, List.setIfInBounds_toArray, List.set_cons_succ, List.set_cons_zero]
          refine wpAnyH_take (i := 14) (oi := ?oi165) (v := ?vv165) ?hi165 ?hs165 ?hf165 ?ha165 ?hq165 ?hy165 hHeld ?hr165
          case hi165 => (simp only [List.getElem?_toArray, List.getElem?_cons_succ, List.getElem?_cons_zero]; exact rfl)
          case hs165 => kernel_rfl
          case hf165 => kernel_rfl
          case ha165 => kernel_rfl
          case hq165 => exact fun _ _ _ h => h
          case hy165 =>
            refine Or.inl ⟨by rfl, ?_⟩
            intro w' hSw
            try dsimp only at hSw
            go_simp
            first | done | with_reducible rfl
          simp only [Act.put, List.setIfInBounds_toArray, List.set_cons_succ, List.set_cons_zero]
          refine wpAnyH_take (i := 15) (oi := ?oi166) (v := ?vv166) ?hi166 ?hs166 ?hf166 ?ha166 ?hq166 ?hy166 hHeld ?hr166
          case hi166 => (simp only [List.getElem?_toArray, List.getElem?_cons_succ, List.getElem?_cons_zero]; exact rfl)
          case hs166 => kernel_rfl
          case hf166 => kernel_rfl
          case ha166 => kernel_rfl
          case hq166 => exact fun _ _ _ h => h
          case hy166 =>
            refine Or.inl ⟨by rfl, ?_⟩
            intro w' hSw
            try dsimp only at hSw
            go_simp
            first | done | with_reducible rfl
          simp only [Act.put, List.setIfInBounds_toArray, List.set_cons_succ, List.set_cons_zero]
          refine wpAnyH_take (i := 16) (oi := ?oi167) (v := ?vv167) ?hi167 ?hs167 ?hf167 ?ha167 ?hq167 ?hy167 hHeld ?hr167
          case hi167 => (simp only [List.getElem?_toArray, List.getElem?_cons_succ, List.getElem?_cons_zero]; exact rfl)
          case hs167 => kernel_rfl
          case hf167 => kernel_rfl
          case ha167 => kernel_rfl
          case hq167 => exact fun _ _ _ h => h
          case hy167 =>
            refine Or.inl ⟨by rfl, ?_⟩
            intro w' hSw
            try dsimp only at hSw
            go_simp
            first | done | with_reducible rfl
          simp only [Act.put, List.setIfInBounds_toArray, List.set_cons_succ, List.set_cons_zero]
          refine wpAnyH_take (i := 17) (oi := ?oi168) (v := ?vv168) ?hi168 ?hs168 ?hf168 ?ha168 ?hq168 ?hy168 hHeld ?hr168
          case hi168 => (simp only [List.getElem?_toArray, List.getElem?_cons_succ, List.getElem?_cons_zero]; exact rfl)
          case hs168 => kernel_rfl
          case hf168 => kernel_rfl
          case ha168 => kernel_rfl
          case hq168 => exact fun _ _ _ h => h
          case hy168 =>
            refine Or.inl ⟨by rfl, ?_⟩
            intro w' hSw
            try dsimp only at hSw
            go_simp
            first | done | with_reducible rfl
          simp only [Act.put, List.setIfInBounds_toArray, List.set_cons_succ, List.set_cons_zero]
          refine wpAnyH_take (i := 18) (oi := ?oi169) (v := ?vv169) ?hi169 ?hs169 ?hf169 ?ha169 ?hq169 ?hy169 hHeld ?hr169
          case hi169 => (simp only [List.getElem?_toArray, List.getElem?_cons_succ, List.getElem?_cons_zero]; exact rfl)
          case hs169 => kernel_rfl
          case hf169 => kernel_rfl
          case ha169 => kernel_rfl
          case hq169 => exact fun _ _ _ h => h
          case hy169 =>
            refine Or.inl ⟨by rfl, ?_⟩
            intro w' hSw
            try dsimp only at hSw
            go_simp
            first | done | with_reducible rfl
          simp only [Act.put, List.setIfInBounds_toArray, List.set_cons_succ, List.set_cons_zero]
          refine wpAnyH_take (i := 19) (oi := ?oi170) (v := ?vv170) ?hi170 ?hs170 ?hf170 ?ha170 ?hq170 ?hy170 hHeld ?hr170
          case hi170 => (simp only [List.getElem?_toArray, List.getElem?_cons_succ, List.getElem?_cons_zero]; exact rfl)
          case hs170 => kernel_rfl
          case hf170 => kernel_rfl
          case ha170 => kernel_rfl
          case hq170 => exact fun _ _ _ h => h
          case hy170 =>
            refine Or.inl ⟨by rfl, ?_⟩
            intro w' hSw
            try dsimp only at hSw
            go_simp
            first | done | with_reducible rfl
          simp only [Act.put, List.setIfInBounds_toArray, List.set_cons_succ, List.set_cons_zero]
          refine wpAnyH_ready (rs := [20]) (by kernel_rfl) (by simp) ?_
          refine AllReadyH.cons rfl (fun K hK => ?_) AllReadyH.nil
          go_simp
          go_at_call 26
          obtain ⟨y0, y1, y2, y3, kc, ko, zz, BB⟩ := hHeld
          (with_reducible refine (lsumOf_any A1 c1 xs _ _ _ kc hsm).mono ?_)
          rintro e w9 ⟨rfl, rfl⟩
          refine hK.out _ _ ⟨y0, y1, y2, y3, kc, ko, zz, BB⟩ (fun hHeld => ?_)
          clear hK K
          try simp only [Act.put, List.setIfInBounds_toArray, List.set_cons_zero, List.set_cons_succ]
          refine wpAnyH_take (i := 21) (oi := ?oi171) (v := ?vv171) ?hi171 ?hs171 ?hf171 ?ha171 ?hq171 ?hy171 hHeld ?hr171
          case hi171 => (simp only [List.getElem?_toArray, List.getElem?_cons_succ, List.getElem?_cons_zero]; exact rfl)
          case hs171 => kernel_rfl
          case hf171 => kernel_rfl
          case ha171 => kernel_rfl
          case hq171 => exact fun _ _ _ h => h
          case hy171 =>
            refine Or.inl ⟨by rfl, ?_⟩
            intro w' hSw
            try dsimp only at hSw
            go_simp
            first | done | with_reducible rfl
          simp only [Act.put, List.setIfInBounds_toArray, List.set_cons_succ, List.set_cons_zero]
          refine wpAnyH_take (i := 22) (oi := ?oi172) (v := ?vv172) ?hi172 ?hs172 ?hf172 ?ha172 ?hq172 ?hy172 hHeld ?hr172
          case hi172 => (simp only [List.getElem?_toArray, List.getElem?_cons_succ, List.getElem?_cons_zero]; exact rfl)
          case hs172 => kernel_rfl
          case hf172 => kernel_rfl
          case ha172 => kernel_rfl
          case hq172 => exact fun _ _ _ h => h
          case hy172 =>
            refine Or.inl ⟨by rfl, ?_⟩
            intro w' hSw
            try dsimp only at hSw
            go_simp
            first | done | with_reducible rfl
          simp only [Act.put, List.setIfInBounds_toArray, List.set_cons_succ, List.set_cons_zero]
          refine wpAnyH_take (i := 23) (oi := ?oi173) (v := ?vv173) ?hi173 ?hs173 ?hf173 ?ha173 ?hq173 ?hy173 hHeld ?hr173
          case hi173 => (simp only [List.getElem?_toArray, List.getElem?_cons_succ, List.getElem?_cons_zero]; exact rfl)
          case hs173 => kernel_rfl
          case hf173 => kernel_rfl
          case ha173 => kernel_rfl
          case hq173 => exact fun _ _ _ h => h
          case hy173 =>
            refine Or.inl ⟨by rfl, ?_⟩
            intro w' hSw
            try dsimp only at hSw
            go_simp
            first | done | with_reducible rfl
          simp only [Act.put, List.setIfInBounds_toArray, List.set_cons_succ, List.set_cons_zero]
          refine wpAnyH_take (i := 24) (oi := ?oi174) (v := ?vv174) ?hi174 ?hs174 ?hf174 ?ha174 ?hq174 ?hy174 hHeld ?hr174
          case hi174 => (simp only [List.getElem?_toArray, List.getElem?_cons_succ, List.getElem?_cons_zero]; exact rfl)
          case hs174 => kernel_rfl
          case hf174 => kernel_rfl
          case ha174 => kernel_rfl
          case hq174 => exact fun _ _ _ h => h
          case hy174 =>
            refine Or.inl ⟨by rfl, ?_⟩
            intro w' hSw
            try dsimp only at hSw
            go_simp
            first | done | with_reducible rfl
          simp only [Act.put, List.setIfInBounds_toArray, List.set_cons_succ, List.set_cons_zero]
          refine wpAnyH_take (i := 25) (oi := ?oi175) (v := ?vv175) ?hi175 ?hs175 ?hf175 ?ha175 ?hq175 ?hy175 hHeld ?hr175
          case hi175 => (simp only [List.getElem?_toArray, List.getElem?_cons_succ, List.getElem?_cons_zero]; exact rfl)
          case hs175 => kernel_rfl
          case hf175 => kernel_rfl
          case ha175 => kernel_rfl
          case hq175 => exact fun _ _ _ h => h
          case hy175 =>
            refine Or.inl ⟨by rfl, ?_⟩
            intro w' hSw
            try dsimp only at hSw
            go_simp
            first | done | with_reducible rfl
          simp only [Act.put, List.setIfInBounds_toArray, List.set_cons_succ, List.set_cons_zero]
          refine wpAnyH_take (i := 26) (oi := ?oi176) (v := ?vv176) ?hi176 ?hs176 ?hf176 ?ha176 ?hq176 ?hy176 hHeld ?hr176
          case hi176 => (simp only [List.getElem?_toArray, List.getElem?_cons_succ, List.getElem?_cons_zero]; exact rfl)
          case hs176 => kernel_rfl
          case hf176 => kernel_rfl
          case ha176 => kernel_rfl
          case hq176 => exact fun _ _ _ h => h
          case hy176 =>
            refine Or.inl ⟨by rfl, ?_⟩
            intro w' hSw
            try dsimp only at hSw
            go_simp
            first | done | with_reducible rfl
          simp only [Act.put, List.setIfInBounds_toArray, List.set_cons_succ, List.set_cons_zero]
          refine wpAnyH_take (i := 27) (oi := ?oi177) (v := ?vv177) ?hi177 ?hs177 ?hf177 ?ha177 ?hq177 ?hy177 hHeld ?hr177
          case hi177 => (simp only [List.getElem?_toArray, List.getElem?_cons_succ, List.getElem?_cons_zero]; exact rfl)
          case hs177 => kernel_rfl
          case hf177 => kernel_rfl
          case ha177 => kernel_rfl
          case hq177 => exact fun _ _ _ h => h
          case hy177 =>
            refine Or.inl ⟨by rfl, ?_⟩
            intro w' hSw
            try dsimp only at hSw
            go_simp
            first | done | with_reducible rfl
          simp only [Act.put, List.setIfInBounds_toArray, List.set_cons_succ, List.set_cons_zero]
          refine wpAnyH_take (i := 28) (oi := ?oi178) (v := ?vv178) ?hi178 ?hs178 ?hf178 ?ha178 ?hq178 ?hy178 hHeld ?hr178
          case hi178 => (simp only [List.getElem?_toArray, List.getElem?_cons_succ, List.getElem?_cons_zero]; exact rfl)
          case hs178 => kernel_rfl
          case hf178 => kernel_rfl
          case ha178 => kernel_rfl
          case hq178 => exact fun _ _ _ h => h
          case hy178 =>
            refine Or.inl ⟨by rfl, ?_⟩
            intro w' hSw
            try dsimp only at hSw
            go_simp
            first | done | with_reducible rfl
          simp only [Act.put, List.setIfInBounds_toArray, List.set_cons_succ, List.set_cons_zero]
          refine wpAnyH_take (i := 29) (oi := ?oi179) (v := ?vv179) ?hi179 ?hs179 ?hf179 ?ha179 ?hq179 ?hy179 hHeld ?hr179
          case hi179 => (simp only [List.getElem?_toArray, List.getElem?_cons_succ, List.getElem?_cons_zero]; exact rfl)
          case hs179 => kernel_rfl
          case hf179 => kernel_rfl
          case ha179 => kernel_rfl
          case hq179 => exact fun _ _ _ h => h
          case hy179 =>
            refine Or.inl ⟨by rfl, ?_⟩
            intro w' hSw
            try dsimp only at hSw
            go_simp
            first | done | with_reducible rfl
          simp only [Act.put, List.setIfInBounds_toArray, List.set_cons_succ, List.set_cons_zero]
          refine wpAnyH_take (i := 30) (oi := ?oi180) (v := ?vv180) ?hi180 ?hs180 ?hf180 ?ha180 ?hq180 ?hy180 hHeld ?hr180
          case hi180 => (simp only [List.getElem?_toArray, List.getElem?_cons_succ, List.getElem?_cons_zero]; exact rfl)
          case hs180 => kernel_rfl
          case hf180 => kernel_rfl
          case ha180 => kernel_rfl
          case hq180 => exact fun _ _ _ h => h
          case hy180 =>
            refine Or.inl ⟨by rfl, ?_⟩
            intro w' hSw
            try dsimp only at hSw
            go_simp
            first | done | with_reducible rfl
          simp only [Act.put, List.setIfInBounds_toArray, List.set_cons_succ, List.set_cons_zero]
          refine wpAnyH_done (by kernel_rfl) ?_ _
          obtain ⟨y0, y1, y2, y3, kc, ko, zz, BB⟩ := hHeld
          go_wp2
          go_ret
          exact ⟨rfl, BB⟩
        · have hne : (2 * E != xs.sum) = true := by simpa using h2E
          clear h2E
          go_wp2_with fail
          have hWW : w.heap.size ≤ w5.heap.size := by first | omega | (simp; omega) | simp
          have g_c : w1.heap.size < w5.heap.size := by first | omega | (simp; omega) | simp
          have g_o : w4.heap.size < w5.heap.size := by first | omega | (simp; omega) | simp
          have g_kc : w1.heap.size ≤ w5.heap.size := by first | omega | (simp; omega) | simp
          have g_ko : w4.heap.size ≤ w5.heap.size := by first | omega | (simp; omega) | simp
          refine wp_region_held_drew (S := (fun w' : World => w'.cell? ⟨w1.heap.size, 0, none⟩ = some (.int .i64 E) ∧ w'.cell? ⟨w1.heap.size, 1, none⟩ = some (.slice A1 xs.length c1) ∧ w'.cell? ⟨w4.heap.size, 0, none⟩ = some (.int .i64 (xs.sum - E)) ∧ w'.cell? ⟨w4.heap.size, 1, none⟩ = some (.slice A4 xs.length c4) ∧ Ints w' (w.heap.size) (w1.heap.size) (A1) (xs) ∧ Ints w' (w3.heap.size) (w4.heap.size) (A4) (xs) ∧ w5.heap.size ≤ w'.heap.size ∧ Below w.heap.size w w')) (by kernel_rfl) ⟨a29, a29', a30, a30', o31.ints, o32.ints, Nat.le_refl _, B34.drew⟩ (fun hHeld => ?_)
          refine wpAnyH_take (i := 0) (oi := ?oi181) (v := ?vv181) ?hi181 ?hs181 ?hf181 ?ha181 ?hq181 ?hy181 hHeld ?hr181
          case hi181 => (simp only [List.getElem?_toArray, List.getElem?_cons_zero]; exact rfl)
          case hs181 => kernel_rfl
          case hf181 => kernel_rfl
          case ha181 => kernel_rfl
          case hq181 => exact fun _ _ _ h => h
          case hy181 =>
            refine Or.inl ⟨by rfl, ?_⟩
            intro w' hSw
            try dsimp only at hSw
            go_simp
            first | done | with_reducible rfl
          simp only [Act.put, List.setIfInBounds_toArray, List.set_cons_succ, List.set_cons_zero]
          refine wpAnyH_take (i := 1) (oi := ?oi182) (v := ?vv182) ?hi182 ?hs182 ?hf182 ?ha182 ?hq182 ?hy182 hHeld ?hr182
          case hi182 => (simp only [List.getElem?_toArray, List.getElem?_cons_succ, List.getElem?_cons_zero]; exact rfl)
          case hs182 => kernel_rfl
          case hf182 => kernel_rfl
          case ha182 => kernel_rfl
          case hq182 => exact fun _ _ _ h => h
          case hy182 =>
            refine Or.inl ⟨by rfl, ?_⟩
            intro w' hSw
            try dsimp only at hSw
            go_simp
            first | done | with_reducible rfl
          simp only [Act.put, List.setIfInBounds_toArray, List.set_cons_succ, List.set_cons_zero]
          refine wpAnyH_take (i := 2) (oi := ?oi183) (v := ?vv183) ?hi183 ?hs183 ?hf183 ?ha183 ?hq183 ?hy183 hHeld ?hr183
          case hi183 => (simp only [List.getElem?_toArray, List.getElem?_cons_succ, List.getElem?_cons_zero]; exact rfl)
          case hs183 => kernel_rfl
          case hf183 => kernel_rfl
          case ha183 => kernel_rfl
          case hq183 => exact fun _ _ _ h => h
          case hy183 =>
            refine Or.inl ⟨by rfl, ?_⟩
            intro w' hSw
            try dsimp only at hSw
            go_simp
            first | done | with_reducible rfl
          simp only [Act.put, List.setIfInBounds_toArray, List.set_cons_succ, List.set_cons_zero]
          refine wpAnyH_take (i := 4) (oi := ?oi184) (v := ?vv184) ?hi184 ?hs184 ?hf184 ?ha184 ?hq184 ?hy184 hHeld ?hr184
          case hi184 => (simp only [List.getElem?_toArray, List.getElem?_cons_succ, List.getElem?_cons_zero]; exact rfl)
          case hs184 => kernel_rfl
          case hf184 => kernel_rfl
          case ha184 => kernel_rfl
          case hq184 => exact fun _ _ _ h => h
          case hy184 =>
            refine Or.inl ⟨by rfl, ?_⟩
            intro w' hSw
            try dsimp only at hSw
            go_simp
            first | done | with_reducible rfl
          simp only [Act.put, List.setIfInBounds_toArray, List.set_cons_succ, List.set_cons_zero]
          refine wpAnyH_ready (rs := [3]) (by kernel_rfl) (by simp) ?_
          refine AllReadyH.cons rfl (fun K hK => ?_) AllReadyH.nil
          go_simp
          go_at_call 31
          obtain ⟨y0, y1, y2, y3, kc, ko, zz, BB⟩ := hHeld
          (with_reducible refine (implLv_is (xs.sum - E) A4 c4 xs V _ _ _ ko (by omega) HP.out HV2.out).mono ?_)
          rintro e w6_ ⟨rfl, hb9⟩
          refine hK.out _ _ ⟨(keep2 hb9 ⟨y0, y1⟩ (by omega)).1, (keep2 hb9 ⟨y0, y1⟩ (by omega)).2, (keep2 hb9 ⟨y2, y3⟩ (by omega)).1, (keep2 hb9 ⟨y2, y3⟩ (by omega)).2, kc.below hb9 (by omega), ko.below hb9 (by omega), Nat.le_trans zz hb9.size, BB.trans (hb9.mono (by omega))⟩ (fun hHeld => ?_)
          clear hb9 BB zz ko kc y3 y2 y1 y0
          clear hK K
          try simp only [Act.put, List.setIfInBounds_toArray, List.set_cons_zero, List.set_cons_succ]
          refine wpAnyH_take (i := 5) (oi := ?oi185) (v := ?vv185) ?hi185 ?hs185 ?hf185 ?ha185 ?hq185 ?hy185 hHeld ?hr185
          case hi185 => (simp only [List.getElem?_toArray, List.getElem?_cons_succ, List.getElem?_cons_zero]; exact rfl)
          case hs185 => kernel_rfl
          case hf185 => kernel_rfl
          case ha185 => kernel_rfl
          case hq185 => exact fun _ _ _ h => h
          case hy185 =>
            refine Or.inl ⟨by rfl, ?_⟩
            intro w' hSw
            try dsimp only at hSw
            go_simp
            first | done | with_reducible rfl
          simp only [Act.put, List.setIfInBounds_toArray, List.set_cons_succ, List.set_cons_zero]
          refine wpAnyH_take (i := 6) (oi := ?oi186) (v := ?vv186) ?hi186 ?hs186 ?hf186 ?ha186 ?hq186 ?hy186 hHeld ?hr186
          case hi186 => (simp only [List.getElem?_toArray, List.getElem?_cons_succ, List.getElem?_cons_zero]; exact rfl)
          case hs186 => kernel_rfl
          case hf186 => kernel_rfl
          case ha186 => kernel_rfl
          case hq186 => exact fun _ _ _ h => h
          case hy186 =>
            refine Or.inl ⟨by rfl, ?_⟩
            intro w' hSw
            try dsimp only at hSw
            go_simp
            first | done | with_reducible rfl
          simp only [Act.put, List.setIfInBounds_toArray, List.set_cons_succ, List.set_cons_zero]
          refine wpAnyH_take (i := 7) (oi := ?oi187) (v := ?vv187) ?hi187 ?hs187 ?hf187 ?ha187 ?hq187 ?hy187 hHeld ?hr187
          case hi187 => (simp only [List.getElem?_toArray, List.getElem?_cons_succ, List.getElem?_cons_zero]; exact rfl)
          case hs187 => kernel_rfl
          case hf187 => kernel_rfl
          case ha187 => kernel_rfl
          case hq187 => exact fun _ _ _ h => h
          case hy187 =>
            refine Or.inl ⟨by rfl, ?_⟩
            intro w' hSw
            try dsimp only at hSw
            go_simp
            first | done | with_reducible rfl
          simp only [Act.put, List.setIfInBounds_toArray, List.set_cons_succ, List.set_cons_zero]
          refine wpAnyH_take (i := 8) (oi := ?oi188) (v := ?vv188) ?hi188 ?hs188 ?hf188 ?ha188 ?hq188 ?hy188 hHeld ?hr188
          case hi188 => (simp only [List.getElem?_toArray, List.getElem?_cons_succ, List.getElem?_cons_zero]; exact rfl)
          case hs188 => kernel_rfl
          case hf188 => kernel_rfl
          case ha188 => kernel_rfl
          case hq188 => exact fun _ _ _ h => h
          case hy188 =>
            refine Or.inl ⟨by rfl, ?_⟩
            intro w' hSw
            try dsimp only at hSw
            go_simp
            first | done | with_reducible rfl
          simp only [Act.put, List.setIfInBounds_toArray, List.set_cons_succ, List.set_cons_zero]
          refine wpAnyH_take (i := 9) (oi := ?oi189) (v := ?vv189) ?hi189 ?hs189 ?hf189 ?ha189 ?hq189 ?hy189 hHeld ?hr189
          case hi189 => (simp only [List.getElem?_toArray, List.getElem?_cons_succ, List.getElem?_cons_zero]; exact rfl)
          case hs189 => kernel_rfl
          case hf189 => kernel_rfl
          case ha189 => kernel_rfl
          case hq189 => exact fun _ _ _ h => h
          case hy189 =>
            refine Or.inl ⟨by rfl, ?_⟩
            intro w' hSw
            try dsimp only at hSw
            go_simp
            first | done | with_reducible rfl
          simp only [Act.put, List.setIfInBounds_toArray, List.set_cons_succ, List.set_cons_zero]
          refine wpAnyH_take (i := 10) (oi := ?oi190) (v := ?vv190) ?hi190 ?hs190 ?hf190 ?ha190 ?hq190 ?hy190 hHeld ?hr190
          case hi190 => (simp only [List.getElem?_toArray, List.getElem?_cons_succ, List.getElem?_cons_zero]; exact rfl)
          case hs190 => kernel_rfl
          case hf190 => kernel_rfl
          case ha190 => kernel_rfl
          case hq190 => exact fun _ _ _ h => h
          case hy190 =>
            refine Or.inl ⟨by rfl, ?_⟩
            intro w' hSw
            try dsimp only at hSw
            go_simp
            first | done | with_reducible rfl
          simp only [Act.put, List.setIfInBounds_toArray, List.set_cons_succ, List.set_cons_zero]
          refine wpAnyH_take (i := 11) (oi := ?oi191) (v := ?vv191) ?hi191 ?hs191 ?hf191 ?ha191 ?hq191 ?hy191 hHeld ?hr191
          case hi191 => (simp only [List.getElem?_toArray, List.getElem?_cons_succ, List.getElem?_cons_zero]; exact rfl)
          case hs191 => kernel_rfl
          case hf191 => kernel_rfl
          case ha191 => kernel_rfl
          case hq191 => exact fun _ _ _ h => h
          case hy191 =>
            refine Or.inl ⟨by rfl, ?_⟩
            intro w' hSw
            try dsimp only at hSw
            go_simp
            first | done | with_reducible rfl
          simp only [Act.put, List.setIfInBounds_toArray, List.set_cons_succ, List.set_cons_zero]
          refine wpAnyH_take (i := 12) (oi := ?oi192) (v := ?vv192) ?hi192 ?hs192 ?hf192 ?ha192 ?hq192 ?hy192 hHeld ?hr192
          case hi192 => (simp only [List.getElem?_toArray, List.getElem?_cons_succ, List.getElem?_cons_zero]; exact rfl)
          case hs192 => kernel_rfl
          case hf192 => kernel_rfl
          case ha192 => kernel_rfl
          case hq192 => exact fun _ _ _ h => h
          case hy192 =>
            refine Or.inl ⟨by rfl, ?_⟩
            intro w' hSw
            try dsimp only at hSw
            go_simp
            first | done | with_reducible rfl
          simp only [Act.put, List.setIfInBounds_toArray, List.set_cons_succ, List.set_cons_zero]
          refine wpAnyH_take (i := 13) (oi := ?oi193) (v := ?vv193) ?hi193 ?hs193 ?hf193 ?ha193 ?hq193 ?hy193 hHeld ?hr193
          case hi193 => (simp only [List.getElem?_toArray, List.getElem?_cons_succ, List.getElem?_cons_zero]; exact rfl)
          case hs193 => kernel_rfl
          case hf193 => kernel_rfl
          case ha193 => kernel_rfl
          case hq193 => exact fun _ _ _ h => h
          case hy193 =>
            refine Or.inl ⟨by rfl, ?_⟩
            intro w' hSw
            try dsimp only at hSw
            go_simp
            first | done | with_reducible rfl
          simp only [Act.put, List.setIfInBounds_toArray, List.set_cons_succ, List.set_cons_zero]
          refine wpAnyH_take (i := 14) (oi := ?oi194) (v := ?vv194) ?hi194 ?hs194 ?hf194 ?ha194 ?hq194 ?hy194 hHeld ?hr194
          case hi194 => (simp only [List.getElem?_toArray, List.getElem?_cons_succ, List.getElem?_cons_zero]; exact rfl)
          case hs194 => kernel_rfl
          case hf194 => kernel_rfl
          case ha194 => kernel_rfl
          case hq194 => exact fun _ _ _ h => h
          case hy194 =>
            refine Or.inl ⟨by rfl, ?_⟩
            intro w' hSw
            try dsimp only at hSw
            go_simp
            first | done | with_reducible rfl
          simp only [Act.put, List.setIfInBounds_toArray, List.set_cons_succ, List.set_cons_zero]
          refine wpAnyH_take (i := 15) (oi := ?oi195) (v := ?vv195) ?hi195 ?hs195 ?hf195 ?ha195 ?hq195 ?hy195 hHeld ?hr195
          case hi195 => (simp only [List.getElem?_toArray, List.getElem?_cons_succ, List.getElem?_cons_zero]; exact rfl)
          case hs195 => kernel_rfl
          case hf195 => kernel_rfl
          case ha195 => kernel_rfl
          case hq195 => exact fun _ _ _ h => h
          case hy195 =>
            refine Or.inl ⟨by rfl, ?_⟩
            intro w' hSw
            try dsimp only at hSw
            go_simp
            first | done | with_reducible rfl
          simp only [Act.put, List.setIfInBounds_toArray, List.set_cons_succ, List.set_cons_zero]
          refine wpAnyH_take (i := 16) (oi := ?oi196) (v := ?vv196) ?hi196 ?hs196 ?hf196 ?ha196 ?hq196 ?hy196 hHeld ?hr196
          case hi196 => (simp only [List.getElem?_toArray, List.getElem?_cons_succ, List.getElem?_cons_zero]; exact rfl)
          case hs196 => kernel_rfl
          case hf196 => kernel_rfl
          case ha196 => kernel_rfl
          case hq196 => exact fun _ _ _ h => h
          case hy196 =>
            refine Or.inl ⟨by rfl, ?_⟩
            intro w' hSw
            try dsimp only at hSw
            go_simp
            first | done | with_reducible rfl
          simp only [Act.put, List.setIfInBounds_toArray, List.set_cons_succ, List.set_cons_zero]
          refine wpAnyH_take (i := 17) (oi := ?oi197) (v := ?vv197) ?hi197 ?hs197 ?hf197 ?ha197 ?hq197 ?hy197 hHeld ?hr197
          case hi197 => (simp only [List.getElem?_toArray, List.getElem?_cons_succ, List.getElem?_cons_zero]; exact rfl)
          case hs197 => kernel_rfl
          case hf197 => kernel_rfl
          case ha197 => kernel_rfl
          case hq197 => exact fun _ _ _ h => h
          case hy197 =>
            refine Or.inl ⟨by rfl, ?_⟩
            intro w' hSw
            try dsimp only at hSw
            go_simp
            first | done | with_reducible rfl
          simp only [Act.put, List.setIfInBounds_toArray, List.set_cons_succ, List.set_cons_zero]
          refine wpAnyH_take (i := 18) (oi := ?oi198) (v := ?vv198) ?hi198 ?hs198 ?hf198 ?ha198 ?hq198 ?hy198 hHeld ?hr198
          case hi198 => (simp only [List.getElem?_toArray, List.getElem?_cons_succ, List.getElem?_cons_zero]; exact rfl)
          case hs198 => kernel_rfl
          case hf198 => kernel_rfl
          case ha198 => kernel_rfl
          case hq198 => exact fun _ _ _ h => h
          case hy198 =>
            refine Or.inl ⟨by rfl, ?_⟩
            intro w' hSw
            try dsimp only at hSw
            go_simp
            first | done | with_reducible rfl
          simp only [Act.put, List.setIfInBounds_toArray, List.set_cons_succ, List.set_cons_zero]
          refine wpAnyH_take (i := 19) (oi := ?oi199) (v := ?vv199) ?hi199 ?hs199 ?hf199 ?ha199 ?hq199 ?hy199 hHeld ?hr199
          case hi199 => (simp only [List.getElem?_toArray, List.getElem?_cons_succ, List.getElem?_cons_zero]; exact rfl)
          case hs199 => kernel_rfl
          case hf199 => kernel_rfl
          case ha199 => kernel_rfl
          case hq199 => exact fun _ _ _ h => h
          case hy199 =>
            refine Or.inl ⟨by rfl, ?_⟩
            intro w' hSw
            try dsimp only at hSw
            go_simp
            first | done | with_reducible rfl
          simp only [Act.put, List.setIfInBounds_toArray, List.set_cons_succ, List.set_cons_zero]
          refine wpAnyH_ready (rs := [20]) (by kernel_rfl) (by simp) ?_
          refine AllReadyH.cons rfl (fun K hK => ?_) AllReadyH.nil
          go_simp
          go_at_call 26
          obtain ⟨y0, y1, y2, y3, kc, ko, zz, BB⟩ := hHeld
          (with_reducible refine (lsumOf_any A1 c1 xs _ _ _ kc hsm).mono ?_)
          rintro e w9 ⟨rfl, rfl⟩
          refine hK.out _ _ ⟨y0, y1, y2, y3, kc, ko, zz, BB⟩ (fun hHeld => ?_)
          clear hK K
          try simp only [Act.put, List.setIfInBounds_toArray, List.set_cons_zero, List.set_cons_succ]
          refine wpAnyH_take (i := 21) (oi := ?oi200) (v := ?vv200) ?hi200 ?hs200 ?hf200 ?ha200 ?hq200 ?hy200 hHeld ?hr200
          case hi200 => (simp only [List.getElem?_toArray, List.getElem?_cons_succ, List.getElem?_cons_zero]; exact rfl)
          case hs200 => kernel_rfl
          case hf200 => kernel_rfl
          case ha200 => kernel_rfl
          case hq200 => exact fun _ _ _ h => h
          case hy200 =>
            refine Or.inl ⟨by rfl, ?_⟩
            intro w' hSw
            try dsimp only at hSw
            go_simp
            first | done | with_reducible rfl
          simp only [Act.put, List.setIfInBounds_toArray, List.set_cons_succ, List.set_cons_zero]
          refine wpAnyH_take (i := 22) (oi := ?oi201) (v := ?vv201) ?hi201 ?hs201 ?hf201 ?ha201 ?hq201 ?hy201 hHeld ?hr201
          case hi201 => (simp only [List.getElem?_toArray, List.getElem?_cons_succ, List.getElem?_cons_zero]; exact rfl)
          case hs201 => kernel_rfl
          case hf201 => kernel_rfl
          case ha201 => kernel_rfl
          case hq201 => exact fun _ _ _ h => h
          case hy201 =>
            refine Or.inl ⟨by rfl, ?_⟩
            intro w' hSw
            try dsimp only at hSw
            go_simp
            first | done | with_reducible rfl
          simp only [Act.put, List.setIfInBounds_toArray, List.set_cons_succ, List.set_cons_zero]
          refine wpAnyH_take (i := 23) (oi := ?oi202) (v := undef) ?hi202 ?hs202 ?hf202 ?ha202 ?hq202 ?hy202 hHeld ?hr202
          case hi202 => (simp only [List.getElem?_toArray, List.getElem?_cons_succ, List.getElem?_cons_zero]; exact rfl)
          case hs202 => kernel_rfl
          case hf202 => kernel_rfl
          case ha202 => kernel_rfl
          case hq202 => exact fun _ _ _ h => h
          case hy202 => exact Or.inr ⟨by rfl, rfl⟩
          simp only [Act.put, List.setIfInBounds_toArray, List.set_cons_succ, List.set_cons_zero]
          refine wpAnyH_take (i := 24) (oi := ?oi203) (v := undef) ?hi203 ?hs203 ?hf203 ?ha203 ?hq203 ?hy203 hHeld ?hr203
          case hi203 => (simp only [List.getElem?_toArray, List.getElem?_cons_succ, List.getElem?_cons_zero]; exact rfl)
          case hs203 => kernel_rfl
          case hf203 => kernel_rfl
          case ha203 => kernel_rfl
          case hq203 => exact fun _ _ _ h => h
          case hy203 => exact Or.inr ⟨by rfl, rfl⟩
          simp only [Act.put, List.setIfInBounds_toArray, List.set_cons_succ, List.set_cons_zero]
          refine wpAnyH_take (i := 25) (oi := ?oi204) (v := undef) ?hi204 ?hs204 ?hf204 ?ha204 ?hq204 ?hy204 hHeld ?hr204
          case hi204 => (simp only [List.getElem?_toArray, List.getElem?_cons_succ, List.getElem?_cons_zero]; exact rfl)
          case hs204 => kernel_rfl
          case hf204 => kernel_rfl
          case ha204 => kernel_rfl
          case hq204 => exact fun _ _ _ h => h
          case hy204 => exact Or.inr ⟨by rfl, rfl⟩
          simp only [Act.put, List.setIfInBounds_toArray, List.set_cons_succ, List.set_cons_zero]
          refine wpAnyH_take (i := 26) (oi := ?oi205) (v := undef) ?hi205 ?hs205 ?hf205 ?ha205 ?hq205 ?hy205 hHeld ?hr205
          case hi205 => (simp only [List.getElem?_toArray, List.getElem?_cons_succ, List.getElem?_cons_zero]; exact rfl)
          case hs205 => kernel_rfl
          case hf205 => kernel_rfl
          case ha205 => kernel_rfl
          case hq205 => exact fun _ _ _ h => h
          case hy205 => exact Or.inr ⟨by rfl, rfl⟩
          simp only [Act.put, List.setIfInBounds_toArray, List.set_cons_succ, List.set_cons_zero]
          refine wpAnyH_take (i := 27) (oi := ?oi206) (v := undef) ?hi206 ?hs206 ?hf206 ?ha206 ?hq206 ?hy206 hHeld ?hr206
          case hi206 => (simp only [List.getElem?_toArray, List.getElem?_cons_succ, List.getElem?_cons_zero]; exact rfl)
          case hs206 => kernel_rfl
          case hf206 => kernel_rfl
          case ha206 => kernel_rfl
          case hq206 => exact fun _ _ _ h => h
          case hy206 => exact Or.inr ⟨by rfl, rfl⟩
          simp only [Act.put, List.setIfInBounds_toArray, List.set_cons_succ, List.set_cons_zero]
          refine wpAnyH_take (i := 28) (oi := ?oi207) (v := ?vv207) ?hi207 ?hs207 ?hf207 ?ha207 ?hq207 ?hy207 hHeld ?hr207
          case hi207 => (simp only [List.getElem?_toArray, List.getElem?_cons_succ, List.getElem?_cons_zero]; exact rfl)
          case hs207 => kernel_rfl
          case hf207 => kernel_rfl
          case ha207 => kernel_rfl
          case hq207 => exact fun _ _ _ h => h
          case hy207 =>
            refine Or.inl ⟨by rfl, ?_⟩
            intro w' hSw
            try dsimp only at hSw
            go_simp
            first | done | with_reducible rfl
          simp only [Act.put, List.setIfInBounds_toArray, List.set_cons_succ, List.set_cons_zero]
          refine wpAnyH_take (i := 29) (oi := ?oi208) (v := ?vv208) ?hi208 ?hs208 ?hf208 ?ha208 ?hq208 ?hy208 hHeld ?hr208
          case hi208 => (simp only [List.getElem?_toArray, List.getElem?_cons_succ, List.getElem?_cons_zero]; exact rfl)
          case hs208 => kernel_rfl
          case hf208 => kernel_rfl
          case ha208 => kernel_rfl
          case hq208 => exact fun _ _ _ h => h
          case hy208 =>
            refine Or.inl ⟨by rfl, ?_⟩
            intro w' hSw
            try dsimp only at hSw
            go_simp
            first | done | with_reducible rfl
          simp only [Act.put, List.setIfInBounds_toArray, List.set_cons_succ, List.set_cons_zero]
          refine wpAnyH_take (i := 30) (oi := ?oi209) (v := ?vv209) ?hi209 ?hs209 ?hf209 ?ha209 ?hq209 ?hy209 hHeld ?hr209
          case hi209 => (simp only [List.getElem?_toArray, List.getElem?_cons_succ, List.getElem?_cons_zero]; exact rfl)
          case hs209 => kernel_rfl
          case hf209 => kernel_rfl
          case ha209 => kernel_rfl
          case hq209 => exact fun _ _ _ h => h
          case hy209 =>
            refine Or.inl ⟨by rfl, ?_⟩
            intro w' hSw
            try dsimp only at hSw
            go_simp
            first | done | with_reducible rfl
          simp only [Act.put, List.setIfInBounds_toArray, List.set_cons_succ, List.set_cons_zero]
          refine wpAnyH_done (by kernel_rfl) ?_ _
          obtain ⟨y0, y1, y2, y3, kc, ko, zz, BB⟩ := hHeld
          go_wp2
          go_ret
          exact ⟨rfl, BB⟩
  · have hok' : caseOkB E xs = false := by simpa using hok
    have HO := Lib.hid hok'
    clear hok hok'
    go_wp2_with fail
    refine (implHalfLevel_no E A1 c1 xs _ _ _ o4.ints (by first | omega | (simp; omega) | simp) hl5 HO.out).mono ?_
    rintro e w2 ⟨rfl, hb2⟩
    obtain ⟨a7, a7'⟩ := keep2 hb2 ⟨a6, a6'⟩ (by first | omega | (simp; omega) | simp)
    have o8 := o4.below hb2 (by first | omega | (simp; omega) | simp)
    have hz9 := hb2.size
    simp at hz9
    have B10 := B5.trans (hb2.mono (by first | omega | (simp; omega) | simp))
    clear hb2
    have z11 : w1.heap.size < w2.heap.size := by omega
    go_wp2_with fail
    refine (specHalfLevel_no E A1 c1 xs _ _ _ o8.ints (by first | omega | (simp; omega) | simp) hl5 HO.out).mono ?_
    rintro e w3 ⟨rfl, hb3⟩
    obtain ⟨a12, a12'⟩ := keep2 hb3 ⟨a7, a7'⟩ (by first | omega | (simp; omega) | simp)
    have o13 := o8.below hb3 (by first | omega | (simp; omega) | simp)
    have hz14 := hb3.size
    have B15 := B10.trans (hb3.mono (by first | omega | (simp; omega) | simp))
    clear hb3
    have z16 : w1.heap.size < w3.heap.size := by omega
    go_wp2_with fail
    refine (implCaseOk_no (E) (A1) c1 xs _ _ _ o13.ints (by first | omega | (simp; omega) | simp) (by first | omega | simp) HO.out).mono ?_
    rintro e w4 ⟨rfl, hb4⟩
    obtain ⟨a17, a17'⟩ := keep2 hb4 ⟨a12, a12'⟩ (by first | omega | (simp; omega) | simp)
    have o18 := o13.below hb4 (by first | omega | (simp; omega) | simp)
    have hz19 := hb4.size
    have B20 := B15.trans (hb4.mono (by first | omega | (simp; omega) | simp))
    clear hb4
    have z21 : w1.heap.size < w4.heap.size := by omega
    go_wp2_with fail
    refine (alive_any _).mono ?_
    rintro e w5 ⟨rfl, hb5⟩
    obtain ⟨a22, a22'⟩ := keep2 hb5 ⟨a17, a17'⟩ (by first | omega | (simp; omega) | simp)
    have o23 := o18.below hb5 (by first | omega | (simp; omega) | simp)
    have hz24 := hb5.size
    have B25 := B20.trans (hb5.mono (by first | omega | (simp; omega) | simp))
    clear hb5
    have z26 : w1.heap.size < w5.heap.size := by omega
    go_wp2
    go_ret
    exact ⟨rfl, B25⟩

set_option maxRecDepth 10000 in
set_option maxHeartbeats 400000 in
theorem fnHalfLevel_big (A0 : Option Addr) (c0 : Nat) (bs : List Int) (w : World) (hl : ¬ bs.length ≤ 1048576) (hm : bs.length ≤ 9223372036854775807) :
    Calls Try.prog 6 #[.slice A0 bs.length c0] w fun e w' => e = .returned (.bool true) ∧ Below w.heap.size w w' := by
  go_enter Try.func6, Try.ntmps6
  go_wp2
  go_ret
  exact ⟨rfl, Below.refl _ _⟩

theorem fnHalfLevel_all (A0 : Option Addr) (c0 : Nat) (bs : List Int) (w : World) (h0 : Bytes w w.heap.size A0 bs) (hm : bs.length ≤ 9223372036854775807) (hc0 : bs.length ≤ c0) :
    Calls Try.prog 6 #[.slice A0 bs.length c0] w fun e w' => e = .returned (.bool true) ∧ Below w.heap.size w w' := by
  by_cases hl : bs.length ≤ 1048576
  · exact fnHalfLevel_walk A0 c0 bs w h0 hl hc0
  · exact fnHalfLevel_big A0 c0 bs w hl hm

end Go.Proofs.Ytngalomfljoomaa
