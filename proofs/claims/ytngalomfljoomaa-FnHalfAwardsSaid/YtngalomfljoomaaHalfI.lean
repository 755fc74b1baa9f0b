/-
  The program's function MidOk, and forms of the contracts of chapter 5; they make new memory only. No condition but a length that fits.
-/
import Derived.Test.YtngalomfljoomaaHalfJ
import Derived.BigQuiet
import Derived.Deep.Cut
namespace Go.Proofs.Ytngalomfljoomaa
open Go.RowKit

set_option maxRecDepth 10000 in
set_option maxHeartbeats 400000 in
theorem implMidOk_no (E : Int) (A : Option Addr) (c : Nat) (xs : List Int) (D : Option Addr) (d : Nat) (ys : List Int) (w : World) (lo hi : Nat) (h : Ints w lo hi A xs) (hh : hi ≤ w.heap.size) (hl : xs.length ≤ 1152921504606846976) (lo' hi' : Nat) (h' : Ints w lo' hi' D ys) (hh' : hi' ≤ w.heap.size) (hl' : ys.length ≤ 1152921504606846976) (hok : awardsB E xs ys = false) :
    Calls Try.prog 23 #[.agg #[.int .i64 E, .slice A xs.length c], .slice D ys.length d] w fun e w' => e = .returned (.bool false) ∧ Below w.heap.size w w' := by
  have HA := Lib.hid hok
  clear hok
  go_enter Try.func23, Try.ntmps23
  have o1_ := h.alloc (by first | omega | (simp; omega) | simp) (.cells #[.int .i64 E, .slice A xs.length c] 25)
  have o2_ := h'.alloc (by first | omega | (simp; omega) | simp) (.cells #[.int .i64 E, .slice A xs.length c] 25)
  have B3_ := (Below.refl w.heap.size w).alloc (Nat.le_refl _) (.cells #[.int .i64 E, .slice A xs.length c] 25)
  have a4_ : (w.alloc (.cells #[.int .i64 E, .slice A xs.length c] 25)).cell? ⟨w.heap.size, 0, none⟩ = some (.int .i64 E) := by simp [go_sem]
  have a5_ : (w.alloc (.cells #[.int .i64 E, .slice A xs.length c] 25)).cell? ⟨w.heap.size, 1, none⟩ = some (.slice A xs.length c) := by simp [go_sem]
  go_wp2_with fail
  refine (implAwardsOk_any E A c xs D d ys _ _ _ o1_ (by first | omega | (simp; omega) | simp) hl _ _ o2_ (by first | omega | (simp; omega) | simp) hl').mono ?_
  rintro e w6 ⟨he, hb6_⟩
  rw [HA.out] at he
  subst he
  have a7_ := (hb6_.cell (p := ⟨w.heap.size, _, none⟩) (by first | omega | (simp; omega) | simp)).trans a4_
  have a8_ := (hb6_.cell (p := ⟨w.heap.size, _, none⟩) (by first | omega | (simp; omega) | simp)).trans a5_
  have o9_ := o1_.below hb6_ (by first | omega | (simp; omega) | simp)
  have o10_ := o2_.below hb6_ (by first | omega | (simp; omega) | simp)
  have z11_ := hb6_.size
  try simp at z11_
  have B12_ := B3_.trans (hb6_.mono (by first | omega | (simp; omega) | simp))
  clear hb6_
  go_wp2
  go_ret
  exact ⟨rfl, B12_⟩

set_option maxRecDepth 10000 in
set_option maxHeartbeats 1000000 in
theorem implMidOk_yes (E : Int) (A : Option Addr) (c : Nat) (xs : List Int) (D : Option Addr) (d : Nat) (ys : List Int) (w : World) (lo hi : Nat) (h : Ints w lo hi A xs) (hh : hi ≤ w.heap.size) (hl : xs.length ≤ 1152921504606846976) (lo' hi' : Nat) (h' : Ints w lo' hi' D ys) (hh' : hi' ≤ w.heap.size) (hl' : ys.length ≤ 1152921504606846976) (hok : awardsB E xs ys = true) :
    Calls Try.prog 23 #[.agg #[.int .i64 E, .slice A xs.length c], .slice D ys.length d] w fun e w' => e = .returned (.bool (midB E xs ys)) ∧ Below w.heap.size w w' := by
  have hA := (awardsB_iff E xs ys).1 hok
  have hbd := caseOk_bd hA.1
  have hyl : ys.length = xs.length := hA.2.1
  have HPL : Hid ((halfP xs).length = ys.length) := by show _ = _; rw [halfP_length]; omega
  have HO := Lib.hid hA.1
  have HSM := Lib.hid (caseOk_small hA.1)
  have HA := Lib.hid hok
  clear hok hA hyl
  go_enter Try.func23, Try.ntmps23
  have o1_ := h.alloc (by first | omega | (simp; omega) | simp) (.cells #[.int .i64 E, .slice A xs.length c] 25)
  have o2_ := h'.alloc (by first | omega | (simp; omega) | simp) (.cells #[.int .i64 E, .slice A xs.length c] 25)
  have B3_ := (Below.refl w.heap.size w).alloc (Nat.le_refl _) (.cells #[.int .i64 E, .slice A xs.length c] 25)
  have a4_ : (w.alloc (.cells #[.int .i64 E, .slice A xs.length c] 25)).cell? ⟨w.heap.size, 0, none⟩ = some (.int .i64 E) := by simp [go_sem]
  have a5_ : (w.alloc (.cells #[.int .i64 E, .slice A xs.length c] 25)).cell? ⟨w.heap.size, 1, none⟩ = some (.slice A xs.length c) := by simp [go_sem]
  go_wp2_with fail
  refine (implAwardsOk_any E A c xs D d ys _ _ _ o1_ (by first | omega | (simp; omega) | simp) hl _ _ o2_ (by first | omega | (simp; omega) | simp) hl').mono ?_
  rintro e w6 ⟨he, hb6_⟩
  rw [HA.out] at he
  subst he
  have a7_ := (hb6_.cell (p := ⟨w.heap.size, _, none⟩) (by first | omega | (simp; omega) | simp)).trans a4_
  have a8_ := (hb6_.cell (p := ⟨w.heap.size, _, none⟩) (by first | omega | (simp; omega) | simp)).trans a5_
  have o9_ := o1_.below hb6_ (by first | omega | (simp; omega) | simp)
  have o10_ := o2_.below hb6_ (by first | omega | (simp; omega) | simp)
  have z11_ := hb6_.size
  try simp at z11_
  have B12_ := B3_.trans (hb6_.mono (by first | omega | (simp; omega) | simp))
  clear hb6_
  by_cases h13_ : 2 * E ≤ xs.sum
  · have H13_ := Lib.hid h13_
    clear h13_
    obtain ⟨v14_, hv14_⟩ : ∃ v, xs.sum = v := ⟨_, rfl⟩
    have Hv14_ := Lib.hid hv14_
    clear hv14_
    have hw15_ : IntKind.i64.wrap (2 * E) = (2 * E) := IntWalk.i64_in _ (by omega)
    have g20_ : w.heap.size < w6.heap.size := (by first | omega | (simp; omega) | simp)
    have g21_ : hi ≤ w6.heap.size := (by first | omega | (simp; omega) | simp)
    have g22_ : hi' ≤ w6.heap.size := (by first | omega | (simp; omega) | simp)
    have g23_ : w.heap.size ≤ w6.heap.size := (by first | omega | (simp; omega) | simp)
    go_wp2_with fail
    refine wp_region_held_drew (S := (fun w' : World => Below w.heap.size w w' ∧ w6.heap.size ≤ w'.heap.size ∧ Ints w' (lo) (hi) A xs ∧ Ints w' (lo') (hi') D ys ∧ w'.cell? ⟨w.heap.size, 0, none⟩ = some (.int .i64 E) ∧ w'.cell? ⟨w.heap.size, 1, none⟩ = some (.slice A xs.length c) ∧ w6.heap.size ≤ w'.heap.size)) (by kernel_rfl) ⟨B12_.drew, by exact (by first | omega | (simp; omega) | simp), o9_, o10_, a7_, a8_, Nat.le_refl _⟩ (fun hHeld => ?_)
    refine wpAnyH_take (i := 0) (oi := ?oi1) (v := ?vv1) ?hi1 ?hs1 ?hf1 ?ha1 ?hq1 ?hy1 hHeld ?hr1
    case hi1 => (simp only [List.getElem?_toArray, List.getElem?_cons_zero]; exact rfl)
    case hs1 => kernel_rfl
    case hf1 => kernel_rfl
    case ha1 => kernel_rfl
    case hq1 => exact fun _ _ _ h => h
    case hy1 =>
      refine Or.inl ⟨by rfl, ?_⟩
      intro w' hSw
      try dsimp only at hSw
      go_simp
      first | done | with_reducible rfl
    simp only [Act.put, List.setIfInBounds_toArray, List.set_cons_succ, List.set_cons_zero]
    refine wpAnyH_take (i := 2) (oi := ?oi2) (v := ?vv2) ?hi2 ?hs2 ?hf2 ?ha2 ?hq2 ?hy2 hHeld ?hr2
    case hi2 => (simp only [List.getElem?_toArray, List.getElem?_cons_succ, List.getElem?_cons_zero]; exact rfl)
    case hs2 => kernel_rfl
    case hf2 => kernel_rfl
    case ha2 => kernel_rfl
    case hq2 => exact fun _ _ _ h => h
    case hy2 =>
      refine Or.inl ⟨by rfl, ?_⟩
      intro w' hSw
      try dsimp only at hSw
      go_simp
      first | done | with_reducible rfl
    simp only [Act.put, List.setIfInBounds_toArray, List.set_cons_succ, List.set_cons_zero]
    refine wpAnyH_take (i := 3) (oi := ?oi3) (v := ?vv3) ?hi3 ?hs3 ?hf3 ?ha3 ?hq3 ?hy3 hHeld ?hr3
    case hi3 => (simp only [List.getElem?_toArray, List.getElem?_cons_succ, List.getElem?_cons_zero]; exact rfl)
    case hs3 => kernel_rfl
    case hf3 => kernel_rfl
    case ha3 => kernel_rfl
    case hq3 => exact fun _ _ _ h => h
    case hy3 =>
      refine Or.inl ⟨by rfl, ?_⟩
      intro w' hSw
      try dsimp only at hSw
      go_simp
      first | done | with_reducible rfl
    simp only [Act.put, List.setIfInBounds_toArray, List.set_cons_succ, List.set_cons_zero]
    refine wpAnyH_take (i := 4) (oi := ?oi4) (v := ?vv4) ?hi4 ?hs4 ?hf4 ?ha4 ?hq4 ?hy4 hHeld ?hr4
    case hi4 => (simp only [List.getElem?_toArray, List.getElem?_cons_succ, List.getElem?_cons_zero]; exact rfl)
    case hs4 => kernel_rfl
    case hf4 => kernel_rfl
    case ha4 => kernel_rfl
    case hq4 => exact fun _ _ _ h => h
    case hy4 =>
      refine Or.inl ⟨by rfl, ?_⟩
      intro w' hSw
      try dsimp only at hSw
      go_simp
      first | done | with_reducible rfl
    simp only [Act.put, List.setIfInBounds_toArray, List.set_cons_succ, List.set_cons_zero]
    refine wpAnyH_take (i := 5) (oi := ?oi5) (v := ?vv5) ?hi5 ?hs5 ?hf5 ?ha5 ?hq5 ?hy5 hHeld ?hr5
    case hi5 => (simp only [List.getElem?_toArray, List.getElem?_cons_succ, List.getElem?_cons_zero]; exact rfl)
    case hs5 => kernel_rfl
    case hf5 => kernel_rfl
    case ha5 => kernel_rfl
    case hq5 => exact fun _ _ _ h => h
    case hy5 =>
      refine Or.inl ⟨by rfl, ?_⟩
      intro w' hSw
      try dsimp only at hSw
      go_simp
      first | done | with_reducible rfl
    simp only [Act.put, List.setIfInBounds_toArray, List.set_cons_succ, List.set_cons_zero]
    refine wpAnyH_ready (rs := [1]) (by kernel_rfl) (by simp) ?_
    refine AllReadyH.cons rfl (fun K hK => ?_) AllReadyH.nil
    go_simp
    go_at_call 43
    obtain ⟨BB, zz, k16_, k17_, k18_, k19_, zw⟩ := hHeld
    (with_reducible refine (upToHalf_yes E A c xs _ _ _ k16_ (by first | omega | (simp; omega) | simp) HO.out (by have e := H13_.out; omega)).mono ?_)
    rintro e w24 ⟨rfl, hb9⟩
    refine hK.out _ _ ⟨BB.trans (hb9.mono (by omega)), Nat.le_trans zz hb9.size, k16_.below hb9 (by omega), k17_.below hb9 (by omega), (hb9.cell (p := ⟨w.heap.size, 0, none⟩) (by show w.heap.size < _; omega)).trans k18_, (hb9.cell (p := ⟨w.heap.size, 1, none⟩) (by show w.heap.size < _; omega)).trans k19_, Nat.le_trans zw hb9.size⟩ (fun hHeld => ?_)
    clear hb9 zw k19_ k18_ k17_ k16_ zz BB
    clear hK K
    try simp only [Act.put, List.setIfInBounds_toArray, List.set_cons_zero, List.set_cons_succ]
    refine wpAnyH_ready (rs := [6]) (by kernel_rfl) (by simp) ?_
    refine AllReadyH.cons rfl (fun K hK => ?_) AllReadyH.nil
    go_simp
    go_at_call 56
    obtain ⟨BB, zz, k16_, k17_, k18_, k19_, zw⟩ := hHeld
    (with_reducible refine (below_is (implOwed_is E A c xs _ _ _ k16_ (by first | omega | (simp; omega) | simp) HO.out) (congrArg (Value.int .i64) Hv14_.out)).mono ?_)
    rintro e w25 ⟨rfl, hb9⟩
    refine hK.out _ _ ⟨BB.trans (hb9.mono (by omega)), Nat.le_trans zz hb9.size, k16_.below hb9 (by omega), k17_.below hb9 (by omega), (hb9.cell (p := ⟨w.heap.size, 0, none⟩) (by show w.heap.size < _; omega)).trans k18_, (hb9.cell (p := ⟨w.heap.size, 1, none⟩) (by show w.heap.size < _; omega)).trans k19_, Nat.le_trans zw hb9.size⟩ (fun hHeld => ?_)
    clear hb9 zw k19_ k18_ k17_ k16_ zz BB
    clear hK K
    try simp only [Act.put, List.setIfInBounds_toArray, List.set_cons_zero, List.set_cons_succ]
    refine wpAnyH_take (i := 7) (oi := ?oi6) (v := ?vv6) ?hi6 ?hs6 ?hf6 ?ha6 ?hq6 ?hy6 hHeld ?hr6
    case hi6 => (simp only [List.getElem?_toArray, List.getElem?_cons_succ, List.getElem?_cons_zero]; exact rfl)
    case hs6 => kernel_rfl
    case hf6 => kernel_rfl
    case ha6 => kernel_rfl
    case hq6 => exact fun _ _ _ h => h
    case hy6 =>
      refine Or.inl ⟨by rfl, ?_⟩
      intro w' hSw
      try dsimp only at hSw
      go_simp
      first | done | with_reducible rfl
    simp only [Act.put, List.setIfInBounds_toArray, List.set_cons_succ, List.set_cons_zero]
    refine wpAnyH_take (i := 8) (oi := ?oi7) (v := ?vv7) ?hi7 ?hs7 ?hf7 ?ha7 ?hq7 ?hy7 hHeld ?hr7
    case hi7 => (simp only [List.getElem?_toArray, List.getElem?_cons_succ, List.getElem?_cons_zero]; exact rfl)
    case hs7 => kernel_rfl
    case hf7 => kernel_rfl
    case ha7 => kernel_rfl
    case hq7 => exact fun _ _ _ h => h
    case hy7 =>
      refine Or.inl ⟨by rfl, ?_⟩
      intro w' hSw
      try dsimp only at hSw
      go_simp
      first | done | with_reducible rfl
    simp only [Act.put, List.setIfInBounds_toArray, List.set_cons_succ, List.set_cons_zero]
    refine wpAnyH_take (i := 9) (oi := ?oi8) (v := ?vv8) ?hi8 ?hs8 ?hf8 ?ha8 ?hq8 ?hy8 hHeld ?hr8
    case hi8 => (simp only [List.getElem?_toArray, List.getElem?_cons_succ, List.getElem?_cons_zero]; exact rfl)
    case hs8 => kernel_rfl
    case hf8 => kernel_rfl
    case ha8 => kernel_rfl
    case hq8 => exact fun _ _ _ h => h
    case hy8 =>
      refine Or.inl ⟨by rfl, ?_⟩
      intro w' hSw
      try dsimp only at hSw
      go_simp
      first | done | with_reducible rfl
    simp only [Act.put, List.setIfInBounds_toArray, List.set_cons_succ, List.set_cons_zero]
    refine wpAnyH_done (by kernel_rfl) ?_ _
    obtain ⟨BB, zz, k16_, k17_, k18_, k19_, zw⟩ := hHeld
    clear hw15_
    have k26_ := BB
    clear BB
    have k27_ := zz
    clear zz
    have k28_ := zw
    clear zw
    have HOV := Hv14_
    by_cases h29_ : (2 * E) ≥ v14_
    · have h29_d : decide ((2 * E) ≥ v14_) = true := decide_eq_true h29_
      have HGh29_ := Lib.hid (show 2 * E ≥ v14_ from h29_)
      go_wp2_with fail
      refine (halfClaims_any E A c xs _ _ _ k16_ (by first | omega | (simp; omega) | simp) HSM.out).mono ?_
      rintro e w30 ⟨A31_, c32_, rfl, ho33_, hb30_⟩
      have a34_ := (hb30_.cell (p := ⟨w.heap.size, _, none⟩) (by first | omega | (simp; omega) | simp)).trans k18_
      have a35_ := (hb30_.cell (p := ⟨w.heap.size, _, none⟩) (by first | omega | (simp; omega) | simp)).trans k19_
      have o36_ := k16_.below hb30_ (by first | omega | (simp; omega) | simp)
      have o37_ := k17_.below hb30_ (by first | omega | (simp; omega) | simp)
      have z38_ := hb30_.size
      have B39_ := k26_.trans (hb30_.mono (by first | omega | (simp; omega) | simp))
      clear hb30_
      go_wp2
      go_loopw [24] (fun i wr => ∃ k : Nat, i = .int .i64 k ∧ (k ≤ (halfP xs).length) ∧ (MidTo E xs ys k) ∧ Below w.heap.size w wr ∧ w30.heap.size ≤ wr.heap.size ∧ Ints wr (lo) (hi) A xs ∧ Ints wr (lo') (hi') D ys ∧ Own wr (w25.heap.size) (w30.heap.size) A31_ (halfP xs) ∧ wr.cell? ⟨w.heap.size, 0, none⟩ = some (.int .i64 E) ∧ wr.cell? ⟨w.heap.size, 1, none⟩ = some (.slice A xs.length c)) (fun i _ => (halfP xs).length - (intOf i).toNat)
      case atStart => exact ⟨0, rfl, Nat.zero_le _, MidTo.zero _ _ _, B39_, (by first | omega | (simp; omega) | simp), o36_, o37_, ho33_, a34_, a35_⟩
      case round =>
        obtain ⟨k, rfl, hk, hm, k41_, k42_, k43_, k44_, k45_, k46_, k47_⟩ := hrel
        obtain ⟨w40, rfl⟩ : ∃ x, x = wr := ⟨_, rfl⟩
        have HM := Lib.hid hm
        clear hm
        by_cases hlt0 : k < (halfP xs).length
        · have hky : k < ys.length := by have e := HPL.out; omega
          obtain ⟨b48_, f49_, rfl, _, b48_h, -⟩ := k45_.ints (by rw [halfP_length]; omega)
          have c50_ : w40.cell? ⟨b48_, f49_ + k, none⟩ = some (.int .i64 ((halfP xs).getD k 0)) := k45_.ints.at2 k (by first | omega | (simp; omega) | simp)
          have c50_i : (k : Int) < ((halfP xs).length : Int) := by omega
          have c50_j : (0 : Int) ≤ (k : Int) := by omega
          obtain ⟨v51_, hv51_⟩ : ∃ v, v = (halfP xs).getD k 0 := ⟨_, rfl⟩
          rw [← hv51_] at c50_
          have Hv51_ := Lib.hid hv51_
          clear hv51_
          obtain ⟨b52_, f53_, rfl, _, b52_h, -⟩ := k44_ (by omega)
          have c54_ : w40.cell? ⟨b52_, f53_ + k, none⟩ = some (.int .i64 (ys.getD k 0)) := k44_.at2 k (by first | omega | (simp; omega) | simp)
          have c54_i : (k : Int) < (ys.length : Int) := by omega
          have c54_j : (0 : Int) ≤ (k : Int) := by omega
          obtain ⟨v55_, hv55_⟩ : ∃ v, v = ys.getD k 0 := ⟨_, rfl⟩
          rw [← hv55_] at c54_
          have Hv55_ := Lib.hid hv55_
          clear hv55_
          by_cases h56_ : v55_ > v51_
          · have h56_d : decide (v55_ > v51_) = true := decide_eq_true h56_
            go_wp2
            go_ret
            exact ⟨ret_bool (mid_bad (k := k) (by omega) (fun hm => by have e0 := Hv51_.out; rw [halfP_getD] at e0; have e1 := Hv55_.out;  have p1 := H13_.out; have p2 := HGh29_.out; have p3 := HOV.out; have m1 := hm.1; have m2 := hm.2; omega)).symm, k41_⟩
          · have h56_d : decide (v55_ > v51_) = false := decide_eq_false h56_
            by_cases h57_ : v55_ < v51_
            · have h57_d : decide (v55_ < v51_) = true := decide_eq_true h57_
              go_wp2
              go_ret
              exact ⟨ret_bool (mid_bad (k := k) (by omega) (fun hm => by have e0 := Hv51_.out; rw [halfP_getD] at e0; have e1 := Hv55_.out;  have p1 := H13_.out; have p2 := HGh29_.out; have p3 := HOV.out; have m1 := hm.1; have m2 := hm.2; omega)).symm, k41_⟩
            · have h57_d : decide (v55_ < v51_) = false := decide_eq_false h57_
              go_wp2
              go_roundw
              case rel => exact ⟨k + 1, by go_num, by omega, MidTo.succ HM.out (by have e0 := Hv51_.out; rw [halfP_getD] at e0; have e1 := Hv55_.out; have p1 := H13_.out; have p2 := HGh29_.out; have p3 := HOV.out; refine ⟨fun q => ?_, fun q => ?_⟩ <;> omega), k41_, (by first | omega | (simp; omega) | simp), k43_, k44_, k45_, k46_, k47_⟩
              case measure => simp [intOf] <;> omega
        · obtain rfl : k = (halfP xs).length := by omega
          go_wp2
          go_ret
          exact ⟨ret_bool (mid_end HA.out (by have e := HM.out; rw [HPL.out] at e; exact e)).symm, k41_⟩
    · have h29_d : decide ((2 * E) ≥ v14_) = false := decide_eq_false h29_
      have HGh29_ := Lib.hid (show ¬ 2 * E ≥ v14_ from h29_)
      go_wp2_with fail
      refine (halfClaims_any E A c xs _ _ _ k16_ (by first | omega | (simp; omega) | simp) HSM.out).mono ?_
      rintro e w30 ⟨A31_, c32_, rfl, ho33_, hb30_⟩
      have a34_ := (hb30_.cell (p := ⟨w.heap.size, _, none⟩) (by first | omega | (simp; omega) | simp)).trans k18_
      have a35_ := (hb30_.cell (p := ⟨w.heap.size, _, none⟩) (by first | omega | (simp; omega) | simp)).trans k19_
      have o36_ := k16_.below hb30_ (by first | omega | (simp; omega) | simp)
      have o37_ := k17_.below hb30_ (by first | omega | (simp; omega) | simp)
      have z38_ := hb30_.size
      have B39_ := k26_.trans (hb30_.mono (by first | omega | (simp; omega) | simp))
      clear hb30_
      go_wp2
      go_loopw [24] (fun i wr => ∃ k : Nat, i = .int .i64 k ∧ (k ≤ (halfP xs).length) ∧ (MidTo E xs ys k) ∧ Below w.heap.size w wr ∧ w30.heap.size ≤ wr.heap.size ∧ Ints wr (lo) (hi) A xs ∧ Ints wr (lo') (hi') D ys ∧ Own wr (w25.heap.size) (w30.heap.size) A31_ (halfP xs) ∧ wr.cell? ⟨w.heap.size, 0, none⟩ = some (.int .i64 E) ∧ wr.cell? ⟨w.heap.size, 1, none⟩ = some (.slice A xs.length c)) (fun i _ => (halfP xs).length - (intOf i).toNat)
      case atStart => exact ⟨0, rfl, Nat.zero_le _, MidTo.zero _ _ _, B39_, (by first | omega | (simp; omega) | simp), o36_, o37_, ho33_, a34_, a35_⟩
      case round =>
        obtain ⟨k, rfl, hk, hm, k41_, k42_, k43_, k44_, k45_, k46_, k47_⟩ := hrel
        obtain ⟨w40, rfl⟩ : ∃ x, x = wr := ⟨_, rfl⟩
        have HM := Lib.hid hm
        clear hm
        by_cases hlt0 : k < (halfP xs).length
        · have hky : k < ys.length := by have e := HPL.out; omega
          obtain ⟨b48_, f49_, rfl, _, b48_h, -⟩ := k45_.ints (by rw [halfP_length]; omega)
          have c50_ : w40.cell? ⟨b48_, f49_ + k, none⟩ = some (.int .i64 ((halfP xs).getD k 0)) := k45_.ints.at2 k (by first | omega | (simp; omega) | simp)
          have c50_i : (k : Int) < ((halfP xs).length : Int) := by omega
          have c50_j : (0 : Int) ≤ (k : Int) := by omega
          obtain ⟨v51_, hv51_⟩ : ∃ v, v = (halfP xs).getD k 0 := ⟨_, rfl⟩
          rw [← hv51_] at c50_
          have Hv51_ := Lib.hid hv51_
          clear hv51_
          obtain ⟨b52_, f53_, rfl, _, b52_h, -⟩ := k44_ (by omega)
          have c54_ : w40.cell? ⟨b52_, f53_ + k, none⟩ = some (.int .i64 (ys.getD k 0)) := k44_.at2 k (by first | omega | (simp; omega) | simp)
          have c54_i : (k : Int) < (ys.length : Int) := by omega
          have c54_j : (0 : Int) ≤ (k : Int) := by omega
          obtain ⟨v55_, hv55_⟩ : ∃ v, v = ys.getD k 0 := ⟨_, rfl⟩
          rw [← hv55_] at c54_
          have Hv55_ := Lib.hid hv55_
          clear hv55_
          by_cases h56_ : v55_ > v51_
          · have h56_d : decide (v55_ > v51_) = true := decide_eq_true h56_
            go_wp2
            go_ret
            exact ⟨ret_bool (mid_bad (k := k) (by omega) (fun hm => by have e0 := Hv51_.out; rw [halfP_getD] at e0; have e1 := Hv55_.out;  have p1 := H13_.out; have p2 := HGh29_.out; have p3 := HOV.out; have m1 := hm.1; have m2 := hm.2; omega)).symm, k41_⟩
          · have h56_d : decide (v55_ > v51_) = false := decide_eq_false h56_
            go_wp2
            go_roundw
            case rel => exact ⟨k + 1, by go_num, by omega, MidTo.succ HM.out (by have e0 := Hv51_.out; rw [halfP_getD] at e0; have e1 := Hv55_.out; have p1 := H13_.out; have p2 := HGh29_.out; have p3 := HOV.out; refine ⟨fun q => ?_, fun q => ?_⟩ <;> omega), k41_, (by first | omega | (simp; omega) | simp), k43_, k44_, k45_, k46_, k47_⟩
            case measure => simp [intOf] <;> omega
        · obtain rfl : k = (halfP xs).length := by omega
          go_wp2
          go_ret
          exact ⟨ret_bool (mid_end HA.out (by have e := HM.out; rw [HPL.out] at e; exact e)).symm, k41_⟩
  · have H13_ := Lib.hid h13_
    clear h13_
    obtain ⟨v14_, hv14_⟩ : ∃ v, xs.sum = v := ⟨_, rfl⟩
    have Hv14_ := Lib.hid hv14_
    clear hv14_
    have hw15_ : IntKind.i64.wrap (2 * E) = (2 * E) := IntWalk.i64_in _ (by omega)
    have g20_ : w.heap.size < w6.heap.size := (by first | omega | (simp; omega) | simp)
    have g21_ : hi ≤ w6.heap.size := (by first | omega | (simp; omega) | simp)
    have g22_ : hi' ≤ w6.heap.size := (by first | omega | (simp; omega) | simp)
    have g23_ : w.heap.size ≤ w6.heap.size := (by first | omega | (simp; omega) | simp)
    go_wp2_with fail
    refine wp_region_held_drew (S := (fun w' : World => Below w.heap.size w w' ∧ w6.heap.size ≤ w'.heap.size ∧ Ints w' (lo) (hi) A xs ∧ Ints w' (lo') (hi') D ys ∧ w'.cell? ⟨w.heap.size, 0, none⟩ = some (.int .i64 E) ∧ w'.cell? ⟨w.heap.size, 1, none⟩ = some (.slice A xs.length c) ∧ w6.heap.size ≤ w'.heap.size)) (by kernel_rfl) ⟨B12_.drew, by exact (by first | omega | (simp; omega) | simp), o9_, o10_, a7_, a8_, Nat.le_refl _⟩ (fun hHeld => ?_)
    refine wpAnyH_take (i := 0) (oi := ?oi9) (v := ?vv9) ?hi9 ?hs9 ?hf9 ?ha9 ?hq9 ?hy9 hHeld ?hr9
    case hi9 => (simp only [List.getElem?_toArray, List.getElem?_cons_zero]; exact rfl)
    case hs9 => kernel_rfl
    case hf9 => kernel_rfl
    case ha9 => kernel_rfl
    case hq9 => exact fun _ _ _ h => h
    case hy9 =>
      refine Or.inl ⟨by rfl, ?_⟩
      intro w' hSw
      try dsimp only at hSw
      go_simp
      first | done | with_reducible rfl
    simp only [Act.put, List.setIfInBounds_toArray, List.set_cons_succ, List.set_cons_zero]
    refine wpAnyH_take (i := 2) (oi := ?oi10) (v := ?vv10) ?hi10 ?hs10 ?hf10 ?ha10 ?hq10 ?hy10 hHeld ?hr10
    case hi10 => (simp only [List.getElem?_toArray, List.getElem?_cons_succ, List.getElem?_cons_zero]; exact rfl)
    case hs10 => kernel_rfl
    case hf10 => kernel_rfl
    case ha10 => kernel_rfl
    case hq10 => exact fun _ _ _ h => h
    case hy10 =>
      refine Or.inl ⟨by rfl, ?_⟩
      intro w' hSw
      try dsimp only at hSw
      go_simp
      first | done | with_reducible rfl
    simp only [Act.put, List.setIfInBounds_toArray, List.set_cons_succ, List.set_cons_zero]
    refine wpAnyH_take (i := 3) (oi := ?oi11) (v := ?vv11) ?hi11 ?hs11 ?hf11 ?ha11 ?hq11 ?hy11 hHeld ?hr11
    case hi11 => (simp only [List.getElem?_toArray, List.getElem?_cons_succ, List.getElem?_cons_zero]; exact rfl)
    case hs11 => kernel_rfl
    case hf11 => kernel_rfl
    case ha11 => kernel_rfl
    case hq11 => exact fun _ _ _ h => h
    case hy11 =>
      refine Or.inl ⟨by rfl, ?_⟩
      intro w' hSw
      try dsimp only at hSw
      go_simp
      first | done | with_reducible rfl
    simp only [Act.put, List.setIfInBounds_toArray, List.set_cons_succ, List.set_cons_zero]
    refine wpAnyH_take (i := 4) (oi := ?oi12) (v := ?vv12) ?hi12 ?hs12 ?hf12 ?ha12 ?hq12 ?hy12 hHeld ?hr12
    case hi12 => (simp only [List.getElem?_toArray, List.getElem?_cons_succ, List.getElem?_cons_zero]; exact rfl)
    case hs12 => kernel_rfl
    case hf12 => kernel_rfl
    case ha12 => kernel_rfl
    case hq12 => exact fun _ _ _ h => h
    case hy12 =>
      refine Or.inl ⟨by rfl, ?_⟩
      intro w' hSw
      try dsimp only at hSw
      go_simp
      first | done | with_reducible rfl
    simp only [Act.put, List.setIfInBounds_toArray, List.set_cons_succ, List.set_cons_zero]
    refine wpAnyH_take (i := 5) (oi := ?oi13) (v := ?vv13) ?hi13 ?hs13 ?hf13 ?ha13 ?hq13 ?hy13 hHeld ?hr13
    case hi13 => (simp only [List.getElem?_toArray, List.getElem?_cons_succ, List.getElem?_cons_zero]; exact rfl)
    case hs13 => kernel_rfl
    case hf13 => kernel_rfl
    case ha13 => kernel_rfl
    case hq13 => exact fun _ _ _ h => h
    case hy13 =>
      refine Or.inl ⟨by rfl, ?_⟩
      intro w' hSw
      try dsimp only at hSw
      go_simp
      first | done | with_reducible rfl
    simp only [Act.put, List.setIfInBounds_toArray, List.set_cons_succ, List.set_cons_zero]
    refine wpAnyH_ready (rs := [1]) (by kernel_rfl) (by simp) ?_
    refine AllReadyH.cons rfl (fun K hK => ?_) AllReadyH.nil
    go_simp
    go_at_call 43
    obtain ⟨BB, zz, k16_, k17_, k18_, k19_, zw⟩ := hHeld
    (with_reducible refine (upToHalf_no E A c xs _ _ _ k16_ (by first | omega | (simp; omega) | simp) HO.out (by have e := H13_.out; omega)).mono ?_)
    rintro e w24 ⟨rfl, hb9⟩
    refine hK.out _ _ ⟨BB.trans (hb9.mono (by omega)), Nat.le_trans zz hb9.size, k16_.below hb9 (by omega), k17_.below hb9 (by omega), (hb9.cell (p := ⟨w.heap.size, 0, none⟩) (by show w.heap.size < _; omega)).trans k18_, (hb9.cell (p := ⟨w.heap.size, 1, none⟩) (by show w.heap.size < _; omega)).trans k19_, Nat.le_trans zw hb9.size⟩ (fun hHeld => ?_)
    clear hb9 zw k19_ k18_ k17_ k16_ zz BB
    clear hK K
    try simp only [Act.put, List.setIfInBounds_toArray, List.set_cons_zero, List.set_cons_succ]
    refine wpAnyH_ready (rs := [6]) (by kernel_rfl) (by simp) ?_
    refine AllReadyH.cons rfl (fun K hK => ?_) AllReadyH.nil
    go_simp
    go_at_call 56
    obtain ⟨BB, zz, k16_, k17_, k18_, k19_, zw⟩ := hHeld
    (with_reducible refine (below_is (implOwed_is E A c xs _ _ _ k16_ (by first | omega | (simp; omega) | simp) HO.out) (congrArg (Value.int .i64) Hv14_.out)).mono ?_)
    rintro e w25 ⟨rfl, hb9⟩
    refine hK.out _ _ ⟨BB.trans (hb9.mono (by omega)), Nat.le_trans zz hb9.size, k16_.below hb9 (by omega), k17_.below hb9 (by omega), (hb9.cell (p := ⟨w.heap.size, 0, none⟩) (by show w.heap.size < _; omega)).trans k18_, (hb9.cell (p := ⟨w.heap.size, 1, none⟩) (by show w.heap.size < _; omega)).trans k19_, Nat.le_trans zw hb9.size⟩ (fun hHeld => ?_)
    clear hb9 zw k19_ k18_ k17_ k16_ zz BB
    clear hK K
    try simp only [Act.put, List.setIfInBounds_toArray, List.set_cons_zero, List.set_cons_succ]
    refine wpAnyH_take (i := 7) (oi := ?oi14) (v := ?vv14) ?hi14 ?hs14 ?hf14 ?ha14 ?hq14 ?hy14 hHeld ?hr14
    case hi14 => (simp only [List.getElem?_toArray, List.getElem?_cons_succ, List.getElem?_cons_zero]; exact rfl)
    case hs14 => kernel_rfl
    case hf14 => kernel_rfl
    case ha14 => kernel_rfl
    case hq14 => exact fun _ _ _ h => h
    case hy14 =>
      refine Or.inl ⟨by rfl, ?_⟩
      intro w' hSw
      try dsimp only at hSw
      go_simp
      first | done | with_reducible rfl
    simp only [Act.put, List.setIfInBounds_toArray, List.set_cons_succ, List.set_cons_zero]
    refine wpAnyH_take (i := 8) (oi := ?oi15) (v := ?vv15) ?hi15 ?hs15 ?hf15 ?ha15 ?hq15 ?hy15 hHeld ?hr15
    case hi15 => (simp only [List.getElem?_toArray, List.getElem?_cons_succ, List.getElem?_cons_zero]; exact rfl)
    case hs15 => kernel_rfl
    case hf15 => kernel_rfl
    case ha15 => kernel_rfl
    case hq15 => exact fun _ _ _ h => h
    case hy15 =>
      refine Or.inl ⟨by rfl, ?_⟩
      intro w' hSw
      try dsimp only at hSw
      go_simp
      first | done | with_reducible rfl
    simp only [Act.put, List.setIfInBounds_toArray, List.set_cons_succ, List.set_cons_zero]
    refine wpAnyH_take (i := 9) (oi := ?oi16) (v := ?vv16) ?hi16 ?hs16 ?hf16 ?ha16 ?hq16 ?hy16 hHeld ?hr16
    case hi16 => (simp only [List.getElem?_toArray, List.getElem?_cons_succ, List.getElem?_cons_zero]; exact rfl)
    case hs16 => kernel_rfl
    case hf16 => kernel_rfl
    case ha16 => kernel_rfl
    case hq16 => exact fun _ _ _ h => h
    case hy16 =>
      refine Or.inl ⟨by rfl, ?_⟩
      intro w' hSw
      try dsimp only at hSw
      go_simp
      first | done | with_reducible rfl
    simp only [Act.put, List.setIfInBounds_toArray, List.set_cons_succ, List.set_cons_zero]
    refine wpAnyH_done (by kernel_rfl) ?_ _
    obtain ⟨BB, zz, k16_, k17_, k18_, k19_, zw⟩ := hHeld
    clear hw15_
    have k26_ := BB
    clear BB
    have k27_ := zz
    clear zz
    have k28_ := zw
    clear zw
    have HOV := Hv14_
    by_cases h29_ : (2 * E) ≥ v14_
    · have h29_d : decide ((2 * E) ≥ v14_) = true := decide_eq_true h29_
      have HGh29_ := Lib.hid (show 2 * E ≥ v14_ from h29_)
      go_wp2_with fail
      refine (halfClaims_any E A c xs _ _ _ k16_ (by first | omega | (simp; omega) | simp) HSM.out).mono ?_
      rintro e w30 ⟨A31_, c32_, rfl, ho33_, hb30_⟩
      have a34_ := (hb30_.cell (p := ⟨w.heap.size, _, none⟩) (by first | omega | (simp; omega) | simp)).trans k18_
      have a35_ := (hb30_.cell (p := ⟨w.heap.size, _, none⟩) (by first | omega | (simp; omega) | simp)).trans k19_
      have o36_ := k16_.below hb30_ (by first | omega | (simp; omega) | simp)
      have o37_ := k17_.below hb30_ (by first | omega | (simp; omega) | simp)
      have z38_ := hb30_.size
      have B39_ := k26_.trans (hb30_.mono (by first | omega | (simp; omega) | simp))
      clear hb30_
      go_wp2
      go_loopw [24] (fun i wr => ∃ k : Nat, i = .int .i64 k ∧ (k ≤ (halfP xs).length) ∧ (MidTo E xs ys k) ∧ Below w.heap.size w wr ∧ w30.heap.size ≤ wr.heap.size ∧ Ints wr (lo) (hi) A xs ∧ Ints wr (lo') (hi') D ys ∧ Own wr (w25.heap.size) (w30.heap.size) A31_ (halfP xs) ∧ wr.cell? ⟨w.heap.size, 0, none⟩ = some (.int .i64 E) ∧ wr.cell? ⟨w.heap.size, 1, none⟩ = some (.slice A xs.length c)) (fun i _ => (halfP xs).length - (intOf i).toNat)
      case atStart => exact ⟨0, rfl, Nat.zero_le _, MidTo.zero _ _ _, B39_, (by first | omega | (simp; omega) | simp), o36_, o37_, ho33_, a34_, a35_⟩
      case round =>
        obtain ⟨k, rfl, hk, hm, k41_, k42_, k43_, k44_, k45_, k46_, k47_⟩ := hrel
        obtain ⟨w40, rfl⟩ : ∃ x, x = wr := ⟨_, rfl⟩
        have HM := Lib.hid hm
        clear hm
        by_cases hlt0 : k < (halfP xs).length
        · have hky : k < ys.length := by have e := HPL.out; omega
          obtain ⟨b48_, f49_, rfl, _, b48_h, -⟩ := k45_.ints (by rw [halfP_length]; omega)
          have c50_ : w40.cell? ⟨b48_, f49_ + k, none⟩ = some (.int .i64 ((halfP xs).getD k 0)) := k45_.ints.at2 k (by first | omega | (simp; omega) | simp)
          have c50_i : (k : Int) < ((halfP xs).length : Int) := by omega
          have c50_j : (0 : Int) ≤ (k : Int) := by omega
          obtain ⟨v51_, hv51_⟩ : ∃ v, v = (halfP xs).getD k 0 := ⟨_, rfl⟩
          rw [← hv51_] at c50_
          have Hv51_ := Lib.hid hv51_
          clear hv51_
          obtain ⟨b52_, f53_, rfl, _, b52_h, -⟩ := k44_ (by omega)
          have c54_ : w40.cell? ⟨b52_, f53_ + k, none⟩ = some (.int .i64 (ys.getD k 0)) := k44_.at2 k (by first | omega | (simp; omega) | simp)
          have c54_i : (k : Int) < (ys.length : Int) := by omega
          have c54_j : (0 : Int) ≤ (k : Int) := by omega
          obtain ⟨v55_, hv55_⟩ : ∃ v, v = ys.getD k 0 := ⟨_, rfl⟩
          rw [← hv55_] at c54_
          have Hv55_ := Lib.hid hv55_
          clear hv55_
          by_cases h56_ : v55_ < v51_
          · have h56_d : decide (v55_ < v51_) = true := decide_eq_true h56_
            go_wp2
            go_ret
            exact ⟨ret_bool (mid_bad (k := k) (by omega) (fun hm => by have e0 := Hv51_.out; rw [halfP_getD] at e0; have e1 := Hv55_.out;  have p1 := H13_.out; have p2 := HGh29_.out; have p3 := HOV.out; have m1 := hm.1; have m2 := hm.2; omega)).symm, k41_⟩
          · have h56_d : decide (v55_ < v51_) = false := decide_eq_false h56_
            go_wp2
            go_roundw
            case rel => exact ⟨k + 1, by go_num, by omega, MidTo.succ HM.out (by have e0 := Hv51_.out; rw [halfP_getD] at e0; have e1 := Hv55_.out; have p1 := H13_.out; have p2 := HGh29_.out; have p3 := HOV.out; refine ⟨fun q => ?_, fun q => ?_⟩ <;> omega), k41_, (by first | omega | (simp; omega) | simp), k43_, k44_, k45_, k46_, k47_⟩
            case measure => simp [intOf] <;> omega
        · obtain rfl : k = (halfP xs).length := by omega
          go_wp2
          go_ret
          exact ⟨ret_bool (mid_end HA.out (by have e := HM.out; rw [HPL.out] at e; exact e)).symm, k41_⟩
    · have h29_d : decide ((2 * E) ≥ v14_) = false := decide_eq_false h29_
      have HGh29_ := Lib.hid (show ¬ 2 * E ≥ v14_ from h29_)
      go_wp2_with fail
      refine (halfClaims_any E A c xs _ _ _ k16_ (by first | omega | (simp; omega) | simp) HSM.out).mono ?_
      rintro e w30 ⟨A31_, c32_, rfl, ho33_, hb30_⟩
      have a34_ := (hb30_.cell (p := ⟨w.heap.size, _, none⟩) (by first | omega | (simp; omega) | simp)).trans k18_
      have a35_ := (hb30_.cell (p := ⟨w.heap.size, _, none⟩) (by first | omega | (simp; omega) | simp)).trans k19_
      have o36_ := k16_.below hb30_ (by first | omega | (simp; omega) | simp)
      have o37_ := k17_.below hb30_ (by first | omega | (simp; omega) | simp)
      have z38_ := hb30_.size
      have B39_ := k26_.trans (hb30_.mono (by first | omega | (simp; omega) | simp))
      clear hb30_
      go_wp2
      go_loopw [24] (fun i wr => ∃ k : Nat, i = .int .i64 k ∧ (k ≤ (halfP xs).length) ∧ (MidTo E xs ys k) ∧ Below w.heap.size w wr ∧ w30.heap.size ≤ wr.heap.size ∧ Ints wr (lo) (hi) A xs ∧ Ints wr (lo') (hi') D ys ∧ Own wr (w25.heap.size) (w30.heap.size) A31_ (halfP xs) ∧ wr.cell? ⟨w.heap.size, 0, none⟩ = some (.int .i64 E) ∧ wr.cell? ⟨w.heap.size, 1, none⟩ = some (.slice A xs.length c)) (fun i _ => (halfP xs).length - (intOf i).toNat)
      case atStart => exact ⟨0, rfl, Nat.zero_le _, MidTo.zero _ _ _, B39_, (by first | omega | (simp; omega) | simp), o36_, o37_, ho33_, a34_, a35_⟩
      case round =>
        obtain ⟨k, rfl, hk, hm, k41_, k42_, k43_, k44_, k45_, k46_, k47_⟩ := hrel
        obtain ⟨w40, rfl⟩ : ∃ x, x = wr := ⟨_, rfl⟩
        have HM := Lib.hid hm
        clear hm
        by_cases hlt0 : k < (halfP xs).length
        · have hky : k < ys.length := by have e := HPL.out; omega
          obtain ⟨b48_, f49_, rfl, _, b48_h, -⟩ := k45_.ints (by rw [halfP_length]; omega)
          have c50_ : w40.cell? ⟨b48_, f49_ + k, none⟩ = some (.int .i64 ((halfP xs).getD k 0)) := k45_.ints.at2 k (by first | omega | (simp; omega) | simp)
          have c50_i : (k : Int) < ((halfP xs).length : Int) := by omega
          have c50_j : (0 : Int) ≤ (k : Int) := by omega
          obtain ⟨v51_, hv51_⟩ : ∃ v, v = (halfP xs).getD k 0 := ⟨_, rfl⟩
          rw [← hv51_] at c50_
          have Hv51_ := Lib.hid hv51_
          clear hv51_
          go_wp2
          go_roundw
          case rel => exact ⟨k + 1, by go_num, by omega, MidTo.succ HM.out (by have e0 := Hv51_.out; rw [halfP_getD] at e0; have p1 := H13_.out; have p2 := HGh29_.out; have p3 := HOV.out; refine ⟨fun q => ?_, fun q => ?_⟩ <;> omega), k41_, (by first | omega | (simp; omega) | simp), k43_, k44_, k45_, k46_, k47_⟩
          case measure => simp [intOf] <;> omega
        · obtain rfl : k = (halfP xs).length := by omega
          go_wp2
          go_ret
          exact ⟨ret_bool (mid_end HA.out (by have e := HM.out; rw [HPL.out] at e; exact e)).symm, k41_⟩

theorem implMidOk_any (E : Int) (A : Option Addr) (c : Nat) (xs : List Int) (D : Option Addr) (d : Nat) (ys : List Int) (w : World) (lo hi : Nat) (h : Ints w lo hi A xs) (hh : hi ≤ w.heap.size) (hl : xs.length ≤ 1152921504606846976) (lo' hi' : Nat) (h' : Ints w lo' hi' D ys) (hh' : hi' ≤ w.heap.size) (hl' : ys.length ≤ 1152921504606846976) :
    Calls Try.prog 23 #[.agg #[.int .i64 E, .slice A xs.length c], .slice D ys.length d] w fun e w' => e = .returned (.bool (midB E xs ys)) ∧ Below w.heap.size w w' := by
  by_cases hok : awardsB E xs ys = true
  · exact implMidOk_yes E A c xs D d ys w lo hi h hh hl lo' hi' h' hh' hl' hok
  · have hok' : awardsB E xs ys = false := by simpa using hok
    rw [mid_no hok']; exact implMidOk_no E A c xs D d ys w lo hi h hh hl lo' hi' h' hh' hl' hok'

theorem implMid_is (E : Int) (A : Option Addr) (c : Nat) (xs : List Int) (D : Option Addr) (d : Nat) (ys : List Int) (w : World) (lo hi : Nat) (h : Ints w lo hi A xs) (hh : hi ≤ w.heap.size) (hl : xs.length ≤ 1152921504606846976)
    (lo' hi' : Nat) (h' : Ints w lo' hi' D ys) (hh' : hi' ≤ w.heap.size) (hl' : ys.length ≤ 1152921504606846976) (K : Bool) (hK : midB E xs ys = K) :
    Calls Try.prog 23 #[.agg #[.int .i64 E, .slice A xs.length c], .slice D ys.length d] w fun e w' => e = .returned (.bool K) ∧ Below w.heap.size w w' := by
  have e := implMidOk_any E A c xs D d ys w lo hi h hh hl lo' hi' h' hh' hl'
  rw [hK] at e
  exact e

theorem implHalf_is (E : Int) (A : Option Addr) (c : Nat) (xs H : List Int) (w : World) (lo hi : Nat) (h : Ints w lo hi A xs) (hh : hi ≤ w.heap.size) (hok : caseOkB E xs = true) (hH : halfAw E xs = H) :
    Calls Try.prog 11 #[.agg #[.int .i64 E, .slice A xs.length c]] w (RetInts w H) := by
  subst hH; exact implHalfAwards_yes E A c xs w lo hi h hh hok
theorem implLv_is (E : Int) (A : Option Addr) (c : Nat) (xs : List Int) (V : Int) (w : World) (lo hi : Nat) (h : Ints w lo hi A xs) (hh : hi ≤ w.heap.size) (hok : caseOkB E xs = true) (hV : halfLv E xs = V) :
    Calls Try.prog 31 #[.agg #[.int .i64 E, .slice A xs.length c]] w (fun e w' => e = .returned (.int .i64 V) ∧ Below w.heap.size w w') := by
  subst hV; exact implHalfLevel_yes E A c xs w lo hi h hh hok
theorem implHalfAwards_any (E : Int) (A : Option Addr) (c : Nat) (xs : List Int) (w : World) (lo hi : Nat) (h : Ints w lo hi A xs) (hh : hi ≤ w.heap.size) (hl : xs.length ≤ 1152921504606846976) :
    Calls Try.prog 11 #[.agg #[.int .i64 E, .slice A xs.length c]] w (RetInts w (halfAws E xs)) := by
  by_cases hok : caseOkB E xs = true
  · have e := implHalfAwards_yes E A c xs w lo hi h hh hok
    simpa [halfAws, hok] using e
  · have hok' : caseOkB E xs = false := by simpa using hok
    have e := implHalfAwards_no E A c xs w lo hi h hh hl hok'
    simpa [halfAws, hok'] using e
theorem implHalfLevel_any (E : Int) (A : Option Addr) (c : Nat) (xs : List Int) (w : World) (lo hi : Nat) (h : Ints w lo hi A xs) (hh : hi ≤ w.heap.size) (hl : xs.length ≤ 1152921504606846976) :
    Calls Try.prog 31 #[.agg #[.int .i64 E, .slice A xs.length c]] w (fun e w' => e = .returned (.int .i64 (halfLvl E xs)) ∧ Below w.heap.size w w') := by
  by_cases hok : caseOkB E xs = true
  · have e := implHalfLevel_yes E A c xs w lo hi h hh hok
    simpa [halfLvl, hok] using e
  · have hok' : caseOkB E xs = false := by simpa using hok
    have e := implHalfLevel_no E A c xs w lo hi h hh hl hok'
    simpa [halfLvl, hok'] using e
theorem specLv_is (E : Int) (A : Option Addr) (c : Nat) (xs : List Int) (V : Int) (w : World) (lo hi : Nat) (h : Ints w lo hi A xs) (hh : hi ≤ w.heap.size) (hok : caseOkB E xs = true) (hV : halfLv E xs = V) :
    Calls Try.prog 32 #[.agg #[.int .i64 E, .slice A xs.length c]] w (fun e w' => e = .returned (.int .i64 V) ∧ Below w.heap.size w w') := by
  subst hV; exact specHalfLevel_yes E A c xs w lo hi h hh hok


end Go.Proofs.Ytngalomfljoomaa
