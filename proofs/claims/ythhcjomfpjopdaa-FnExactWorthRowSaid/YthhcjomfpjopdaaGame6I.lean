/-
  The program's functions CoreOk and MissRow. They make new memory only. No condition but lengths that fit.
-/
import Derived.Test.YthhcjomfpjopdaaGame6A
import Derived.Test.YthhcjomfpjopdaaMiss
import Derived.Test.YthhcjomfpjopdaaHalfI
namespace Go.Proofs.Ythhcjomfpjopdaa
open Go.RowKit

theorem core_min {E : Int} {xs ys : List Int} (h : Core E xs ys) (hn : 0 < ys.length) : 0 ≤ Lib.minOf ys ∧ Lib.maxOf ys ≤ 48 * xs.sum :=
  ⟨(minOf_le hn _).2 fun k hk => (h.2.2.1 k hk).1, (le_maxOf hn _).2 fun k hk => (h.2.2.1 k hk).2⟩
theorem inrow_of {M : Int} {ys : List Int} (hn : 0 < ys.length) (h1 : 0 ≤ Lib.minOf ys) (h2 : Lib.maxOf ys ≤ M) : ∀ k, k < ys.length → InRow M ys k :=
  fun k hk => ⟨(minOf_le hn _).1 h1 k hk, (le_maxOf hn _).1 h2 k hk⟩
theorem worthRow_at {E : Int} {xs : List Int} {p s : Nat} (h : caseOkB E xs = true) (hp : 2 ^ xs.length = p) (hs : s < p) : (worthRow E xs).getD s 0 = worth E xs (s : Int) := by
  rw [worthRow, if_pos h, hp]; exact worthTo_getD E xs hs
theorem worthRow_is {E : Int} {xs : List Int} {p : Nat} (h : caseOkB E xs = true) (hp : 2 ^ xs.length = p) : (worthRow E xs).length = p := by
  rw [worthRow, if_pos h, hp, worthTo_length]
theorem core_in {E : Int} {xs ys : List Int} {p : Nat} (hp : 2 ^ xs.length = p) (h : Core E xs ys) {m : Nat} (hm : m < p) : 48 * worth E xs (m : Int) ≤ inSum ys (m : Int) ys.length :=
  h.2.2.2.1 m (by rw [h.2.1]; subst hp; exact_mod_cast hm)

set_option maxRecDepth 10000 in
set_option maxHeartbeats 1000000 in
theorem implCoreOk_any (E : Int) (A : Option Addr) (c : Nat) (xs : List Int) (D : Option Addr) (d : Nat) (ys : List Int) (w : World) (lo hi : Nat) (h : Ints w lo hi A xs) (hh : hi ≤ w.heap.size) (hl : xs.length ≤ 1152921504606846976) (lo' hi' : Nat) (h' : Ints w lo' hi' D ys) (hh' : hi' ≤ w.heap.size) (hl' : ys.length ≤ 1152921504606846976) :
    Calls Try.prog 19 #[.agg #[.int .i64 E, .slice A xs.length c], .slice D ys.length d] w fun e w' => e = .returned (.bool (coreB E xs ys)) ∧ Below w.heap.size w w' := by
  have hlu := hl'
  go_enter Try.func19, Try.ntmps19
  have o1_ := h.alloc (by first | omega | (simp; omega) | simp) (.cells #[.int .i64 E, .slice A xs.length c] 25)
  have o2_ := h'.alloc (by first | omega | (simp; omega) | simp) (.cells #[.int .i64 E, .slice A xs.length c] 25)
  have B3_ := (Below.refl w.heap.size w).alloc (Nat.le_refl _) (.cells #[.int .i64 E, .slice A xs.length c] 25)
  have a4_ : (w.alloc (.cells #[.int .i64 E, .slice A xs.length c] 25)).cell? ⟨w.heap.size, 0, none⟩ = some (.int .i64 E) := by simp [go_sem]
  have a5_ : (w.alloc (.cells #[.int .i64 E, .slice A xs.length c] 25)).cell? ⟨w.heap.size, 1, none⟩ = some (.slice A xs.length c) := by simp [go_sem]
  by_cases h6_ : caseOkB E xs = true
  · have H6_ := Lib.hid h6_
    clear h6_
    have hbd := caseOk_bd H6_.out
    have HV := Lib.hid (fun k hk => case_getD H6_.out k hk)
    have HSM := Lib.hid (caseOk_small H6_.out)
    have HCB := Lib.hid H6_.out
    obtain ⟨p, hp⟩ : ∃ p : Nat, 2 ^ xs.length = p := ⟨_, rfl⟩
    have hpb := pow_bd3 hp hbd.2.1
    obtain ⟨hp1, hp2⟩ := hpb
    have HP := Lib.hid hp
    clear hp
    go_wp2_with fail
    refine (implCaseOk_any E A c xs _ _ _ o1_ (by first | omega | (simp; omega) | simp) hl).mono ?_
    rintro e w7 ⟨he, hb7_⟩
    rw [H6_.out] at he
    subst he
    have o8_ := o1_.below hb7_ (by first | omega | (simp; omega) | simp)
    have o9_ := o2_.below hb7_ (by first | omega | (simp; omega) | simp)
    have o10_ := (hb7_.cell (p := ⟨w.heap.size, 0, none⟩) (by first | omega | (simp; omega) | simp)).trans a4_
    have o11_ := (hb7_.cell (p := ⟨w.heap.size, 1, none⟩) (by first | omega | (simp; omega) | simp)).trans a5_
    have z12_ := hb7_.size
    try simp at z12_
    have B13_ := B3_.trans (hb7_.mono (by first | omega | (simp; omega) | simp))
    clear hb7_
    by_cases h14_ : (ys.length : Int) = (xs.length : Int)
    · have h14_b : ((ys.length : Int) == (xs.length : Int)) = true := by simpa using h14_
      have h14_n : ((ys.length : Int) != (xs.length : Int)) = false := by simpa using h14_
      have h14_le : (ys.length : Int) ≤ (xs.length : Int) := by omega
      have h14_ge : (xs.length : Int) ≤ (ys.length : Int) := by omega
      have Hh14_ := Lib.hid h14_
      clear h14_
      obtain ⟨v15_, hv15_⟩ : ∃ v, Lib.minOf ys = v := ⟨_, rfl⟩
      have Hv15_ := Lib.hid hv15_
      clear hv15_
      by_cases h16_ : v15_ < 0
      · have h16_d : decide (v15_ < 0) = true := decide_eq_true h16_
        go_wp2
        go_quiet ((go_at_call 56; exact quiet_left1 (same_is (minOf_any D d ys _ _ _ o9_ (by omega) (by omega)) (congrArg (Value.int .i64) Hv15_.out))))
        obtain ⟨w17, hw17⟩ : ∃ x, x = w7.drewN nq := ⟨_, rfl⟩
        have hb18_ : Below w7.heap.size w7 w17 := by rw [hw17]; exact below_drewN (Below.refl _ _) _
        rw [← hw17]
        clear hw17
        have o20_ := o8_.below hb18_ (by first | omega | (simp; omega) | simp)
        have o21_ := o9_.below hb18_ (by first | omega | (simp; omega) | simp)
        have o22_ := (hb18_.cell (p := ⟨w.heap.size, 0, none⟩) (by first | omega | (simp; omega) | simp)).trans o10_
        have o23_ := (hb18_.cell (p := ⟨w.heap.size, 1, none⟩) (by first | omega | (simp; omega) | simp)).trans o11_
        have z24_ := hb18_.size
        have B25_ := B13_.trans (hb18_.mono (by first | omega | (simp; omega) | simp))
        clear hb18_
        go_wp2
        go_ret
        exact ⟨ret_bool (by first | exact (coreB_no (fun h => by have e := (core_min h (by omega)).1; rw [Hv15_.out] at e; omega)).symm | exact (decide_eq_true (by omega)).trans (coreB_no (fun h => by have e := (core_min h (by omega)).1; rw [Hv15_.out] at e; omega)).symm), B25_⟩
      · have h16_d : decide (v15_ < 0) = false := decide_eq_false h16_
        obtain ⟨v17_, hv17_⟩ : ∃ v, Lib.maxOf ys = v := ⟨_, rfl⟩
        have Hv17_ := Lib.hid hv17_
        clear hv17_
        obtain ⟨v18_, hv18_⟩ : ∃ v, xs.sum = v := ⟨_, rfl⟩
        have bv18_ : 0 ≤ v18_ ∧ v18_ ≤ 48 := by omega
        obtain ⟨bv18_1, bv18_2⟩ := bv18_
        have Hv18_ := Lib.hid hv18_
        clear hv18_
        by_cases h19_ : v17_ > (48 * v18_)
        · have h19_d : decide (v17_ > (48 * v18_)) = true := decide_eq_true h19_
          have hw20_ : IntKind.i64.wrap (48 * v18_) = (48 * v18_) := IntWalk.i64_in _ (by omega)
          have g25_ : w.heap.size < w7.heap.size := (by first | omega | (simp; omega) | simp)
          have g26_ : hi ≤ w7.heap.size := (by first | omega | (simp; omega) | simp)
          have g27_ : hi' ≤ w7.heap.size := (by first | omega | (simp; omega) | simp)
          have g28_ : w.heap.size ≤ w7.heap.size := (by first | omega | (simp; omega) | simp)
          go_wp2_with fail
          refine wp_region_held_drew (S := (fun w' : World => Below w.heap.size w w' ∧ w7.heap.size ≤ w'.heap.size ∧ Ints w' (lo) (hi) A xs ∧ Ints w' (lo') (hi') D ys ∧ w'.cell? ⟨w.heap.size, 0, none⟩ = some (.int .i64 E) ∧ w'.cell? ⟨w.heap.size, 1, none⟩ = some (.slice A xs.length c) ∧ w7.heap.size ≤ w'.heap.size)) (by kernel_rfl) ⟨B13_.drew, by exact (by first | omega | (simp; omega) | simp), o8_, o9_, o10_, o11_, Nat.le_refl _⟩ (fun hHeld => ?_)
          refine wpAnyH_take (i := 0) (oi := ?oi1) (v := ?vv1) ?hi1 ?hs1 ?hf1 ?ha1 ?hq1 ?hy1 hHeld ?hr1
          case hi1 => (simp only [List.getElem?_toArray, List.getElem?_cons_zero]; exact rfl)
          case hs1 => kernel_rfl
          case hf1 => kernel_rfl
          case ha1 => kernel_rfl
          case hq1 => exact fun _ _ _ h => h
          case hy1 =>
            refine Or.inl ⟨by rfl, ?_⟩
            intro w' hSw
            try dsimp only at hSw
            go_simp
            first | done | with_reducible rfl
          simp only [Act.put, List.setIfInBounds_toArray, List.set_cons_succ, List.set_cons_zero]
          refine wpAnyH_ready (rs := [1]) (by kernel_rfl) (by simp) ?_
          refine AllReadyH.cons rfl (fun K hK => ?_) AllReadyH.nil
          go_simp
          go_at_call 56
          obtain ⟨BB, zz, k21_, k22_, k23_, k24_, zw⟩ := hHeld
          (with_reducible refine (same_is (minOf_any D d ys _ _ _ k22_ (by omega) (by omega)) (congrArg (Value.int .i64) Hv15_.out)).mono ?_)
          rintro e w9 ⟨rfl, rfl⟩
          refine hK.out _ _ ⟨BB, zz, k21_, k22_, k23_, k24_, zw⟩ (fun hHeld => ?_)
          clear hK K
          try simp only [Act.put, List.setIfInBounds_toArray, List.set_cons_zero, List.set_cons_succ]
          refine wpAnyH_take (i := 2) (oi := ?oi2) (v := ?vv2) ?hi2 ?hs2 ?hf2 ?ha2 ?hq2 ?hy2 hHeld ?hr2
          case hi2 => (simp only [List.getElem?_toArray, List.getElem?_cons_succ, List.getElem?_cons_zero]; exact rfl)
          case hs2 => kernel_rfl
          case hf2 => kernel_rfl
          case ha2 => kernel_rfl
          case hq2 => exact fun _ _ _ h => h
          case hy2 =>
            refine Or.inl ⟨by rfl, ?_⟩
            intro w' hSw
            try dsimp only at hSw
            go_simp
            first | done | with_reducible rfl
          simp only [Act.put, List.setIfInBounds_toArray, List.set_cons_succ, List.set_cons_zero]
          refine wpAnyH_take (i := 3) (oi := ?oi3) (v := ?vv3) ?hi3 ?hs3 ?hf3 ?ha3 ?hq3 ?hy3 hHeld ?hr3
          case hi3 => (simp only [List.getElem?_toArray, List.getElem?_cons_succ, List.getElem?_cons_zero]; exact rfl)
          case hs3 => kernel_rfl
          case hf3 => kernel_rfl
          case ha3 => kernel_rfl
          case hq3 => exact fun _ _ _ h => h
          case hy3 =>
            refine Or.inl ⟨by rfl, ?_⟩
            intro w' hSw
            try dsimp only at hSw
            go_simp
            first | done | with_reducible rfl
          simp only [Act.put, List.setIfInBounds_toArray, List.set_cons_succ, List.set_cons_zero]
          refine wpAnyH_take (i := 4) (oi := ?oi4) (v := ?vv4) ?hi4 ?hs4 ?hf4 ?ha4 ?hq4 ?hy4 hHeld ?hr4
          case hi4 => (simp only [List.getElem?_toArray, List.getElem?_cons_succ, List.getElem?_cons_zero]; exact rfl)
          case hs4 => kernel_rfl
          case hf4 => kernel_rfl
          case ha4 => kernel_rfl
          case hq4 => exact fun _ _ _ h => h
          case hy4 =>
            refine Or.inl ⟨by rfl, ?_⟩
            intro w' hSw
            try dsimp only at hSw
            go_simp
            first | done | with_reducible rfl
          simp only [Act.put, List.setIfInBounds_toArray, List.set_cons_succ, List.set_cons_zero]
          refine wpAnyH_take (i := 6) (oi := ?oi5) (v := ?vv5) ?hi5 ?hs5 ?hf5 ?ha5 ?hq5 ?hy5 hHeld ?hr5
          case hi5 => (simp only [List.getElem?_toArray, List.getElem?_cons_succ, List.getElem?_cons_zero]; exact rfl)
          case hs5 => kernel_rfl
          case hf5 => kernel_rfl
          case ha5 => kernel_rfl
          case hq5 => exact fun _ _ _ h => h
          case hy5 =>
            refine Or.inl ⟨by rfl, ?_⟩
            intro w' hSw
            try dsimp only at hSw
            go_simp
            first | done | with_reducible rfl
          simp only [Act.put, List.setIfInBounds_toArray, List.set_cons_succ, List.set_cons_zero]
          refine wpAnyH_ready (rs := [5]) (by kernel_rfl) (by simp) ?_
          refine AllReadyH.cons rfl (fun K hK => ?_) AllReadyH.nil
          go_simp
          go_at_call 57
          obtain ⟨BB, zz, k21_, k22_, k23_, k24_, zw⟩ := hHeld
          (with_reducible refine (same_is (maxOf_any D d ys _ _ _ k22_ (by omega) (by omega)) (congrArg (Value.int .i64) Hv17_.out)).mono ?_)
          rintro e w9 ⟨rfl, rfl⟩
          refine hK.out _ _ ⟨BB, zz, k21_, k22_, k23_, k24_, zw⟩ (fun hHeld => ?_)
          clear hK K
          try simp only [Act.put, List.setIfInBounds_toArray, List.set_cons_zero, List.set_cons_succ]
          refine wpAnyH_ready (rs := [7]) (by kernel_rfl) (by simp) ?_
          refine AllReadyH.cons rfl (fun K hK => ?_) AllReadyH.nil
          go_simp
          go_at_call 58
          obtain ⟨BB, zz, k21_, k22_, k23_, k24_, zw⟩ := hHeld
          (with_reducible refine (below_is (implOwed_is E A c xs _ _ _ k21_ (by first | omega | (simp; omega) | simp) HCB.out) (congrArg (Value.int .i64) Hv18_.out)).mono ?_)
          rintro e w29 ⟨rfl, hb9⟩
          refine hK.out _ _ ⟨BB.trans (hb9.mono (by omega)), Nat.le_trans zz hb9.size, k21_.below hb9 (by first | omega | (simp; omega) | simp), k22_.below hb9 (by first | omega | (simp; omega) | simp), (hb9.cell (p := ⟨w.heap.size, 0, none⟩) (by first | omega | (simp; omega) | simp)).trans k23_, (hb9.cell (p := ⟨w.heap.size, 1, none⟩) (by first | omega | (simp; omega) | simp)).trans k24_, Nat.le_trans zw hb9.size⟩ (fun hHeld => ?_)
          clear hb9 zw k24_ k23_ k22_ k21_ zz BB
          clear hK K
          try simp only [Act.put, List.setIfInBounds_toArray, List.set_cons_zero, List.set_cons_succ]
          refine wpAnyH_take (i := 8) (oi := ?oi6) (v := ?vv6) ?hi6 ?hs6 ?hf6 ?ha6 ?hq6 ?hy6 hHeld ?hr6
          case hi6 => (simp only [List.getElem?_toArray, List.getElem?_cons_succ, List.getElem?_cons_zero]; exact rfl)
          case hs6 => kernel_rfl
          case hf6 => kernel_rfl
          case ha6 => kernel_rfl
          case hq6 => exact fun _ _ _ h => h
          case hy6 =>
            refine Or.inl ⟨by rfl, ?_⟩
            intro w' hSw
            try dsimp only at hSw
            go_simp
            first | done | with_reducible rfl
          simp only [Act.put, List.setIfInBounds_toArray, List.set_cons_succ, List.set_cons_zero]
          refine wpAnyH_take (i := 9) (oi := ?oi7) (v := ?vv7) ?hi7 ?hs7 ?hf7 ?ha7 ?hq7 ?hy7 hHeld ?hr7
          case hi7 => (simp only [List.getElem?_toArray, List.getElem?_cons_succ, List.getElem?_cons_zero]; exact rfl)
          case hs7 => kernel_rfl
          case hf7 => kernel_rfl
          case ha7 => kernel_rfl
          case hq7 => exact fun _ _ _ h => h
          case hy7 =>
            refine Or.inl ⟨by rfl, ?_⟩
            intro w' hSw
            try dsimp only at hSw
            go_simp
            first | done | with_reducible rfl
          simp only [Act.put, List.setIfInBounds_toArray, List.set_cons_succ, List.set_cons_zero]
          refine wpAnyH_take (i := 10) (oi := ?oi8) (v := ?vv8) ?hi8 ?hs8 ?hf8 ?ha8 ?hq8 ?hy8 hHeld ?hr8
          case hi8 => (simp only [List.getElem?_toArray, List.getElem?_cons_succ, List.getElem?_cons_zero]; exact rfl)
          case hs8 => kernel_rfl
          case hf8 => kernel_rfl
          case ha8 => kernel_rfl
          case hq8 => exact fun _ _ _ h => h
          case hy8 =>
            refine Or.inl ⟨by rfl, ?_⟩
            intro w' hSw
            try dsimp only at hSw
            go_simp
            first | done | with_reducible rfl
          simp only [Act.put, List.setIfInBounds_toArray, List.set_cons_succ, List.set_cons_zero]
          refine wpAnyH_take (i := 11) (oi := ?oi9) (v := ?vv9) ?hi9 ?hs9 ?hf9 ?ha9 ?hq9 ?hy9 hHeld ?hr9
          case hi9 => (simp only [List.getElem?_toArray, List.getElem?_cons_succ, List.getElem?_cons_zero]; exact rfl)
          case hs9 => kernel_rfl
          case hf9 => kernel_rfl
          case ha9 => kernel_rfl
          case hq9 => exact fun _ _ _ h => h
          case hy9 =>
            refine Or.inl ⟨by rfl, ?_⟩
            intro w' hSw
            try dsimp only at hSw
            go_simp
            first | done | with_reducible rfl
          simp only [Act.put, List.setIfInBounds_toArray, List.set_cons_succ, List.set_cons_zero]
          refine wpAnyH_take (i := 12) (oi := ?oi10) (v := undef) ?hi10 ?hs10 ?hf10 ?ha10 ?hq10 ?hy10 hHeld ?hr10
          case hi10 => (simp only [List.getElem?_toArray, List.getElem?_cons_succ, List.getElem?_cons_zero]; exact rfl)
          case hs10 => kernel_rfl
          case hf10 => kernel_rfl
          case ha10 => kernel_rfl
          case hq10 => exact fun _ _ _ h => h
          case hy10 => exact Or.inr ⟨by rfl, rfl⟩
          simp only [Act.put, List.setIfInBounds_toArray, List.set_cons_succ, List.set_cons_zero]
          refine wpAnyH_take (i := 13) (oi := ?oi11) (v := undef) ?hi11 ?hs11 ?hf11 ?ha11 ?hq11 ?hy11 hHeld ?hr11
          case hi11 => (simp only [List.getElem?_toArray, List.getElem?_cons_succ, List.getElem?_cons_zero]; exact rfl)
          case hs11 => kernel_rfl
          case hf11 => kernel_rfl
          case ha11 => kernel_rfl
          case hq11 => exact fun _ _ _ h => h
          case hy11 => exact Or.inr ⟨by rfl, rfl⟩
          simp only [Act.put, List.setIfInBounds_toArray, List.set_cons_succ, List.set_cons_zero]
          refine wpAnyH_take (i := 14) (oi := ?oi12) (v := undef) ?hi12 ?hs12 ?hf12 ?ha12 ?hq12 ?hy12 hHeld ?hr12
          case hi12 => (simp only [List.getElem?_toArray, List.getElem?_cons_succ, List.getElem?_cons_zero]; exact rfl)
          case hs12 => kernel_rfl
          case hf12 => kernel_rfl
          case ha12 => kernel_rfl
          case hq12 => exact fun _ _ _ h => h
          case hy12 => exact Or.inr ⟨by rfl, rfl⟩
          simp only [Act.put, List.setIfInBounds_toArray, List.set_cons_succ, List.set_cons_zero]
          refine wpAnyH_take (i := 15) (oi := ?oi13) (v := undef) ?hi13 ?hs13 ?hf13 ?ha13 ?hq13 ?hy13 hHeld ?hr13
          case hi13 => (simp only [List.getElem?_toArray, List.getElem?_cons_succ, List.getElem?_cons_zero]; exact rfl)
          case hs13 => kernel_rfl
          case hf13 => kernel_rfl
          case ha13 => kernel_rfl
          case hq13 => exact fun _ _ _ h => h
          case hy13 => exact Or.inr ⟨by rfl, rfl⟩
          simp only [Act.put, List.setIfInBounds_toArray, List.set_cons_succ, List.set_cons_zero]
          refine wpAnyH_take (i := 16) (oi := ?oi14) (v := undef) ?hi14 ?hs14 ?hf14 ?ha14 ?hq14 ?hy14 hHeld ?hr14
          case hi14 => (simp only [List.getElem?_toArray, List.getElem?_cons_succ, List.getElem?_cons_zero]; exact rfl)
          case hs14 => kernel_rfl
          case hf14 => kernel_rfl
          case ha14 => kernel_rfl
          case hq14 => exact fun _ _ _ h => h
          case hy14 => exact Or.inr ⟨by rfl, rfl⟩
          simp only [Act.put, List.setIfInBounds_toArray, List.set_cons_succ, List.set_cons_zero]
          refine wpAnyH_take (i := 17) (oi := ?oi15) (v := undef) ?hi15 ?hs15 ?hf15 ?ha15 ?hq15 ?hy15 hHeld ?hr15
          case hi15 => (simp only [List.getElem?_toArray, List.getElem?_cons_succ, List.getElem?_cons_zero]; exact rfl)
          case hs15 => kernel_rfl
          case hf15 => kernel_rfl
          case ha15 => kernel_rfl
          case hq15 => exact fun _ _ _ h => h
          case hy15 => exact Or.inr ⟨by rfl, rfl⟩
          simp only [Act.put, List.setIfInBounds_toArray, List.set_cons_succ, List.set_cons_zero]
          refine wpAnyH_take (i := 18) (oi := ?oi16) (v := ?vv16) ?hi16 ?hs16 ?hf16 ?ha16 ?hq16 ?hy16 hHeld ?hr16
          case hi16 => (simp only [List.getElem?_toArray, List.getElem?_cons_succ, List.getElem?_cons_zero]; exact rfl)
          case hs16 => kernel_rfl
          case hf16 => kernel_rfl
          case ha16 => kernel_rfl
          case hq16 => exact fun _ _ _ h => h
          case hy16 =>
            refine Or.inl ⟨by rfl, ?_⟩
            intro w' hSw
            try dsimp only at hSw
            go_simp
            first | done | with_reducible rfl
          simp only [Act.put, List.setIfInBounds_toArray, List.set_cons_succ, List.set_cons_zero]
          refine wpAnyH_done (by kernel_rfl) ?_ _
          obtain ⟨BB, zz, k21_, k22_, k23_, k24_, zw⟩ := hHeld
          clear hw20_
          have k30_ := BB
          clear BB
          have k31_ := zz
          clear zz
          have k32_ := zw
          clear zw
          go_wp2
          go_ret
          exact ⟨ret_bool (by first | exact (coreB_no (fun h => by have e := (core_min h (by omega)).2; rw [Hv17_.out, Hv18_.out] at e; omega)).symm | exact (decide_eq_true (by omega)).trans (coreB_no (fun h => by have e := (core_min h (by omega)).2; rw [Hv17_.out, Hv18_.out] at e; omega)).symm), k30_⟩
        · have h19_d : decide (v17_ > (48 * v18_)) = false := decide_eq_false h19_
          have HUP := Lib.hid (inrow_of (M := 48 * xs.sum) (ys := ys) (by omega) (by rw [Hv15_.out]; omega) (by rw [Hv17_.out, Hv18_.out]; omega))
          have HY := Lib.hid (inrow_bd HUP.out hbd)
          have HSY := Lib.hid (inrow_small (by omega) HY.out)
          have hsb := sum_bd ys HSY.out ys.length
          rw [List.take_length] at hsb
          have HWL : Hid ((worthRow E xs).length = p) := worthRow_is HCB.out HP.out
          obtain ⟨v20_, hv20_⟩ : ∃ v, ys.sum = v := ⟨_, rfl⟩
          have Hv20_ := Lib.hid hv20_
          clear hv20_
          have hw21_ : IntKind.i64.wrap (48 * v18_) = (48 * v18_) := IntWalk.i64_in _ (by omega)
          have hw22_ : IntKind.i64.wrap (48 * E) = (48 * E) := IntWalk.i64_in _ (by omega)
          have g27_ : w.heap.size < w7.heap.size := (by first | omega | (simp; omega) | simp)
          have g28_ : hi ≤ w7.heap.size := (by first | omega | (simp; omega) | simp)
          have g29_ : hi' ≤ w7.heap.size := (by first | omega | (simp; omega) | simp)
          have g30_ : w.heap.size ≤ w7.heap.size := (by first | omega | (simp; omega) | simp)
          go_wp2_with fail
          refine wp_region_held_drew (S := (fun w' : World => Below w.heap.size w w' ∧ w7.heap.size ≤ w'.heap.size ∧ Ints w' (lo) (hi) A xs ∧ Ints w' (lo') (hi') D ys ∧ w'.cell? ⟨w.heap.size, 0, none⟩ = some (.int .i64 E) ∧ w'.cell? ⟨w.heap.size, 1, none⟩ = some (.slice A xs.length c) ∧ w7.heap.size ≤ w'.heap.size)) (by kernel_rfl) ⟨B13_.drew, by exact (by first | omega | (simp; omega) | simp), o8_, o9_, o10_, o11_, Nat.le_refl _⟩ (fun hHeld => ?_)
          refine wpAnyH_take (i := 0) (oi := ?oi17) (v := ?vv17) ?hi17 ?hs17 ?hf17 ?ha17 ?hq17 ?hy17 hHeld ?hr17
          case hi17 => (simp only [List.getElem?_toArray, List.getElem?_cons_zero]; exact rfl)
          case hs17 => kernel_rfl
          case hf17 => kernel_rfl
          case ha17 => kernel_rfl
          case hq17 => exact fun _ _ _ h => h
          case hy17 =>
            refine Or.inl ⟨by rfl, ?_⟩
            intro w' hSw
            try dsimp only at hSw
            go_simp
            first | done | with_reducible rfl
          simp only [Act.put, List.setIfInBounds_toArray, List.set_cons_succ, List.set_cons_zero]
          refine wpAnyH_ready (rs := [1]) (by kernel_rfl) (by simp) ?_
          refine AllReadyH.cons rfl (fun K hK => ?_) AllReadyH.nil
          go_simp
          go_at_call 56
          obtain ⟨BB, zz, k23_, k24_, k25_, k26_, zw⟩ := hHeld
          (with_reducible refine (same_is (minOf_any D d ys _ _ _ k24_ (by omega) (by omega)) (congrArg (Value.int .i64) Hv15_.out)).mono ?_)
          rintro e w9 ⟨rfl, rfl⟩
          refine hK.out _ _ ⟨BB, zz, k23_, k24_, k25_, k26_, zw⟩ (fun hHeld => ?_)
          clear hK K
          try simp only [Act.put, List.setIfInBounds_toArray, List.set_cons_zero, List.set_cons_succ]
          refine wpAnyH_take (i := 2) (oi := ?oi18) (v := ?vv18) ?hi18 ?hs18 ?hf18 ?ha18 ?hq18 ?hy18 hHeld ?hr18
          case hi18 => (simp only [List.getElem?_toArray, List.getElem?_cons_succ, List.getElem?_cons_zero]; exact rfl)
          case hs18 => kernel_rfl
          case hf18 => kernel_rfl
          case ha18 => kernel_rfl
          case hq18 => exact fun _ _ _ h => h
          case hy18 =>
            refine Or.inl ⟨by rfl, ?_⟩
            intro w' hSw
            try dsimp only at hSw
            go_simp
            first | done | with_reducible rfl
          simp only [Act.put, List.setIfInBounds_toArray, List.set_cons_succ, List.set_cons_zero]
          refine wpAnyH_take (i := 3) (oi := ?oi19) (v := ?vv19) ?hi19 ?hs19 ?hf19 ?ha19 ?hq19 ?hy19 hHeld ?hr19
          case hi19 => (simp only [List.getElem?_toArray, List.getElem?_cons_succ, List.getElem?_cons_zero]; exact rfl)
          case hs19 => kernel_rfl
          case hf19 => kernel_rfl
          case ha19 => kernel_rfl
          case hq19 => exact fun _ _ _ h => h
          case hy19 =>
            refine Or.inl ⟨by rfl, ?_⟩
            intro w' hSw
            try dsimp only at hSw
            go_simp
            first | done | with_reducible rfl
          simp only [Act.put, List.setIfInBounds_toArray, List.set_cons_succ, List.set_cons_zero]
          refine wpAnyH_take (i := 4) (oi := ?oi20) (v := ?vv20) ?hi20 ?hs20 ?hf20 ?ha20 ?hq20 ?hy20 hHeld ?hr20
          case hi20 => (simp only [List.getElem?_toArray, List.getElem?_cons_succ, List.getElem?_cons_zero]; exact rfl)
          case hs20 => kernel_rfl
          case hf20 => kernel_rfl
          case ha20 => kernel_rfl
          case hq20 => exact fun _ _ _ h => h
          case hy20 =>
            refine Or.inl ⟨by rfl, ?_⟩
            intro w' hSw
            try dsimp only at hSw
            go_simp
            first | done | with_reducible rfl
          simp only [Act.put, List.setIfInBounds_toArray, List.set_cons_succ, List.set_cons_zero]
          refine wpAnyH_take (i := 6) (oi := ?oi21) (v := ?vv21) ?hi21 ?hs21 ?hf21 ?ha21 ?hq21 ?hy21 hHeld ?hr21
          case hi21 => (simp only [List.getElem?_toArray, List.getElem?_cons_succ, List.getElem?_cons_zero]; exact rfl)
          case hs21 => kernel_rfl
          case hf21 => kernel_rfl
          case ha21 => kernel_rfl
          case hq21 => exact fun _ _ _ h => h
          case hy21 =>
            refine Or.inl ⟨by rfl, ?_⟩
            intro w' hSw
            try dsimp only at hSw
            go_simp
            first | done | with_reducible rfl
          simp only [Act.put, List.setIfInBounds_toArray, List.set_cons_succ, List.set_cons_zero]
          refine wpAnyH_ready (rs := [5]) (by kernel_rfl) (by simp) ?_
          refine AllReadyH.cons rfl (fun K hK => ?_) AllReadyH.nil
          go_simp
          go_at_call 57
          obtain ⟨BB, zz, k23_, k24_, k25_, k26_, zw⟩ := hHeld
          (with_reducible refine (same_is (maxOf_any D d ys _ _ _ k24_ (by omega) (by omega)) (congrArg (Value.int .i64) Hv17_.out)).mono ?_)
          rintro e w9 ⟨rfl, rfl⟩
          refine hK.out _ _ ⟨BB, zz, k23_, k24_, k25_, k26_, zw⟩ (fun hHeld => ?_)
          clear hK K
          try simp only [Act.put, List.setIfInBounds_toArray, List.set_cons_zero, List.set_cons_succ]
          refine wpAnyH_ready (rs := [7]) (by kernel_rfl) (by simp) ?_
          refine AllReadyH.cons rfl (fun K hK => ?_) AllReadyH.nil
          go_simp
          go_at_call 58
          obtain ⟨BB, zz, k23_, k24_, k25_, k26_, zw⟩ := hHeld
          (with_reducible refine (below_is (implOwed_is E A c xs _ _ _ k23_ (by first | omega | (simp; omega) | simp) HCB.out) (congrArg (Value.int .i64) Hv18_.out)).mono ?_)
          rintro e w31 ⟨rfl, hb9⟩
          refine hK.out _ _ ⟨BB.trans (hb9.mono (by omega)), Nat.le_trans zz hb9.size, k23_.below hb9 (by first | omega | (simp; omega) | simp), k24_.below hb9 (by first | omega | (simp; omega) | simp), (hb9.cell (p := ⟨w.heap.size, 0, none⟩) (by first | omega | (simp; omega) | simp)).trans k25_, (hb9.cell (p := ⟨w.heap.size, 1, none⟩) (by first | omega | (simp; omega) | simp)).trans k26_, Nat.le_trans zw hb9.size⟩ (fun hHeld => ?_)
          clear hb9 zw k26_ k25_ k24_ k23_ zz BB
          clear hK K
          try simp only [Act.put, List.setIfInBounds_toArray, List.set_cons_zero, List.set_cons_succ]
          refine wpAnyH_take (i := 8) (oi := ?oi22) (v := ?vv22) ?hi22 ?hs22 ?hf22 ?ha22 ?hq22 ?hy22 hHeld ?hr22
          case hi22 => (simp only [List.getElem?_toArray, List.getElem?_cons_succ, List.getElem?_cons_zero]; exact rfl)
          case hs22 => kernel_rfl
          case hf22 => kernel_rfl
          case ha22 => kernel_rfl
          case hq22 => exact fun _ _ _ h => h
          case hy22 =>
            refine Or.inl ⟨by rfl, ?_⟩
            intro w' hSw
            try dsimp only at hSw
            go_simp
            first | done | with_reducible rfl
          simp only [Act.put, List.setIfInBounds_toArray, List.set_cons_succ, List.set_cons_zero]
          refine wpAnyH_take (i := 9) (oi := ?oi23) (v := ?vv23) ?hi23 ?hs23 ?hf23 ?ha23 ?hq23 ?hy23 hHeld ?hr23
          case hi23 => (simp only [List.getElem?_toArray, List.getElem?_cons_succ, List.getElem?_cons_zero]; exact rfl)
          case hs23 => kernel_rfl
          case hf23 => kernel_rfl
          case ha23 => kernel_rfl
          case hq23 => exact fun _ _ _ h => h
          case hy23 =>
            refine Or.inl ⟨by rfl, ?_⟩
            intro w' hSw
            try dsimp only at hSw
            go_simp
            first | done | with_reducible rfl
          simp only [Act.put, List.setIfInBounds_toArray, List.set_cons_succ, List.set_cons_zero]
          refine wpAnyH_take (i := 10) (oi := ?oi24) (v := ?vv24) ?hi24 ?hs24 ?hf24 ?ha24 ?hq24 ?hy24 hHeld ?hr24
          case hi24 => (simp only [List.getElem?_toArray, List.getElem?_cons_succ, List.getElem?_cons_zero]; exact rfl)
          case hs24 => kernel_rfl
          case hf24 => kernel_rfl
          case ha24 => kernel_rfl
          case hq24 => exact fun _ _ _ h => h
          case hy24 =>
            refine Or.inl ⟨by rfl, ?_⟩
            intro w' hSw
            try dsimp only at hSw
            go_simp
            first | done | with_reducible rfl
          simp only [Act.put, List.setIfInBounds_toArray, List.set_cons_succ, List.set_cons_zero]
          refine wpAnyH_take (i := 11) (oi := ?oi25) (v := ?vv25) ?hi25 ?hs25 ?hf25 ?ha25 ?hq25 ?hy25 hHeld ?hr25
          case hi25 => (simp only [List.getElem?_toArray, List.getElem?_cons_succ, List.getElem?_cons_zero]; exact rfl)
          case hs25 => kernel_rfl
          case hf25 => kernel_rfl
          case ha25 => kernel_rfl
          case hq25 => exact fun _ _ _ h => h
          case hy25 =>
            refine Or.inl ⟨by rfl, ?_⟩
            intro w' hSw
            try dsimp only at hSw
            go_simp
            first | done | with_reducible rfl
          simp only [Act.put, List.setIfInBounds_toArray, List.set_cons_succ, List.set_cons_zero]
          refine wpAnyH_take (i := 12) (oi := ?oi26) (v := ?vv26) ?hi26 ?hs26 ?hf26 ?ha26 ?hq26 ?hy26 hHeld ?hr26
          case hi26 => (simp only [List.getElem?_toArray, List.getElem?_cons_succ, List.getElem?_cons_zero]; exact rfl)
          case hs26 => kernel_rfl
          case hf26 => kernel_rfl
          case ha26 => kernel_rfl
          case hq26 => exact fun _ _ _ h => h
          case hy26 =>
            refine Or.inl ⟨by rfl, ?_⟩
            intro w' hSw
            try dsimp only at hSw
            go_simp
            first | done | with_reducible rfl
          simp only [Act.put, List.setIfInBounds_toArray, List.set_cons_succ, List.set_cons_zero]
          refine wpAnyH_take (i := 14) (oi := ?oi27) (v := ?vv27) ?hi27 ?hs27 ?hf27 ?ha27 ?hq27 ?hy27 hHeld ?hr27
          case hi27 => (simp only [List.getElem?_toArray, List.getElem?_cons_succ, List.getElem?_cons_zero]; exact rfl)
          case hs27 => kernel_rfl
          case hf27 => kernel_rfl
          case ha27 => kernel_rfl
          case hq27 => exact fun _ _ _ h => h
          case hy27 =>
            refine Or.inl ⟨by rfl, ?_⟩
            intro w' hSw
            try dsimp only at hSw
            go_simp
            first | done | with_reducible rfl
          simp only [Act.put, List.setIfInBounds_toArray, List.set_cons_succ, List.set_cons_zero]
          refine wpAnyH_take (i := 15) (oi := ?oi28) (v := ?vv28) ?hi28 ?hs28 ?hf28 ?ha28 ?hq28 ?hy28 hHeld ?hr28
          case hi28 => (simp only [List.getElem?_toArray, List.getElem?_cons_succ, List.getElem?_cons_zero]; exact rfl)
          case hs28 => kernel_rfl
          case hf28 => kernel_rfl
          case ha28 => kernel_rfl
          case hq28 => exact fun _ _ _ h => h
          case hy28 =>
            refine Or.inl ⟨by rfl, ?_⟩
            intro w' hSw
            try dsimp only at hSw
            go_simp
            first | done | with_reducible rfl
          simp only [Act.put, List.setIfInBounds_toArray, List.set_cons_succ, List.set_cons_zero]
          refine wpAnyH_take (i := 16) (oi := ?oi29) (v := ?vv29) ?hi29 ?hs29 ?hf29 ?ha29 ?hq29 ?hy29 hHeld ?hr29
          case hi29 => (simp only [List.getElem?_toArray, List.getElem?_cons_succ, List.getElem?_cons_zero]; exact rfl)
          case hs29 => kernel_rfl
          case hf29 => kernel_rfl
          case ha29 => kernel_rfl
          case hq29 => exact fun _ _ _ h => h
          case hy29 =>
            refine Or.inl ⟨by rfl, ?_⟩
            intro w' hSw
            try dsimp only at hSw
            go_simp
            first | done | with_reducible rfl
          simp only [Act.put, List.setIfInBounds_toArray, List.set_cons_succ, List.set_cons_zero]
          refine wpAnyH_ready (rs := [13]) (by kernel_rfl) (by simp) ?_
          refine AllReadyH.cons rfl (fun K hK => ?_) AllReadyH.nil
          go_simp
          go_at_call 51
          obtain ⟨BB, zz, k23_, k24_, k25_, k26_, zw⟩ := hHeld
          (with_reducible refine (same_is (sumOf_any D d ys _ _ _ k24_ HSY.out) (congrArg (Value.int .i64) Hv20_.out)).mono ?_)
          rintro e w9 ⟨rfl, rfl⟩
          refine hK.out _ _ ⟨BB, zz, k23_, k24_, k25_, k26_, zw⟩ (fun hHeld => ?_)
          clear hK K
          try simp only [Act.put, List.setIfInBounds_toArray, List.set_cons_zero, List.set_cons_succ]
          refine wpAnyH_take (i := 17) (oi := ?oi30) (v := ?vv30) ?hi30 ?hs30 ?hf30 ?ha30 ?hq30 ?hy30 hHeld ?hr30
          case hi30 => (simp only [List.getElem?_toArray, List.getElem?_cons_succ, List.getElem?_cons_zero]; exact rfl)
          case hs30 => kernel_rfl
          case hf30 => kernel_rfl
          case ha30 => kernel_rfl
          case hq30 => exact fun _ _ _ h => h
          case hy30 =>
            refine Or.inl ⟨by rfl, ?_⟩
            intro w' hSw
            try dsimp only at hSw
            go_simp
            first | done | with_reducible rfl
          simp only [Act.put, List.setIfInBounds_toArray, List.set_cons_succ, List.set_cons_zero]
          refine wpAnyH_take (i := 18) (oi := ?oi31) (v := ?vv31) ?hi31 ?hs31 ?hf31 ?ha31 ?hq31 ?hy31 hHeld ?hr31
          case hi31 => (simp only [List.getElem?_toArray, List.getElem?_cons_succ, List.getElem?_cons_zero]; exact rfl)
          case hs31 => kernel_rfl
          case hf31 => kernel_rfl
          case ha31 => kernel_rfl
          case hq31 => exact fun _ _ _ h => h
          case hy31 =>
            refine Or.inl ⟨by rfl, ?_⟩
            intro w' hSw
            try dsimp only at hSw
            go_simp
            first | done | with_reducible rfl
          simp only [Act.put, List.setIfInBounds_toArray, List.set_cons_succ, List.set_cons_zero]
          refine wpAnyH_done (by kernel_rfl) ?_ _
          obtain ⟨BB, zz, k23_, k24_, k25_, k26_, zw⟩ := hHeld
          clear hw21_ hw22_
          have k32_ := BB
          clear BB
          have k33_ := zz
          clear zz
          have k34_ := zw
          clear zw
          by_cases h35_ : v20_ = (48 * E)
          · have h35_b : (v20_ == (48 * E)) = true := by simpa using h35_
            have h35_n : (v20_ != (48 * E)) = false := by simpa using h35_
            have h35_le : v20_ ≤ (48 * E) := by omega
            have h35_ge : (48 * E) ≤ v20_ := by omega
            have Hh35_ := Lib.hid h35_
            clear h35_
            go_wp2_with fail
            refine (implWorthRow_yes E A c xs _ _ _ k23_ (by first | omega | (simp; omega) | simp) (by omega) HCB.out).mono ?_
            rintro e w36 ⟨A37_, c38_, rfl, ho39_, hb36_⟩
            have o40_ := k23_.below hb36_ (by first | omega | (simp; omega) | simp)
            have o41_ := k24_.below hb36_ (by first | omega | (simp; omega) | simp)
            have o42_ := (hb36_.cell (p := ⟨w.heap.size, 0, none⟩) (by first | omega | (simp; omega) | simp)).trans k25_
            have o43_ := (hb36_.cell (p := ⟨w.heap.size, 1, none⟩) (by first | omega | (simp; omega) | simp)).trans k26_
            have z44_ := hb36_.size
            have B45_ := k32_.trans (hb36_.mono (by first | omega | (simp; omega) | simp))
            clear hb36_
            go_wp2
            go_loopw [40] (fun i wr => ∃ m : Nat, i = .int .i64 m ∧ (m ≤ (worthRow E xs).length) ∧ (∀ s : Nat, s < m → CoreAt E xs ys s) ∧ Below w.heap.size w wr ∧ w36.heap.size ≤ wr.heap.size ∧ Ints wr (lo) (hi) A xs ∧ Ints wr (lo') (hi') D ys ∧ Own wr (w31.heap.size) (w36.heap.size) A37_ (worthRow E xs) ∧ wr.cell? ⟨w.heap.size, 0, none⟩ = some (.int .i64 E) ∧ wr.cell? ⟨w.heap.size, 1, none⟩ = some (.slice A xs.length c)) (fun i _ => (worthRow E xs).length - (intOf i).toNat)
            case atStart => exact ⟨0, rfl, Nat.zero_le _, fun j hj => absurd hj (by omega), B45_, (by first | omega | (simp; omega) | simp), o40_, o41_, ho39_, o42_, o43_⟩
            case round =>
              obtain ⟨m, rfl, hm, hco, k47_, k48_, k49_, k50_, k51_, k52_, k53_⟩ := hrel
              obtain ⟨w46, rfl⟩ : ∃ x, x = wr := ⟨_, rfl⟩
              have HCO := Lib.hid hco
              clear hco
              have hmp1 : (worthRow E xs).length ≤ p := by have e := HWL.out; omega
              have hmp2 : p ≤ (worthRow E xs).length := by have e := HWL.out; omega
              by_cases hlt0 : m < (worthRow E xs).length
              · obtain ⟨b54_, f55_, rfl, b54_l, b54_h, -⟩ := k51_.ints (by have e := HWL.out; omega)
                have c56_ : w46.cell? ⟨b54_, f55_ + m, none⟩ = some (.int .i64 ((worthRow E xs).getD m 0)) := k51_.ints.at2 m (by first | omega | (simp; omega) | simp)
                have c56_i : (m : Int) < ((worthRow E xs).length : Int) := by omega
                have c56_j : (0 : Int) ≤ (m : Int) := by omega
                have v57_g := worthRow_bd E xs m
                obtain ⟨v57_, hv57_⟩ : ∃ v, v = (worthRow E xs).getD m 0 := ⟨_, rfl⟩
                rw [← hv57_] at c56_ v57_g
                have Hv57_ := Lib.hid hv57_
                clear hv57_
                obtain ⟨v57_g1, v57_g2⟩ := v57_g
                go_wp2_with fail
                refine (sumWithin_any D d ys (m : Int) _ _ _ k50_ (by omega) (by omega) (by have e := HWL.out; omega) HY.out).mono ?_
                rintro e w' ⟨he, rfl⟩
                obtain ⟨v58_, hv58_⟩ : ∃ v, inSum ys (m : Int) ys.length = v := ⟨_, rfl⟩
                rw [hv58_] at he
                subst he
                have bv58_ := inSum_bd (xs := ys) (by omega) HY.out (m : Int) ys.length (Nat.le_refl _)
                rw [hv58_] at bv58_
                obtain ⟨bv58_1, bv58_2⟩ := bv58_
                have Hv58_ := Lib.hid hv58_
                clear hv58_
                by_cases h59_ : v58_ < (48 * v57_)
                · have h59_d : decide (v58_ < (48 * v57_)) = true := decide_eq_true h59_
                  go_wp2
                  go_ret
                  exact ⟨ret_bool (by first | exact (coreB_no (fun h => by have e := core_in HP.out h (m := m) (by have e := HWL.out; omega); have e2 := Hv57_.out; rw [worthRow_at HCB.out HP.out (by have e := HWL.out; omega)] at e2; rw [Hv58_.out] at e; omega)).symm | exact (decide_eq_true (by omega)).trans (coreB_no (fun h => by have e := core_in HP.out h (m := m) (by have e := HWL.out; omega); have e2 := Hv57_.out; rw [worthRow_at HCB.out HP.out (by have e := HWL.out; omega)] at e2; rw [Hv58_.out] at e; omega)).symm), k47_⟩
                · have h59_d : decide (v58_ < (48 * v57_)) = false := decide_eq_false h59_
                  go_wp2
                  go_roundw
                  case rel => exact ⟨m + 1, by go_num, by omega, fun j hj => (by rcases Nat.lt_or_ge j m with h1 | h1; exact HCO.out j h1; obtain rfl : j = m := (by omega); unfold CoreAt; have e2 := Hv57_.out; rw [worthRow_at HCB.out HP.out (by have e := HWL.out; omega)] at e2; rw [← e2, Hv58_.out]; omega), k47_, (by first | omega | (simp; omega) | simp), k49_, k50_, k51_, k52_, k53_⟩
                  case measure => simp [intOf] <;> omega
              · obtain rfl : m = (worthRow E xs).length := by omega
                go_wp2
                go_ret
                exact ⟨ret_bool (by first | exact ((coreB_iff E xs ys).2 ⟨HCB.out, by omega, HUP.out, fun s hs => HCO.out s (by have e := HWL.out; rw [e]; have e2 := HP.out; rw [show ys.length = xs.length by omega] at hs; rw [← e2]; exact_mod_cast hs), by rw [Hv20_.out]; exact Hh35_.out⟩).symm | exact h35_n.trans ((coreB_iff E xs ys).2 ⟨HCB.out, by omega, HUP.out, fun s hs => HCO.out s (by have e := HWL.out; rw [e]; have e2 := HP.out; rw [show ys.length = xs.length by omega] at hs; rw [← e2]; exact_mod_cast hs), by rw [Hv20_.out]; exact Hh35_.out⟩).symm), k47_⟩
          · have h35_b : (v20_ == (48 * E)) = false := by simpa using h35_
            have h35_n : (v20_ != (48 * E)) = true := by simpa using h35_
            go_wp2
            go_ret
            exact ⟨ret_bool (by first | exact (coreB_no (fun h => h35_ (by rw [← Hv20_.out]; exact h.2.2.2.2))).symm | exact h35_n.trans (coreB_no (fun h => h35_ (by rw [← Hv20_.out]; exact h.2.2.2.2))).symm), k32_⟩
    · have h14_b : ((ys.length : Int) == (xs.length : Int)) = false := by simpa using h14_
      have h14_n : ((ys.length : Int) != (xs.length : Int)) = true := by simpa using h14_
      go_wp2
      go_ret
      exact ⟨ret_bool (by first | exact (coreB_no (fun h => h14_ (by rw [h.2.1]))).symm | exact h14_n.trans (coreB_no (fun h => h14_ (by rw [h.2.1]))).symm), B13_⟩
  · have H6_ : Hid (caseOkB E xs = false) := by show _ = _; simpa using h6_
    clear h6_
    go_wp2_with fail
    refine (implCaseOk_any E A c xs _ _ _ o1_ (by first | omega | (simp; omega) | simp) hl).mono ?_
    rintro e w7 ⟨he, hb7_⟩
    rw [H6_.out] at he
    subst he
    have o8_ := o1_.below hb7_ (by first | omega | (simp; omega) | simp)
    have o9_ := o2_.below hb7_ (by first | omega | (simp; omega) | simp)
    have o10_ := (hb7_.cell (p := ⟨w.heap.size, 0, none⟩) (by first | omega | (simp; omega) | simp)).trans a4_
    have o11_ := (hb7_.cell (p := ⟨w.heap.size, 1, none⟩) (by first | omega | (simp; omega) | simp)).trans a5_
    have z12_ := hb7_.size
    try simp at z12_
    have B13_ := B3_.trans (hb7_.mono (by first | omega | (simp; omega) | simp))
    clear hb7_
    go_wp2
    go_ret
    exact ⟨ret_bool (coreB_no (fun h => by have e := h.1; rw [H6_.out] at e; cases e)).symm, B13_⟩

/-- What the sets from 1 on and below m miss, in the order of their numbers. -/
def missL (E : Int) (xs ys : List Int) : Nat → List Int
  | 0 => []
  | m + 1 => if m = 0 then [] else missL E xs ys m ++ [missOf E xs ys m]
theorem missL_succ (E : Int) (xs ys : List Int) {m : Nat} (h : 1 ≤ m) : missL E xs ys (m + 1) = missL E xs ys m ++ [missOf E xs ys m] := if_neg (by omega)
theorem missL_length (E : Int) (xs ys : List Int) : ∀ m, (missL E xs ys m).length = m - 1
  | 0 => rfl
  | 1 => rfl
  | m + 2 => by rw [missL_succ E xs ys (by omega), List.length_append, missL_length E xs ys (m + 1)]; rfl
theorem ins_perm (x : Int) : ∀ l : List Int, (insD x l).Perm (x :: l)
  | [] => .refl _
  | y :: ys => by
    simp only [insD]; split
    · exact .refl _
    · exact ((ins_perm x ys).cons y).trans (.swap x y ys)
theorem miss_perm (E : Int) (xs ys : List Int) : ∀ m, (missL E xs ys m).Perm (missTo E xs ys m)
  | 0 => .refl _
  | 1 => .refl _
  | m + 2 => by
    rw [missL_succ E xs ys (by omega)]
    have e : missTo E xs ys (m + 2) = insD (missOf E xs ys (m + 1)) (missTo E xs ys (m + 1)) := if_neg (by omega)
    rw [e]
    exact (List.perm_append_comm.trans ((miss_perm E xs ys (m + 1)).cons _)).trans (ins_perm _ _).symm
theorem desc_pair : ∀ l : List Int, Desc l → l.Pairwise (fun a b => b ≤ a)
  | [], _ => .nil
  | _ :: ys, h => .cons h.1 (desc_pair ys h.2)
theorem miss_sorted (E : Int) (xs ys : List Int) (m : Nat) : (srt (missL E xs ys m)).reverse = missTo E xs ys m := by
  have h1 : (missTo E xs ys m).reverse.Pairwise (· ≤ ·) := List.pairwise_reverse.2 (desc_pair _ (missTo_desc E xs ys m))
  have h2 : srt (missL E xs ys m) = (missTo E xs ys m).reverse := srt_of ((List.reverse_perm _).trans (miss_perm E xs ys m).symm) h1
  rw [h2, List.reverse_reverse]
theorem missRow_fin {E : Int} {xs ys : List Int} {p : Nat} (h : awardsB E xs ys = true) (hp : 2 ^ ys.length = p) {m : Nat} (hm : m = p - 1) : (srt (missL E xs ys m)).reverse = missRow E xs ys := by
  subst hm; subst hp; rw [missRow, if_pos h, miss_sorted]

set_option maxRecDepth 10000 in
set_option maxHeartbeats 1000000 in
theorem implMissRow_yes (E : Int) (A : Option Addr) (c : Nat) (xs : List Int) (D : Option Addr) (d : Nat) (ys : List Int) (w : World) (lo hi : Nat) (h : Ints w lo hi A xs) (hh : hi ≤ w.heap.size) (hl : xs.length ≤ 1152921504606846976) (lo' hi' : Nat) (h' : Ints w lo' hi' D ys) (hh' : hi' ≤ w.heap.size) (hl' : ys.length ≤ 1152921504606846976) (hok : awardsB E xs ys = true) :
    Calls Try.prog 26 #[.agg #[.int .i64 E, .slice A xs.length c], .slice D ys.length d] w (RetInts w (missRow E xs ys)) := by
  have hA := (awardsB_iff E xs ys).1 hok
  have HCB := Lib.hid hA.1
  have hbd := caseOk_bd HCB.out
  have hly : ys.length = xs.length := hA.2.1
  obtain ⟨p, hp⟩ : ∃ p : Nat, 2 ^ xs.length = p := ⟨_, rfl⟩
  have hpb := pow_bd3 hp hbd.2.1
  obtain ⟨hp1, hp2⟩ := hpb
  have hp3 : 2 ≤ p := by subst hp; exact Nat.le_trans (show 2 ≤ 2 ^ 1 by decide) (Nat.pow_le_pow_right (by omega) (by omega))
  have HPX := Lib.hid hp
  have HP : Hid (2 ^ ys.length = p) := by show _ = _; rw [hly]; exact hp
  have HY : Hid (∀ k, k < ys.length → -2400 ≤ ys.getD k 0 ∧ ys.getD k 0 ≤ 2400) := fun k hk => by rw [getD_of_lt ys k hk]; have e := aw_range hA.1 hA.2.1 hA.2.2.1 _ (List.getElem_mem hk); omega
  have HWL : Hid ((worthRow E xs).length = p) := worthRow_is HCB.out hp
  have hly1 : ys.length ≤ xs.length := by omega
  have hly2 : xs.length ≤ ys.length := by omega
  clear hp hly hA
  have HAW := Lib.hid hok
  clear hok
  go_enter Try.func26, Try.ntmps26
  have o1_ := h.alloc (by first | omega | (simp; omega) | simp) (.cells #[.int .i64 E, .slice A xs.length c] 25)
  have o2_ := h'.alloc (by first | omega | (simp; omega) | simp) (.cells #[.int .i64 E, .slice A xs.length c] 25)
  have B3_ := (Below.refl w.heap.size w).alloc (Nat.le_refl _) (.cells #[.int .i64 E, .slice A xs.length c] 25)
  have a4_ : (w.alloc (.cells #[.int .i64 E, .slice A xs.length c] 25)).cell? ⟨w.heap.size, 0, none⟩ = some (.int .i64 E) := by simp [go_sem]
  have a5_ : (w.alloc (.cells #[.int .i64 E, .slice A xs.length c] 25)).cell? ⟨w.heap.size, 1, none⟩ = some (.slice A xs.length c) := by simp [go_sem]
  go_wp2_with fail
  refine (implAwardsOk_any E A c xs D d ys _ _ _ o1_ (by first | omega | (simp; omega) | simp) hl _ _ o2_ (by first | omega | (simp; omega) | simp) hl').mono ?_
  rintro e w6 ⟨he, hb6_⟩
  rw [HAW.out] at he
  subst he
  have o7_ := o1_.below hb6_ (by first | omega | (simp; omega) | simp)
  have o8_ := o2_.below hb6_ (by first | omega | (simp; omega) | simp)
  have o9_ := (hb6_.cell (p := ⟨w.heap.size, 0, none⟩) (by first | omega | (simp; omega) | simp)).trans a4_
  have o10_ := (hb6_.cell (p := ⟨w.heap.size, 1, none⟩) (by first | omega | (simp; omega) | simp)).trans a5_
  have z11_ := hb6_.size
  try simp at z11_
  have B12_ := B3_.trans (hb6_.mono (by first | omega | (simp; omega) | simp))
  clear hb6_
  go_wp2_with fail
  refine (implWorthRow_yes E A c xs _ _ _ o7_ (by first | omega | (simp; omega) | simp) (by omega) HCB.out).mono ?_
  rintro e w13 ⟨A14_, c15_, rfl, ho16_, hb13_⟩
  have o17_ := o7_.below hb13_ (by first | omega | (simp; omega) | simp)
  have o18_ := o8_.below hb13_ (by first | omega | (simp; omega) | simp)
  have o19_ := (hb13_.cell (p := ⟨w.heap.size, 0, none⟩) (by first | omega | (simp; omega) | simp)).trans o9_
  have o20_ := (hb13_.cell (p := ⟨w.heap.size, 1, none⟩) (by first | omega | (simp; omega) | simp)).trans o10_
  have z21_ := hb13_.size
  have B22_ := B12_.trans (hb13_.mono (by first | omega | (simp; omega) | simp))
  clear hb13_
  go_wp2
  go_loopw [7, 6] (fun i v wr => ∃ m : Nat, ∃ Am : Option Addr, ∃ cm Nm : Nat, i = .int .i64 m ∧ v = .slice Am Nm cm ∧ (1 ≤ m) ∧ (m + 1 ≤ p) ∧ Gro wr w13.heap.size Am cm Nm (missL E xs ys m) ∧ Below w.heap.size w wr ∧ w13.heap.size ≤ wr.heap.size ∧ Ints wr (lo) (hi) A xs ∧ Ints wr (lo') (hi') D ys ∧ Own wr (w6.heap.size) (w13.heap.size) A14_ (worthRow E xs) ∧ wr.cell? ⟨w.heap.size, 0, none⟩ = some (.int .i64 E) ∧ wr.cell? ⟨w.heap.size, 1, none⟩ = some (.slice A xs.length c)) (fun i v _ => p - (intOf i).toNat)
  case atStart => exact ⟨1, none, 0, 0, rfl, rfl, by omega, by omega, .inl ⟨rfl, rfl, rfl, rfl⟩, B22_, (by first | omega | (simp; omega) | simp), o17_, o18_, ho16_, o19_, o20_⟩
  case round =>
    obtain ⟨m, Am, cm, Nm, rfl, rfl, hm1, hm, Z24_, k25_, k26_, k27_, k28_, k29_, k30_, k31_⟩ := hrel
    obtain ⟨w23, rfl⟩ : ∃ x, x = wr := ⟨_, rfl⟩
    rcases Z24_ with ⟨rfl, rfl, rfl, Z24_n⟩ | ⟨gm, rfl, gmlb, Z24_l, Z24_p, Z24_G⟩
    · have HZ24_n := Lib.hid Z24_n
      clear Z24_n
      have hmp1 : (worthRow E xs).length ≤ p := by have e := HWL.out; omega
      have hmp2 : p ≤ (worthRow E xs).length := by have e := HWL.out; omega
      by_cases hlt0 : m + 1 < p
      · obtain ⟨b32_, f33_, rfl, b32_l, b32_h, -⟩ := k29_.ints (by have e := HWL.out; omega)
        have c34_ : w23.cell? ⟨b32_, f33_ + m, none⟩ = some (.int .i64 ((worthRow E xs).getD m 0)) := k29_.ints.at2 m (by first | omega | (simp; omega) | simp)
        have c34_i : (m : Int) < ((worthRow E xs).length : Int) := by omega
        have c34_j : (0 : Int) ≤ (m : Int) := by omega
        have v35_g := worthRow_bd E xs m
        obtain ⟨v35_, hv35_⟩ : ∃ v, v = (worthRow E xs).getD m 0 := ⟨_, rfl⟩
        rw [← hv35_] at c34_ v35_g
        have Hv35_ := Lib.hid hv35_
        clear hv35_
        obtain ⟨v35_g1, v35_g2⟩ := v35_g
        obtain ⟨v36_, hv36_⟩ : ∃ v, inSum ys (m : Int) ys.length = v := ⟨_, rfl⟩
        have bv36_ := inSum_bd (xs := ys) (by omega) HY.out (m : Int) ys.length (Nat.le_refl _)
        rw [hv36_] at bv36_
        obtain ⟨bv36_1, bv36_2⟩ := bv36_
        have Hv36_ := Lib.hid hv36_
        clear hv36_
        have HL39_ : Hid (([((48 * v35_) - v36_)] : List Int).length = 1) := rfl
        have hw43_ : IntKind.i64.wrap (48 * v35_) = (48 * v35_) := IntWalk.i64_in _ (by omega)
        have hw44_ : IntKind.i64.wrap ((48 * v35_) - v36_) = ((48 * v35_) - v36_) := IntWalk.i64_in _ (by omega)
        have g51_ : w.heap.size < w23.heap.size := (by first | omega | (simp; omega) | simp)
        have g52_ : hi ≤ w23.heap.size := (by first | omega | (simp; omega) | simp)
        have g53_ : hi' ≤ w23.heap.size := (by first | omega | (simp; omega) | simp)
        have g54_ : w13.heap.size ≤ w23.heap.size := (by first | omega | (simp; omega) | simp)
        have g55_ : b32_ < w23.heap.size := (by first | omega | (simp; omega) | simp)
        have g56_ : w.heap.size ≤ w23.heap.size := (by first | omega | (simp; omega) | simp)
        go_wp2_with fail
        refine wp_region_held_drew (S := (fun w' : World => Below w.heap.size w w' ∧ w23.heap.size ≤ w'.heap.size ∧ Ints w' (lo) (hi) A xs ∧ Ints w' (lo') (hi') D ys ∧ Own w' (w6.heap.size) (w13.heap.size) (some ⟨b32_, f33_, none⟩) (worthRow E xs) ∧ w'.cell? ⟨w.heap.size, 0, none⟩ = some (.int .i64 E) ∧ w'.cell? ⟨w.heap.size, 1, none⟩ = some (.slice A xs.length c) ∧ w'.cell? ⟨b32_, f33_ + m, none⟩ = some (.int .i64 v35_) ∧ w23.heap.size ≤ w'.heap.size)) (by kernel_rfl) ⟨k25_.drew, by exact (by first | omega | (simp; omega) | simp), k27_, k28_, k29_, k30_, k31_, c34_, Nat.le_refl _⟩ (fun hHeld => ?_)
        refine wpAnyH_take (i := 0) (oi := ?oi1) (v := ?vv1) ?hi1 ?hs1 ?hf1 ?ha1 ?hq1 ?hy1 hHeld ?hr1
        case hi1 => (simp only [List.getElem?_toArray, List.getElem?_cons_zero]; exact rfl)
        case hs1 => kernel_rfl
        case hf1 => kernel_rfl
        case ha1 => kernel_rfl
        case hq1 => exact fun _ _ _ h => h
        case hy1 =>
          refine Or.inl ⟨by rfl, ?_⟩
          intro w' hSw
          try dsimp only at hSw
          go_simp
          first | done | with_reducible rfl
        simp only [Act.put, List.setIfInBounds_toArray, List.set_cons_succ, List.set_cons_zero]
        refine wpAnyH_take (i := 1) (oi := ?oi2) (v := ?vv2) ?hi2 ?hs2 ?hf2 ?ha2 ?hq2 ?hy2 hHeld ?hr2
        case hi2 => (simp only [List.getElem?_toArray, List.getElem?_cons_succ, List.getElem?_cons_zero]; exact rfl)
        case hs2 => kernel_rfl
        case hf2 => kernel_rfl
        case ha2 => kernel_rfl
        case hq2 => exact fun _ _ _ h => h
        case hy2 =>
          refine Or.inl ⟨by rfl, ?_⟩
          intro w' hSw
          try dsimp only at hSw
          go_simp
          first | done | with_reducible rfl
        simp only [Act.put, List.setIfInBounds_toArray, List.set_cons_succ, List.set_cons_zero]
        refine wpAnyH_take (i := 2) (oi := ?oi3) (v := ?vv3) ?hi3 ?hs3 ?hf3 ?ha3 ?hq3 ?hy3 hHeld ?hr3
        case hi3 => (simp only [List.getElem?_toArray, List.getElem?_cons_succ, List.getElem?_cons_zero]; exact rfl)
        case hs3 => kernel_rfl
        case hf3 => kernel_rfl
        case ha3 => kernel_rfl
        case hq3 => exact fun _ _ _ h => h
        case hy3 =>
          refine Or.inl ⟨by rfl, ?_⟩
          intro w' hSw
          try dsimp only at hSw
          go_simp
          first | done | with_reducible rfl
        simp only [Act.put, List.setIfInBounds_toArray, List.set_cons_succ, List.set_cons_zero]
        refine wpAnyH_take (i := 3) (oi := ?oi4) (v := ?vv4) ?hi4 ?hs4 ?hf4 ?ha4 ?hq4 ?hy4 hHeld ?hr4
        case hi4 => (simp only [List.getElem?_toArray, List.getElem?_cons_succ, List.getElem?_cons_zero]; exact rfl)
        case hs4 => kernel_rfl
        case hf4 => kernel_rfl
        case ha4 => kernel_rfl
        case hq4 => exact fun _ _ _ h => h
        case hy4 =>
          refine Or.inl ⟨by rfl, ?_⟩
          intro w' hSw
          try dsimp only at hSw
          go_simp
          first | done | with_reducible rfl
        simp only [Act.put, List.setIfInBounds_toArray, List.set_cons_succ, List.set_cons_zero]
        refine wpAnyH_take (i := 4) (oi := ?oi5) (v := ?vv5) ?hi5 ?hs5 ?hf5 ?ha5 ?hq5 ?hy5 hHeld ?hr5
        case hi5 => (simp only [List.getElem?_toArray, List.getElem?_cons_succ, List.getElem?_cons_zero]; exact rfl)
        case hs5 => kernel_rfl
        case hf5 => kernel_rfl
        case ha5 => kernel_rfl
        case hq5 => exact fun _ _ _ h => h
        case hy5 =>
          refine Or.inl ⟨by rfl, ?_⟩
          intro w' hSw
          try dsimp only at hSw
          go_simp
          first | done | with_reducible rfl
        simp only [Act.put, List.setIfInBounds_toArray, List.set_cons_succ, List.set_cons_zero]
        refine wpAnyH_take (i := 5) (oi := ?oi6) (v := ?vv6) ?hi6 ?hs6 ?hf6 ?ha6 ?hq6 ?hy6 hHeld ?hr6
        case hi6 => (simp only [List.getElem?_toArray, List.getElem?_cons_succ, List.getElem?_cons_zero]; exact rfl)
        case hs6 => kernel_rfl
        case hf6 => kernel_rfl
        case ha6 => kernel_rfl
        case hq6 => exact fun _ _ _ h => h
        case hy6 =>
          refine Or.inl ⟨by rfl, ?_⟩
          intro w' hSw
          try dsimp only at hSw
          go_simp
          first | done | with_reducible rfl
        simp only [Act.put, List.setIfInBounds_toArray, List.set_cons_succ, List.set_cons_zero]
        refine wpAnyH_take (i := 6) (oi := ?oi7) (v := ?vv7) ?hi7 ?hs7 ?hf7 ?ha7 ?hq7 ?hy7 hHeld ?hr7
        case hi7 => (simp only [List.getElem?_toArray, List.getElem?_cons_succ, List.getElem?_cons_zero]; exact rfl)
        case hs7 => kernel_rfl
        case hf7 => kernel_rfl
        case ha7 => kernel_rfl
        case hq7 => exact fun _ _ _ h => h
        case hy7 =>
          refine Or.inl ⟨by rfl, ?_⟩
          intro w' hSw
          try dsimp only at hSw
          go_simp
          first | done | with_reducible rfl
        simp only [Act.put, List.setIfInBounds_toArray, List.set_cons_succ, List.set_cons_zero]
        refine wpAnyH_take (i := 7) (oi := ?oi8) (v := ?vv8) ?hi8 ?hs8 ?hf8 ?ha8 ?hq8 ?hy8 hHeld ?hr8
        case hi8 => (simp only [List.getElem?_toArray, List.getElem?_cons_succ, List.getElem?_cons_zero]; exact rfl)
        case hs8 => kernel_rfl
        case hf8 => kernel_rfl
        case ha8 => kernel_rfl
        case hq8 => exact fun _ _ _ h => h
        case hy8 =>
          refine Or.inl ⟨by rfl, ?_⟩
          intro w' hSw
          try dsimp only at hSw
          go_simp
          first | done | with_reducible rfl
        simp only [Act.put, List.setIfInBounds_toArray, List.set_cons_succ, List.set_cons_zero]
        refine wpAnyH_ready (rs := [8]) (by kernel_rfl) (by simp) ?_
        refine AllReadyH.cons rfl (fun K hK => ?_) AllReadyH.nil
        go_simp
        go_at_call 52
        obtain ⟨BB, zz, k45_, k46_, k47_, k48_, k49_, q50_, zw⟩ := hHeld
        (with_reducible refine (same_is (sumWithin_any D d ys (m : Int) _ _ _ k46_ (by omega) (by omega) (by omega) HY.out) (congrArg (Value.int .i64) Hv36_.out)).mono ?_)
        rintro e w9 ⟨rfl, rfl⟩
        refine hK.out _ _ ⟨BB, zz, k45_, k46_, k47_, k48_, k49_, q50_, zw⟩ (fun hHeld => ?_)
        clear hK K
        try simp only [Act.put, List.setIfInBounds_toArray, List.set_cons_zero, List.set_cons_succ]
        refine wpAnyH_take (i := 9) (oi := ?oi9) (v := ?vv9) ?hi9 ?hs9 ?hf9 ?ha9 ?hq9 ?hy9 hHeld ?hr9
        case hi9 => (simp only [List.getElem?_toArray, List.getElem?_cons_succ, List.getElem?_cons_zero]; exact rfl)
        case hs9 => kernel_rfl
        case hf9 => kernel_rfl
        case ha9 => kernel_rfl
        case hq9 => exact fun _ _ _ h => h
        case hy9 =>
          refine Or.inl ⟨by rfl, ?_⟩
          intro w' hSw
          try dsimp only at hSw
          go_simp
          first | done | with_reducible rfl
        simp only [Act.put, List.setIfInBounds_toArray, List.set_cons_succ, List.set_cons_zero]
        refine wpAnyH_ready (rs := [10]) (by kernel_rfl) (by simp) ?_
        refine AllReadyH.cons rfl (fun K hK => ?_) AllReadyH.nil
        obtain ⟨BB, zz, k45_, k46_, k47_, k48_, k49_, q50_, zw⟩ := hHeld
        go_simp
        have G38_ : Grow ((w23.alloc (.cells #[.int .i64 ((48 * v35_) - v36_)] 3)).drew) (w23.heap.size) 1 ([((48 * v35_) - v36_)] : List Int) := grow_lit w23.drew ([((48 * v35_) - v36_)] : List Int) (by simp)
        have hb9 : Below w23.drew.heap.size w23.drew ((w23.alloc (.cells #[.int .i64 ((48 * v35_) - v36_)] 3)).drew) := (Below.refl _ w23.drew).alloc (Nat.le_refl _) (.cells #[.int .i64 ((48 * v35_) - v36_)] 3)
        obtain ⟨g37_, hg37_⟩ : ∃ g, w23.heap.size = g := ⟨_, rfl⟩
        rw [hg37_] at G38_
        simp only [hg37_]
        have lg37_ : w.heap.size ≤ g37_ := by omega
        have leg37_ : g37_ ≤ w23.heap.size := by omega
        have geg37_ : w23.heap.size ≤ g37_ := by omega
        obtain ⟨w57, hw57⟩ : ∃ x, x = ((w23.alloc (.cells #[.int .i64 ((48 * v35_) - v36_)] 3)).drew) := ⟨_, rfl⟩
        rw [← hw57] at G38_ hb9
        rw [← hw57]
        clear hw57 hg37_
        have l58_ := G38_.lt
        refine hK.out _ _ ⟨BB.trans (hb9.mono (by omega)), Nat.le_trans zz hb9.size, k45_.below hb9 (by first | omega | (simp; omega) | simp), k46_.below hb9 (by first | omega | (simp; omega) | simp), k47_.below hb9 (by first | omega | (simp; omega) | simp), (hb9.cell (p := ⟨w.heap.size, 0, none⟩) (by first | omega | (simp; omega) | simp)).trans k48_, (hb9.cell (p := ⟨w.heap.size, 1, none⟩) (by first | omega | (simp; omega) | simp)).trans k49_, (hb9.cell (by show b32_ < _; omega)).trans q50_, Nat.le_trans zw hb9.size⟩ (fun hHeld => ?_)
        clear hb9 zw q50_ k49_ k48_ k47_ k46_ k45_ zz BB
        clear hK K
        try simp only [Act.put, List.setIfInBounds_toArray, List.set_cons_zero, List.set_cons_succ]
        refine wpAnyH_ready (rs := [11]) (by kernel_rfl) (by simp) ?_
        refine AllReadyH.cons (o := ?ox10) ?hx10 (fun K hK => ?_) AllReadyH.nil
        case hx10 => (simp only [List.getElem?_toArray, List.getElem?_cons_succ, List.getElem?_cons_zero]; exact rfl)
        obtain ⟨BB, zz, k45_, k46_, k47_, k48_, k49_, q50_, zw⟩ := hHeld
        refine step_gr_nil (by rfl) _ _ (by rfl) (ys := ([((48 * v35_) - v36_)] : List Int)) (by rfl) (by rfl) (by have e := HL39_.out; omega) (by omega) (G38_.ints.read) (by omega) ?_
        intro g40_ c41_ w59 hg40_ G42_ hb9
        have lg40_ : w23.heap.size ≤ g40_ := by omega
        have Hg40_ := Lib.hid hg40_
        clear hg40_
        have l60_ := G42_.lt
        have G38_ := G38_.below hb9 (by first | omega | (simp; omega) | simp)
        refine hK.out _ _ ⟨BB.trans (hb9.mono (by omega)), Nat.le_trans zz hb9.size, k45_.below hb9 (by first | omega | (simp; omega) | simp), k46_.below hb9 (by first | omega | (simp; omega) | simp), k47_.below hb9 (by first | omega | (simp; omega) | simp), (hb9.cell (p := ⟨w.heap.size, 0, none⟩) (by first | omega | (simp; omega) | simp)).trans k48_, (hb9.cell (p := ⟨w.heap.size, 1, none⟩) (by first | omega | (simp; omega) | simp)).trans k49_, (hb9.cell (by show b32_ < _; omega)).trans q50_, Nat.le_trans zw hb9.size⟩ (fun hHeld => ?_)
        clear hb9 zw q50_ k49_ k48_ k47_ k46_ k45_ zz BB
        clear hK K
        try simp only [Act.put, List.setIfInBounds_toArray, List.set_cons_zero, List.set_cons_succ]
        refine wpAnyH_take (i := 12) (oi := ?oi11) (v := ?vv11) ?hi11 ?hs11 ?hf11 ?ha11 ?hq11 ?hy11 hHeld ?hr11
        case hi11 => (simp only [List.getElem?_toArray, List.getElem?_cons_succ, List.getElem?_cons_zero]; exact rfl)
        case hs11 => kernel_rfl
        case hf11 => kernel_rfl
        case ha11 => kernel_rfl
        case hq11 => exact fun _ _ _ h => h
        case hy11 =>
          refine Or.inl ⟨by rfl, ?_⟩
          intro w' hSw
          try dsimp only at hSw
          go_simp
          first | done | with_reducible rfl
        simp only [Act.put, List.setIfInBounds_toArray, List.set_cons_succ, List.set_cons_zero]
        refine wpAnyH_done (by kernel_rfl) ?_ _
        obtain ⟨BB, zz, k45_, k46_, k47_, k48_, k49_, q50_, zw⟩ := hHeld
        clear hw43_ hw44_
        have k61_ := BB
        clear BB
        have k62_ := zz
        clear zz
        have k63_ := zw
        clear zw
        go_wp2
        go_roundw
        case rel => exact ⟨m + 1, (some ⟨g40_, 0, none⟩), c41_, 1, by go_num, rfl, by omega, by omega, .inr ⟨_, rfl, by omega, (by rw [missL_length]; have e := congrArg List.length HZ24_n.out; rw [missL_length] at e; simp at e; omega), by omega, (by have e2 := Hv35_.out; rw [worthRow_at HCB.out HPX.out (by have e := HWL.out; omega)] at e2; have e3 := missL_succ E xs ys (m := m) (by omega); unfold missOf at e3; rw [Hv36_.out, ← e2, HZ24_n.out, List.nil_append] at e3; rw [e3]; exact G42_)⟩, k61_, (by first | omega | (simp; omega) | simp), k45_, k46_, k47_, k48_, k49_⟩
        case measure => simp [intOf] <;> omega
      · have hme : m + 1 = p := by omega
        go_wp2_with fail
        refine (sort_nil none 0 _).mono ?_
        rintro e w32 ⟨rfl, rfl⟩
        go_wp2_with fail
        refine (rev_nil none 0 _).mono ?_
        rintro e w33 ⟨rfl, rfl⟩
        go_wp2
        go_ret
        have hfin := missRow_fin HAW.out HP.out (m := m) (by omega)
        rw [← hfin]
        exact retInts_nil (by rw [HZ24_n.out]; exact List.eq_nil_of_length_eq_zero (by simp [srt_length])) k25_
    · have HZ24_l := Lib.hid Z24_l
      clear Z24_l
      have l32_ := Z24_G.lt
      have hmp1 : (worthRow E xs).length ≤ p := by have e := HWL.out; omega
      have hmp2 : p ≤ (worthRow E xs).length := by have e := HWL.out; omega
      have HLM : Hid (m - 1 = Nm) := by show _ = _; have e := HZ24_l.out; rw [missL_length] at e; exact e
      have hlm1 : Nm ≤ m - 1 := by have e := HLM.out; omega
      have hlm2 : m - 1 ≤ Nm := by have e := HLM.out; omega
      by_cases hlt0 : m + 1 < p
      · obtain ⟨b33_, f34_, rfl, b33_l, b33_h, -⟩ := k29_.ints (by have e := HWL.out; omega)
        have c35_ : w23.cell? ⟨b33_, f34_ + m, none⟩ = some (.int .i64 ((worthRow E xs).getD m 0)) := k29_.ints.at2 m (by first | omega | (simp; omega) | simp)
        have c35_i : (m : Int) < ((worthRow E xs).length : Int) := by omega
        have c35_j : (0 : Int) ≤ (m : Int) := by omega
        have v36_g := worthRow_bd E xs m
        obtain ⟨v36_, hv36_⟩ : ∃ v, v = (worthRow E xs).getD m 0 := ⟨_, rfl⟩
        rw [← hv36_] at c35_ v36_g
        have Hv36_ := Lib.hid hv36_
        clear hv36_
        obtain ⟨v36_g1, v36_g2⟩ := v36_g
        obtain ⟨v37_, hv37_⟩ : ∃ v, inSum ys (m : Int) ys.length = v := ⟨_, rfl⟩
        have bv37_ := inSum_bd (xs := ys) (by omega) HY.out (m : Int) ys.length (Nat.le_refl _)
        rw [hv37_] at bv37_
        obtain ⟨bv37_1, bv37_2⟩ := bv37_
        have Hv37_ := Lib.hid hv37_
        clear hv37_
        have HL40_ : Hid (([((48 * v36_) - v37_)] : List Int).length = 1) := rfl
        have HL44_ : Hid (((missL E xs ys m) ++ ([((48 * v36_) - v37_)] : List Int)).length = Nm + 1) := by show _ = _; rw [List.length_append, HZ24_l.out, HL40_.out]
        have hw45_ : IntKind.i64.wrap (48 * v36_) = (48 * v36_) := IntWalk.i64_in _ (by omega)
        have hw46_ : IntKind.i64.wrap ((48 * v36_) - v37_) = ((48 * v36_) - v37_) := IntWalk.i64_in _ (by omega)
        have g53_ : w.heap.size < w23.heap.size := (by first | omega | (simp; omega) | simp)
        have g54_ : hi ≤ w23.heap.size := (by first | omega | (simp; omega) | simp)
        have g55_ : hi' ≤ w23.heap.size := (by first | omega | (simp; omega) | simp)
        have g56_ : w13.heap.size ≤ w23.heap.size := (by first | omega | (simp; omega) | simp)
        have g57_ : gm + 1 ≤ w23.heap.size := (by first | omega | (simp; omega) | simp)
        have g58_ : b33_ < w23.heap.size := (by first | omega | (simp; omega) | simp)
        have g59_ : w.heap.size ≤ w23.heap.size := (by first | omega | (simp; omega) | simp)
        go_wp2_with fail
        refine wp_region_held_drew (S := (fun w' : World => Below w.heap.size w w' ∧ w23.heap.size ≤ w'.heap.size ∧ Ints w' (lo) (hi) A xs ∧ Ints w' (lo') (hi') D ys ∧ Own w' (w6.heap.size) (w13.heap.size) (some ⟨b33_, f34_, none⟩) (worthRow E xs) ∧ w'.cell? ⟨w.heap.size, 0, none⟩ = some (.int .i64 E) ∧ w'.cell? ⟨w.heap.size, 1, none⟩ = some (.slice A xs.length c) ∧ w'.cell? ⟨b33_, f34_ + m, none⟩ = some (.int .i64 v36_) ∧ w23.heap.size ≤ w'.heap.size)) (by kernel_rfl) ⟨k25_.drew, by exact (by first | omega | (simp; omega) | simp), k27_, k28_, k29_, k30_, k31_, c35_, Nat.le_refl _⟩ (fun hHeld => ?_)
        have o60_ : Grow w23.drew gm cm (missL E xs ys m) := Z24_G
        refine wpAnyH_take (i := 0) (oi := ?oi12) (v := ?vv12) ?hi12 ?hs12 ?hf12 ?ha12 ?hq12 ?hy12 hHeld ?hr12
        case hi12 => (simp only [List.getElem?_toArray, List.getElem?_cons_zero]; exact rfl)
        case hs12 => kernel_rfl
        case hf12 => kernel_rfl
        case ha12 => kernel_rfl
        case hq12 => exact fun _ _ _ h => h
        case hy12 =>
          refine Or.inl ⟨by rfl, ?_⟩
          intro w' hSw
          try dsimp only at hSw
          go_simp
          first | done | with_reducible rfl
        simp only [Act.put, List.setIfInBounds_toArray, List.set_cons_succ, List.set_cons_zero]
        refine wpAnyH_take (i := 1) (oi := ?oi13) (v := ?vv13) ?hi13 ?hs13 ?hf13 ?ha13 ?hq13 ?hy13 hHeld ?hr13
        case hi13 => (simp only [List.getElem?_toArray, List.getElem?_cons_succ, List.getElem?_cons_zero]; exact rfl)
        case hs13 => kernel_rfl
        case hf13 => kernel_rfl
        case ha13 => kernel_rfl
        case hq13 => exact fun _ _ _ h => h
        case hy13 =>
          refine Or.inl ⟨by rfl, ?_⟩
          intro w' hSw
          try dsimp only at hSw
          go_simp
          first | done | with_reducible rfl
        simp only [Act.put, List.setIfInBounds_toArray, List.set_cons_succ, List.set_cons_zero]
        refine wpAnyH_take (i := 2) (oi := ?oi14) (v := ?vv14) ?hi14 ?hs14 ?hf14 ?ha14 ?hq14 ?hy14 hHeld ?hr14
        case hi14 => (simp only [List.getElem?_toArray, List.getElem?_cons_succ, List.getElem?_cons_zero]; exact rfl)
        case hs14 => kernel_rfl
        case hf14 => kernel_rfl
        case ha14 => kernel_rfl
        case hq14 => exact fun _ _ _ h => h
        case hy14 =>
          refine Or.inl ⟨by rfl, ?_⟩
          intro w' hSw
          try dsimp only at hSw
          go_simp
          first | done | with_reducible rfl
        simp only [Act.put, List.setIfInBounds_toArray, List.set_cons_succ, List.set_cons_zero]
        refine wpAnyH_take (i := 3) (oi := ?oi15) (v := ?vv15) ?hi15 ?hs15 ?hf15 ?ha15 ?hq15 ?hy15 hHeld ?hr15
        case hi15 => (simp only [List.getElem?_toArray, List.getElem?_cons_succ, List.getElem?_cons_zero]; exact rfl)
        case hs15 => kernel_rfl
        case hf15 => kernel_rfl
        case ha15 => kernel_rfl
        case hq15 => exact fun _ _ _ h => h
        case hy15 =>
          refine Or.inl ⟨by rfl, ?_⟩
          intro w' hSw
          try dsimp only at hSw
          go_simp
          first | done | with_reducible rfl
        simp only [Act.put, List.setIfInBounds_toArray, List.set_cons_succ, List.set_cons_zero]
        refine wpAnyH_take (i := 4) (oi := ?oi16) (v := ?vv16) ?hi16 ?hs16 ?hf16 ?ha16 ?hq16 ?hy16 hHeld ?hr16
        case hi16 => (simp only [List.getElem?_toArray, List.getElem?_cons_succ, List.getElem?_cons_zero]; exact rfl)
        case hs16 => kernel_rfl
        case hf16 => kernel_rfl
        case ha16 => kernel_rfl
        case hq16 => exact fun _ _ _ h => h
        case hy16 =>
          refine Or.inl ⟨by rfl, ?_⟩
          intro w' hSw
          try dsimp only at hSw
          go_simp
          first | done | with_reducible rfl
        simp only [Act.put, List.setIfInBounds_toArray, List.set_cons_succ, List.set_cons_zero]
        refine wpAnyH_take (i := 5) (oi := ?oi17) (v := ?vv17) ?hi17 ?hs17 ?hf17 ?ha17 ?hq17 ?hy17 hHeld ?hr17
        case hi17 => (simp only [List.getElem?_toArray, List.getElem?_cons_succ, List.getElem?_cons_zero]; exact rfl)
        case hs17 => kernel_rfl
        case hf17 => kernel_rfl
        case ha17 => kernel_rfl
        case hq17 => exact fun _ _ _ h => h
        case hy17 =>
          refine Or.inl ⟨by rfl, ?_⟩
          intro w' hSw
          try dsimp only at hSw
          go_simp
          first | done | with_reducible rfl
        simp only [Act.put, List.setIfInBounds_toArray, List.set_cons_succ, List.set_cons_zero]
        refine wpAnyH_take (i := 6) (oi := ?oi18) (v := ?vv18) ?hi18 ?hs18 ?hf18 ?ha18 ?hq18 ?hy18 hHeld ?hr18
        case hi18 => (simp only [List.getElem?_toArray, List.getElem?_cons_succ, List.getElem?_cons_zero]; exact rfl)
        case hs18 => kernel_rfl
        case hf18 => kernel_rfl
        case ha18 => kernel_rfl
        case hq18 => exact fun _ _ _ h => h
        case hy18 =>
          refine Or.inl ⟨by rfl, ?_⟩
          intro w' hSw
          try dsimp only at hSw
          go_simp
          first | done | with_reducible rfl
        simp only [Act.put, List.setIfInBounds_toArray, List.set_cons_succ, List.set_cons_zero]
        refine wpAnyH_take (i := 7) (oi := ?oi19) (v := ?vv19) ?hi19 ?hs19 ?hf19 ?ha19 ?hq19 ?hy19 hHeld ?hr19
        case hi19 => (simp only [List.getElem?_toArray, List.getElem?_cons_succ, List.getElem?_cons_zero]; exact rfl)
        case hs19 => kernel_rfl
        case hf19 => kernel_rfl
        case ha19 => kernel_rfl
        case hq19 => exact fun _ _ _ h => h
        case hy19 =>
          refine Or.inl ⟨by rfl, ?_⟩
          intro w' hSw
          try dsimp only at hSw
          go_simp
          first | done | with_reducible rfl
        simp only [Act.put, List.setIfInBounds_toArray, List.set_cons_succ, List.set_cons_zero]
        refine wpAnyH_ready (rs := [8]) (by kernel_rfl) (by simp) ?_
        refine AllReadyH.cons rfl (fun K hK => ?_) AllReadyH.nil
        go_simp
        go_at_call 52
        obtain ⟨BB, zz, k47_, k48_, k49_, k50_, k51_, q52_, zw⟩ := hHeld
        (with_reducible refine (same_is (sumWithin_any D d ys (m : Int) _ _ _ k48_ (by omega) (by omega) (by omega) HY.out) (congrArg (Value.int .i64) Hv37_.out)).mono ?_)
        rintro e w9 ⟨rfl, rfl⟩
        refine hK.out _ _ ⟨BB, zz, k47_, k48_, k49_, k50_, k51_, q52_, zw⟩ (fun hHeld => ?_)
        clear hK K
        try simp only [Act.put, List.setIfInBounds_toArray, List.set_cons_zero, List.set_cons_succ]
        refine wpAnyH_take (i := 9) (oi := ?oi20) (v := ?vv20) ?hi20 ?hs20 ?hf20 ?ha20 ?hq20 ?hy20 hHeld ?hr20
        case hi20 => (simp only [List.getElem?_toArray, List.getElem?_cons_succ, List.getElem?_cons_zero]; exact rfl)
        case hs20 => kernel_rfl
        case hf20 => kernel_rfl
        case ha20 => kernel_rfl
        case hq20 => exact fun _ _ _ h => h
        case hy20 =>
          refine Or.inl ⟨by rfl, ?_⟩
          intro w' hSw
          try dsimp only at hSw
          go_simp
          first | done | with_reducible rfl
        simp only [Act.put, List.setIfInBounds_toArray, List.set_cons_succ, List.set_cons_zero]
        refine wpAnyH_ready (rs := [10]) (by kernel_rfl) (by simp) ?_
        refine AllReadyH.cons rfl (fun K hK => ?_) AllReadyH.nil
        obtain ⟨BB, zz, k47_, k48_, k49_, k50_, k51_, q52_, zw⟩ := hHeld
        go_simp
        have G39_ : Grow ((w23.alloc (.cells #[.int .i64 ((48 * v36_) - v37_)] 3)).drew) (w23.heap.size) 1 ([((48 * v36_) - v37_)] : List Int) := grow_lit w23.drew ([((48 * v36_) - v37_)] : List Int) (by simp)
        have hb9 : Below w23.drew.heap.size w23.drew ((w23.alloc (.cells #[.int .i64 ((48 * v36_) - v37_)] 3)).drew) := (Below.refl _ w23.drew).alloc (Nat.le_refl _) (.cells #[.int .i64 ((48 * v36_) - v37_)] 3)
        obtain ⟨g38_, hg38_⟩ : ∃ g, w23.heap.size = g := ⟨_, rfl⟩
        rw [hg38_] at G39_
        simp only [hg38_]
        have lg38_ : w.heap.size ≤ g38_ := by omega
        have leg38_ : g38_ ≤ w23.heap.size := by omega
        have geg38_ : w23.heap.size ≤ g38_ := by omega
        obtain ⟨w61, hw61⟩ : ∃ x, x = ((w23.alloc (.cells #[.int .i64 ((48 * v36_) - v37_)] 3)).drew) := ⟨_, rfl⟩
        rw [← hw61] at G39_ hb9
        rw [← hw61]
        clear hw61 hg38_
        have l62_ := G39_.lt
        have o63_ := o60_.below hb9 (by first | omega | (simp; omega) | simp)
        refine hK.out _ _ ⟨BB.trans (hb9.mono (by omega)), Nat.le_trans zz hb9.size, k47_.below hb9 (by first | omega | (simp; omega) | simp), k48_.below hb9 (by first | omega | (simp; omega) | simp), k49_.below hb9 (by first | omega | (simp; omega) | simp), (hb9.cell (p := ⟨w.heap.size, 0, none⟩) (by first | omega | (simp; omega) | simp)).trans k50_, (hb9.cell (p := ⟨w.heap.size, 1, none⟩) (by first | omega | (simp; omega) | simp)).trans k51_, (hb9.cell (by show b33_ < _; omega)).trans q52_, Nat.le_trans zw hb9.size⟩ (fun hHeld => ?_)
        clear hb9 zw q52_ k51_ k50_ k49_ k48_ k47_ zz BB
        clear hK K
        try simp only [Act.put, List.setIfInBounds_toArray, List.set_cons_zero, List.set_cons_succ]
        refine wpAnyH_ready (rs := [11]) (by kernel_rfl) (by simp) ?_
        refine AllReadyH.cons (o := ?ox21) ?hx21 (fun K hK => ?_) AllReadyH.nil
        case hx21 => (simp only [List.getElem?_toArray, List.getElem?_cons_succ, List.getElem?_cons_zero]; exact rfl)
        obtain ⟨BB, zz, k47_, k48_, k49_, k50_, k51_, q52_, zw⟩ := hHeld
        refine step_gr (by rfl) _ _ (by rfl) (xs := (missL E xs ys m)) (ys := ([((48 * v36_) - v37_)] : List Int)) (by rfl) (by have e := HZ24_l.out; omega) o63_ (by rfl) (by have e := HL40_.out; omega) (G39_.ints.read) (by omega) ?_
        intro g41_ c42_ w64 G43_ hC65_ hg41_
        have lg41_ : w.heap.size ≤ g41_ := by omega
        have l66_ := G43_.lt
        have G39_ := G39_.chg hC65_ (by omega)
        refine hK.out _ _ ⟨BB.trans (hC65_.below (by omega) (by omega)), Nat.le_trans zz hC65_.size, k47_.chg hC65_ (by first | omega | (simp; omega) | simp) (by omega), k48_.chg hC65_ (by first | omega | (simp; omega) | simp) (by omega), k49_.chg hC65_ (by first | omega | (simp; omega) | simp) (by omega), (hC65_.cell (p := ⟨w.heap.size, 0, none⟩) (by first | omega | (simp; omega) | simp) (by first | omega | (simp; omega) | simp)).trans k50_, (hC65_.cell (p := ⟨w.heap.size, 1, none⟩) (by first | omega | (simp; omega) | simp) (by first | omega | (simp; omega) | simp)).trans k51_, (hC65_.cell (by show b33_ < _; omega) (by first | omega | (simp; omega) | simp)).trans q52_, Nat.le_trans zw hC65_.size⟩ (fun hHeld => ?_)
        clear hC65_ zw q52_ k51_ k50_ k49_ k48_ k47_ zz BB
        clear hK K
        try simp only [Act.put, List.setIfInBounds_toArray, List.set_cons_zero, List.set_cons_succ]
        refine wpAnyH_take (i := 12) (oi := ?oi22) (v := ?vv22) ?hi22 ?hs22 ?hf22 ?ha22 ?hq22 ?hy22 hHeld ?hr22
        case hi22 => (simp only [List.getElem?_toArray, List.getElem?_cons_succ, List.getElem?_cons_zero]; exact rfl)
        case hs22 => kernel_rfl
        case hf22 => kernel_rfl
        case ha22 => kernel_rfl
        case hq22 => exact fun _ _ _ h => h
        case hy22 =>
          refine Or.inl ⟨by rfl, ?_⟩
          intro w' hSw
          try dsimp only at hSw
          go_simp
          first | done | with_reducible rfl
        simp only [Act.put, List.setIfInBounds_toArray, List.set_cons_succ, List.set_cons_zero]
        refine wpAnyH_done (by kernel_rfl) ?_ _
        obtain ⟨BB, zz, k47_, k48_, k49_, k50_, k51_, q52_, zw⟩ := hHeld
        clear hw45_ hw46_
        have k67_ := BB
        clear BB
        have k68_ := zz
        clear zz
        have k69_ := zw
        clear zw
        go_wp2
        go_roundw
        case rel => exact ⟨m + 1, (some ⟨g41_, 0, none⟩), c42_, (Nm + 1), by go_num, rfl, by omega, by omega, .inr ⟨_, rfl, by omega, (by rw [missL_length]; have e := HLM.out; omega), by omega, (by have e2 := Hv36_.out; rw [worthRow_at HCB.out HPX.out (by have e := HWL.out; omega)] at e2; have e3 := missL_succ E xs ys (m := m) (by omega); unfold missOf at e3; rw [Hv37_.out, ← e2] at e3; rw [e3]; exact G43_)⟩, k67_, (by first | omega | (simp; omega) | simp), k47_, k48_, k49_, k50_, k51_⟩
        case measure => simp [intOf] <;> omega
      · have hme : m + 1 = p := by omega
        go_wp2_with fail
        refine (sort_own gm 0 cm Nm (missL E xs ys m) _ gm (gm + 1) Z24_G.own (by omega) (by omega) (by omega) HZ24_l.out (by omega)).mono ?_
        rintro e w33 ⟨rfl, om34_, hC35_⟩
        have HL36_ : Hid ((srt (missL E xs ys m)).length = Nm) := by show _ = _; first | (rw [srt_length, HZ24_l.out]) | (rw [List.length_reverse, HZ24_l.out])
        have o37_ := k27_.chg hC35_ (by first | omega | (simp; omega) | simp) (by omega)
        have o38_ := k28_.chg hC35_ (by first | omega | (simp; omega) | simp) (by omega)
        have o39_ := k29_.chg hC35_ (by first | omega | (simp; omega) | simp) (by omega)
        have o40_ := (hC35_.cell (p := ⟨w.heap.size, 0, none⟩) (by first | omega | (simp; omega) | simp) (by first | omega | (simp; omega) | simp)).trans k30_
        have o41_ := (hC35_.cell (p := ⟨w.heap.size, 1, none⟩) (by first | omega | (simp; omega) | simp) (by first | omega | (simp; omega) | simp)).trans k31_
        have z42_ := hC35_.size
        have B43_ := k25_.trans (hC35_.below (by omega) (by first | omega | (simp; omega) | simp))
        clear hC35_
        go_wp2_with fail
        refine (rev_own gm 0 cm Nm (srt (missL E xs ys m)) _ gm (gm + 1) om34_ (by omega) (by omega) HL36_.out (by omega)).mono ?_
        rintro e w44 ⟨rfl, om45_, hC46_⟩
        have HL47_ : Hid (((srt (missL E xs ys m)).reverse).length = Nm) := by show _ = _; first | (rw [srt_length, HL36_.out]) | (rw [List.length_reverse, HL36_.out])
        have o48_ := o37_.chg hC46_ (by first | omega | (simp; omega) | simp) (by omega)
        have o49_ := o38_.chg hC46_ (by first | omega | (simp; omega) | simp) (by omega)
        have o50_ := o39_.chg hC46_ (by first | omega | (simp; omega) | simp) (by omega)
        have o51_ := (hC46_.cell (p := ⟨w.heap.size, 0, none⟩) (by first | omega | (simp; omega) | simp) (by first | omega | (simp; omega) | simp)).trans o40_
        have o52_ := (hC46_.cell (p := ⟨w.heap.size, 1, none⟩) (by first | omega | (simp; omega) | simp) (by first | omega | (simp; omega) | simp)).trans o41_
        have z53_ := hC46_.size
        have B54_ := B43_.trans (hC46_.below (by omega) (by first | omega | (simp; omega) | simp))
        clear hC46_
        go_wp2
        go_ret
        have hfin := missRow_fin HAW.out HP.out (m := m) (by omega)
        rw [← hfin]
        exact ⟨(some ⟨gm, 0, none⟩), cm, by rw [HL47_.out]; rfl, om45_.more (by omega) (by omega), B54_⟩

set_option maxRecDepth 10000 in
set_option maxHeartbeats 1000000 in
theorem implMissRow_no (E : Int) (A : Option Addr) (c : Nat) (xs : List Int) (D : Option Addr) (d : Nat) (ys : List Int) (w : World) (lo hi : Nat) (h : Ints w lo hi A xs) (hh : hi ≤ w.heap.size) (hl : xs.length ≤ 1152921504606846976) (lo' hi' : Nat) (h' : Ints w lo' hi' D ys) (hh' : hi' ≤ w.heap.size) (hl' : ys.length ≤ 1152921504606846976) (hok : awardsB E xs ys = false) :
    Calls Try.prog 26 #[.agg #[.int .i64 E, .slice A xs.length c], .slice D ys.length d] w (RetInts w (missRow E xs ys)) := by
  have HAW := Lib.hid hok
  clear hok
  go_enter Try.func26, Try.ntmps26
  have o1_ := h.alloc (by first | omega | (simp; omega) | simp) (.cells #[.int .i64 E, .slice A xs.length c] 25)
  have o2_ := h'.alloc (by first | omega | (simp; omega) | simp) (.cells #[.int .i64 E, .slice A xs.length c] 25)
  have B3_ := (Below.refl w.heap.size w).alloc (Nat.le_refl _) (.cells #[.int .i64 E, .slice A xs.length c] 25)
  have a4_ : (w.alloc (.cells #[.int .i64 E, .slice A xs.length c] 25)).cell? ⟨w.heap.size, 0, none⟩ = some (.int .i64 E) := by simp [go_sem]
  have a5_ : (w.alloc (.cells #[.int .i64 E, .slice A xs.length c] 25)).cell? ⟨w.heap.size, 1, none⟩ = some (.slice A xs.length c) := by simp [go_sem]
  go_wp2_with fail
  refine (implAwardsOk_any E A c xs D d ys _ _ _ o1_ (by first | omega | (simp; omega) | simp) hl _ _ o2_ (by first | omega | (simp; omega) | simp) hl').mono ?_
  rintro e w6 ⟨he, hb6_⟩
  rw [HAW.out] at he
  subst he
  have o7_ := o1_.below hb6_ (by first | omega | (simp; omega) | simp)
  have o8_ := o2_.below hb6_ (by first | omega | (simp; omega) | simp)
  have o9_ := (hb6_.cell (p := ⟨w.heap.size, 0, none⟩) (by first | omega | (simp; omega) | simp)).trans a4_
  have o10_ := (hb6_.cell (p := ⟨w.heap.size, 1, none⟩) (by first | omega | (simp; omega) | simp)).trans a5_
  have z11_ := hb6_.size
  try simp at z11_
  have B12_ := B3_.trans (hb6_.mono (by first | omega | (simp; omega) | simp))
  clear hb6_
  go_wp2
  go_ret
  exact retInts_nil (by rw [missRow, if_neg (by rw [HAW.out]; simp)]) B12_

theorem implMissRow_any (E : Int) (A : Option Addr) (c : Nat) (xs : List Int) (D : Option Addr) (d : Nat) (ys : List Int) (w : World) (lo hi : Nat) (h : Ints w lo hi A xs) (hh : hi ≤ w.heap.size) (hl : xs.length ≤ 1152921504606846976) (lo' hi' : Nat) (h' : Ints w lo' hi' D ys) (hh' : hi' ≤ w.heap.size) (hl' : ys.length ≤ 1152921504606846976) :
    Calls Try.prog 26 #[.agg #[.int .i64 E, .slice A xs.length c], .slice D ys.length d] w (RetInts w (missRow E xs ys)) := by
  by_cases hok : awardsB E xs ys = true
  · exact implMissRow_yes E A c xs D d ys w lo hi h hh hl lo' hi' h' hh' hl' hok
  · exact implMissRow_no E A c xs D d ys w lo hi h hh hl lo' hi' h' hh' hl' (by simpa using hok)


end Go.Proofs.Ythhcjomfpjopdaa
