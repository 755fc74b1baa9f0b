/-
  Chapter 7, the given package's functions BringsOf and GameShares. Premises: lengths that fit.
-/
import Derived.Test.YtmkmipgboecdaaaSpec7B
import Derived.BigQuiet
import Derived.Deep.Cut
namespace Go.Proofs.Ytmkmipgboecdaaa
open Go.RowKit


theorem fac_bd {n : Nat} (h : n ≤ 4) : 1 ≤ fac n ∧ fac n ≤ 24 := by
  rcases (show n = 0 ∨ n = 1 ∨ n = 2 ∨ n = 3 ∨ n = 4 from by omega) with rfl | rfl | rfl | rfl | rfl <;> decide
theorem fac_step (m : Nat) : fac (m + 1) * ((m : Int) + 2) = fac (m + 2) := by show _ = (((m + 1 : Nat) : Int) + 1) * fac (m + 1); rw [Int.mul_comm]; congr 1

set_option maxRecDepth 10000 in
set_option maxHeartbeats 400000 in
theorem l7Factor_any (n : Nat) (w : World) (hn : n ≤ 4) :
    Calls Try.prog 76 #[.int .i64 (n : Int)] w fun e w' => e = .returned (.int .i64 (fac n)) ∧ w = w' := by
  go_enter Try.func76, Try.ntmps76
  go_wp2
  go_loop [4, 3] (fun k p => ∃ m : Nat, ∃ F : Int, k = .int .i64 ((m : Int) + 2) ∧ p = .int .i64 F ∧ (m + 1 ≤ n ∨ m = 0) ∧ (F = fac (m + 1))) (fun k p => n + 2 - (intOf k).toNat)
  case atStart => exact ⟨0, 1, rfl, rfl, Or.inr rfl, rfl⟩
  case round =>
    obtain ⟨m, F, rfl, rfl, hm, hF⟩ := hrel
    have HF := Lib.hid hF
    clear hF
    have hFb := fac_bd (n := m + 1) (by omega)
    rw [← HF.out] at hFb
    obtain ⟨hFb1, hFb2⟩ := hFb
    by_cases hlt0 : m + 2 ≤ n
    · obtain ⟨P1_, hP1_⟩ : ∃ P, F * ((m : Int) + 2) = P := ⟨_, rfl⟩
      have bP1_ := show 0 ≤ F * ((m : Int) + 2) ∧ F * ((m : Int) + 2) ≤ 24 from by rw [HF.out, fac_step]; have e := fac_bd (n := m + 2) (by omega); omega
      rw [hP1_] at bP1_
      obtain ⟨bP1_, bP1_'⟩ := bP1_
      have wP1_ : IntKind.i64.wrap P1_ = P1_ := IntWalk.i64_in _ (by omega)
      go_wp2
      go_round
      case rel => exact ⟨m + 1, P1_, by go_num, by go_num, (by omega), (by rw [← fac_step m, ← HF.out, ← hP1_])⟩
      case measure => simp [intOf] <;> omega
    · have hfin : F = fac n := by rw [HF.out]; rcases (show n = m + 1 ∨ (n = 0 ∧ m = 0) from by omega) with e | ⟨e, e2⟩; rw [e]; rw [e, e2]; rfl
      have HFIN := Lib.hid hfin
      clear hfin
      go_wp2
      go_ret
      exact ⟨ret_int HFIN.out, rfl⟩

/-- What BringsOf returns. -/
def bringsOf (E : Int) (xs : List Int) (p s : Int) : Int :=
  if caseOkB E xs = true ∧ (0 ≤ p ∧ p ≤ (xs.length : Int) - 1) ∧ (0 ≤ s ∧ s ≤ 2 ^ xs.length - 1) ∧ ¬ s / 2 ^ p.toNat % 2 = 1 then worth E xs (s.toNat ||| 2 ^ p.toNat : Nat) - worth E xs s else -1
theorem pow_in {k n : Nat} (hk : k < n) (hn : n ≤ 4) : 1 ≤ (2 : Int) ^ k ∧ (2 : Int) ^ k ≤ 8 ∧ (2 : Int) ^ k < 2 ^ n := by
  have e1 := pow_bd (n := k) (by omega)
  have e2 : (2 : Nat) ^ k < 2 ^ n := pow_lt hk
  have e3 : (2 : Nat) ^ k ≤ 2 ^ 3 := Nat.pow_le_pow_right (by omega) (by omega)
  refine ⟨e1.1, by exact_mod_cast e3, by exact_mod_cast e2⟩
theorem or_is {n m k : Nat} (hm : (m : Int) < 2 ^ n) (hk : k < n) (hn : n ≤ 4) : bits .or .i64 (m : Int) (2 ^ k) = ((m ||| 2 ^ k : Nat) : Int) := by
  have e := or_i64 m (2 ^ k) (by have e := (pow_bd hn).2; omega) (by have e := (pow_in hk hn).2.1; have e2 : (2 : Nat) ^ k ≤ 8 := by exact_mod_cast e
                                                                     omega)
  rw [← e, Int.natCast_pow]; rfl

set_option maxRecDepth 10000 in
set_option maxHeartbeats 1000000 in
theorem specBringsOf_nat (E : Int) (A : Option Addr) (c : Nat) (xs : List Int) (k m : Nat) (w : World) (lo hi : Nat) (h : Ints w lo hi A xs) (hh : hi ≤ w.heap.size) (hl : xs.length ≤ 1152921504606846976) :
    Calls Try.prog 31 #[.agg #[.int .i64 E, .slice A xs.length c], .int .i64 (k : Int), .int .i64 (m : Int)] w fun e w' => e = .returned (.int .i64 (bringsOf E xs (k : Int) (m : Int))) ∧ Below w.heap.size w w' := by
  go_enter Try.func31, Try.ntmps31
  have o1_ := h.alloc (by first | omega | (simp; omega) | simp) (.cells #[.int .i64 E, .slice A xs.length c] 25)
  have B2_ := (Below.refl w.heap.size w).alloc (Nat.le_refl _) (.cells #[.int .i64 E, .slice A xs.length c] 25)
  have a3_ : (w.alloc (.cells #[.int .i64 E, .slice A xs.length c] 25)).cell? ⟨w.heap.size, 0, none⟩ = some (.int .i64 E) := by simp [go_sem]
  have a4_ : (w.alloc (.cells #[.int .i64 E, .slice A xs.length c] 25)).cell? ⟨w.heap.size, 1, none⟩ = some (.slice A xs.length c) := by simp [go_sem]
  by_cases h5_ : caseOkB E xs = true
  · have H5_ := Lib.hid h5_
    clear h5_
    have hbd := caseOk_bd H5_.out
    obtain ⟨hpw1, hpw2⟩ := pow_bd hbd.2.1
    have HV := Lib.hid (fun k hk => case_getD H5_.out k hk)
    have HCB := Lib.hid H5_.out
    go_wp2_with fail
    refine (specCaseOk_any E A c xs _ _ _ o1_ (by first | omega | (simp; omega) | simp) hl).mono ?_
    rintro e w6 ⟨he, hb6_⟩
    rw [H5_.out] at he
    subst he
    have o7_ := o1_.below hb6_ (by first | omega | (simp; omega) | simp)
    have o8_ := (hb6_.cell (p := ⟨w.heap.size, 0, none⟩) (by first | omega | (simp; omega) | simp)).trans a3_
    have o9_ := (hb6_.cell (p := ⟨w.heap.size, 1, none⟩) (by first | omega | (simp; omega) | simp)).trans a4_
    have z10_ := hb6_.size
    try simp at z10_
    have B11_ := B2_.trans (hb6_.mono (by first | omega | (simp; omega) | simp))
    clear hb6_
    by_cases h12_ : 0 ≤ (k : Int) ∧ (k : Int) ≤ ((xs.length : Int) - 1)
    · have H12_ := Lib.hid h12_
      clear h12_
      obtain ⟨H12_a, H12_b⟩ := H12_.out
      have hpin := pow_in (k := k) (n := xs.length) (by omega) (by omega)
      obtain ⟨hpi1, hpi2, hpi3⟩ := hpin
      have hdv : 0 ≤ (m : Int) / 2 ^ k := Int.ediv_nonneg (by omega) (by omega)
      go_wp2_with fail
      refine (l1In_yes _ _ _ _ H12_.out).mono ?_
      rintro e w' ⟨rfl, rfl⟩
      by_cases h13_ : 0 ≤ (m : Int) ∧ (m : Int) ≤ ((2 ^ xs.length) - 1)
      · have H13_ := Lib.hid h13_
        clear h13_
        obtain ⟨H13_a, H13_b⟩ := H13_.out
        go_wp2_with fail
        refine (l1In_yes _ _ _ _ H13_.out).mono ?_
        rintro e w' ⟨rfl, rfl⟩
        by_cases h14_ : (((m : Int) / 2 ^ k) % 2) = 1
        · have h14_b : ((((m : Int) / 2 ^ k) % 2) == 1) = true := by simpa using h14_
          have h14_n : ((((m : Int) / 2 ^ k) % 2) != 1) = false := by simpa using h14_
          have h14_le : (((m : Int) / 2 ^ k) % 2) ≤ 1 := by omega
          have h14_ge : 1 ≤ (((m : Int) / 2 ^ k) % 2) := by omega
          have Hh14_ := Lib.hid h14_
          clear h14_
          go_wp2
          go_ret
          exact ⟨ret_int (by rw [bringsOf, if_neg (fun h => h.2.2.2 (by rw [Int.toNat_natCast]; exact Hh14_.out))]), B11_⟩
        · have h14_b : ((((m : Int) / 2 ^ k) % 2) == 1) = false := by simpa using h14_
          have h14_n : ((((m : Int) / 2 ^ k) % 2) != 1) = true := by simpa using h14_
          obtain ⟨B15_, hB15_⟩ : ∃ B, bits .or .i64 (m : Int) (2 ^ k) = B := ⟨_, rfl⟩
          have qB15_ : B15_ = ((m ||| 2 ^ k : Nat) : Int) := by rw [← hB15_]; exact or_is (n := xs.length) (by omega) (by omega) (by omega)
          have QB15_ := Lib.hid qB15_
          have nB15_ : 0 ≤ B15_ := by omega
          clear qB15_
          obtain ⟨v16_, hv16_⟩ : ∃ v, worth E xs B15_ = v := ⟨_, rfl⟩
          have bv16_ : 0 ≤ v16_ ∧ v16_ ≤ 48 := by rw [← hv16_]; exact worth_bd HCB.out _
          obtain ⟨bv16_1, bv16_2⟩ := bv16_
          have Hv16_ := Lib.hid hv16_
          clear hv16_
          obtain ⟨v17_, hv17_⟩ : ∃ v, worth E xs (m : Int) = v := ⟨_, rfl⟩
          have bv17_ : 0 ≤ v17_ ∧ v17_ ≤ 48 := by rw [← hv17_]; exact worth_bd HCB.out _
          obtain ⟨bv17_1, bv17_2⟩ := bv17_
          have Hv17_ := Lib.hid hv17_
          clear hv17_
          have hw18_ : IntKind.i64.wrap (2 ^ k) = (2 ^ k) := IntWalk.i64_in _ (by omega)
          have hw19_ : IntKind.i64.wrap (v16_ - v17_) = (v16_ - v17_) := IntWalk.i64_in _ (by omega)
          have g23_ : w.heap.size < w6.heap.size := (by first | omega | (simp; omega) | simp)
          have g24_ : hi ≤ w6.heap.size := (by first | omega | (simp; omega) | simp)
          have g25_ : w.heap.size ≤ w6.heap.size := (by first | omega | (simp; omega) | simp)
          go_wp2_with fail
          refine wp_region_held_drew (S := (fun w' : World => Below w.heap.size w w' ∧ w6.heap.size ≤ w'.heap.size ∧ Ints w' (lo) (hi) A xs ∧ w'.cell? ⟨w.heap.size, 0, none⟩ = some (.int .i64 E) ∧ w'.cell? ⟨w.heap.size, 1, none⟩ = some (.slice A xs.length c) ∧ w6.heap.size ≤ w'.heap.size)) (by kernel_rfl) ⟨B11_.drew, by exact (by first | omega | (simp; omega) | simp), o7_, o8_, o9_, Nat.le_refl _⟩ (fun hHeld => ?_)
          refine wpAnyH_take (i := 0) (oi := ?oi1) (v := ?vv1) ?hi1 ?hs1 ?hf1 ?ha1 ?hq1 ?hy1 hHeld ?hr1
          case hi1 => (simp only [List.getElem?_toArray, List.getElem?_cons_zero]; exact rfl)
          case hs1 => kernel_rfl
          case hf1 => kernel_rfl
          case ha1 => kernel_rfl
          case hq1 => exact fun _ _ _ h => h
          case hy1 =>
            refine Or.inl ⟨by rfl, ?_⟩
            intro w' hSw
            try dsimp only at hSw
            go_simp
            first | done | with_reducible rfl
          simp only [Act.put, List.setIfInBounds_toArray, List.set_cons_succ, List.set_cons_zero]
          refine wpAnyH_take (i := 1) (oi := ?oi2) (v := ?vv2) ?hi2 ?hs2 ?hf2 ?ha2 ?hq2 ?hy2 hHeld ?hr2
          case hi2 => (simp only [List.getElem?_toArray, List.getElem?_cons_succ, List.getElem?_cons_zero]; exact rfl)
          case hs2 => kernel_rfl
          case hf2 => kernel_rfl
          case ha2 => kernel_rfl
          case hq2 => exact fun _ _ _ h => h
          case hy2 =>
            refine Or.inl ⟨by rfl, ?_⟩
            intro w' hSw
            try dsimp only at hSw
            go_simp
            first | done | with_reducible rfl
          simp only [Act.put, List.setIfInBounds_toArray, List.set_cons_succ, List.set_cons_zero]
          refine wpAnyH_take (i := 2) (oi := ?oi3) (v := ?vv3) ?hi3 ?hs3 ?hf3 ?ha3 ?hq3 ?hy3 hHeld ?hr3
          case hi3 => (simp only [List.getElem?_toArray, List.getElem?_cons_succ, List.getElem?_cons_zero]; exact rfl)
          case hs3 => kernel_rfl
          case hf3 => kernel_rfl
          case ha3 => kernel_rfl
          case hq3 => exact fun _ _ _ h => h
          case hy3 =>
            refine Or.inl ⟨by rfl, ?_⟩
            intro w' hSw
            try dsimp only at hSw
            go_simp
            first | done | with_reducible rfl
          simp only [Act.put, List.setIfInBounds_toArray, List.set_cons_succ, List.set_cons_zero]
          refine wpAnyH_take (i := 3) (oi := ?oi4) (v := ?vv4) ?hi4 ?hs4 ?hf4 ?ha4 ?hq4 ?hy4 hHeld ?hr4
          case hi4 => (simp only [List.getElem?_toArray, List.getElem?_cons_succ, List.getElem?_cons_zero]; exact rfl)
          case hs4 => kernel_rfl
          case hf4 => kernel_rfl
          case ha4 => kernel_rfl
          case hq4 => exact fun _ _ _ h => h
          case hy4 =>
            refine Or.inl ⟨by rfl, ?_⟩
            intro w' hSw
            try dsimp only at hSw
            go_simp
            first | done | with_reducible rfl
          simp only [Act.put, List.setIfInBounds_toArray, List.set_cons_succ, List.set_cons_zero]
          refine wpAnyH_take (i := 4) (oi := ?oi5) (v := ?vv5) ?hi5 ?hs5 ?hf5 ?ha5 ?hq5 ?hy5 hHeld ?hr5
          case hi5 => (simp only [List.getElem?_toArray, List.getElem?_cons_succ, List.getElem?_cons_zero]; exact rfl)
          case hs5 => kernel_rfl
          case hf5 => kernel_rfl
          case ha5 => kernel_rfl
          case hq5 => exact fun _ _ _ h => h
          case hy5 =>
            refine Or.inl ⟨by rfl, ?_⟩
            intro w' hSw
            try dsimp only at hSw
            go_simp
            first | done | with_reducible rfl
          simp only [Act.put, List.setIfInBounds_toArray, List.set_cons_succ, List.set_cons_zero]
          refine wpAnyH_take (i := 6) (oi := ?oi6) (v := ?vv6) ?hi6 ?hs6 ?hf6 ?ha6 ?hq6 ?hy6 hHeld ?hr6
          case hi6 => (simp only [List.getElem?_toArray, List.getElem?_cons_succ, List.getElem?_cons_zero]; exact rfl)
          case hs6 => kernel_rfl
          case hf6 => kernel_rfl
          case ha6 => kernel_rfl
          case hq6 => exact fun _ _ _ h => h
          case hy6 =>
            refine Or.inl ⟨by rfl, ?_⟩
            intro w' hSw
            try dsimp only at hSw
            go_simp
            first | done | with_reducible rfl
          simp only [Act.put, List.setIfInBounds_toArray, List.set_cons_succ, List.set_cons_zero]
          refine wpAnyH_take (i := 7) (oi := ?oi7) (v := ?vv7) ?hi7 ?hs7 ?hf7 ?ha7 ?hq7 ?hy7 hHeld ?hr7
          case hi7 => (simp only [List.getElem?_toArray, List.getElem?_cons_succ, List.getElem?_cons_zero]; exact rfl)
          case hs7 => kernel_rfl
          case hf7 => kernel_rfl
          case ha7 => kernel_rfl
          case hq7 => exact fun _ _ _ h => h
          case hy7 =>
            refine Or.inl ⟨by rfl, ?_⟩
            intro w' hSw
            try dsimp only at hSw
            go_simp
            first | done | with_reducible rfl
          simp only [Act.put, List.setIfInBounds_toArray, List.set_cons_succ, List.set_cons_zero]
          refine wpAnyH_ready (rs := [5]) (by kernel_rfl) (by simp) ?_
          refine AllReadyH.cons rfl (fun K hK => ?_) AllReadyH.nil
          go_simp
          go_at_call 75
          obtain ⟨BB, zz, k20_, k21_, k22_, zw⟩ := hHeld
          (with_reducible refine (below_is (specWorth_any E A c xs B15_ _ _ _ k20_ (by first | omega | (simp; omega) | simp) (by omega) (by omega) (by omega) HV.out) (congrArg (Value.int .i64) Hv16_.out)).mono ?_)
          rintro e w26 ⟨rfl, hb9⟩
          refine hK.out _ _ ⟨BB.trans (hb9.mono (by omega)), Nat.le_trans zz hb9.size, k20_.below hb9 (by first | omega | (simp; omega) | simp), (hb9.cell (p := ⟨w.heap.size, 0, none⟩) (by first | omega | (simp; omega) | simp)).trans k21_, (hb9.cell (p := ⟨w.heap.size, 1, none⟩) (by first | omega | (simp; omega) | simp)).trans k22_, Nat.le_trans zw hb9.size⟩ (fun hHeld => ?_)
          clear hb9 zw k22_ k21_ k20_ zz BB
          clear hK K
          try simp only [Act.put, List.setIfInBounds_toArray, List.set_cons_zero, List.set_cons_succ]
          refine wpAnyH_ready (rs := [8]) (by kernel_rfl) (by simp) ?_
          refine AllReadyH.cons rfl (fun K hK => ?_) AllReadyH.nil
          go_simp
          go_at_call 75
          obtain ⟨BB, zz, k20_, k21_, k22_, zw⟩ := hHeld
          (with_reducible refine (below_is (specWorth_any E A c xs (m : Int) _ _ _ k20_ (by first | omega | (simp; omega) | simp) (by omega) (by omega) (by omega) HV.out) (congrArg (Value.int .i64) Hv17_.out)).mono ?_)
          rintro e w27 ⟨rfl, hb9⟩
          refine hK.out _ _ ⟨BB.trans (hb9.mono (by omega)), Nat.le_trans zz hb9.size, k20_.below hb9 (by first | omega | (simp; omega) | simp), (hb9.cell (p := ⟨w.heap.size, 0, none⟩) (by first | omega | (simp; omega) | simp)).trans k21_, (hb9.cell (p := ⟨w.heap.size, 1, none⟩) (by first | omega | (simp; omega) | simp)).trans k22_, Nat.le_trans zw hb9.size⟩ (fun hHeld => ?_)
          clear hb9 zw k22_ k21_ k20_ zz BB
          clear hK K
          try simp only [Act.put, List.setIfInBounds_toArray, List.set_cons_zero, List.set_cons_succ]
          refine wpAnyH_take (i := 9) (oi := ?oi8) (v := ?vv8) ?hi8 ?hs8 ?hf8 ?ha8 ?hq8 ?hy8 hHeld ?hr8
          case hi8 => (simp only [List.getElem?_toArray, List.getElem?_cons_succ, List.getElem?_cons_zero]; exact rfl)
          case hs8 => kernel_rfl
          case hf8 => kernel_rfl
          case ha8 => kernel_rfl
          case hq8 => exact fun _ _ _ h => h
          case hy8 =>
            refine Or.inl ⟨by rfl, ?_⟩
            intro w' hSw
            try dsimp only at hSw
            go_simp
            first | done | with_reducible rfl
          simp only [Act.put, List.setIfInBounds_toArray, List.set_cons_succ, List.set_cons_zero]
          refine wpAnyH_take (i := 10) (oi := ?oi9) (v := ?vv9) ?hi9 ?hs9 ?hf9 ?ha9 ?hq9 ?hy9 hHeld ?hr9
          case hi9 => (simp only [List.getElem?_toArray, List.getElem?_cons_succ, List.getElem?_cons_zero]; exact rfl)
          case hs9 => kernel_rfl
          case hf9 => kernel_rfl
          case ha9 => kernel_rfl
          case hq9 => exact fun _ _ _ h => h
          case hy9 =>
            refine Or.inl ⟨by rfl, ?_⟩
            intro w' hSw
            try dsimp only at hSw
            go_simp
            first | done | with_reducible rfl
          simp only [Act.put, List.setIfInBounds_toArray, List.set_cons_succ, List.set_cons_zero]
          refine wpAnyH_done (by kernel_rfl) ?_ _
          obtain ⟨BB, zz, k20_, k21_, k22_, zw⟩ := hHeld
          clear hw18_ hw19_
          have k28_ := BB
          clear BB
          have k29_ := zz
          clear zz
          have k30_ := zw
          clear zw
          have hfin : bringsOf E xs (k : Int) (m : Int) = v16_ - v17_ := by rw [bringsOf, if_pos ⟨HCB.out, ⟨by omega, by omega⟩, ⟨by omega, by omega⟩, by rw [Int.toNat_natCast]; exact h14_⟩, Int.toNat_natCast, Int.toNat_natCast, ← QB15_.out, Hv16_.out, Hv17_.out]
          have HFIN := Lib.hid hfin
          clear hfin
          go_wp2
          go_ret
          exact ⟨ret_int HFIN.out.symm, k28_⟩
      · have H13_ := Lib.hid h13_
        clear h13_
        go_wp2_with fail
        refine (l1In_no _ _ _ _ H13_.out).mono ?_
        rintro e w' ⟨rfl, rfl⟩
        go_wp2
        go_ret
        exact ⟨ret_int (by rw [bringsOf, if_neg (fun h => H13_.out (by have e1 := h.2.1; have e2 := h.2.2.1; exact ⟨by omega, by omega⟩))]), B11_⟩
    · have H12_ := Lib.hid h12_
      clear h12_
      go_wp2_with fail
      refine (l1In_no _ _ _ _ H12_.out).mono ?_
      rintro e w' ⟨rfl, rfl⟩
      go_wp2
      go_ret
      exact ⟨ret_int (by rw [bringsOf, if_neg (fun h => H12_.out (by have e1 := h.2.1; have e2 := h.2.2.1; exact ⟨by omega, by omega⟩))]), B11_⟩
  · have H5_ : Hid (caseOkB E xs = false) := by show _ = _; simpa using h5_
    clear h5_
    go_wp2_with fail
    refine (specCaseOk_any E A c xs _ _ _ o1_ (by first | omega | (simp; omega) | simp) hl).mono ?_
    rintro e w6 ⟨he, hb6_⟩
    rw [H5_.out] at he
    subst he
    have o7_ := o1_.below hb6_ (by first | omega | (simp; omega) | simp)
    have o8_ := (hb6_.cell (p := ⟨w.heap.size, 0, none⟩) (by first | omega | (simp; omega) | simp)).trans a3_
    have o9_ := (hb6_.cell (p := ⟨w.heap.size, 1, none⟩) (by first | omega | (simp; omega) | simp)).trans a4_
    have z10_ := hb6_.size
    try simp at z10_
    have B11_ := B2_.trans (hb6_.mono (by first | omega | (simp; omega) | simp))
    clear hb6_
    go_wp2
    go_ret
    exact ⟨ret_int (by rw [bringsOf, if_neg (fun h => by have e := h.1; rw [H5_.out] at e; cases e)]), B11_⟩

set_option maxRecDepth 10000 in
set_option maxHeartbeats 400000 in
theorem specBringsOf_negP (E : Int) (A : Option Addr) (c : Nat) (xs : List Int) (p s : Int) (w : World) (lo hi : Nat) (h : Ints w lo hi A xs) (hh : hi ≤ w.heap.size) (hl : xs.length ≤ 1152921504606846976) (hp : p < 0) :
    Calls Try.prog 31 #[.agg #[.int .i64 E, .slice A xs.length c], .int .i64 p, .int .i64 s] w fun e w' => e = .returned (.int .i64 (bringsOf E xs p s)) ∧ Below w.heap.size w w' := by
  go_enter Try.func31, Try.ntmps31
  have o1_ := h.alloc (by first | omega | (simp; omega) | simp) (.cells #[.int .i64 E, .slice A xs.length c] 25)
  have B2_ := (Below.refl w.heap.size w).alloc (Nat.le_refl _) (.cells #[.int .i64 E, .slice A xs.length c] 25)
  have a3_ : (w.alloc (.cells #[.int .i64 E, .slice A xs.length c] 25)).cell? ⟨w.heap.size, 0, none⟩ = some (.int .i64 E) := by simp [go_sem]
  have a4_ : (w.alloc (.cells #[.int .i64 E, .slice A xs.length c] 25)).cell? ⟨w.heap.size, 1, none⟩ = some (.slice A xs.length c) := by simp [go_sem]
  by_cases h5_ : caseOkB E xs = true
  · have H5_ := Lib.hid h5_
    clear h5_
    have hbd := caseOk_bd H5_.out
    obtain ⟨hpw1, hpw2⟩ := pow_bd hbd.2.1
    have HV := Lib.hid (fun k hk => case_getD H5_.out k hk)
    have HCB := Lib.hid H5_.out
    go_wp2_with fail
    refine (specCaseOk_any E A c xs _ _ _ o1_ (by first | omega | (simp; omega) | simp) hl).mono ?_
    rintro e w6 ⟨he, hb6_⟩
    rw [H5_.out] at he
    subst he
    have o7_ := o1_.below hb6_ (by first | omega | (simp; omega) | simp)
    have o8_ := (hb6_.cell (p := ⟨w.heap.size, 0, none⟩) (by first | omega | (simp; omega) | simp)).trans a3_
    have o9_ := (hb6_.cell (p := ⟨w.heap.size, 1, none⟩) (by first | omega | (simp; omega) | simp)).trans a4_
    have z10_ := hb6_.size
    try simp at z10_
    have B11_ := B2_.trans (hb6_.mono (by first | omega | (simp; omega) | simp))
    clear hb6_
    have H12_ : Hid (¬ (0 ≤ p ∧ p ≤ ((xs.length : Int) - 1))) := by show ¬ (_ ∧ _); omega
    go_wp2_with fail
    refine (l1In_no _ _ _ _ H12_.out).mono ?_
    rintro e w' ⟨rfl, rfl⟩
    go_wp2
    go_ret
    exact ⟨ret_int (by rw [bringsOf, if_neg (fun h => by have e := h.2.1; omega)]), B11_⟩
  · have H5_ : Hid (caseOkB E xs = false) := by show _ = _; simpa using h5_
    clear h5_
    go_wp2_with fail
    refine (specCaseOk_any E A c xs _ _ _ o1_ (by first | omega | (simp; omega) | simp) hl).mono ?_
    rintro e w6 ⟨he, hb6_⟩
    rw [H5_.out] at he
    subst he
    have o7_ := o1_.below hb6_ (by first | omega | (simp; omega) | simp)
    have o8_ := (hb6_.cell (p := ⟨w.heap.size, 0, none⟩) (by first | omega | (simp; omega) | simp)).trans a3_
    have o9_ := (hb6_.cell (p := ⟨w.heap.size, 1, none⟩) (by first | omega | (simp; omega) | simp)).trans a4_
    have z10_ := hb6_.size
    try simp at z10_
    have B11_ := B2_.trans (hb6_.mono (by first | omega | (simp; omega) | simp))
    clear hb6_
    go_wp2
    go_ret
    exact ⟨ret_int (by rw [bringsOf, if_neg (fun h => by have e := h.1; rw [H5_.out] at e; cases e)]), B11_⟩

set_option maxRecDepth 10000 in
set_option maxHeartbeats 400000 in
theorem specBringsOf_negS (E : Int) (A : Option Addr) (c : Nat) (xs : List Int) (k : Nat) (s : Int) (w : World) (lo hi : Nat) (h : Ints w lo hi A xs) (hh : hi ≤ w.heap.size) (hl : xs.length ≤ 1152921504606846976) (hs : s < 0) :
    Calls Try.prog 31 #[.agg #[.int .i64 E, .slice A xs.length c], .int .i64 (k : Int), .int .i64 s] w fun e w' => e = .returned (.int .i64 (bringsOf E xs (k : Int) s)) ∧ Below w.heap.size w w' := by
  go_enter Try.func31, Try.ntmps31
  have o1_ := h.alloc (by first | omega | (simp; omega) | simp) (.cells #[.int .i64 E, .slice A xs.length c] 25)
  have B2_ := (Below.refl w.heap.size w).alloc (Nat.le_refl _) (.cells #[.int .i64 E, .slice A xs.length c] 25)
  have a3_ : (w.alloc (.cells #[.int .i64 E, .slice A xs.length c] 25)).cell? ⟨w.heap.size, 0, none⟩ = some (.int .i64 E) := by simp [go_sem]
  have a4_ : (w.alloc (.cells #[.int .i64 E, .slice A xs.length c] 25)).cell? ⟨w.heap.size, 1, none⟩ = some (.slice A xs.length c) := by simp [go_sem]
  by_cases h5_ : caseOkB E xs = true
  · have H5_ := Lib.hid h5_
    clear h5_
    have hbd := caseOk_bd H5_.out
    obtain ⟨hpw1, hpw2⟩ := pow_bd hbd.2.1
    have HV := Lib.hid (fun k hk => case_getD H5_.out k hk)
    have HCB := Lib.hid H5_.out
    go_wp2_with fail
    refine (specCaseOk_any E A c xs _ _ _ o1_ (by first | omega | (simp; omega) | simp) hl).mono ?_
    rintro e w6 ⟨he, hb6_⟩
    rw [H5_.out] at he
    subst he
    have o7_ := o1_.below hb6_ (by first | omega | (simp; omega) | simp)
    have o8_ := (hb6_.cell (p := ⟨w.heap.size, 0, none⟩) (by first | omega | (simp; omega) | simp)).trans a3_
    have o9_ := (hb6_.cell (p := ⟨w.heap.size, 1, none⟩) (by first | omega | (simp; omega) | simp)).trans a4_
    have z10_ := hb6_.size
    try simp at z10_
    have B11_ := B2_.trans (hb6_.mono (by first | omega | (simp; omega) | simp))
    clear hb6_
    by_cases h12_ : 0 ≤ (k : Int) ∧ (k : Int) ≤ ((xs.length : Int) - 1)
    · have H12_ := Lib.hid h12_
      clear h12_
      obtain ⟨H12_a, H12_b⟩ := H12_.out
      go_wp2_with fail
      refine (l1In_yes _ _ _ _ H12_.out).mono ?_
      rintro e w' ⟨rfl, rfl⟩
      have H13_ : Hid (¬ (0 ≤ s ∧ s ≤ ((2 ^ xs.length) - 1))) := by show ¬ (_ ∧ _); omega
      go_wp2_with fail
      refine (l1In_no _ _ _ _ H13_.out).mono ?_
      rintro e w' ⟨rfl, rfl⟩
      go_wp2
      go_ret
      exact ⟨ret_int (by rw [bringsOf, if_neg (fun h => by have e := h.2.2.1; omega)]), B11_⟩
    · have H12_ := Lib.hid h12_
      clear h12_
      go_wp2_with fail
      refine (l1In_no _ _ _ _ H12_.out).mono ?_
      rintro e w' ⟨rfl, rfl⟩
      go_wp2
      go_ret
      exact ⟨ret_int (by rw [bringsOf, if_neg (fun h => H12_.out (by have e1 := h.2.1; exact ⟨by omega, by omega⟩))]), B11_⟩
  · have H5_ : Hid (caseOkB E xs = false) := by show _ = _; simpa using h5_
    clear h5_
    go_wp2_with fail
    refine (specCaseOk_any E A c xs _ _ _ o1_ (by first | omega | (simp; omega) | simp) hl).mono ?_
    rintro e w6 ⟨he, hb6_⟩
    rw [H5_.out] at he
    subst he
    have o7_ := o1_.below hb6_ (by first | omega | (simp; omega) | simp)
    have o8_ := (hb6_.cell (p := ⟨w.heap.size, 0, none⟩) (by first | omega | (simp; omega) | simp)).trans a3_
    have o9_ := (hb6_.cell (p := ⟨w.heap.size, 1, none⟩) (by first | omega | (simp; omega) | simp)).trans a4_
    have z10_ := hb6_.size
    try simp at z10_
    have B11_ := B2_.trans (hb6_.mono (by first | omega | (simp; omega) | simp))
    clear hb6_
    go_wp2
    go_ret
    exact ⟨ret_int (by rw [bringsOf, if_neg (fun h => by have e := h.1; rw [H5_.out] at e; cases e)]), B11_⟩

theorem specBringsOf_any (E : Int) (A : Option Addr) (c : Nat) (xs : List Int) (p s : Int) (w : World) (lo hi : Nat) (h : Ints w lo hi A xs) (hh : hi ≤ w.heap.size) (hl : xs.length ≤ 1152921504606846976) :
    Calls Try.prog 31 #[.agg #[.int .i64 E, .slice A xs.length c], .int .i64 p, .int .i64 s] w fun e w' => e = .returned (.int .i64 (bringsOf E xs p s)) ∧ Below w.heap.size w w' := by
  rcases Int.lt_or_le p 0 with hp | hp
  · exact specBringsOf_negP E A c xs p s w lo hi h hh hl hp
  · obtain ⟨k, rfl⟩ : ∃ k : Nat, p = (k : Int) := ⟨p.toNat, by omega⟩
    rcases Int.lt_or_le s 0 with hs | hs
    · exact specBringsOf_negS E A c xs k s w lo hi h hh hl hs
    · obtain ⟨m, rfl⟩ : ∃ m : Nat, s = (m : Int) := ⟨s.toNat, by omega⟩
      exact specBringsOf_nat E A c xs k m w lo hi h hh hl
theorem bringsOf_is {E : Int} {xs : List Int} {k m : Nat} (h : caseOkB E xs = true) (hk : k < xs.length) (hm : m < 2 ^ xs.length) (hb : m.testBit k = false) : bringsOf E xs (k : Int) (m : Int) = worth E xs (m ||| 2 ^ k : Nat) - worth E xs m := by
  have e : (m : Int) < 2 ^ xs.length := by exact_mod_cast hm
  rw [bringsOf, if_pos ⟨h, ⟨by omega, by omega⟩, ⟨by omega, by omega⟩, by rw [Int.toNat_natCast, bit_nat]; simp [hb]⟩, Int.toNat_natCast, Int.toNat_natCast]

theorem l7Factor_at (x : Int) (n : Nat) (w : World) (hn : n ≤ 4) (hx : x = (n : Int)) : Calls Try.prog 76 #[.int .i64 x] w fun e w' => e = .returned (.int .i64 (fac n)) ∧ w = w' := by subst hx; exact l7Factor_any n w hn
theorem nat_lt_pow {m n : Nat} (h : (m : Int) < 2 ^ n) : m < 2 ^ n := by exact_mod_cast h
theorem fnRow_succ (n : Nat) (f : Nat → Int) : fnRow (n + 1) f = fnRow n f ++ [f n] := by simp [fnRow, List.range_succ]
theorem pop_step (m j : Nat) : ((pop m (j + 1) : Nat) : Int) = (pop m j : Int) + (m : Int) / 2 ^ j % 2 := by
  simp only [pop]
  cases h : m.testBit j with
  | true => rw [(bit_nat m j).2 h, if_pos rfl]; omega
  | false => rw [(bit_nat0 m j).2 h, if_neg (by simp)]; omega
theorem pop_le (m : Nat) : ∀ n, pop m n ≤ n
  | 0 => Nat.le_refl _
  | n + 1 => by have e := pop_le m n; simp only [pop]; split <;> omega
theorem pop_lt {m k : Nat} (h : m.testBit k = false) : ∀ n, k < n → pop m n + 1 ≤ n
  | 0, hk => absurd hk (by omega)
  | n + 1, hk => by
    simp only [pop]
    by_cases e : k = n
    · subst e; have e := pop_le m k; rw [if_neg (by simp [h])]; omega
    · have e2 := pop_lt h n (by omega); split <;> omega
theorem brings_in {E : Int} {xs : List Int} (h : caseOkB E xs = true) {k m : Nat} (hk : k < xs.length) (hb : m.testBit k = false) : 0 ≤ worth E xs (m ||| 2 ^ k : Nat) - worth E xs m ∧ worth E xs (m ||| 2 ^ k : Nat) - worth E xs m ≤ 48 := by
  have e := brings_rg (E := E) (case_nonneg h) hk hb
  have e2 := (case_rg h k).2
  omega
theorem mul_bd {a b A B b0 : Int} (ha : 0 ≤ a ∧ a ≤ A) (hb : b0 ≤ b ∧ b ≤ B) (_h0 : 0 ≤ b0 := by omega) : 0 ≤ a * b ∧ a * b ≤ A * B :=
  ⟨Int.mul_nonneg ha.1 (by omega), Int.mul_le_mul ha.2 hb.2 (by omega) (by omega)⟩
theorem gTerm_bd {E : Int} {xs : List Int} (h : caseOkB E xs = true) {k : Nat} (hk : k < xs.length) (s : Nat) : 0 ≤ gTerm E xs k s ∧ gTerm E xs k s ≤ 27648 := by
  have hb := caseOk_bd h
  cases hs : s.testBit k with
  | true => rw [gTerm_yes hs]; omega
  | false =>
    have e0 := brings_in (E := E) h hk hs
    have e1 := fac_bd (n := pop s xs.length) (by have e := pop_le s xs.length; omega)
    have e2 := fac_bd (n := xs.length - 1 - pop s xs.length) (by omega)
    unfold gTerm
    rw [if_neg (by simp [hs])]
    generalize worth E xs (s ||| 2 ^ k : Nat) - worth E xs s = a at *
    generalize fac (pop s xs.length) = b at *
    generalize fac (xs.length - 1 - pop s xs.length) = c at *
    have p1 := mul_bd e0 e1
    have p2 := mul_bd p1 e2
    omega
theorem gSum_bd {E : Int} {xs : List Int} (h : caseOkB E xs = true) {k : Nat} (hk : k < xs.length) : ∀ m, 0 ≤ gSum E xs k m ∧ gSum E xs k m ≤ 27648 * m
  | 0 => by simp [gSum]
  | m + 1 => by
    have e := gSum_bd h hk m
    have e2 := gTerm_bd h hk m
    rw [gSum_succ]
    omega

theorem specBrings_in (E : Int) (A : Option Addr) (c : Nat) (xs : List Int) (k m : Nat) (w : World) (lo hi : Nat) (h : Ints w lo hi A xs) (hh : hi ≤ w.heap.size) (hok : caseOkB E xs = true) (hk : k < xs.length) (hm : m < 2 ^ xs.length) (hb : m.testBit k = false) :
    Calls Try.prog 31 #[.agg #[.int .i64 E, .slice A xs.length c], .int .i64 (k : Int), .int .i64 (m : Int)] w fun e w' => e = .returned (.int .i64 (worth E xs (m ||| 2 ^ k : Nat) - worth E xs m)) ∧ Below w.heap.size w w' := by
  have e := specBringsOf_any E A c xs k m w lo hi h hh (by have e := caseOk_bd hok; omega)
  rwa [bringsOf_is hok hk hm hb] at e

set_option maxRecDepth 10000 in
set_option maxHeartbeats 2000000 in
theorem specGameShares_yes (E : Int) (A : Option Addr) (c : Nat) (xs : List Int) (w : World) (lo hi : Nat) (h : Ints w lo hi A xs) (hh : hi ≤ w.heap.size) (hl : xs.length ≤ 1152921504606846976) (hok : caseOkB E xs = true) :
    Calls Try.prog 33 #[.agg #[.int .i64 E, .slice A xs.length c]] w (RetInts w (arrRow E xs)) := by
  have HCB := Lib.hid hok
  have hbd := caseOk_bd hok
  obtain ⟨hpw1, hpw2⟩ := pow_bd hbd.2.1
  clear hok
  go_enter Try.func33, Try.ntmps33
  have o1_ := h.alloc (by first | omega | (simp; omega) | simp) (.cells #[.int .i64 E, .slice A xs.length c] 25)
  have B2_ := (Below.refl w.heap.size w).alloc (Nat.le_refl _) (.cells #[.int .i64 E, .slice A xs.length c] 25)
  have a3_ : (w.alloc (.cells #[.int .i64 E, .slice A xs.length c] 25)).cell? ⟨w.heap.size, 0, none⟩ = some (.int .i64 E) := by simp [go_sem]
  have a4_ : (w.alloc (.cells #[.int .i64 E, .slice A xs.length c] 25)).cell? ⟨w.heap.size, 1, none⟩ = some (.slice A xs.length c) := by simp [go_sem]
  have o5_ := o1_.alloc (by first | omega | (simp; omega) | simp) (.cells #[] 3)
  have o6_ := cell_alloc (o := (.cells #[] 3)) a3_ (by first | omega | (simp; omega) | simp)
  have o7_ := cell_alloc (o := (.cells #[] 3)) a4_ (by first | omega | (simp; omega) | simp)
  have B8_ := B2_.alloc (by first | omega | (simp; omega) | simp) (.cells #[] 3)
  have G9_ : Grow ((w.alloc (.cells #[.int .i64 E, .slice A xs.length c] 25)).alloc (.cells #[] 3)) (w.heap.size + 1) 0 ([] : List Int) := by have e := grow_lit (w.alloc (.cells #[.int .i64 E, .slice A xs.length c] 25)) ([] : List Int) (by simp); (try simp only [hsz] at e); exact e
  have l10_ := G9_.lt
  have HL11_ : Hid (([] : List Int).length = 0) := rfl
  go_wp2
  go_loopw [5, 3] (fun i v wr => ∃ k : Nat, ∃ g cg : Nat, i = .int .i64 k ∧ v = .slice (some ⟨g, 0, none⟩) k cg ∧ (k ≤ xs.length) ∧ w.heap.size + 1 ≤ g ∧ Grow wr g cg (fnRow k (arrAt E xs)) ∧ Below w.heap.size w wr ∧ w.heap.size + 2 ≤ wr.heap.size ∧ Ints wr (lo) (hi) A xs ∧ wr.cell? ⟨w.heap.size, 0, none⟩ = some (.int .i64 E) ∧ wr.cell? ⟨w.heap.size, 1, none⟩ = some (.slice A xs.length c)) (fun i v _ => xs.length - (intOf i).toNat)
  case atStart => exact ⟨0, (w.heap.size + 1), 0, rfl, (slice_n (by first | rfl | omega | simp)), by omega, (by omega), (by show Grow _ _ _ []; exact G9_), B8_, (by first | omega | (simp; omega) | simp), o5_, o6_, o7_⟩
  case round =>
    obtain ⟨k, g, cg, rfl, rfl, hk, glb, G13_, k14_, k15_, k16_, k17_, k18_⟩ := hrel
    obtain ⟨w12, rfl⟩ : ∃ x, x = wr := ⟨_, rfl⟩
    have HL19_ : Hid ((fnRow k (arrAt E xs)).length = k) := fnRow_length _ _
    have l20_ := G13_.lt
    by_cases hlt0 : k < xs.length
    · go_wp2_with fail
      refine (specCaseOk_any E A c xs _ _ _ k16_ (by first | omega | (simp; omega) | simp) hl).mono ?_
      rintro e w21 ⟨he, hb21_⟩
      rw [HCB.out] at he
      subst he
      have o22_ := k16_.below hb21_ (by first | omega | (simp; omega) | simp)
      have o23_ := G13_.below hb21_ (by first | omega | (simp; omega) | simp)
      have o24_ := (hb21_.cell (p := ⟨w.heap.size, 0, none⟩) (by first | omega | (simp; omega) | simp)).trans k17_
      have o25_ := (hb21_.cell (p := ⟨w.heap.size, 1, none⟩) (by first | omega | (simp; omega) | simp)).trans k18_
      have z26_ := hb21_.size
      have B27_ := k14_.trans (hb21_.mono (by first | omega | (simp; omega) | simp))
      clear hb21_
      go_wp2
      go_loopw [7, 6] (fun i s wr => ∃ m : Nat, ∃ S : Int, i = .int .i64 m ∧ s = .int .i64 S ∧ ((m : Int) ≤ 2 ^ xs.length) ∧ (S = gSum E xs k m) ∧ Below w.heap.size w wr ∧ w21.heap.size ≤ wr.heap.size ∧ Ints wr (lo) (hi) A xs ∧ Grow wr g cg (fnRow k (arrAt E xs)) ∧ wr.cell? ⟨w.heap.size, 0, none⟩ = some (.int .i64 E) ∧ wr.cell? ⟨w.heap.size, 1, none⟩ = some (.slice A xs.length c)) (fun i s _ => (2 ^ xs.length - intOf i).toNat)
      case atStart => exact ⟨0, 0, rfl, rfl, by omega, by simp [gSum], B27_, (by first | omega | (simp; omega) | simp), o22_, o23_, o24_, o25_⟩
      case round =>
        obtain ⟨m, S, rfl, rfl, hm, hS, k29_, k30_, k31_, k32_, k33_, k34_⟩ := hrel
        obtain ⟨w28, rfl⟩ : ∃ x, x = wr := ⟨_, rfl⟩
        have hSb := gSum_bd HCB.out (show k < xs.length by omega) m
        rw [← hS] at hSb
        obtain ⟨hSb1, hSb2⟩ := hSb
        have HS := Lib.hid hS
        clear hS
        have hdv : 0 ≤ (m : Int) / 2 ^ k := Int.ediv_nonneg (by omega) (Int.le_of_lt (Int.pow_pos (by omega)))
        by_cases hlt2 : (m : Int) < 2 ^ xs.length
        · have HMB : Hid (m < 2 ^ xs.length) := nat_lt_pow hlt2
          by_cases h35_ : (((m : Int) / 2 ^ k) % 2) = 1
          · have h35_b : ((((m : Int) / 2 ^ k) % 2) == 1) = true := by simpa using h35_
            have h35_n : ((((m : Int) / 2 ^ k) % 2) != 1) = false := by simpa using h35_
            have h35_le : (((m : Int) / 2 ^ k) % 2) ≤ 1 := by omega
            have h35_ge : 1 ≤ (((m : Int) / 2 ^ k) % 2) := by omega
            have Hh35_ := Lib.hid h35_
            clear h35_
            have HBY : Hid (m.testBit k = true) := (bit_nat m k).1 Hh35_.out
            go_wp2
            go_roundw
            case rel => exact ⟨m + 1, S, by go_num, by go_num, by omega, by rw [gSum_succ, gTerm_yes HBY.out, ← HS.out]; omega, k29_, (by first | omega | (simp; omega) | simp), k31_, k32_, k33_, k34_⟩
            case measure => simp [intOf] <;> omega
          · have h35_b : ((((m : Int) / 2 ^ k) % 2) == 1) = false := by simpa using h35_
            have h35_n : ((((m : Int) / 2 ^ k) % 2) != 1) = true := by simpa using h35_
            have HBIT : Hid (m.testBit k = false) := by show _ = _; rcases Bool.eq_false_or_eq_true (m.testBit k) with e | e; exact absurd ((bit_nat m k).2 e) h35_; exact e
            go_wp2
            go_loop [9, 8] (fun jj zz => ∃ j : Nat, ∃ p : Nat, jj = .int .i64 j ∧ zz = .int .i64 p ∧ (j ≤ xs.length) ∧ (p = pop m j)) (fun jj zz => xs.length - (intOf jj).toNat)
            case atStart => exact ⟨0, 0, rfl, rfl, by omega, rfl⟩
            case round =>
              obtain ⟨j, p, rfl, rfl, hj, hpq⟩ := hrel
              have hpj : p ≤ j := by rw [hpq]; exact pop_le m j
              have HPQ := Lib.hid hpq
              clear hpq
              have hdj : 0 ≤ (m : Int) / 2 ^ j := Int.ediv_nonneg (by omega) (Int.le_of_lt (Int.pow_pos (by omega)))
              by_cases hlt4 : j < xs.length
              · go_wp2
                go_round
                case rel => exact ⟨j + 1, pop m (j + 1), by go_num, congrArg (Value.int .i64) (by rw [pop_step, ← HPQ.out]), by omega, rfl⟩
                case measure => simp [intOf] <;> omega
              · obtain rfl : j = xs.length := by omega
                have hpl : p + 1 ≤ xs.length := by rw [HPQ.out]; exact pop_lt HBIT.out _ (by omega)
                go_wp2_with fail
                refine (specBrings_in E A c xs k m _ _ _ k31_ (by first | omega | (simp; omega) | simp) HCB.out (by omega) HMB.out HBIT.out).mono ?_
                rintro e w36 ⟨he, hb36_⟩
                obtain ⟨v37_, hv37_⟩ : ∃ v, worth E xs (m ||| 2 ^ k : Nat) - worth E xs m = v := ⟨_, rfl⟩
                rw [hv37_] at he
                subst he
                have bv37_ : 0 ≤ v37_ ∧ v37_ ≤ 48 := by rw [← hv37_]; exact brings_in HCB.out (by omega) HBIT.out
                obtain ⟨bv37_1, bv37_2⟩ := bv37_
                have Hv37_ := Lib.hid hv37_
                clear hv37_
                have o38_ := k31_.below hb36_ (by first | omega | (simp; omega) | simp)
                have o39_ := k32_.below hb36_ (by first | omega | (simp; omega) | simp)
                have o40_ := (hb36_.cell (p := ⟨w.heap.size, 0, none⟩) (by first | omega | (simp; omega) | simp)).trans k33_
                have o41_ := (hb36_.cell (p := ⟨w.heap.size, 1, none⟩) (by first | omega | (simp; omega) | simp)).trans k34_
                have z42_ := hb36_.size
                have B43_ := k29_.trans (hb36_.mono (by first | omega | (simp; omega) | simp))
                clear hb36_
                go_wp2_with fail
                refine (l7Factor_at (p : Int) p _ (by omega) (by omega)).mono ?_
                rintro e w' ⟨he, rfl⟩
                obtain ⟨v44_, hv44_⟩ : ∃ v, fac p = v := ⟨_, rfl⟩
                rw [hv44_] at he
                subst he
                have bv44_ : 1 ≤ v44_ ∧ v44_ ≤ 24 := by rw [← hv44_]; exact fac_bd (by omega)
                obtain ⟨bv44_1, bv44_2⟩ := bv44_
                have Hv44_ := Lib.hid hv44_
                clear hv44_
                obtain ⟨P45_, hP45_⟩ : ∃ P, v37_ * v44_ = P := ⟨_, rfl⟩
                have bP45_ := show 0 ≤ v37_ * v44_ ∧ v37_ * v44_ ≤ 1152 from by have e := mul_bd (A := 48) (B := 24) (b0 := 1) ⟨bv37_1, bv37_2⟩ ⟨bv44_1, bv44_2⟩; omega
                rw [hP45_] at bP45_
                obtain ⟨bP45_, bP45_'⟩ := bP45_
                have wP45_ : IntKind.i64.wrap P45_ = P45_ := IntWalk.i64_in _ (by omega)
                go_wp2_with fail
                refine (l7Factor_at (((xs.length : Int) - 1) - (p : Int)) (xs.length - 1 - p) _ (by omega) (by omega)).mono ?_
                rintro e w' ⟨he, rfl⟩
                obtain ⟨v46_, hv46_⟩ : ∃ v, fac (xs.length - 1 - p) = v := ⟨_, rfl⟩
                rw [hv46_] at he
                subst he
                have bv46_ : 1 ≤ v46_ ∧ v46_ ≤ 24 := by rw [← hv46_]; exact fac_bd (by omega)
                obtain ⟨bv46_1, bv46_2⟩ := bv46_
                have Hv46_ := Lib.hid hv46_
                clear hv46_
                obtain ⟨P47_, hP47_⟩ : ∃ P, P45_ * v46_ = P := ⟨_, rfl⟩
                have bP47_ := show 0 ≤ P45_ * v46_ ∧ P45_ * v46_ ≤ 27648 from by have e := mul_bd (A := 1152) (B := 24) (b0 := 1) ⟨bP45_, bP45_'⟩ ⟨bv46_1, bv46_2⟩; omega
                rw [hP47_] at bP47_
                obtain ⟨bP47_, bP47_'⟩ := bP47_
                have wP47_ : IntKind.i64.wrap P47_ = P47_ := IntWalk.i64_in _ (by omega)
                go_wp2
                go_roundw
                case rel => exact ⟨m + 1, S + P47_, by go_num, by go_num, by omega, by rw [gSum_succ, ← HS.out]; congr 1; unfold gTerm; rw [if_neg (by rw [HBIT.out]; simp), Hv37_.out, ← HPQ.out, Hv44_.out, Hv46_.out, hP45_, hP47_], B43_, (by first | omega | (simp; omega) | simp), o38_, o39_, o40_, o41_⟩
                case measure => simp [intOf] <;> omega
        · have hme : 2 ^ xs.length = m := by have e : ((2 ^ xs.length : Nat) : Int) = (m : Int) := (by rw [Int.natCast_pow]; simp; omega); omega
          have HS2 : Hid (S = gSum E xs k (2 ^ xs.length)) := by show _ = _; rw [hme]; exact HS.out
          clear HS hme
          have HS := HS2
          go_wp2_with fail
          refine (l7Factor_at (xs.length : Int) xs.length _ (by omega) (by omega)).mono ?_
          rintro e w' ⟨he, rfl⟩
          obtain ⟨v35_, hv35_⟩ : ∃ v, fac xs.length = v := ⟨_, rfl⟩
          rw [hv35_] at he
          subst he
          have bv35_ : 1 ≤ v35_ ∧ v35_ ≤ 24 := by rw [← hv35_]; exact fac_bd (by omega)
          obtain ⟨bv35_1, bv35_2⟩ := bv35_
          have Hv35_ := Lib.hid hv35_
          clear hv35_
          have o36_ := k31_.alloc (by first | omega | (simp; omega) | simp) (.cells #[.int .i64 ((S * 48) / v35_)] 3)
          have o37_ := k32_.alloc (.cells #[.int .i64 ((S * 48) / v35_)] 3)
          have o38_ := cell_alloc (o := (.cells #[.int .i64 ((S * 48) / v35_)] 3)) k33_ (by first | omega | (simp; omega) | simp)
          have o39_ := cell_alloc (o := (.cells #[.int .i64 ((S * 48) / v35_)] 3)) k34_ (by first | omega | (simp; omega) | simp)
          have B40_ := k29_.alloc (by first | omega | (simp; omega) | simp) (.cells #[.int .i64 ((S * 48) / v35_)] 3)
          have G41_ : Grow (w28.alloc (.cells #[.int .i64 ((S * 48) / v35_)] 3)) (w28.heap.size) 1 ([((S * 48) / v35_)] : List Int) := by have e := grow_lit w28 ([((S * 48) / v35_)] : List Int) (by simp); (try simp only [hsz] at e); exact e
          have l42_ := G41_.lt
          have HL43_ : Hid (([((S * 48) / v35_)] : List Int).length = 1) := rfl
          go_upto_region 5 with (at_builtin; (refine append_grL (by rfl) _ _ (by rfl) (xs := (fnRow k (arrAt E xs))) (ys := ([((S * 48) / v35_)] : List Int)) (by rfl) (by have e := HL19_.out; omega) o37_ (by rfl) (by have e := HL43_.out; omega) (G41_.ints.read) (by omega) ?_; intro g44_ c45_ L50_ w46 HL50_ L50_l L50_u G46_ hC47_ hg48_))
          have o51_ := o36_.chg hC47_ (by first | omega | (simp; omega) | simp) (by omega)
          have o52_ := G41_.chg hC47_ (by omega)
          have o53_ := (hC47_.cell (p := ⟨w.heap.size, 0, none⟩) (by first | omega | (simp; omega) | simp) (by first | omega | (simp; omega))).trans o38_
          have o54_ := (hC47_.cell (p := ⟨w.heap.size, 1, none⟩) (by first | omega | (simp; omega) | simp) (by first | omega | (simp; omega))).trans o39_
          have z55_ := hC47_.size
          try simp at z55_
          have B56_ := B40_.trans (hC47_.below (by omega) (by first | omega | (simp; omega) | simp))
          clear hC47_
          have l57_ := G46_.lt
          go_wp2
          go_roundw
          case rel => exact ⟨k + 1, g44_, c45_, by go_num, (slice_n (by first | rfl | omega | simp)), by omega, (by omega), (by rw [fnRow_succ, ← gSum_arr HCB.out (show k < xs.length by omega), Hv35_.out, ← HS.out]; exact G46_), B56_, (by first | omega | (simp; omega) | simp), o51_, o53_, o54_⟩
          case measure => simp [intOf] <;> omega
    · obtain rfl : k = xs.length := by omega
      have hfin : arrRow E xs = fnRow xs.length (arrAt E xs) := by rw [arrRow, if_pos HCB.out, arr_fn]
      go_wp2
      go_ret
      rw [hfin]
      (refine retInts_grow G13_ (by omega) ?_ k14_; first | rfl | rw [fnRow_length])

set_option maxRecDepth 10000 in
set_option maxHeartbeats 400000 in
theorem specGameShares_no (E : Int) (A : Option Addr) (c : Nat) (xs : List Int) (w : World) (lo hi : Nat) (h : Ints w lo hi A xs) (hh : hi ≤ w.heap.size) (hl : xs.length ≤ 1152921504606846976) (hok : caseOkB E xs = false) :
    Calls Try.prog 33 #[.agg #[.int .i64 E, .slice A xs.length c]] w (RetInts w (arrRow E xs)) := by
  have HCB := Lib.hid hok
  clear hok
  go_enter Try.func33, Try.ntmps33
  have o1_ := h.alloc (by first | omega | (simp; omega) | simp) (.cells #[.int .i64 E, .slice A xs.length c] 25)
  have B2_ := (Below.refl w.heap.size w).alloc (Nat.le_refl _) (.cells #[.int .i64 E, .slice A xs.length c] 25)
  have a3_ : (w.alloc (.cells #[.int .i64 E, .slice A xs.length c] 25)).cell? ⟨w.heap.size, 0, none⟩ = some (.int .i64 E) := by simp [go_sem]
  have a4_ : (w.alloc (.cells #[.int .i64 E, .slice A xs.length c] 25)).cell? ⟨w.heap.size, 1, none⟩ = some (.slice A xs.length c) := by simp [go_sem]
  have o5_ := o1_.alloc (by first | omega | (simp; omega) | simp) (.cells #[] 3)
  have o6_ := cell_alloc (o := (.cells #[] 3)) a3_ (by first | omega | (simp; omega) | simp)
  have o7_ := cell_alloc (o := (.cells #[] 3)) a4_ (by first | omega | (simp; omega) | simp)
  have B8_ := B2_.alloc (by first | omega | (simp; omega) | simp) (.cells #[] 3)
  have G9_ : Grow ((w.alloc (.cells #[.int .i64 E, .slice A xs.length c] 25)).alloc (.cells #[] 3)) (w.heap.size + 1) 0 ([] : List Int) := by have e := grow_lit (w.alloc (.cells #[.int .i64 E, .slice A xs.length c] 25)) ([] : List Int) (by simp); (try simp only [hsz] at e); exact e
  have l10_ := G9_.lt
  have HL11_ : Hid (([] : List Int).length = 0) := rfl
  go_wp2
  go_loopw [5, 3] (fun i v wr => ∃ g cg : Nat, i = .int .i64 0 ∧ v = .slice (some ⟨g, 0, none⟩) 0 cg ∧ w.heap.size + 1 ≤ g ∧ Grow wr g cg ([]) ∧ Below w.heap.size w wr ∧ w.heap.size + 2 ≤ wr.heap.size ∧ Ints wr (lo) (hi) A xs ∧ wr.cell? ⟨w.heap.size, 0, none⟩ = some (.int .i64 E) ∧ wr.cell? ⟨w.heap.size, 1, none⟩ = some (.slice A xs.length c)) (fun i v _ => 0)
  case atStart => exact ⟨(w.heap.size + 1), 0, rfl, (slice_n (by first | rfl | omega | simp)), (by omega), G9_, B8_, (by first | omega | (simp; omega) | simp), o5_, o6_, o7_⟩
  case round =>
    obtain ⟨g, cg, rfl, rfl, glb, G13_, k14_, k15_, k16_, k17_, k18_⟩ := hrel
    obtain ⟨w12, rfl⟩ : ∃ x, x = wr := ⟨_, rfl⟩
    have l19_ := G13_.lt
    by_cases hlt0 : 0 < xs.length
    · go_wp2_with fail
      refine (specCaseOk_any E A c xs _ _ _ k16_ (by first | omega | (simp; omega) | simp) hl).mono ?_
      rintro e w20 ⟨he, hb20_⟩
      rw [HCB.out] at he
      subst he
      have o21_ := k16_.below hb20_ (by first | omega | (simp; omega) | simp)
      have o22_ := G13_.below hb20_ (by first | omega | (simp; omega) | simp)
      have o23_ := (hb20_.cell (p := ⟨w.heap.size, 0, none⟩) (by first | omega | (simp; omega) | simp)).trans k17_
      have o24_ := (hb20_.cell (p := ⟨w.heap.size, 1, none⟩) (by first | omega | (simp; omega) | simp)).trans k18_
      have z25_ := hb20_.size
      have B26_ := k14_.trans (hb20_.mono (by first | omega | (simp; omega) | simp))
      clear hb20_
      have hfin : arrRow E xs = [] := by rw [arrRow, if_neg (by rw [HCB.out]; simp)]
      go_wp2
      go_ret
      rw [hfin]
      (refine retInts_grow o22_ (by omega) ?_ B26_; first | rfl | rw [fnRow_length])
    · have hfin : arrRow E xs = [] := by rw [arrRow, if_neg (by rw [HCB.out]; simp)]
      go_wp2
      go_ret
      rw [hfin]
      (refine retInts_grow G13_ (by omega) ?_ k14_; first | rfl | rw [fnRow_length])

theorem specGameShares_any (E : Int) (A : Option Addr) (c : Nat) (xs : List Int) (w : World) (lo hi : Nat) (h : Ints w lo hi A xs) (hh : hi ≤ w.heap.size) (hl : xs.length ≤ 1152921504606846976) :
    Calls Try.prog 33 #[.agg #[.int .i64 E, .slice A xs.length c]] w (RetInts w (arrRow E xs)) := by
  by_cases hok : caseOkB E xs = true
  · exact specGameShares_yes E A c xs w lo hi h hh hl hok
  · exact specGameShares_no E A c xs w lo hi h hh hl (by simpa using hok)


end Go.Proofs.Ytmkmipgboecdaaa
