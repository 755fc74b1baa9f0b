/-
  The functions RatesRise and RatesFall, of the program and of the given package, report whether of any two places the one that claims more is not awarded a lesser, or a greater, part of the claim; they make new memory only.
-/
import Derived.Test.YtakmbpdapdnniaaAwardsOk
import Derived.Test.YtakmbpdapdnniaaShareRow
import Derived.Test.YtakmbpdapdnniaaShelf
import Derived.BigQuiet
namespace Go.Proofs.Ytakmbpdapdnniaa
open Go.RowKit

/-- Of two places the one that claims more has no lesser part of it (s true), or no greater one. -/
def RateAt (s : Bool) (xs ys : List Int) (i j : Nat) : Prop := xs.getD i 0 < xs.getD j 0 → if s = true then ys.getD i 0 * xs.getD j 0 ≤ ys.getD j 0 * xs.getD i 0 else ys.getD j 0 * xs.getD i 0 ≤ ys.getD i 0 * xs.getD j 0
def Rates (s : Bool) (xs ys : List Int) : Prop := ∀ i j, i < xs.length → j < xs.length → RateAt s xs ys i j
noncomputable def rateB (s : Bool) (E : Int) (xs ys : List Int) : Bool := @decide (awardsB E xs ys = true ∧ Rates s xs ys) (Classical.propDecidable _)
theorem rateB_iff (s : Bool) (E : Int) (xs ys : List Int) : rateB s E xs ys = true ↔ (awardsB E xs ys = true ∧ Rates s xs ys) := by simp [rateB]
theorem rate_no {s : Bool} {E : Int} {xs ys : List Int} (h : awardsB E xs ys = false) : rateB s E xs ys = false := by
  have e : ¬ (awardsB E xs ys = true ∧ Rates s xs ys) := by simp [h]
  simp only [rateB, decide_eq_false_iff_not]; exact e
theorem rate_bad {s : Bool} {E : Int} {xs ys : List Int} {i j : Nat} (hi : i < xs.length) (hj : j < xs.length) (h : ¬ RateAt s xs ys i j) : rateB s E xs ys = false := by
  have e : ¬ (awardsB E xs ys = true ∧ Rates s xs ys) := fun k => h (k.2 i j hi hj)
  simp only [rateB, decide_eq_false_iff_not]; exact e
def RateTo (s : Bool) (xs ys : List Int) (k : Nat) : Prop := ∀ i j, i < k → j < xs.length → RateAt s xs ys i j
def RateRow (s : Bool) (xs ys : List Int) (k m : Nat) : Prop := ∀ j, j < m → RateAt s xs ys k j
theorem RateTo.zero (s : Bool) (xs ys : List Int) : RateTo s xs ys 0 := fun _ _ h => absurd h (by omega)
theorem RateRow.zero (s : Bool) (xs ys : List Int) (k : Nat) : RateRow s xs ys k 0 := fun _ h => absurd h (by omega)
theorem RateRow.succ {s : Bool} {xs ys : List Int} {k m : Nat} (h : RateRow s xs ys k m) (hk : RateAt s xs ys k m) : RateRow s xs ys k (m + 1) := fun j hj => by
  rcases Nat.lt_or_ge j m with h1 | h1
  · exact h j h1
  · obtain rfl : j = m := by omega
    exact hk
theorem RateTo.succ {s : Bool} {xs ys : List Int} {k : Nat} (h : RateTo s xs ys k) (hk : RateRow s xs ys k xs.length) : RateTo s xs ys (k + 1) := fun i j hi hj => by
  rcases Nat.lt_or_ge i k with h1 | h1
  · exact h i j h1 hj
  · obtain rfl : i = k := by omega
    exact hk j hj
theorem rate_end {s : Bool} {E : Int} {xs ys : List Int} (h : awardsB E xs ys = true) (hk : RateTo s xs ys xs.length) : rateB s E xs ys = true := (rateB_iff s E xs ys).2 ⟨h, hk⟩
theorem quiet_cmp (x y : Int) (w : World) (a n : Nat) :
    Calls Try.prog 45 #[.int .i64 x, .int .i64 y] (w.drewN (a + n)) fun e w'' => e = .returned (.int .i64 (Lib.compareInt x y)) ∧ ∃ m, w'' = w.drewN (a + m) :=
  (Try.cmp_Compare_int x y _).mono fun _ _ ⟨he, hw⟩ => ⟨he, n, hw⟩
theorem cmp_sign (p q : Int) (s : Bool) : (Lib.compareInt p q = if s = true then 1 else -1) ↔ (if s = true then q < p else p < q) := by
  unfold Lib.compareInt
  cases s
  · by_cases h1 : p < q
    · simp [h1]
    · by_cases h2 : q < p <;> simp [h1, h2]
  · by_cases h1 : p < q
    · have h2 : ¬ q < p := by omega
      simp [h1, h2]
    · by_cases h2 : q < p <;> simp [h1, h2]


set_option maxRecDepth 10000 in
set_option maxHeartbeats 4000000 in
theorem noRates_any (s : Bool) (sg : Int) (hsg : sg = if s = true then 1 else -1) (E : Int) (A : Option Addr) (c : Nat) (xs : List Int) (D : Option Addr) (d : Nat) (ys : List Int) (w : World) (lo hi : Nat) (h : Ints w lo hi A xs) (hh : hi ≤ w.heap.size) (hl : xs.length ≤ 1152921504606846976)
    (lo' hi' : Nat) (h' : Ints w lo' hi' D ys) (hh' : hi' ≤ w.heap.size) (hl' : ys.length ≤ 1152921504606846976) (hok : awardsB E xs ys = true) :
    Calls Try.prog 30 #[.agg #[.int .i64 E, .slice A xs.length c], .slice D ys.length d, .int .i64 sg] w fun e w' => e = .returned (.bool (rateB s E xs ys)) ∧ Below w.heap.size w w' := by
  have HSG := Lib.hid hsg
  have hA := (awardsB_iff E xs ys).1 hok
  have hbd := caseOk_bd hA.1
  have HN := Lib.hid hA.2.1
  have hy4 : ys.length ≤ 4 := by have e := hA.2.1; omega
  have HO := Lib.hid hok
  clear hok hA hsg
  have k0 := h.alloc hh (.cells #[.int .i64 E, .slice A xs.length c] 25)
  have q0 := h'.alloc hh' (.cells #[.int .i64 E, .slice A xs.length c] 25)
  obtain ⟨a1, a1'⟩ := new2 w (.int .i64 E) (.slice A xs.length c) 25
  have B1' := (Below.refl w.heap.size w).alloc (Nat.le_refl _) (.cells #[.int .i64 E, .slice A xs.length c] 25)
  go_enter Try.func30, Try.ntmps30
  go_wp2_with fail
  obtain ⟨w1, hw1⟩ : ∃ x, x = w.alloc (.cells #[.int .i64 E, .slice A xs.length c] 25) := ⟨_, rfl⟩
  rw [← hw1] at k0 q0 a1 a1' B1'
  have k1 := k0
  have q1 := q0
  have B1 := B1'
  try rw [← hw1]
  clear hw1 k0 q0 B1' h h'
  have HR := Lib.hid (aw_range ((awardsB_iff E xs ys).1 HO.out).1 ((awardsB_iff E xs ys).1 HO.out).2.1 ((awardsB_iff E xs ys).1 HO.out).2.2.1)
  have HV := Lib.hid (fun k hk => case_at ((awardsB_iff E xs ys).1 HO.out).1 k hk)
  obtain ⟨b, o, rfl, _, _, hcx⟩ := k1 (by omega)
  obtain ⟨b', o', rfl, _, _, hcy⟩ := q1 (by have := HN.out; omega)
  have HX := Lib.hid hcx
  have HY := Lib.hid hcy
  clear k1 q1 hcx hcy
  go_wp2
  go_loopw [14] (fun i wr => ∃ k : Nat, k ≤ xs.length ∧ i = .int .i64 k ∧ RateTo s xs ys k ∧ ∃ n, wr = w1.drewN n) (fun i _ => xs.length - (intOf i).toNat)
  case atStart => exact ⟨0, Nat.zero_le _, rfl, RateTo.zero s xs ys, 0, rfl⟩
  case round =>
    obtain ⟨k, hk, rfl, hkt, n, rfl⟩ := hrel
    have HK := Lib.hid hkt
    clear hkt
    by_cases hlt : k < xs.length
    · have hlt' : k < ys.length := by have := HN.out; omega
      have hk0 : (0 : Int) ≤ (k : Int) := by omega
      have hk1 : (k : Int) < (xs.length : Int) := by omega
      have hk2 : (k : Int) < (ys.length : Int) := by omega
      have x1 : w1.cell? ⟨b, o + k, none⟩ = some (.int .i64 (xs.getD k 0)) := HX.out k (by omega)
      have y1 : w1.cell? ⟨b', o' + k, none⟩ = some (.int .i64 (ys.getD k 0)) := HY.out k (by omega)
      have g1 : 0 ≤ xs.getD k 0 ∧ xs.getD k 0 ≤ 12 := by rw [getD_of_lt xs k (by omega)]; exact HV.out k (by omega)
      have g2 : 0 ≤ ys.getD k 0 ∧ ys.getD k 0 ≤ 576 := by rw [getD_of_lt ys k (by omega)]; exact HR.out _ (List.getElem_mem _)
      obtain ⟨u1, hu1⟩ : ∃ u, u = xs.getD k 0 := ⟨_, rfl⟩
      obtain ⟨v1, hv1⟩ : ∃ u, u = ys.getD k 0 := ⟨_, rfl⟩
      rw [← hu1] at x1 g1
      rw [← hv1] at y1 g2
      have HU1 := Lib.hid hu1
      have HV1 := Lib.hid hv1
      clear hu1 hv1
      go_wp2
      go_loopw [22] (fun i wr => ∃ m : Nat, m ≤ xs.length ∧ i = .int .i64 m ∧ RateRow s xs ys k m ∧ ∃ n, wr = w1.drewN n) (fun i _ => xs.length - (intOf i).toNat)
      case atStart => exact ⟨0, Nat.zero_le _, rfl, RateRow.zero s xs ys k, n, rfl⟩
      case round =>
        obtain ⟨m, hm, rfl, hkr, n', rfl⟩ := hrel
        have HRR := Lib.hid hkr
        clear hkr
        by_cases hlm : m < xs.length
        · have hlm' : m < ys.length := by have := HN.out; omega
          have hm0 : (0 : Int) ≤ (m : Int) := by omega
          have hm1 : (m : Int) < (xs.length : Int) := by omega
          have hm2 : (m : Int) < (ys.length : Int) := by omega
          have x2 : w1.cell? ⟨b, o + m, none⟩ = some (.int .i64 (xs.getD m 0)) := HX.out m (by omega)
          have y2 : w1.cell? ⟨b', o' + m, none⟩ = some (.int .i64 (ys.getD m 0)) := HY.out m (by omega)
          have g3 : 0 ≤ xs.getD m 0 ∧ xs.getD m 0 ≤ 12 := by rw [getD_of_lt xs m (by omega)]; exact HV.out m (by omega)
          have g4 : 0 ≤ ys.getD m 0 ∧ ys.getD m 0 ≤ 576 := by rw [getD_of_lt ys m (by omega)]; exact HR.out _ (List.getElem_mem _)
          obtain ⟨u2, hu2⟩ : ∃ u, u = xs.getD m 0 := ⟨_, rfl⟩
          obtain ⟨v2, hv2⟩ : ∃ u, u = ys.getD m 0 := ⟨_, rfl⟩
          rw [← hu2] at x2 g3
          rw [← hv2] at y2 g4
          have HA : Hid (RateAt s xs ys k m ↔ (u1 < u2 → if s = true then v1 * u2 ≤ v2 * u1 else v2 * u1 ≤ v1 * u2)) := by
            show _ ↔ _
            rw [RateAt, ← HU1.out, ← HV1.out, ← hu2, ← hv2]
          clear hu2 hv2
          have p1 := mul_bd g2.1 g2.2 g3.1 g3.2
          have p2 := mul_bd g4.1 g4.2 g1.1 g1.2
          obtain ⟨p, hp⟩ : ∃ p, v1 * u2 = p := ⟨_, rfl⟩
          obtain ⟨q, hq⟩ : ∃ q, v2 * u1 = q := ⟨_, rfl⟩
          rw [hp] at p1 HA
          rw [hq] at p2 HA
          have hwp : IntKind.i64.wrap p = p := IntWalk.i64_in _ (by omega)
          have hwq : IntKind.i64.wrap q = q := IntWalk.i64_in _ (by omega)
          by_cases c1 : u1 < u2
          · have d1 : decide (u1 < u2) = true := by simpa using c1
            by_cases c2 : Lib.compareInt p q = sg
            · have d2 : (Lib.compareInt p q == sg) = true := by simpa using c2
              have c3 := (cmp_sign p q s).1 (by rw [c2]; exact HSG.out)
              clear c2
              have HS : Hid (rateB s E xs ys = false) := rate_bad (i := k) (j := m) (by omega) (by omega) (fun h => by have e := HA.out.1 h c1; revert e c3; cases s <;> simp <;> omega)
              have HB : Hid (∀ n, Below w.heap.size w (w1.drewN n)) := fun n => below_drewN B1 n
              go_wp2
              go_quiet ((go_at_call 45; exact quiet_cmp _ _ _ _ _))
              go_wp2
              go_ret
              exact ⟨ret_bool HS.out.symm, by first | exact HB.out _ | (rw [World.drewN_drewN]; exact HB.out _)⟩
            · have d2 : (Lib.compareInt p q == sg) = false := by simpa using c2
              have c3 := fun h => c2 (by rw [HSG.out]; exact (cmp_sign p q s).2 h)
              clear c2
              have HS : Hid (RateRow s xs ys k (m + 1)) := HRR.out.succ (HA.out.2 (fun _ => by revert c3; cases s <;> simp))
              go_wp2
              go_quiet ((go_at_call 45; exact quiet_cmp _ _ _ _ _))
              go_wp2
              go_roundw
              case rel => exact ⟨m + 1, by omega, by go_num, HS.out, by first | exact ⟨_, rfl⟩ | (rw [World.drewN_drewN]; exact ⟨_, rfl⟩)⟩
              case measure => simp [intOf]; omega
          · have d1 : decide (u1 < u2) = false := by simpa using c1
            have HS : Hid (RateRow s xs ys k (m + 1)) := HRR.out.succ (HA.out.2 (fun h => absurd h c1))
            go_wp2
            go_quiet ((go_at_call 45; exact quiet_cmp _ _ _ _ _))
            go_wp2
            go_roundw
            case rel => exact ⟨m + 1, by omega, by go_num, HS.out, by first | exact ⟨_, rfl⟩ | (rw [World.drewN_drewN]; exact ⟨_, rfl⟩)⟩
            case measure => simp [intOf]; omega
        · have hme : m = xs.length := by omega
          have HS : Hid (RateTo s xs ys (k + 1)) := HK.out.succ (by have e := HRR.out; rw [hme] at e; exact e)
          have hmn : ¬ (m : Int) < (xs.length : Int) := by omega
          go_wp2
          go_roundw
          case rel => exact ⟨k + 1, by omega, by go_num, HS.out, by first | exact ⟨_, rfl⟩ | (rw [World.drewN_drewN]; exact ⟨_, rfl⟩)⟩
          case measure => simp [intOf]; omega
    · obtain rfl : k = xs.length := by omega
      have HS : Hid (rateB s E xs ys = true) := rate_end HO.out (by have e := HK.out; exact e)
      have HB : Hid (∀ n, Below w.heap.size w (w1.drewN n)) := fun n => below_drewN B1 n
      go_wp2
      go_ret
      exact ⟨ret_bool HS.out.symm, by first | exact HB.out _ | (rw [World.drewN_drewN]; exact HB.out _)⟩

set_option maxRecDepth 10000 in
set_option maxHeartbeats 800000 in
theorem implRatesRise_any (E : Int) (A : Option Addr) (c : Nat) (xs : List Int) (D : Option Addr) (d : Nat) (ys : List Int) (w : World) (lo hi : Nat) (h : Ints w lo hi A xs) (hh : hi ≤ w.heap.size) (hl : xs.length ≤ 1152921504606846976)
    (lo' hi' : Nat) (h' : Ints w lo' hi' D ys) (hh' : hi' ≤ w.heap.size) (hl' : ys.length ≤ 1152921504606846976) :
    Calls Try.prog 8 #[.agg #[.int .i64 E, .slice A xs.length c], .slice D ys.length d] w fun e w' => e = .returned (.bool (rateB true E xs ys)) ∧ Below w.heap.size w w' := by
  have k0 := h.alloc hh (.cells #[.int .i64 E, .slice A xs.length c] 25)
  have q0 := h'.alloc hh' (.cells #[.int .i64 E, .slice A xs.length c] 25)
  have a0 := new2 w (.int .i64 E) (.slice A xs.length c) 25
  have B0 := (Below.refl w.heap.size w).alloc (Nat.le_refl _) (.cells #[.int .i64 E, .slice A xs.length c] 25)
  by_cases hok : awardsB E xs ys = true
  · have HO := Lib.hid hok
    clear hok
    go_enter Try.func8, Try.ntmps8
    go_wp2_with fail
    refine (implAwardsOk_any E A c xs D d ys _ _ _ k0 (by rw [hsz]; omega) hl _ _ q0 (by rw [hsz]; omega) hl').mono ?_
    rintro e w1 ⟨he1, hb1⟩
    rw [HO.out] at he1
    subst he1
    rw [hsz] at hb1
    obtain ⟨a1, a1'⟩ := keep2 hb1 a0 (by omega)
    have k1 := k0.below hb1 (by omega)
    have q1 := q0.below hb1 (by omega)
    have z1 := hb1.size
    rw [hsz] at z1
    have B1 := B0.trans (hb1.mono (by omega))
    clear hb1 a0 k0 q0 h h' B0
    go_wp2_with fail
    refine (noRates_any true (1) rfl E A c xs D d ys _ _ _ k1 (by omega) hl _ _ q1 (by omega) hl' HO.out).mono ?_
    rintro e w2 ⟨rfl, hb2⟩
    have B2 := B1.trans (hb2.mono (by omega))
    clear hb2
    go_wp2
    go_ret
    exact ⟨rfl, B2⟩
  · have HO : Hid (awardsB E xs ys = false) := by show _ = _; simpa using hok
    clear hok
    go_enter Try.func8, Try.ntmps8
    go_wp2_with fail
    refine (implAwardsOk_any E A c xs D d ys _ _ _ k0 (by rw [hsz]; omega) hl _ _ q0 (by rw [hsz]; omega) hl').mono ?_
    rintro e w1 ⟨he1, hb1⟩
    rw [HO.out] at he1
    subst he1
    rw [hsz] at hb1
    have B1 := B0.trans (hb1.mono (by omega))
    clear hb1
    go_wp2
    go_ret
    exact ⟨ret_bool (rate_no HO.out).symm, B1⟩

set_option maxRecDepth 10000 in
set_option maxHeartbeats 400000 in
theorem specRatesRise_no (E : Int) (A : Option Addr) (c : Nat) (xs : List Int) (D : Option Addr) (d : Nat) (ys : List Int) (w : World) (lo hi : Nat) (h : Ints w lo hi A xs) (hh : hi ≤ w.heap.size) (hl : xs.length ≤ 1152921504606846976)
    (lo' hi' : Nat) (h' : Ints w lo' hi' D ys) (hh' : hi' ≤ w.heap.size) (hl' : ys.length ≤ 1152921504606846976) (hok : awardsB E xs ys = false) :
    Calls Try.prog 9 #[.agg #[.int .i64 E, .slice A xs.length c], .slice D ys.length d] w fun e w' => e = .returned (.bool (rateB true E xs ys)) ∧ Below w.heap.size w w' := by
  have HO := Lib.hid hok
  clear hok
  have k0 := h.alloc hh (.cells #[.int .i64 E, .slice A xs.length c] 25)
  have q0 := h'.alloc hh' (.cells #[.int .i64 E, .slice A xs.length c] 25)
  have B0 := (Below.refl w.heap.size w).alloc (Nat.le_refl _) (.cells #[.int .i64 E, .slice A xs.length c] 25)
  go_enter Try.func9, Try.ntmps9
  go_wp2_with fail
  refine (specAwardsOk_any E A c xs D d ys _ _ _ k0 (by rw [hsz]; omega) hl _ _ q0 (by rw [hsz]; omega) hl').mono ?_
  rintro e w1 ⟨he1, hb1⟩
  rw [HO.out] at he1
  subst he1
  rw [hsz] at hb1
  have B1 := B0.trans (hb1.mono (by omega))
  clear hb1
  go_wp2
  go_ret
  exact ⟨ret_bool (rate_no HO.out).symm, B1⟩

set_option maxRecDepth 10000 in
set_option maxHeartbeats 4000000 in
theorem specRatesRise_yes (E : Int) (A : Option Addr) (c : Nat) (xs : List Int) (D : Option Addr) (d : Nat) (ys : List Int) (w : World) (lo hi : Nat) (h : Ints w lo hi A xs) (hh : hi ≤ w.heap.size) (hl : xs.length ≤ 1152921504606846976)
    (lo' hi' : Nat) (h' : Ints w lo' hi' D ys) (hh' : hi' ≤ w.heap.size) (hl' : ys.length ≤ 1152921504606846976) (hok : awardsB E xs ys = true) :
    Calls Try.prog 9 #[.agg #[.int .i64 E, .slice A xs.length c], .slice D ys.length d] w fun e w' => e = .returned (.bool (rateB true E xs ys)) ∧ Below w.heap.size w w' := by
  have hA := (awardsB_iff E xs ys).1 hok
  have hbd := caseOk_bd hA.1
  have HN := Lib.hid hA.2.1
  have hy4 : ys.length ≤ 4 := by have e := hA.2.1; omega
  have HO := Lib.hid hok
  clear hok hA
  have k0 := h.alloc hh (.cells #[.int .i64 E, .slice A xs.length c] 25)
  have q0 := h'.alloc hh' (.cells #[.int .i64 E, .slice A xs.length c] 25)
  have a0 := new2 w (.int .i64 E) (.slice A xs.length c) 25
  have B0 := (Below.refl w.heap.size w).alloc (Nat.le_refl _) (.cells #[.int .i64 E, .slice A xs.length c] 25)
  go_enter Try.func9, Try.ntmps9
  go_wp2_with fail
  refine (specAwardsOk_any E A c xs D d ys _ _ _ k0 (by rw [hsz]; omega) hl _ _ q0 (by rw [hsz]; omega) hl').mono ?_
  rintro e w1 ⟨he1, hb1⟩
  rw [HO.out] at he1
  subst he1
  rw [hsz] at hb1
  obtain ⟨a1, a1'⟩ := keep2 hb1 a0 (by omega)
  have k1 := k0.below hb1 (by omega)
  have q1 := q0.below hb1 (by omega)
  have z1 := hb1.size
  rw [hsz] at z1
  have B1 := B0.trans (hb1.mono (by omega))
  clear hb1 a0 k0 q0 h h' B0
  have HR := Lib.hid (aw_range ((awardsB_iff E xs ys).1 HO.out).1 ((awardsB_iff E xs ys).1 HO.out).2.1 ((awardsB_iff E xs ys).1 HO.out).2.2.1)
  have HV := Lib.hid (fun k hk => case_at ((awardsB_iff E xs ys).1 HO.out).1 k hk)
  obtain ⟨b, o, rfl, _, _, hcx⟩ := k1 (by omega)
  obtain ⟨b', o', rfl, _, _, hcy⟩ := q1 (by have := HN.out; omega)
  have HX := Lib.hid hcx
  have HY := Lib.hid hcy
  clear k1 q1 hcx hcy
  go_wp2
  go_loopw [5] (fun i wr => ∃ k : Nat, k ≤ ys.length ∧ i = .int .i64 k ∧ RateTo true xs ys k ∧ ∃ n, wr = w1.drewN n) (fun i _ => ys.length - (intOf i).toNat)
  case atStart => exact ⟨0, Nat.zero_le _, rfl, RateTo.zero true xs ys, 0, rfl⟩
  case round =>
    obtain ⟨k, hk, rfl, hkt, n, rfl⟩ := hrel
    have HK := Lib.hid hkt
    clear hkt
    by_cases hlt : k < ys.length
    · have hlt' : k < xs.length := by have := HN.out; omega
      have hk0 : (0 : Int) ≤ (k : Int) := by omega
      have hk1 : (k : Int) < (xs.length : Int) := by omega
      have hk2 : (k : Int) < (ys.length : Int) := by omega
      have x1 : w1.cell? ⟨b, o + k, none⟩ = some (.int .i64 (xs.getD k 0)) := HX.out k (by omega)
      have y1 : w1.cell? ⟨b', o' + k, none⟩ = some (.int .i64 (ys.getD k 0)) := HY.out k (by omega)
      have g1 : 0 ≤ xs.getD k 0 ∧ xs.getD k 0 ≤ 12 := by rw [getD_of_lt xs k (by omega)]; exact HV.out k (by omega)
      have g2 : 0 ≤ ys.getD k 0 ∧ ys.getD k 0 ≤ 576 := by rw [getD_of_lt ys k (by omega)]; exact HR.out _ (List.getElem_mem _)
      obtain ⟨u1, hu1⟩ : ∃ u, u = xs.getD k 0 := ⟨_, rfl⟩
      obtain ⟨v1, hv1⟩ : ∃ u, u = ys.getD k 0 := ⟨_, rfl⟩
      rw [← hu1] at x1 g1
      rw [← hv1] at y1 g2
      have HU1 := Lib.hid hu1
      have HV1 := Lib.hid hv1
      clear hu1 hv1
      go_wp2
      go_loopw [6] (fun i wr => ∃ m : Nat, m ≤ ys.length ∧ i = .int .i64 m ∧ RateRow true xs ys k m ∧ ∃ n, wr = w1.drewN n) (fun i _ => ys.length - (intOf i).toNat)
      case atStart => exact ⟨0, Nat.zero_le _, rfl, RateRow.zero true xs ys k, n, rfl⟩
      case round =>
        obtain ⟨m, hm, rfl, hkr, n', rfl⟩ := hrel
        have HRR := Lib.hid hkr
        clear hkr
        by_cases hlm : m < ys.length
        · have hlm' : m < xs.length := by have := HN.out; omega
          have hm0 : (0 : Int) ≤ (m : Int) := by omega
          have hm1 : (m : Int) < (xs.length : Int) := by omega
          have hm2 : (m : Int) < (ys.length : Int) := by omega
          have x2 : w1.cell? ⟨b, o + m, none⟩ = some (.int .i64 (xs.getD m 0)) := HX.out m (by omega)
          have y2 : w1.cell? ⟨b', o' + m, none⟩ = some (.int .i64 (ys.getD m 0)) := HY.out m (by omega)
          have g3 : 0 ≤ xs.getD m 0 ∧ xs.getD m 0 ≤ 12 := by rw [getD_of_lt xs m (by omega)]; exact HV.out m (by omega)
          have g4 : 0 ≤ ys.getD m 0 ∧ ys.getD m 0 ≤ 576 := by rw [getD_of_lt ys m (by omega)]; exact HR.out _ (List.getElem_mem _)
          obtain ⟨u2, hu2⟩ : ∃ u, u = xs.getD m 0 := ⟨_, rfl⟩
          obtain ⟨v2, hv2⟩ : ∃ u, u = ys.getD m 0 := ⟨_, rfl⟩
          rw [← hu2] at x2 g3
          rw [← hv2] at y2 g4
          have HA : Hid (RateAt true xs ys k m ↔ (u1 < u2 → if true = true then v1 * u2 ≤ v2 * u1 else v2 * u1 ≤ v1 * u2)) := by
            show _ ↔ _
            rw [RateAt, ← HU1.out, ← HV1.out, ← hu2, ← hv2]
          clear hu2 hv2
          have p1 := mul_bd g2.1 g2.2 g3.1 g3.2
          have p2 := mul_bd g4.1 g4.2 g1.1 g1.2
          obtain ⟨p, hp⟩ : ∃ p, v1 * u2 = p := ⟨_, rfl⟩
          obtain ⟨q, hq⟩ : ∃ q, v2 * u1 = q := ⟨_, rfl⟩
          rw [hp] at p1 HA
          rw [hq] at p2 HA
          have hwp : IntKind.i64.wrap p = p := IntWalk.i64_in _ (by omega)
          have hwq : IntKind.i64.wrap q = q := IntWalk.i64_in _ (by omega)
          by_cases c1 : u1 < u2
          · have d1 : decide (u1 < u2) = true := by simpa using c1
            by_cases c2 : q < p
            · have d2 : decide (q < p) = true := by simpa using c2
              have HS : Hid (rateB true E xs ys = false) := rate_bad (i := k) (j := m) (by omega) (by omega) (fun h => by have e := HA.out.1 h c1; simp at e; omega)
              have HB : Hid (∀ n, Below w.heap.size w (w1.drewN n)) := fun n => below_drewN B1 n
              go_wp2
              go_quiet (fail)
              go_wp2
              go_ret
              exact ⟨ret_bool HS.out.symm, by first | exact HB.out _ | (rw [World.drewN_drewN]; exact HB.out _)⟩
            · have d2 : decide (q < p) = false := by simpa using c2
              have HS : Hid (RateRow true xs ys k (m + 1)) := HRR.out.succ (HA.out.2 (fun _ => by simp; omega))
              go_wp2
              go_quiet (fail)
              go_wp2
              go_roundw
              case rel => exact ⟨m + 1, by omega, by go_num, HS.out, by first | exact ⟨_, rfl⟩ | (rw [World.drewN_drewN]; exact ⟨_, rfl⟩)⟩
              case measure => simp [intOf]; omega
          · have d1 : decide (u1 < u2) = false := by simpa using c1
            have HS : Hid (RateRow true xs ys k (m + 1)) := HRR.out.succ (HA.out.2 (fun h => absurd h c1))
            go_wp2
            go_quiet (fail)
            go_wp2
            go_roundw
            case rel => exact ⟨m + 1, by omega, by go_num, HS.out, by first | exact ⟨_, rfl⟩ | (rw [World.drewN_drewN]; exact ⟨_, rfl⟩)⟩
            case measure => simp [intOf]; omega
        · have hme : m = ys.length := by omega
          have HS : Hid (RateTo true xs ys (k + 1)) := HK.out.succ (by have e := HRR.out; rw [hme] at e; rw [HN.out] at e; exact e)
          have hmn : ¬ (m : Int) < (ys.length : Int) := by omega
          go_wp2
          go_roundw
          case rel => exact ⟨k + 1, by omega, by go_num, HS.out, by first | exact ⟨_, rfl⟩ | (rw [World.drewN_drewN]; exact ⟨_, rfl⟩)⟩
          case measure => simp [intOf]; omega
    · obtain rfl : k = ys.length := by omega
      have HS : Hid (rateB true E xs ys = true) := rate_end HO.out (by have e := HK.out; rw [HN.out] at e; exact e)
      have HB : Hid (∀ n, Below w.heap.size w (w1.drewN n)) := fun n => below_drewN B1 n
      go_wp2
      go_ret
      exact ⟨ret_bool HS.out.symm, by first | exact HB.out _ | (rw [World.drewN_drewN]; exact HB.out _)⟩

theorem specRatesRise_any (E : Int) (A : Option Addr) (c : Nat) (xs : List Int) (D : Option Addr) (d : Nat) (ys : List Int) (w : World) (lo hi : Nat) (h : Ints w lo hi A xs) (hh : hi ≤ w.heap.size) (hl : xs.length ≤ 1152921504606846976)
    (lo' hi' : Nat) (h' : Ints w lo' hi' D ys) (hh' : hi' ≤ w.heap.size) (hl' : ys.length ≤ 1152921504606846976) :
    Calls Try.prog 9 #[.agg #[.int .i64 E, .slice A xs.length c], .slice D ys.length d] w fun e w' => e = .returned (.bool (rateB true E xs ys)) ∧ Below w.heap.size w w' := by
  by_cases hok : awardsB E xs ys = true
  · exact specRatesRise_yes E A c xs D d ys w lo hi h hh hl lo' hi' h' hh' hl' hok
  · exact specRatesRise_no E A c xs D d ys w lo hi h hh hl lo' hi' h' hh' hl' (by simpa using hok)

set_option maxRecDepth 10000 in
set_option maxHeartbeats 800000 in
theorem implRatesFall_any (E : Int) (A : Option Addr) (c : Nat) (xs : List Int) (D : Option Addr) (d : Nat) (ys : List Int) (w : World) (lo hi : Nat) (h : Ints w lo hi A xs) (hh : hi ≤ w.heap.size) (hl : xs.length ≤ 1152921504606846976)
    (lo' hi' : Nat) (h' : Ints w lo' hi' D ys) (hh' : hi' ≤ w.heap.size) (hl' : ys.length ≤ 1152921504606846976) :
    Calls Try.prog 14 #[.agg #[.int .i64 E, .slice A xs.length c], .slice D ys.length d] w fun e w' => e = .returned (.bool (rateB false E xs ys)) ∧ Below w.heap.size w w' := by
  have k0 := h.alloc hh (.cells #[.int .i64 E, .slice A xs.length c] 25)
  have q0 := h'.alloc hh' (.cells #[.int .i64 E, .slice A xs.length c] 25)
  have a0 := new2 w (.int .i64 E) (.slice A xs.length c) 25
  have B0 := (Below.refl w.heap.size w).alloc (Nat.le_refl _) (.cells #[.int .i64 E, .slice A xs.length c] 25)
  by_cases hok : awardsB E xs ys = true
  · have HO := Lib.hid hok
    clear hok
    go_enter Try.func14, Try.ntmps14
    go_wp2_with fail
    refine (implAwardsOk_any E A c xs D d ys _ _ _ k0 (by rw [hsz]; omega) hl _ _ q0 (by rw [hsz]; omega) hl').mono ?_
    rintro e w1 ⟨he1, hb1⟩
    rw [HO.out] at he1
    subst he1
    rw [hsz] at hb1
    obtain ⟨a1, a1'⟩ := keep2 hb1 a0 (by omega)
    have k1 := k0.below hb1 (by omega)
    have q1 := q0.below hb1 (by omega)
    have z1 := hb1.size
    rw [hsz] at z1
    have B1 := B0.trans (hb1.mono (by omega))
    clear hb1 a0 k0 q0 h h' B0
    go_wp2_with fail
    refine (noRates_any false (-1) rfl E A c xs D d ys _ _ _ k1 (by omega) hl _ _ q1 (by omega) hl' HO.out).mono ?_
    rintro e w2 ⟨rfl, hb2⟩
    have B2 := B1.trans (hb2.mono (by omega))
    clear hb2
    go_wp2
    go_ret
    exact ⟨rfl, B2⟩
  · have HO : Hid (awardsB E xs ys = false) := by show _ = _; simpa using hok
    clear hok
    go_enter Try.func14, Try.ntmps14
    go_wp2_with fail
    refine (implAwardsOk_any E A c xs D d ys _ _ _ k0 (by rw [hsz]; omega) hl _ _ q0 (by rw [hsz]; omega) hl').mono ?_
    rintro e w1 ⟨he1, hb1⟩
    rw [HO.out] at he1
    subst he1
    rw [hsz] at hb1
    have B1 := B0.trans (hb1.mono (by omega))
    clear hb1
    go_wp2
    go_ret
    exact ⟨ret_bool (rate_no HO.out).symm, B1⟩

set_option maxRecDepth 10000 in
set_option maxHeartbeats 400000 in
theorem specRatesFall_no (E : Int) (A : Option Addr) (c : Nat) (xs : List Int) (D : Option Addr) (d : Nat) (ys : List Int) (w : World) (lo hi : Nat) (h : Ints w lo hi A xs) (hh : hi ≤ w.heap.size) (hl : xs.length ≤ 1152921504606846976)
    (lo' hi' : Nat) (h' : Ints w lo' hi' D ys) (hh' : hi' ≤ w.heap.size) (hl' : ys.length ≤ 1152921504606846976) (hok : awardsB E xs ys = false) :
    Calls Try.prog 18 #[.agg #[.int .i64 E, .slice A xs.length c], .slice D ys.length d] w fun e w' => e = .returned (.bool (rateB false E xs ys)) ∧ Below w.heap.size w w' := by
  have HO := Lib.hid hok
  clear hok
  have k0 := h.alloc hh (.cells #[.int .i64 E, .slice A xs.length c] 25)
  have q0 := h'.alloc hh' (.cells #[.int .i64 E, .slice A xs.length c] 25)
  have B0 := (Below.refl w.heap.size w).alloc (Nat.le_refl _) (.cells #[.int .i64 E, .slice A xs.length c] 25)
  go_enter Try.func18, Try.ntmps18
  go_wp2_with fail
  refine (specAwardsOk_any E A c xs D d ys _ _ _ k0 (by rw [hsz]; omega) hl _ _ q0 (by rw [hsz]; omega) hl').mono ?_
  rintro e w1 ⟨he1, hb1⟩
  rw [HO.out] at he1
  subst he1
  rw [hsz] at hb1
  have B1 := B0.trans (hb1.mono (by omega))
  clear hb1
  go_wp2
  go_ret
  exact ⟨ret_bool (rate_no HO.out).symm, B1⟩

set_option maxRecDepth 10000 in
set_option maxHeartbeats 4000000 in
theorem specRatesFall_yes (E : Int) (A : Option Addr) (c : Nat) (xs : List Int) (D : Option Addr) (d : Nat) (ys : List Int) (w : World) (lo hi : Nat) (h : Ints w lo hi A xs) (hh : hi ≤ w.heap.size) (hl : xs.length ≤ 1152921504606846976)
    (lo' hi' : Nat) (h' : Ints w lo' hi' D ys) (hh' : hi' ≤ w.heap.size) (hl' : ys.length ≤ 1152921504606846976) (hok : awardsB E xs ys = true) :
    Calls Try.prog 18 #[.agg #[.int .i64 E, .slice A xs.length c], .slice D ys.length d] w fun e w' => e = .returned (.bool (rateB false E xs ys)) ∧ Below w.heap.size w w' := by
  have hA := (awardsB_iff E xs ys).1 hok
  have hbd := caseOk_bd hA.1
  have HN := Lib.hid hA.2.1
  have hy4 : ys.length ≤ 4 := by have e := hA.2.1; omega
  have HO := Lib.hid hok
  clear hok hA
  have k0 := h.alloc hh (.cells #[.int .i64 E, .slice A xs.length c] 25)
  have q0 := h'.alloc hh' (.cells #[.int .i64 E, .slice A xs.length c] 25)
  have a0 := new2 w (.int .i64 E) (.slice A xs.length c) 25
  have B0 := (Below.refl w.heap.size w).alloc (Nat.le_refl _) (.cells #[.int .i64 E, .slice A xs.length c] 25)
  go_enter Try.func18, Try.ntmps18
  go_wp2_with fail
  refine (specAwardsOk_any E A c xs D d ys _ _ _ k0 (by rw [hsz]; omega) hl _ _ q0 (by rw [hsz]; omega) hl').mono ?_
  rintro e w1 ⟨he1, hb1⟩
  rw [HO.out] at he1
  subst he1
  rw [hsz] at hb1
  obtain ⟨a1, a1'⟩ := keep2 hb1 a0 (by omega)
  have k1 := k0.below hb1 (by omega)
  have q1 := q0.below hb1 (by omega)
  have z1 := hb1.size
  rw [hsz] at z1
  have B1 := B0.trans (hb1.mono (by omega))
  clear hb1 a0 k0 q0 h h' B0
  have HR := Lib.hid (aw_range ((awardsB_iff E xs ys).1 HO.out).1 ((awardsB_iff E xs ys).1 HO.out).2.1 ((awardsB_iff E xs ys).1 HO.out).2.2.1)
  have HV := Lib.hid (fun k hk => case_at ((awardsB_iff E xs ys).1 HO.out).1 k hk)
  obtain ⟨b, o, rfl, _, _, hcx⟩ := k1 (by omega)
  obtain ⟨b', o', rfl, _, _, hcy⟩ := q1 (by have := HN.out; omega)
  have HX := Lib.hid hcx
  have HY := Lib.hid hcy
  clear k1 q1 hcx hcy
  go_wp2
  go_loopw [5] (fun i wr => ∃ k : Nat, k ≤ ys.length ∧ i = .int .i64 k ∧ RateTo false xs ys k ∧ ∃ n, wr = w1.drewN n) (fun i _ => ys.length - (intOf i).toNat)
  case atStart => exact ⟨0, Nat.zero_le _, rfl, RateTo.zero false xs ys, 0, rfl⟩
  case round =>
    obtain ⟨k, hk, rfl, hkt, n, rfl⟩ := hrel
    have HK := Lib.hid hkt
    clear hkt
    by_cases hlt : k < ys.length
    · have hlt' : k < xs.length := by have := HN.out; omega
      have hk0 : (0 : Int) ≤ (k : Int) := by omega
      have hk1 : (k : Int) < (xs.length : Int) := by omega
      have hk2 : (k : Int) < (ys.length : Int) := by omega
      have x1 : w1.cell? ⟨b, o + k, none⟩ = some (.int .i64 (xs.getD k 0)) := HX.out k (by omega)
      have y1 : w1.cell? ⟨b', o' + k, none⟩ = some (.int .i64 (ys.getD k 0)) := HY.out k (by omega)
      have g1 : 0 ≤ xs.getD k 0 ∧ xs.getD k 0 ≤ 12 := by rw [getD_of_lt xs k (by omega)]; exact HV.out k (by omega)
      have g2 : 0 ≤ ys.getD k 0 ∧ ys.getD k 0 ≤ 576 := by rw [getD_of_lt ys k (by omega)]; exact HR.out _ (List.getElem_mem _)
      obtain ⟨u1, hu1⟩ : ∃ u, u = xs.getD k 0 := ⟨_, rfl⟩
      obtain ⟨v1, hv1⟩ : ∃ u, u = ys.getD k 0 := ⟨_, rfl⟩
      rw [← hu1] at x1 g1
      rw [← hv1] at y1 g2
      have HU1 := Lib.hid hu1
      have HV1 := Lib.hid hv1
      clear hu1 hv1
      go_wp2
      go_loopw [6] (fun i wr => ∃ m : Nat, m ≤ ys.length ∧ i = .int .i64 m ∧ RateRow false xs ys k m ∧ ∃ n, wr = w1.drewN n) (fun i _ => ys.length - (intOf i).toNat)
      case atStart => exact ⟨0, Nat.zero_le _, rfl, RateRow.zero false xs ys k, n, rfl⟩
      case round =>
        obtain ⟨m, hm, rfl, hkr, n', rfl⟩ := hrel
        have HRR := Lib.hid hkr
        clear hkr
        by_cases hlm : m < ys.length
        · have hlm' : m < xs.length := by have := HN.out; omega
          have hm0 : (0 : Int) ≤ (m : Int) := by omega
          have hm1 : (m : Int) < (xs.length : Int) := by omega
          have hm2 : (m : Int) < (ys.length : Int) := by omega
          have x2 : w1.cell? ⟨b, o + m, none⟩ = some (.int .i64 (xs.getD m 0)) := HX.out m (by omega)
          have y2 : w1.cell? ⟨b', o' + m, none⟩ = some (.int .i64 (ys.getD m 0)) := HY.out m (by omega)
          have g3 : 0 ≤ xs.getD m 0 ∧ xs.getD m 0 ≤ 12 := by rw [getD_of_lt xs m (by omega)]; exact HV.out m (by omega)
          have g4 : 0 ≤ ys.getD m 0 ∧ ys.getD m 0 ≤ 576 := by rw [getD_of_lt ys m (by omega)]; exact HR.out _ (List.getElem_mem _)
          obtain ⟨u2, hu2⟩ : ∃ u, u = xs.getD m 0 := ⟨_, rfl⟩
          obtain ⟨v2, hv2⟩ : ∃ u, u = ys.getD m 0 := ⟨_, rfl⟩
          rw [← hu2] at x2 g3
          rw [← hv2] at y2 g4
          have HA : Hid (RateAt false xs ys k m ↔ (u1 < u2 → if false = true then v1 * u2 ≤ v2 * u1 else v2 * u1 ≤ v1 * u2)) := by
            show _ ↔ _
            rw [RateAt, ← HU1.out, ← HV1.out, ← hu2, ← hv2]
          clear hu2 hv2
          have p1 := mul_bd g2.1 g2.2 g3.1 g3.2
          have p2 := mul_bd g4.1 g4.2 g1.1 g1.2
          obtain ⟨p, hp⟩ : ∃ p, v1 * u2 = p := ⟨_, rfl⟩
          obtain ⟨q, hq⟩ : ∃ q, v2 * u1 = q := ⟨_, rfl⟩
          rw [hp] at p1 HA
          rw [hq] at p2 HA
          have hwp : IntKind.i64.wrap p = p := IntWalk.i64_in _ (by omega)
          have hwq : IntKind.i64.wrap q = q := IntWalk.i64_in _ (by omega)
          by_cases c1 : u1 < u2
          · have d1 : decide (u1 < u2) = true := by simpa using c1
            by_cases c2 : p < q
            · have d2 : decide (p < q) = true := by simpa using c2
              have HS : Hid (rateB false E xs ys = false) := rate_bad (i := k) (j := m) (by omega) (by omega) (fun h => by have e := HA.out.1 h c1; simp at e; omega)
              have HB : Hid (∀ n, Below w.heap.size w (w1.drewN n)) := fun n => below_drewN B1 n
              go_wp2
              go_quiet (fail)
              go_wp2
              go_ret
              exact ⟨ret_bool HS.out.symm, by first | exact HB.out _ | (rw [World.drewN_drewN]; exact HB.out _)⟩
            · have d2 : decide (p < q) = false := by simpa using c2
              have HS : Hid (RateRow false xs ys k (m + 1)) := HRR.out.succ (HA.out.2 (fun _ => by simp; omega))
              go_wp2
              go_quiet (fail)
              go_wp2
              go_roundw
              case rel => exact ⟨m + 1, by omega, by go_num, HS.out, by first | exact ⟨_, rfl⟩ | (rw [World.drewN_drewN]; exact ⟨_, rfl⟩)⟩
              case measure => simp [intOf]; omega
          · have d1 : decide (u1 < u2) = false := by simpa using c1
            have HS : Hid (RateRow false xs ys k (m + 1)) := HRR.out.succ (HA.out.2 (fun h => absurd h c1))
            go_wp2
            go_quiet (fail)
            go_wp2
            go_roundw
            case rel => exact ⟨m + 1, by omega, by go_num, HS.out, by first | exact ⟨_, rfl⟩ | (rw [World.drewN_drewN]; exact ⟨_, rfl⟩)⟩
            case measure => simp [intOf]; omega
        · have hme : m = ys.length := by omega
          have HS : Hid (RateTo false xs ys (k + 1)) := HK.out.succ (by have e := HRR.out; rw [hme] at e; rw [HN.out] at e; exact e)
          have hmn : ¬ (m : Int) < (ys.length : Int) := by omega
          go_wp2
          go_roundw
          case rel => exact ⟨k + 1, by omega, by go_num, HS.out, by first | exact ⟨_, rfl⟩ | (rw [World.drewN_drewN]; exact ⟨_, rfl⟩)⟩
          case measure => simp [intOf]; omega
    · obtain rfl : k = ys.length := by omega
      have HS : Hid (rateB false E xs ys = true) := rate_end HO.out (by have e := HK.out; rw [HN.out] at e; exact e)
      have HB : Hid (∀ n, Below w.heap.size w (w1.drewN n)) := fun n => below_drewN B1 n
      go_wp2
      go_ret
      exact ⟨ret_bool HS.out.symm, by first | exact HB.out _ | (rw [World.drewN_drewN]; exact HB.out _)⟩

theorem specRatesFall_any (E : Int) (A : Option Addr) (c : Nat) (xs : List Int) (D : Option Addr) (d : Nat) (ys : List Int) (w : World) (lo hi : Nat) (h : Ints w lo hi A xs) (hh : hi ≤ w.heap.size) (hl : xs.length ≤ 1152921504606846976)
    (lo' hi' : Nat) (h' : Ints w lo' hi' D ys) (hh' : hi' ≤ w.heap.size) (hl' : ys.length ≤ 1152921504606846976) :
    Calls Try.prog 18 #[.agg #[.int .i64 E, .slice A xs.length c], .slice D ys.length d] w fun e w' => e = .returned (.bool (rateB false E xs ys)) ∧ Below w.heap.size w w' := by
  by_cases hok : awardsB E xs ys = true
  · exact specRatesFall_yes E A c xs D d ys w lo hi h hh hl lo' hi' h' hh' hl' hok
  · exact specRatesFall_no E A c xs D d ys w lo hi h hh hl lo' hi' h' hh' hl' (by simpa using hok)

end Go.Proofs.Ytakmbpdapdnniaa
