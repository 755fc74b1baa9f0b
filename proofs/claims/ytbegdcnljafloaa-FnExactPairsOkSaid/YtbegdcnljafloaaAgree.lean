/-
  The function PairsOk of the given package reports whether awards agree for each two people; it makes new memory only.
-/
import Derived.Test.YtbegdcnljafloaaGB
import Derived.Test.YtbegdcnljafloaaPair
import Derived.BigQuiet
namespace Go.Proofs.Ytbegdcnljafloaa
open Go.RowKit

/-- Two places divide what both have as PairTwice says. -/
def AgreeAt (xs ys : List Int) (i j : Nat) : Prop :=
  pairA (48 * xs.getD i 0) (48 * xs.getD j 0) (ys.getD i 0 + ys.getD j 0) = 2 * ys.getD i 0 ∧ pairB (48 * xs.getD i 0) (48 * xs.getD j 0) (ys.getD i 0 + ys.getD j 0) = 2 * ys.getD j 0
theorem AgreeAt.symm {xs ys : List Int} {i j : Nat} (h : AgreeAt xs ys i j) : AgreeAt xs ys j i := by
  unfold AgreeAt pairA pairB at *; omega
theorem AgreeAt.self (xs ys : List Int) (i : Nat) : AgreeAt xs ys i i := by
  unfold AgreeAt pairA pairB; omega
def Agrees (xs ys : List Int) : Prop := ∀ i j, i < ys.length → j < i → AgreeAt xs ys i j
theorem Agrees.two {xs ys : List Int} (h : Agrees xs ys) (i j : Nat) (hi : i < ys.length) (hj : j < ys.length) : AgreeAt xs ys i j := by
  rcases Nat.lt_trichotomy i j with h1 | h1 | h1
  · exact (h j i hj h1).symm
  · subst h1; exact AgreeAt.self xs ys i
  · exact h i j hi h1
noncomputable def agreeB (E : Int) (xs ys : List Int) : Bool := @decide (awardsB E xs ys = true ∧ Agrees xs ys) (Classical.propDecidable _)
theorem agreeB_iff (E : Int) (xs ys : List Int) : agreeB E xs ys = true ↔ (awardsB E xs ys = true ∧ Agrees xs ys) := by simp [agreeB]
theorem agree_no {E : Int} {xs ys : List Int} (h : awardsB E xs ys = false) : agreeB E xs ys = false := by
  have e : ¬ (awardsB E xs ys = true ∧ Agrees xs ys) := by simp [h]
  simp only [agreeB, decide_eq_false_iff_not]; exact e
theorem agree_bad {E : Int} {xs ys : List Int} {i j : Nat} (hi : i < ys.length) (hj : j < ys.length) (h : ¬ AgreeAt xs ys i j) : agreeB E xs ys = false := by
  have e : ¬ (awardsB E xs ys = true ∧ Agrees xs ys) := fun k => h (k.2.two i j hi hj)
  simp only [agreeB, decide_eq_false_iff_not]; exact e
/-- The places before k agree with all before them; place k agrees with those before m. -/
def AgreeTo (xs ys : List Int) (k : Nat) : Prop := ∀ i j, i < k → j < i → AgreeAt xs ys i j
def AgreeRow (xs ys : List Int) (k m : Nat) : Prop := ∀ j, j < m → AgreeAt xs ys k j
theorem AgreeTo.zero (xs ys : List Int) : AgreeTo xs ys 0 := fun _ _ h => absurd h (by omega)
theorem AgreeRow.zero (xs ys : List Int) (k : Nat) : AgreeRow xs ys k 0 := fun _ h => absurd h (by omega)
theorem AgreeRow.succ {xs ys : List Int} {k m : Nat} (h : AgreeRow xs ys k m) (hk : AgreeAt xs ys k m) : AgreeRow xs ys k (m + 1) := fun j hj => by
  rcases Nat.lt_or_ge j m with h1 | h1
  · exact h j h1
  · obtain rfl : j = m := by omega
    exact hk
theorem AgreeRow.less {xs ys : List Int} {k m m' : Nat} (h : AgreeRow xs ys k m) (hm : m' ≤ m) : AgreeRow xs ys k m' := fun j hj => h j (by omega)
theorem AgreeTo.succ {xs ys : List Int} {k : Nat} (h : AgreeTo xs ys k) (hk : AgreeRow xs ys k k) : AgreeTo xs ys (k + 1) := fun i j hi hj => by
  rcases Nat.lt_or_ge i k with h1 | h1
  · exact h i j h1 hj
  · obtain rfl : i = k := by omega
    exact hk j hj
theorem agree_end {E : Int} {xs ys : List Int} (h : awardsB E xs ys = true) (hk : AgreeTo xs ys ys.length) : agreeB E xs ys = true := (agreeB_iff E xs ys).2 ⟨h, fun i j hi hj => hk i j hi hj⟩
theorem specTwice_is (x y z a b : Int) (w : World) (hx : 0 ≤ x ∧ x ≤ 576) (hy : 0 ≤ y ∧ y ≤ 576) (hz : 0 ≤ z ∧ z ≤ 1152) (ha : pairA x y z = a) (hb : pairB x y z = b) :
    Calls Try.prog 44 #[.int .i64 x, .int .i64 y, .int .i64 z] w fun e w' => e = .returned (.tuple #[.int .i64 a, .int .i64 b]) ∧ w = w' := by
  subst ha; subst hb; exact specTwice_any x y z w (by omega) (by omega) (by omega)
/-- What both get lies in range. -/
theorem twice_rg {x y z : Int} (hx : 0 ≤ x ∧ x ≤ 576) (hy : 0 ≤ y ∧ y ≤ 576) (hz : 0 ≤ z ∧ z ≤ 1152) : (-2000 ≤ pairA x y z ∧ pairA x y z ≤ 4000) ∧ (-2000 ≤ pairB x y z ∧ pairB x y z ≤ 4000) := by
  unfold pairA pairB; omega

set_option maxRecDepth 10000 in
set_option maxHeartbeats 400000 in
theorem specPairsOk_no (E : Int) (A : Option Addr) (c : Nat) (xs : List Int) (D : Option Addr) (d : Nat) (ys : List Int) (w : World) (lo hi : Nat) (h : Ints w lo hi A xs) (hh : hi ≤ w.heap.size) (hl : xs.length ≤ 1152921504606846976)
    (lo' hi' : Nat) (h' : Ints w lo' hi' D ys) (hh' : hi' ≤ w.heap.size) (hl' : ys.length ≤ 1152921504606846976) (hok : awardsB E xs ys = false) :
    Calls Try.prog 17 #[.agg #[.int .i64 E, .slice A xs.length c], .slice D ys.length d] w fun e w' => e = .returned (.bool (agreeB E xs ys)) ∧ Below w.heap.size w w' := by
  have HO := Lib.hid hok
  clear hok
  have k0 := h.alloc hh (.cells #[.int .i64 E, .slice A xs.length c] 31)
  have q0 := h'.alloc hh' (.cells #[.int .i64 E, .slice A xs.length c] 31)
  have B0 := (Below.refl w.heap.size w).alloc (Nat.le_refl _) (.cells #[.int .i64 E, .slice A xs.length c] 31)
  go_enter Try.func17, Try.ntmps17
  go_wp2_with fail
  refine (specAwardsOk_any E A c xs D d ys _ _ _ k0 (by rw [hsz]; omega) hl _ _ q0 (by rw [hsz]; omega) hl').mono ?_
  rintro e w1 ⟨he1, hb1⟩
  rw [HO.out] at he1
  subst he1
  rw [hsz] at hb1
  have B1 := B0.trans (hb1.mono (by omega))
  clear hb1
  go_wp2
  go_ret
  exact ⟨ret_bool (agree_no HO.out).symm, B1⟩

set_option maxRecDepth 10000 in
set_option maxHeartbeats 4000000 in
theorem specPairsOk_yes (E : Int) (A : Option Addr) (c : Nat) (xs : List Int) (D : Option Addr) (d : Nat) (ys : List Int) (w : World) (lo hi : Nat) (h : Ints w lo hi A xs) (hh : hi ≤ w.heap.size) (hl : xs.length ≤ 1152921504606846976)
    (lo' hi' : Nat) (h' : Ints w lo' hi' D ys) (hh' : hi' ≤ w.heap.size) (hl' : ys.length ≤ 1152921504606846976) (hok : awardsB E xs ys = true) :
    Calls Try.prog 17 #[.agg #[.int .i64 E, .slice A xs.length c], .slice D ys.length d] w fun e w' => e = .returned (.bool (agreeB E xs ys)) ∧ Below w.heap.size w w' := by
  have hA := (awardsB_iff E xs ys).1 hok
  have hbd := caseOk_bd hA.1
  have HN := Lib.hid hA.2.1
  have hy4 : ys.length ≤ 4 := by have e := hA.2.1; omega
  have HO := Lib.hid hok
  have HR := Lib.hid (aw_range ((awardsB_iff E xs ys).1 hok).1 ((awardsB_iff E xs ys).1 hok).2.1 ((awardsB_iff E xs ys).1 hok).2.2.1)
  have HV := Lib.hid (fun k hk => case_at ((awardsB_iff E xs ys).1 hok).1 k hk)
  clear hok hA
  have k0 := h.alloc hh (.cells #[.int .i64 E, .slice A xs.length c] 31)
  have q0 := h'.alloc hh' (.cells #[.int .i64 E, .slice A xs.length c] 31)
  have a0 := new2 w (.int .i64 E) (.slice A xs.length c) 31
  have B0 := (Below.refl w.heap.size w).alloc (Nat.le_refl _) (.cells #[.int .i64 E, .slice A xs.length c] 31)
  go_enter Try.func17, Try.ntmps17
  go_wp2_with fail
  refine (specAwardsOk_any E A c xs D d ys _ _ _ k0 (by rw [hsz]; omega) hl _ _ q0 (by rw [hsz]; omega) hl').mono ?_
  rintro e w1 ⟨he1, hb1⟩
  rw [HO.out] at he1
  subst he1
  rw [hsz] at hb1
  obtain ⟨a1, a1'⟩ := keep2 hb1 a0 (by omega)
  have k1 := k0.below hb1 (by omega)
  have q1 := q0.below hb1 (by omega)
  have z1 := hb1.size
  rw [hsz] at z1
  have B1 := B0.trans (hb1.mono (by omega))
  clear hb1 a0 k0 q0 h h' B0
  obtain ⟨b, o, rfl, _, _, hcx⟩ := k1 (by omega)
  obtain ⟨b', o', rfl, _, _, hcy⟩ := q1 (by have := HN.out; omega)
  have HX := Lib.hid hcx
  have HY := Lib.hid hcy
  clear k1 q1 hcx hcy
  go_wp2
  go_loopw [5] (fun i wr => ∃ k : Nat, k ≤ ys.length ∧ i = .int .i64 k ∧ AgreeTo xs ys k ∧ ∃ n, wr = w1.drewN n) (fun i _ => ys.length - (intOf i).toNat)
  case atStart => exact ⟨0, Nat.zero_le _, rfl, AgreeTo.zero xs ys, 0, rfl⟩
  case round =>
    obtain ⟨k, hk, rfl, hkt, n, rfl⟩ := hrel
    have HK := Lib.hid hkt
    clear hkt
    have hnn := HN.out
    by_cases hlt : k < ys.length
    · have hltx : k < xs.length := by omega
      have hlty : k < ys.length := by omega
      have hk10 : (0 : Int) ≤ (k : Int) := by omega
      have hk11 : (k : Int) < (xs.length : Int) := by omega
      have hk12 : (k : Int) < (ys.length : Int) := by omega
      have x1 : w1.cell? ⟨b, o + k, none⟩ = some (.int .i64 (xs.getD k 0)) := HX.out k (by omega)
      have y1 : w1.cell? ⟨b', o' + k, none⟩ = some (.int .i64 (ys.getD k 0)) := HY.out k (by omega)
      have gx1 : 0 ≤ xs.getD k 0 ∧ xs.getD k 0 ≤ 12 := by rw [getD_of_lt xs k (by omega)]; exact HV.out k (by omega)
      have gy1 : 0 ≤ ys.getD k 0 ∧ ys.getD k 0 ≤ 576 := by rw [getD_of_lt ys k (by omega)]; exact HR.out _ (List.getElem_mem _)
      obtain ⟨u1, hu1⟩ : ∃ u, u = xs.getD k 0 := ⟨_, rfl⟩
      obtain ⟨v1, hv1⟩ : ∃ u, u = ys.getD k 0 := ⟨_, rfl⟩
      rw [← hu1] at x1 gx1
      rw [← hv1] at y1 gy1
      have HU1 := Lib.hid hu1
      have HV1 := Lib.hid hv1
      clear hu1 hv1
      clear hnn
      go_wp2
      go_loopw [6] (fun i wr => ∃ m : Nat, m ≤ k ∧ i = .int .i64 m ∧ AgreeRow xs ys k m ∧ ∃ n, wr = w1.drewN n) (fun i _ => k - (intOf i).toNat)
      case atStart => exact ⟨0, Nat.zero_le _, rfl, AgreeRow.zero xs ys k, n, rfl⟩
      case round =>
        obtain ⟨m, hm, rfl, hkr, n', rfl⟩ := hrel
        have HRR := Lib.hid hkr
        clear hkr
        have hnn := HN.out
        by_cases hlm : m < k
        · have hlmx : m < xs.length := by omega
          have hlmy : m < ys.length := by omega
          have hk20 : (0 : Int) ≤ (m : Int) := by omega
          have hk21 : (m : Int) < (xs.length : Int) := by omega
          have hk22 : (m : Int) < (ys.length : Int) := by omega
          have x2 : w1.cell? ⟨b, o + m, none⟩ = some (.int .i64 (xs.getD m 0)) := HX.out m (by omega)
          have y2 : w1.cell? ⟨b', o' + m, none⟩ = some (.int .i64 (ys.getD m 0)) := HY.out m (by omega)
          have gx2 : 0 ≤ xs.getD m 0 ∧ xs.getD m 0 ≤ 12 := by rw [getD_of_lt xs m (by omega)]; exact HV.out m (by omega)
          have gy2 : 0 ≤ ys.getD m 0 ∧ ys.getD m 0 ≤ 576 := by rw [getD_of_lt ys m (by omega)]; exact HR.out _ (List.getElem_mem _)
          obtain ⟨u2, hu2⟩ : ∃ u, u = xs.getD m 0 := ⟨_, rfl⟩
          obtain ⟨v2, hv2⟩ : ∃ u, u = ys.getD m 0 := ⟨_, rfl⟩
          rw [← hu2] at x2 gx2
          rw [← hv2] at y2 gy2
          have HU2 := Lib.hid hu2
          have HV2 := Lib.hid hv2
          clear hu2 hv2
          clear hnn
          obtain ⟨pA, hpA⟩ : ∃ p, pairA (48 * u1) (48 * u2) (v1 + v2) = p := ⟨_, rfl⟩
          obtain ⟨pB, hpB⟩ : ∃ p, pairB (48 * u1) (48 * u2) (v1 + v2) = p := ⟨_, rfl⟩
          have H1 : Hid (0 ≤ 48 * u1 ∧ 48 * u1 ≤ 576) := ⟨by omega, by omega⟩
          have H2 : Hid (0 ≤ 48 * u2 ∧ 48 * u2 ≤ 576) := ⟨by omega, by omega⟩
          have H3 : Hid (0 ≤ v1 + v2 ∧ v1 + v2 ≤ 1152) := ⟨by omega, by omega⟩
          have HT : Hid (AgreeAt xs ys k m ↔ (pA = 2 * v1 ∧ pB = 2 * v2)) := by
            show _ ↔ _
            rw [AgreeAt, ← HU1.out, ← HV1.out, ← HU2.out, ← HV2.out, hpA, hpB]
          have HA := Lib.hid hpA
          have HBB := Lib.hid hpB
          clear hpA hpB
          by_cases c1 : pA = 2 * v1
          · have d1 : (pA == 2 * v1) = true := by simpa using c1
            by_cases c2 : pB = 2 * v2
            · have d2 : (pB == 2 * v2) = true := by simpa using c2
              have HS : Hid (AgreeRow xs ys k (m + 1)) := HRR.out.succ (HT.out.2 ⟨c1, c2⟩)
              clear d1 d2
              go_wp2
              go_quiet ((go_at_call 44; exact quiet_left2 (specTwice_is _ _ _ _ _ _ H1.out H2.out H3.out HA.out HBB.out)))
              go_wp2
              go_roundw
              case rel => exact ⟨m + 1, by omega, by go_num, HS.out, by first | exact ⟨_, rfl⟩ | (rw [World.drewN_drewN]; exact ⟨_, rfl⟩)⟩
              case measure => simp [intOf]; omega
            · have d2 : (pB == 2 * v2) = false := by simpa using c2
              have HS : Hid (agreeB E xs ys = false) := agree_bad (i := k) (j := m) (by omega) (by omega) (fun h => c2 (HT.out.1 h).2)
              have HB : Hid (∀ n, Below w.heap.size w (w1.drewN n)) := fun n => below_drewN B1 n
              clear d1 d2
              go_wp2
              go_quiet ((go_at_call 44; exact quiet_left2 (specTwice_is _ _ _ _ _ _ H1.out H2.out H3.out HA.out HBB.out)))
              go_wp2
              go_ret
              exact ⟨ret_bool HS.out.symm, by first | exact HB.out _ | (rw [World.drewN_drewN]; exact HB.out _)⟩
          · have d1 : (pA == 2 * v1) = false := by simpa using c1
            have HS : Hid (agreeB E xs ys = false) := agree_bad (i := k) (j := m) (by omega) (by omega) (fun h => c1 (HT.out.1 h).1)
            have HB : Hid (∀ n, Below w.heap.size w (w1.drewN n)) := fun n => below_drewN B1 n
            clear d1
            go_wp2
            go_quiet ((go_at_call 44; exact quiet_left2 (specTwice_is _ _ _ _ _ _ H1.out H2.out H3.out HA.out HBB.out)))
            go_wp2
            go_ret
            exact ⟨ret_bool HS.out.symm, by first | exact HB.out _ | (rw [World.drewN_drewN]; exact HB.out _)⟩
        · have hme : m = k := by omega
          have HS : Hid (AgreeTo xs ys (k + 1)) := HK.out.succ (by have e := HRR.out; rw [hme] at e; exact e)
          have hmn : ¬ (m : Int) < ((k : Nat) : Int) := by omega
          clear hnn
          go_wp2
          go_roundw
          case rel => exact ⟨k + 1, by omega, by go_num, HS.out, by first | exact ⟨_, rfl⟩ | (rw [World.drewN_drewN]; exact ⟨_, rfl⟩)⟩
          case measure => simp [intOf]; omega
    · obtain rfl : k = ys.length := by omega
      clear hnn
      have HS : Hid (agreeB E xs ys = true) := agree_end HO.out HK.out
      have HB : Hid (∀ n, Below w.heap.size w (w1.drewN n)) := fun n => below_drewN B1 n
      go_wp2
      go_ret
      exact ⟨ret_bool HS.out.symm, by first | exact HB.out _ | (rw [World.drewN_drewN]; exact HB.out _)⟩

theorem specPairsOk_any (E : Int) (A : Option Addr) (c : Nat) (xs : List Int) (D : Option Addr) (d : Nat) (ys : List Int) (w : World) (lo hi : Nat) (h : Ints w lo hi A xs) (hh : hi ≤ w.heap.size) (hl : xs.length ≤ 1152921504606846976)
    (lo' hi' : Nat) (h' : Ints w lo' hi' D ys) (hh' : hi' ≤ w.heap.size) (hl' : ys.length ≤ 1152921504606846976) :
    Calls Try.prog 17 #[.agg #[.int .i64 E, .slice A xs.length c], .slice D ys.length d] w fun e w' => e = .returned (.bool (agreeB E xs ys)) ∧ Below w.heap.size w w' := by
  by_cases hok : awardsB E xs ys = true
  · exact specPairsOk_yes E A c xs D d ys w lo hi h hh hl lo' hi' h' hh' hl' hok
  · exact specPairsOk_no E A c xs D d ys w lo hi h hh hl lo' hi' h' hh' hl' (by simpa using hok)

end Go.Proofs.Ytbegdcnljafloaa
