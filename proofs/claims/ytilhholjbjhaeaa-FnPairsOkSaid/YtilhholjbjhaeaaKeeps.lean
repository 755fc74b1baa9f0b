/-
  Both functions KeepsOrder report whether awards keep the order of the claims, and their losses as well; they make new memory only.
-/
import Derived.Test.YtilhholjbjhaeaaAwardsOk
import Derived.Test.YtilhholjbjhaeaaLossesOf
import Derived.BigQuiet
namespace Go.Proofs.Ytilhholjbjhaeaa
open Go.RowKit

/-- Of two places the one that claims no more has no greater award, and no greater loss. -/
def KeepAt (xs ys : List Int) (i j : Nat) : Prop := xs.getD i 0 ≤ xs.getD j 0 → ys.getD i 0 ≤ ys.getD j 0 ∧ (lossesRow xs ys).getD i 0 ≤ (lossesRow xs ys).getD j 0
def Keeps (xs ys : List Int) : Prop := ∀ i j, i < xs.length → j < xs.length → KeepAt xs ys i j
noncomputable def keepsB (E : Int) (xs ys : List Int) : Bool := @decide (awardsB E xs ys = true ∧ Keeps xs ys) (Classical.propDecidable _)
theorem keepsB_iff (E : Int) (xs ys : List Int) : keepsB E xs ys = true ↔ (awardsB E xs ys = true ∧ Keeps xs ys) := by simp [keepsB]
theorem keeps_no {E : Int} {xs ys : List Int} (h : awardsB E xs ys = false) : keepsB E xs ys = false := by
  have e : ¬ (awardsB E xs ys = true ∧ Keeps xs ys) := by simp [h]
  simp only [keepsB, decide_eq_false_iff_not]; exact e
theorem keeps_bad {E : Int} {xs ys : List Int} {i j : Nat} (hi : i < xs.length) (hj : j < xs.length) (h : ¬ KeepAt xs ys i j) : keepsB E xs ys = false := by
  have e : ¬ (awardsB E xs ys = true ∧ Keeps xs ys) := fun k => h (k.2 i j hi hj)
  simp only [keepsB, decide_eq_false_iff_not]; exact e
def KeepTo (xs ys : List Int) (k : Nat) : Prop := ∀ i j, i < k → j < xs.length → KeepAt xs ys i j
def KeepRow (xs ys : List Int) (k m : Nat) : Prop := ∀ j, j < m → KeepAt xs ys k j
theorem KeepTo.zero (xs ys : List Int) : KeepTo xs ys 0 := fun _ _ h => absurd h (by omega)
theorem KeepRow.zero (xs ys : List Int) (k : Nat) : KeepRow xs ys k 0 := fun _ h => absurd h (by omega)
theorem KeepRow.succ {xs ys : List Int} {k m : Nat} (h : KeepRow xs ys k m) (hk : KeepAt xs ys k m) : KeepRow xs ys k (m + 1) := fun j hj => by
  rcases Nat.lt_or_ge j m with h1 | h1
  · exact h j h1
  · obtain rfl : j = m := by omega
    exact hk
theorem KeepTo.succ {xs ys : List Int} {k : Nat} (h : KeepTo xs ys k) (hk : KeepRow xs ys k xs.length) : KeepTo xs ys (k + 1) := fun i j hi hj => by
  rcases Nat.lt_or_ge i k with h1 | h1
  · exact h i j h1 hj
  · obtain rfl : i = k := by omega
    exact hk j hj
theorem keeps_end {E : Int} {xs ys : List Int} (h : awardsB E xs ys = true) (hk : KeepTo xs ys xs.length) : keepsB E xs ys = true := (keepsB_iff E xs ys).2 ⟨h, hk⟩


set_option maxRecDepth 10000 in
set_option maxHeartbeats 400000 in
theorem implKeepsOrder_no (E : Int) (A : Option Addr) (c : Nat) (xs : List Int) (D : Option Addr) (d : Nat) (ys : List Int) (w : World) (lo hi : Nat) (h : Ints w lo hi A xs) (hh : hi ≤ w.heap.size) (hl : xs.length ≤ 1152921504606846976)
    (lo' hi' : Nat) (h' : Ints w lo' hi' D ys) (hh' : hi' ≤ w.heap.size) (hl' : ys.length ≤ 1152921504606846976) (hok : awardsB E xs ys = false) :
    Calls Try.prog 18 #[.agg #[.int .i64 E, .slice A xs.length c], .slice D ys.length d] w fun e w' => e = .returned (.bool (keepsB E xs ys)) ∧ Below w.heap.size w w' := by
  have HO := Lib.hid hok
  clear hok
  have k0 := h.alloc hh (.cells #[.int .i64 E, .slice A xs.length c] 31)
  have q0 := h'.alloc hh' (.cells #[.int .i64 E, .slice A xs.length c] 31)
  have B0 := (Below.refl w.heap.size w).alloc (Nat.le_refl _) (.cells #[.int .i64 E, .slice A xs.length c] 31)
  go_enter Try.func18, Try.ntmps18
  go_wp2_with fail
  refine (implAwardsOk_any E A c xs D d ys _ _ _ k0 (by rw [hsz]; omega) hl _ _ q0 (by rw [hsz]; omega) hl').mono ?_
  rintro e w1 ⟨he1, hb1⟩
  rw [HO.out] at he1
  subst he1
  rw [hsz] at hb1
  have B1 := B0.trans (hb1.mono (by omega))
  clear hb1
  go_wp2
  go_ret
  exact ⟨ret_bool (keeps_no HO.out).symm, B1⟩

set_option maxRecDepth 10000 in
set_option maxHeartbeats 4000000 in
theorem implKeepsOrder_yes (E : Int) (A : Option Addr) (c : Nat) (xs : List Int) (D : Option Addr) (d : Nat) (ys : List Int) (w : World) (lo hi : Nat) (h : Ints w lo hi A xs) (hh : hi ≤ w.heap.size) (hl : xs.length ≤ 1152921504606846976)
    (lo' hi' : Nat) (h' : Ints w lo' hi' D ys) (hh' : hi' ≤ w.heap.size) (hl' : ys.length ≤ 1152921504606846976) (hok : awardsB E xs ys = true) :
    Calls Try.prog 18 #[.agg #[.int .i64 E, .slice A xs.length c], .slice D ys.length d] w fun e w' => e = .returned (.bool (keepsB E xs ys)) ∧ Below w.heap.size w w' := by
  have hA := (awardsB_iff E xs ys).1 hok
  have hbd := caseOk_bd hA.1
  have HN := Lib.hid hA.2.1
  have hy4 : ys.length ≤ 4 := by have e := hA.2.1; omega
  have HO := Lib.hid hok
  clear hok hA
  have hRl := lossesRow_length HN.out
  have HRl := Lib.hid hRl
  clear hRl
  have k0 := h.alloc hh (.cells #[.int .i64 E, .slice A xs.length c] 31)
  have q0 := h'.alloc hh' (.cells #[.int .i64 E, .slice A xs.length c] 31)
  have a0 := new2 w (.int .i64 E) (.slice A xs.length c) 31
  have B0 := (Below.refl w.heap.size w).alloc (Nat.le_refl _) (.cells #[.int .i64 E, .slice A xs.length c] 31)
  go_enter Try.func18, Try.ntmps18
  go_wp2_with fail
  refine (implAwardsOk_any E A c xs D d ys _ _ _ k0 (by rw [hsz]; omega) hl _ _ q0 (by rw [hsz]; omega) hl').mono ?_
  rintro e w1 ⟨he1, hb1⟩
  rw [HO.out] at he1
  subst he1
  rw [hsz] at hb1
  obtain ⟨a1, a1'⟩ := keep2 hb1 a0 (by omega)
  have k1 := k0.below hb1 (by omega)
  have q1 := q0.below hb1 (by omega)
  have hz1 : w.heap.size + 1 ≤ w1.heap.size := by rw [← hsz w (.cells #[.int .i64 E, .slice A xs.length c] 31)]; exact hb1.size
  have B1 := B0.trans (hb1.mono (by omega))
  clear hb1 a0 k0 q0 h h' B0
  go_wp2_with fail
  refine (implLossesOf_yes E A c xs D d ys _ _ _ k1 (by omega) hl _ _ q1 (by omega) hl' HO.out).mono ?_
  rintro e w2 ⟨L, cl, rfl, ho2, hb2⟩
  obtain ⟨a2, a2'⟩ := keep2 hb2 ⟨a1, a1'⟩ (by omega)
  have k2 := k1.below hb2 (by omega)
  have q2 := q1.below hb2 (by omega)
  have B2 := B1.trans (hb2.mono (by omega))
  obtain ⟨b, o, rfl, _, _, hcx⟩ := k2 (by omega)
  obtain ⟨b', o', rfl, _, _, hcy⟩ := q2 (by have := HN.out; omega)
  obtain ⟨g, og, rfl, _, _, hcl⟩ := ho2.ints (by have := HN.out; rw [HRl.out]; omega)
  have HX := Lib.hid hcx
  have HY := Lib.hid (fun j (hj : j < ys.length) => hcy j hj)
  have HL := Lib.hid (fun j (hj : j < ys.length) => hcl j (by rw [HRl.out]; exact hj))
  have HLL : Hid (((lossesRow xs ys).length : Int) = (ys.length : Int)) := congrArg (fun n : Nat => (n : Int)) HRl.out
  rw [HRl.out]
  clear hb2 a1 a1' k1 q1 k2 q2 ho2 hcx hcy hcl B1
  go_wp2
  go_loopw [20] (fun i wr => ∃ k : Nat, k ≤ xs.length ∧ i = .int .i64 k ∧ KeepTo xs ys k ∧ ∃ n, wr = w2.drewN n) (fun i _ => xs.length - (intOf i).toNat)
  case atStart => exact ⟨0, Nat.zero_le _, rfl, KeepTo.zero xs ys, 0, rfl⟩
  case round =>
    obtain ⟨k, hk, rfl, hkt, n, rfl⟩ := hrel
    have HK := Lib.hid hkt
    clear hkt
    by_cases hlt : k < xs.length
    · have hlt' : k < ys.length := by have := HN.out; omega
      have hk0 : (0 : Int) ≤ (k : Int) := by omega
      have hk1 : (k : Int) < (xs.length : Int) := by omega
      have hk2 : (k : Int) < (ys.length : Int) := by omega
      have x1 : w2.cell? ⟨b, o + k, none⟩ = some (.int .i64 (xs.getD k 0)) := HX.out k (by omega)
      have y1 : w2.cell? ⟨b', o' + k, none⟩ = some (.int .i64 (ys.getD k 0)) := HY.out k (by omega)
      have l1 : w2.cell? ⟨g, og + k, none⟩ = some (.int .i64 ((lossesRow xs ys).getD k 0)) := HL.out k (by omega)
      obtain ⟨u1, hu1⟩ : ∃ u, u = xs.getD k 0 := ⟨_, rfl⟩
      obtain ⟨v1, hv1⟩ : ∃ u, u = ys.getD k 0 := ⟨_, rfl⟩
      obtain ⟨t1, ht1⟩ : ∃ u, u = (lossesRow xs ys).getD k 0 := ⟨_, rfl⟩
      rw [← hu1] at x1
      rw [← hv1] at y1
      rw [← ht1] at l1
      have HU1 := Lib.hid hu1
      have HV1 := Lib.hid hv1
      have HT1 := Lib.hid ht1
      clear hu1 hv1 ht1
      go_wp2
      go_loopw [28] (fun i wr => ∃ m : Nat, m ≤ xs.length ∧ i = .int .i64 m ∧ KeepRow xs ys k m ∧ ∃ n, wr = w2.drewN n) (fun i _ => xs.length - (intOf i).toNat)
      case atStart => exact ⟨0, Nat.zero_le _, rfl, KeepRow.zero xs ys k, n, rfl⟩
      case round =>
        obtain ⟨m, hm, rfl, hkr, n', rfl⟩ := hrel
        have HR := Lib.hid hkr
        clear hkr
        by_cases hlm : m < xs.length
        · have hlm' : m < ys.length := by have := HN.out; omega
          have hm0 : (0 : Int) ≤ (m : Int) := by omega
          have hm1 : (m : Int) < (xs.length : Int) := by omega
          have hm2 : (m : Int) < (ys.length : Int) := by omega
          have x2 : w2.cell? ⟨b, o + m, none⟩ = some (.int .i64 (xs.getD m 0)) := HX.out m (by omega)
          have y2 : w2.cell? ⟨b', o' + m, none⟩ = some (.int .i64 (ys.getD m 0)) := HY.out m (by omega)
          have l2 : w2.cell? ⟨g, og + m, none⟩ = some (.int .i64 ((lossesRow xs ys).getD m 0)) := HL.out m (by omega)
          obtain ⟨u2, hu2⟩ : ∃ u, u = xs.getD m 0 := ⟨_, rfl⟩
          obtain ⟨v2, hv2⟩ : ∃ u, u = ys.getD m 0 := ⟨_, rfl⟩
          obtain ⟨t2, ht2⟩ : ∃ u, u = (lossesRow xs ys).getD m 0 := ⟨_, rfl⟩
          rw [← hu2] at x2
          rw [← hv2] at y2
          rw [← ht2] at l2
          have HA : Hid (KeepAt xs ys k m ↔ (u1 ≤ u2 → v1 ≤ v2 ∧ t1 ≤ t2)) := by
            show _ ↔ _
            rw [KeepAt, ← HU1.out, ← HV1.out, ← HT1.out, ← hu2, ← hv2, ← ht2]
          clear hu2 hv2 ht2
          by_cases c1 : u1 ≤ u2
          · have d1 : decide (u1 ≤ u2) = true := by simpa using c1
            by_cases c2 : v2 < v1
            · have d2 : decide (v2 < v1) = true := by simpa using c2
              have HS : Hid (keepsB E xs ys = false) := keeps_bad (i := k) (j := m) (by omega) (by omega) (fun h => by have e := HA.out.1 h c1; omega)
              have HB : Hid (∀ n, Below w.heap.size w (w2.drewN n)) := fun n => below_drewN B2 n
              go_wp2
              go_quiet (fail)
              go_wp2
              go_ret
              exact ⟨ret_bool HS.out.symm, by first | exact HB.out _ | (rw [World.drewN_drewN]; exact HB.out _)⟩
            · have d2 : decide (v2 < v1) = false := by simpa using c2
              by_cases c3 : t2 < t1
              · have d3 : decide (t2 < t1) = true := by simpa using c3
                have HS : Hid (keepsB E xs ys = false) := keeps_bad (i := k) (j := m) (by omega) (by omega) (fun h => by have e := HA.out.1 h c1; omega)
                have HB : Hid (∀ n, Below w.heap.size w (w2.drewN n)) := fun n => below_drewN B2 n
                go_wp2
                go_quiet (fail)
                go_wp2
                go_ret
                exact ⟨ret_bool HS.out.symm, by first | exact HB.out _ | (rw [World.drewN_drewN]; exact HB.out _)⟩
              · have d3 : decide (t2 < t1) = false := by simpa using c3
                have HS : Hid (KeepRow xs ys k (m + 1)) := HR.out.succ (HA.out.2 (fun _ => ⟨by omega, by omega⟩))
                go_wp2
                go_quiet (fail)
                go_wp2
                go_roundw
                case rel => exact ⟨m + 1, by omega, by go_num, HS.out, by first | exact ⟨_, rfl⟩ | (rw [World.drewN_drewN]; exact ⟨_, rfl⟩)⟩
                case measure => simp [intOf]; omega
          · have d1 : decide (u1 ≤ u2) = false := by simpa using c1
            have HS : Hid (KeepRow xs ys k (m + 1)) := HR.out.succ (HA.out.2 (fun h => absurd h c1))
            go_wp2
            go_quiet (fail)
            go_wp2
            go_roundw
            case rel => exact ⟨m + 1, by omega, by go_num, HS.out, by first | exact ⟨_, rfl⟩ | (rw [World.drewN_drewN]; exact ⟨_, rfl⟩)⟩
            case measure => simp [intOf]; omega
        · have hme : m = xs.length := by omega
          have HS : Hid (KeepTo xs ys (k + 1)) := HK.out.succ (by have e := HR.out; rw [hme] at e; exact e)
          have hmn : ¬ (m : Int) < (xs.length : Int) := by omega
          go_wp2
          go_roundw
          case rel => exact ⟨k + 1, by omega, by go_num, HS.out, by first | exact ⟨_, rfl⟩ | (rw [World.drewN_drewN]; exact ⟨_, rfl⟩)⟩
          case measure => simp [intOf]; omega
    · obtain rfl : k = xs.length := by omega
      have HS : Hid (keepsB E xs ys = true) := keeps_end HO.out (by have e := HK.out; exact e)
      have HB : Hid (∀ n, Below w.heap.size w (w2.drewN n)) := fun n => below_drewN B2 n
      go_wp2
      go_ret
      exact ⟨ret_bool HS.out.symm, by first | exact HB.out _ | (rw [World.drewN_drewN]; exact HB.out _)⟩

theorem implKeepsOrder_any (E : Int) (A : Option Addr) (c : Nat) (xs : List Int) (D : Option Addr) (d : Nat) (ys : List Int) (w : World) (lo hi : Nat) (h : Ints w lo hi A xs) (hh : hi ≤ w.heap.size) (hl : xs.length ≤ 1152921504606846976)
    (lo' hi' : Nat) (h' : Ints w lo' hi' D ys) (hh' : hi' ≤ w.heap.size) (hl' : ys.length ≤ 1152921504606846976) :
    Calls Try.prog 18 #[.agg #[.int .i64 E, .slice A xs.length c], .slice D ys.length d] w fun e w' => e = .returned (.bool (keepsB E xs ys)) ∧ Below w.heap.size w w' := by
  by_cases hok : awardsB E xs ys = true
  · exact implKeepsOrder_yes E A c xs D d ys w lo hi h hh hl lo' hi' h' hh' hl' hok
  · exact implKeepsOrder_no E A c xs D d ys w lo hi h hh hl lo' hi' h' hh' hl' (by simpa using hok)

end Go.Proofs.Ytilhholjbjhaeaa
