/-
  The function MidOk of the given package reports whether awards hold the middle; it makes new memory only.
-/
import Derived.Test.YtngalomfljoomaaHalf
import Derived.BigQuiet
namespace Go.Proofs.Ytngalomfljoomaa
open Go.RowKit

set_option maxRecDepth 10000 in
set_option maxHeartbeats 400000 in
theorem specMidOk_no (E : Int) (A : Option Addr) (c : Nat) (xs : List Int) (D : Option Addr) (d : Nat) (ys : List Int) (w : World) (lo hi : Nat) (h : Ints w lo hi A xs) (hh : hi ≤ w.heap.size) (hl : xs.length ≤ 1152921504606846976)
    (lo' hi' : Nat) (h' : Ints w lo' hi' D ys) (hh' : hi' ≤ w.heap.size) (hl' : ys.length ≤ 1152921504606846976) (hok : awardsB E xs ys = false) :
    Calls Try.prog 24 #[.agg #[.int .i64 E, .slice A xs.length c], .slice D ys.length d] w fun e w' => e = .returned (.bool (midB E xs ys)) ∧ Below w.heap.size w w' := by
  have HO := Lib.hid hok
  clear hok
  have k0 := h.alloc hh (.cells #[.int .i64 E, .slice A xs.length c] 25)
  have q0 := h'.alloc hh' (.cells #[.int .i64 E, .slice A xs.length c] 25)
  have B0 := (Below.refl w.heap.size w).alloc (Nat.le_refl _) (.cells #[.int .i64 E, .slice A xs.length c] 25)
  go_enter Try.func24, Try.ntmps24
  go_wp2_with fail
  refine (specAwardsOk_any E A c xs D d ys _ _ _ k0 (by rw [hsz]; omega) hl _ _ q0 (by rw [hsz]; omega) hl').mono ?_
  rintro e w1 ⟨he1, hb1⟩
  rw [HO.out] at he1
  subst he1
  rw [hsz] at hb1
  have B1 := B0.trans (hb1.mono (by omega))
  clear hb1
  go_wp2
  go_ret
  exact ⟨ret_bool (mid_no HO.out).symm, B1⟩

set_option maxRecDepth 10000 in
set_option maxHeartbeats 4000000 in
theorem specMidOk_yes (E : Int) (A : Option Addr) (c : Nat) (xs : List Int) (D : Option Addr) (d : Nat) (ys : List Int) (w : World) (lo hi : Nat) (h : Ints w lo hi A xs) (hh : hi ≤ w.heap.size) (hl : xs.length ≤ 1152921504606846976)
    (lo' hi' : Nat) (h' : Ints w lo' hi' D ys) (hh' : hi' ≤ w.heap.size) (hl' : ys.length ≤ 1152921504606846976) (hok : awardsB E xs ys = true) :
    Calls Try.prog 24 #[.agg #[.int .i64 E, .slice A xs.length c], .slice D ys.length d] w fun e w' => e = .returned (.bool (midB E xs ys)) ∧ Below w.heap.size w w' := by
  have hA := (awardsB_iff E xs ys).1 hok
  have hbd := caseOk_bd hA.1
  have HN := Lib.hid hA.2.1
  have hy4 : ys.length ≤ 4 := by have e := hA.2.1; omega
  have HO := Lib.hid hok
  have HR := Lib.hid (aw_range ((awardsB_iff E xs ys).1 hok).1 ((awardsB_iff E xs ys).1 hok).2.1 ((awardsB_iff E xs ys).1 hok).2.2.1)
  have HV := Lib.hid (fun k hk => case_at ((awardsB_iff E xs ys).1 hok).1 k hk)
  have hsm := caseOk_small ((awardsB_iff E xs ys).1 hok).1
  clear hok hA
  have k0 := h.alloc hh (.cells #[.int .i64 E, .slice A xs.length c] 25)
  have q0 := h'.alloc hh' (.cells #[.int .i64 E, .slice A xs.length c] 25)
  have a0 := new2 w (.int .i64 E) (.slice A xs.length c) 25
  have B0 := (Below.refl w.heap.size w).alloc (Nat.le_refl _) (.cells #[.int .i64 E, .slice A xs.length c] 25)
  go_enter Try.func24, Try.ntmps24
  go_wp2_with fail
  refine (specAwardsOk_any E A c xs D d ys _ _ _ k0 (by rw [hsz]; omega) hl _ _ q0 (by rw [hsz]; omega) hl').mono ?_
  rintro e w1 ⟨he1, hb1⟩
  rw [HO.out] at he1
  subst he1
  rw [hsz] at hb1
  obtain ⟨a1, a1'⟩ := keep2 hb1 a0 (by omega)
  have k1 := k0.below hb1 (by omega)
  have q1 := q0.below hb1 (by omega)
  have z1 := hb1.size
  rw [hsz] at z1
  have B1 := B0.trans (hb1.mono (by omega))
  clear hb1 a0 k0 q0 h h' B0
  have HKI := Lib.hid k1
  obtain ⟨b, o, rfl, _, _, hcx⟩ := k1 (by omega)
  obtain ⟨b', o', rfl, _, _, hcy⟩ := q1 (by have := HN.out; omega)
  have HX := Lib.hid hcx
  have HY := Lib.hid hcy
  clear k1 q1 hcx hcy
  go_wp2
  go_loopw [5] (fun i wr => ∃ k : Nat, k ≤ ys.length ∧ i = .int .i64 k ∧ MidTo E xs ys k ∧ ∃ n, wr = w1.drewN n) (fun i _ => ys.length - (intOf i).toNat)
  case atStart => exact ⟨0, Nat.zero_le _, rfl, MidTo.zero E xs ys, 0, rfl⟩
  case round =>
    obtain ⟨k, hk, rfl, hkt, n, rfl⟩ := hrel
    have HK := Lib.hid hkt
    clear hkt
    have hnn := HN.out
    by_cases hlt : k < ys.length
    · have hltx : k < xs.length := by omega
      have hk10 : (0 : Int) ≤ (k : Int) := by omega
      have hk11 : (k : Int) < (xs.length : Int) := by omega
      have hk12 : (k : Int) < (ys.length : Int) := by omega
      have x1 : w1.cell? ⟨b, o + k, none⟩ = some (.int .i64 (xs.getD k 0)) := HX.out k (by omega)
      have y1 : w1.cell? ⟨b', o' + k, none⟩ = some (.int .i64 (ys.getD k 0)) := HY.out k (by omega)
      have gx1 : 0 ≤ xs.getD k 0 ∧ xs.getD k 0 ≤ 12 := by rw [getD_of_lt xs k (by omega)]; exact HV.out k (by omega)
      have gy1 : 0 ≤ ys.getD k 0 ∧ ys.getD k 0 ≤ 576 := by rw [getD_of_lt ys k (by omega)]; exact HR.out _ (List.getElem_mem _)
      obtain ⟨u1, hu1⟩ : ∃ u, u = xs.getD k 0 := ⟨_, rfl⟩
      obtain ⟨v1, hv1⟩ : ∃ u, u = ys.getD k 0 := ⟨_, rfl⟩
      rw [← hu1] at x1 gx1
      rw [← hv1] at y1 gy1
      have HU1 := Lib.hid hu1
      have HV1 := Lib.hid hv1
      clear hu1 hv1
      have HT : Hid (MidAt E xs ys k ↔ ((2 * E ≤ xs.sum → 2 * v1 ≤ 48 * u1) ∧ (xs.sum ≤ 2 * E → 48 * u1 ≤ 2 * v1))) := by
        show _ ↔ _
        rw [MidAt, ← HU1.out, ← HV1.out]
      clear hnn
      have hwE : IntKind.i64.wrap (2 * E) = 2 * E := IntWalk.i64_in _ (by omega)
      have hwv : IntKind.i64.wrap (2 * v1) = 2 * v1 := IntWalk.i64_in _ (by omega)
      have hwu : IntKind.i64.wrap (48 * u1) = 48 * u1 := IntWalk.i64_in _ (by omega)
      by_cases c1 : 2 * E ≤ xs.sum
      · have dc1 : decide (2 * E ≤ xs.sum) = true := by simpa using c1
        by_cases c2 : 48 * u1 < 2 * v1
        · have dc2 : decide (48 * u1 < 2 * v1) = true := by simpa using c2
          have HS : Hid (midB E xs ys = false) := mid_bad (k := k) (by omega) (fun h => by have e := HT.out.1 h; omega)
          have HB : Hid (∀ n, Below w.heap.size w (w1.drewN n)) := fun n => below_drewN B1 n
          go_wp2
          go_quiet ((go_at_call 46; exact quiet_left2 (l1Sum_any _ _ _ _ _ _ (HKI.out.drewN _) hsm)))
          go_wp2
          go_ret
          exact ⟨ret_bool HS.out.symm, by first | exact HB.out _ | (rw [World.drewN_drewN]; exact HB.out _)⟩
        · have dc2 : decide (48 * u1 < 2 * v1) = false := by simpa using c2
          by_cases c3 : xs.sum ≤ 2 * E
          · have dc3 : decide (xs.sum ≤ 2 * E) = true := by simpa using c3
            by_cases c4 : 2 * v1 < 48 * u1
            · have dc4 : decide (2 * v1 < 48 * u1) = true := by simpa using c4
              have HS : Hid (midB E xs ys = false) := mid_bad (k := k) (by omega) (fun h => by have e := HT.out.1 h; omega)
              have HB : Hid (∀ n, Below w.heap.size w (w1.drewN n)) := fun n => below_drewN B1 n
              go_wp2
              go_quiet ((go_at_call 46; exact quiet_left2 (l1Sum_any _ _ _ _ _ _ (HKI.out.drewN _) hsm)))
              go_wp2
              go_ret
              exact ⟨ret_bool HS.out.symm, by first | exact HB.out _ | (rw [World.drewN_drewN]; exact HB.out _)⟩
            · have dc4 : decide (2 * v1 < 48 * u1) = false := by simpa using c4
              have HS : Hid (MidTo E xs ys (k + 1)) := HK.out.succ (HT.out.2 ⟨fun _ => by omega, fun _ => by omega⟩)
              go_wp2
              go_quiet ((go_at_call 46; exact quiet_left2 (l1Sum_any _ _ _ _ _ _ (HKI.out.drewN _) hsm)))
              go_wp2
              go_roundw
              case rel => exact ⟨k + 1, by omega, by go_num, HS.out, by first | exact ⟨_, rfl⟩ | (rw [World.drewN_drewN]; exact ⟨_, rfl⟩)⟩
              case measure => simp [intOf]; omega
          · have dc3 : decide (xs.sum ≤ 2 * E) = false := by simpa using c3
            have HS : Hid (MidTo E xs ys (k + 1)) := HK.out.succ (HT.out.2 ⟨fun _ => by omega, fun _ => by omega⟩)
            go_wp2
            go_quiet ((go_at_call 46; exact quiet_left2 (l1Sum_any _ _ _ _ _ _ (HKI.out.drewN _) hsm)))
            go_wp2
            go_roundw
            case rel => exact ⟨k + 1, by omega, by go_num, HS.out, by first | exact ⟨_, rfl⟩ | (rw [World.drewN_drewN]; exact ⟨_, rfl⟩)⟩
            case measure => simp [intOf]; omega
      · have dc1 : decide (2 * E ≤ xs.sum) = false := by simpa using c1
        by_cases c3 : xs.sum ≤ 2 * E
        · have dc3 : decide (xs.sum ≤ 2 * E) = true := by simpa using c3
          by_cases c4 : 2 * v1 < 48 * u1
          · have dc4 : decide (2 * v1 < 48 * u1) = true := by simpa using c4
            have HS : Hid (midB E xs ys = false) := mid_bad (k := k) (by omega) (fun h => by have e := HT.out.1 h; omega)
            have HB : Hid (∀ n, Below w.heap.size w (w1.drewN n)) := fun n => below_drewN B1 n
            go_wp2
            go_quiet ((go_at_call 46; exact quiet_left2 (l1Sum_any _ _ _ _ _ _ (HKI.out.drewN _) hsm)))
            go_wp2
            go_ret
            exact ⟨ret_bool HS.out.symm, by first | exact HB.out _ | (rw [World.drewN_drewN]; exact HB.out _)⟩
          · have dc4 : decide (2 * v1 < 48 * u1) = false := by simpa using c4
            have HS : Hid (MidTo E xs ys (k + 1)) := HK.out.succ (HT.out.2 ⟨fun _ => by omega, fun _ => by omega⟩)
            go_wp2
            go_quiet ((go_at_call 46; exact quiet_left2 (l1Sum_any _ _ _ _ _ _ (HKI.out.drewN _) hsm)))
            go_wp2
            go_roundw
            case rel => exact ⟨k + 1, by omega, by go_num, HS.out, by first | exact ⟨_, rfl⟩ | (rw [World.drewN_drewN]; exact ⟨_, rfl⟩)⟩
            case measure => simp [intOf]; omega
        · exfalso; omega
    · obtain rfl : k = ys.length := by omega
      clear hnn
      have HS : Hid (midB E xs ys = true) := mid_end HO.out HK.out
      have HB : Hid (∀ n, Below w.heap.size w (w1.drewN n)) := fun n => below_drewN B1 n
      go_wp2
      go_ret
      exact ⟨ret_bool HS.out.symm, by first | exact HB.out _ | (rw [World.drewN_drewN]; exact HB.out _)⟩

theorem specMidOk_any (E : Int) (A : Option Addr) (c : Nat) (xs : List Int) (D : Option Addr) (d : Nat) (ys : List Int) (w : World) (lo hi : Nat) (h : Ints w lo hi A xs) (hh : hi ≤ w.heap.size) (hl : xs.length ≤ 1152921504606846976)
    (lo' hi' : Nat) (h' : Ints w lo' hi' D ys) (hh' : hi' ≤ w.heap.size) (hl' : ys.length ≤ 1152921504606846976) :
    Calls Try.prog 24 #[.agg #[.int .i64 E, .slice A xs.length c], .slice D ys.length d] w fun e w' => e = .returned (.bool (midB E xs ys)) ∧ Below w.heap.size w w' := by
  by_cases hok : awardsB E xs ys = true
  · exact specMidOk_yes E A c xs D d ys w lo hi h hh hl lo' hi' h' hh' hl' hok
  · exact specMidOk_no E A c xs D d ys w lo hi h hh hl lo' hi' h' hh' hl' (by simpa using hok)

theorem specMid_is (E : Int) (A : Option Addr) (c : Nat) (xs : List Int) (D : Option Addr) (d : Nat) (ys : List Int) (w : World) (lo hi : Nat) (h : Ints w lo hi A xs) (hh : hi ≤ w.heap.size) (hl : xs.length ≤ 1152921504606846976)
    (lo' hi' : Nat) (h' : Ints w lo' hi' D ys) (hh' : hi' ≤ w.heap.size) (hl' : ys.length ≤ 1152921504606846976) (K : Bool) (hK : midB E xs ys = K) :
    Calls Try.prog 24 #[.agg #[.int .i64 E, .slice A xs.length c], .slice D ys.length d] w fun e w' => e = .returned (.bool K) ∧ Below w.heap.size w w' := by
  have e := specMidOk_any E A c xs D d ys w lo hi h hh hl lo' hi' h' hh' hl'
  rw [hK] at e
  exact e

end Go.Proofs.Ytngalomfljoomaa
