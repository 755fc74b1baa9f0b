/-
  Both functions AwardsOk return whether a row is of awards, and make new memory only.
-/
import Derived.Test.YtilhholjbjhaeaaCaseOk
namespace Go.Proofs.Ytilhholjbjhaeaa
open Go.RowKit

def AwAt (xs ys : List Int) (k : Nat) : Prop := ∀ (h : k < ys.length) (h' : k < xs.length), 0 ≤ ys[k] ∧ ys[k] ≤ 48 * xs[k]
def Aw (E : Int) (xs ys : List Int) : Prop := caseOkB E xs = true ∧ ys.length = xs.length ∧ (∀ k, AwAt xs ys k) ∧ ys.sum = 48 * E
noncomputable def awardsB (E : Int) (xs ys : List Int) : Bool := @decide (Aw E xs ys) (Classical.propDecidable _)
theorem awardsB_iff (E : Int) (xs ys : List Int) : awardsB E xs ys = true ↔ Aw E xs ys := by simp [awardsB]
theorem awardsB_false {E : Int} {xs ys : List Int} (h : ¬ Aw E xs ys) : awardsB E xs ys = false := by simp [awardsB, h]
theorem aw_case {E : Int} {xs : List Int} (ys : List Int) (h : caseOkB E xs = false) : awardsB E xs ys = false := awardsB_false fun h' => by have e := h'.1; rw [h] at e; cases e
theorem aw_len (E : Int) {xs ys : List Int} (h : ¬ ys.length = xs.length) : awardsB E xs ys = false := awardsB_false fun h' => h h'.2.1
theorem aw_bad (E : Int) {xs ys : List Int} {k : Nat} (h1 : k < ys.length) (h2 : k < xs.length) (h : ¬ (0 ≤ ys[k] ∧ ys[k] ≤ 48 * xs[k])) : awardsB E xs ys = false := awardsB_false fun h' => h (h'.2.2.1 k h1 h2)
def AwTo (xs ys : List Int) (k : Nat) : Prop := ∀ j, j < k → AwAt xs ys j
theorem AwTo.zero (xs ys : List Int) : AwTo xs ys 0 := fun _ h => absurd h (by omega)
theorem AwTo.succ {xs ys : List Int} {k : Nat} (h : AwTo xs ys k) (h1 : k < ys.length) (h2 : k < xs.length) (hx : 0 ≤ ys[k] ∧ ys[k] ≤ 48 * xs[k]) : AwTo xs ys (k + 1) := fun j hj => by
  rcases Nat.lt_or_ge j k with h3 | h3
  · exact h j h3
  · obtain rfl : j = k := by omega
    exact fun _ _ => hx
theorem AwTo.all {xs ys : List Int} (h : AwTo xs ys ys.length) : ∀ k, AwAt xs ys k := fun k h1 h2 => h k h1 h1 h2
theorem aw_end {E : Int} {xs ys : List Int} (h : caseOkB E xs = true) (hn : ys.length = xs.length) (ha : ∀ k, AwAt xs ys k) : awardsB E xs ys = decide (ys.sum = 48 * E) := by
  by_cases hs : ys.sum = 48 * E
  · rw [(awardsB_iff E xs ys).2 ⟨h, hn, ha, hs⟩]; simp [hs]
  · rw [awardsB_false (fun h' => hs h'.2.2.2)]; simp [hs]
theorem aw_range {E : Int} {xs ys : List Int} (h : caseOkB E xs = true) (hn : ys.length = xs.length) (ha : ∀ k, AwAt xs ys k) : ∀ y ∈ ys, 0 ≤ y ∧ y ≤ 576 := fun y hy => by
  obtain ⟨j, hj, rfl⟩ := List.getElem_of_mem hy
  have h1 := ha j hj (by omega)
  have h2 := ((caseOk_iff E xs).1 h).2.2.1 _ (List.getElem_mem (by omega : j < xs.length))
  omega
theorem aw_small {E : Int} {xs ys : List Int} (h : caseOkB E xs = true) (hn : ys.length = xs.length) (ha : ∀ k, AwAt xs ys k) : Small ys :=
  ⟨by have := (caseOk_bd h).2.1; omega, fun y hy => by have := aw_range h hn ha y hy; omega⟩
theorem case_at {E : Int} {xs : List Int} (h : caseOkB E xs = true) (k : Nat) (hk : k < xs.length) : 0 ≤ xs[k] ∧ xs[k] ≤ 12 := ((caseOk_iff E xs).1 h).2.2.1 _ (List.getElem_mem hk)

theorem quiet_left2 {P : Program} {f : FuncId} {args : Array Value} {w : World} {a n : Nat} {v : Value}
    (h : Calls P f args (w.drewN (a + n)) fun e w' => e = .returned v ∧ w.drewN (a + n) = w') : Calls P f args (w.drewN (a + n)) fun e w'' => e = .returned v ∧ ∃ m, w'' = w.drewN (a + m) :=
  h.mono fun _ _ ⟨he, hm⟩ => ⟨he, n, hm.symm⟩

set_option maxRecDepth 10000 in
set_option maxHeartbeats 1000000 in
theorem implAwardsOk_any (E : Int) (A : Option Addr) (c : Nat) (xs : List Int) (D : Option Addr) (d : Nat) (ys : List Int) (w : World) (lo hi : Nat) (h : Ints w lo hi A xs) (hh : hi ≤ w.heap.size) (hl : xs.length ≤ 1152921504606846976)
    (lo' hi' : Nat) (h' : Ints w lo' hi' D ys) (hh' : hi' ≤ w.heap.size) (_hl' : ys.length ≤ 1152921504606846976) :
    Calls Try.prog 34 #[.agg #[.int .i64 E, .slice A xs.length c], .slice D ys.length d] w fun e w' => e = .returned (.bool (awardsB E xs ys)) ∧ Below w.heap.size w w' := by
  have k0 := h.alloc hh (.cells #[.int .i64 E, .slice A xs.length c] 31)
  have q0 := h'.alloc hh' (.cells #[.int .i64 E, .slice A xs.length c] 31)
  have a0 := new2 w (.int .i64 E) (.slice A xs.length c) 31
  have B0 := (Below.refl w.heap.size w).alloc (Nat.le_refl _) (.cells #[.int .i64 E, .slice A xs.length c] 31)
  by_cases hok : caseOkB E xs = true
  · have hbd := caseOk_bd hok
    have HO := Lib.hid hok
    clear hok
    by_cases hn : ys.length = xs.length
    · have hne : ((ys.length : Int) != (xs.length : Int)) = false := by simp [hn]
      have hlt4 : ys.length ≤ 4 := by omega
      have HN := Lib.hid hn
      clear hn
      go_enter Try.func34, Try.ntmps34
      go_wp2_with fail
      refine (implCaseOk_yes E A c xs _ _ _ k0 (by rw [hsz]; omega) hl HO.out).mono ?_
      rintro e w1 ⟨rfl, hb1⟩
      rw [hsz] at hb1
      obtain ⟨a1, a1'⟩ := keep2 hb1 a0 (by omega)
      have k1 := k0.below hb1 (by omega)
      have q1 := q0.below hb1 (by omega)
      have B1 := B0.trans (hb1.mono (by omega))
      clear hb1 a0 k0 q0 B0
      go_wp2
      go_loop [20] (fun i => ∃ k : Nat, k ≤ ys.length ∧ i = .int .i64 k ∧ AwTo xs ys k) (fun i => ys.length - (intOf i).toNat)
      case atStart => exact ⟨0, Nat.zero_le _, rfl, AwTo.zero _ _⟩
      case round =>
        obtain ⟨k, hk, rfl, hu⟩ := hrel
        clear hne
        by_cases hlt : k < ys.length
        · have hlt2 : k < xs.length := by have := HN.out; omega
          obtain ⟨b, o, rfl, _, hbh, hc⟩ := k1.at_ hlt2
          obtain ⟨b', o', rfl, _, hbh', hc'⟩ := q1.at_ hlt
          have hv := case_at HO.out k hlt2
          by_cases hx : 0 ≤ ys[k] ∧ ys[k] ≤ 48 * xs[k]
          · have hu' := hu.succ hlt hlt2 hx
            obtain ⟨hx1, hx2⟩ := hx
            clear hu
            go_wp2
            go_round
            case rel => exact ⟨k + 1, by omega, by go_num, hu'⟩
            case measure => simp [intOf]; omega
          · have hbad := Lib.hid (aw_bad E hlt hlt2 hx)
            by_cases hx1 : 0 ≤ ys[k]
            · have hx2 : ¬ ys[k] ≤ 48 * xs[k] := by omega
              clear hx hu
              go_wp2
              go_ret
              exact ⟨ret_bool hbad.out.symm, B1⟩
            · clear hx hu
              go_wp2
              go_ret
              exact ⟨ret_bool hbad.out.symm, B1⟩
        · obtain rfl : k = ys.length := by omega
          have hs := aw_small HO.out HN.out hu.all
          have hend := Lib.hid (aw_end HO.out HN.out hu.all)
          have hwr : IntKind.i64.wrap (48 * E) = 48 * E := IntWalk.i64_in _ (by omega)
          clear hu
          go_wp2
          go_quiet ((go_at_call 37; exact quiet_left (sumOf_any _ _ _ _ _ _ (q1.drewN _) hs)))
          go_wp2
          go_ret
          exact ⟨ret_bool (by rw [hend.out]; rfl), below_drewN B1 _⟩
    · have hne : ((ys.length : Int) != (xs.length : Int)) = true := by simp; omega
      have hbad := Lib.hid (aw_len E hn)
      clear hn
      go_enter Try.func34, Try.ntmps34
      go_wp2_with fail
      refine (implCaseOk_yes E A c xs _ _ _ k0 (by rw [hsz]; omega) hl HO.out).mono ?_
      rintro e w1 ⟨rfl, hb1⟩
      rw [hsz] at hb1
      obtain ⟨a1, a1'⟩ := keep2 hb1 a0 (by omega)
      have B1 := B0.trans (hb1.mono (by omega))
      clear hb1 a0 k0 q0 B0
      go_wp2
      go_ret
      exact ⟨ret_bool hbad.out.symm, B1⟩
  · have hok' : caseOkB E xs = false := by simpa using hok
    have HO := Lib.hid hok'
    have hbad := Lib.hid (aw_case ys hok')
    clear hok hok'
    go_enter Try.func34, Try.ntmps34
    go_wp2_with fail
    refine (implCaseOk_no E A c xs _ _ _ k0 (by rw [hsz]; omega) hl HO.out).mono ?_
    rintro e w1 ⟨rfl, hb1⟩
    rw [hsz] at hb1
    have B1 := B0.trans (hb1.mono (by omega))
    clear hb1 a0 k0 q0 B0
    go_wp2
    go_ret
    exact ⟨ret_bool hbad.out.symm, B1⟩

set_option maxRecDepth 10000 in
set_option maxHeartbeats 1000000 in
theorem specAwardsOk_any (E : Int) (A : Option Addr) (c : Nat) (xs : List Int) (D : Option Addr) (d : Nat) (ys : List Int) (w : World) (lo hi : Nat) (h : Ints w lo hi A xs) (hh : hi ≤ w.heap.size) (hl : xs.length ≤ 1152921504606846976)
    (lo' hi' : Nat) (h' : Ints w lo' hi' D ys) (hh' : hi' ≤ w.heap.size) (_hl' : ys.length ≤ 1152921504606846976) :
    Calls Try.prog 15 #[.agg #[.int .i64 E, .slice A xs.length c], .slice D ys.length d] w fun e w' => e = .returned (.bool (awardsB E xs ys)) ∧ Below w.heap.size w w' := by
  have k0 := h.alloc hh (.cells #[.int .i64 E, .slice A xs.length c] 31)
  have q0 := h'.alloc hh' (.cells #[.int .i64 E, .slice A xs.length c] 31)
  have a0 := new2 w (.int .i64 E) (.slice A xs.length c) 31
  have B0 := (Below.refl w.heap.size w).alloc (Nat.le_refl _) (.cells #[.int .i64 E, .slice A xs.length c] 31)
  by_cases hok : caseOkB E xs = true
  · have hbd := caseOk_bd hok
    have HO := Lib.hid hok
    clear hok
    by_cases hn : ys.length = xs.length
    · have hne : ((ys.length : Int) != (xs.length : Int)) = false := by simp [hn]
      have hlt4 : ys.length ≤ 4 := by omega
      have HN := Lib.hid hn
      clear hn
      go_enter Try.func15, Try.ntmps15
      go_wp2_with fail
      refine (specCaseOk_yes E A c xs _ _ _ k0 (by rw [hsz]; omega) hl HO.out).mono ?_
      rintro e w1 ⟨rfl, hb1⟩
      rw [hsz] at hb1
      obtain ⟨a1, a1'⟩ := keep2 hb1 a0 (by omega)
      have k1 := k0.below hb1 (by omega)
      have q1 := q0.below hb1 (by omega)
      have B1 := B0.trans (hb1.mono (by omega))
      clear hb1 a0 k0 q0 B0
      go_wp2
      go_loopw [5] (fun i wr => ∃ k : Nat, k ≤ ys.length ∧ i = .int .i64 k ∧ AwTo xs ys k ∧ ∃ n, wr = w1.drewN n) (fun i _ => ys.length - (intOf i).toNat)
      case atStart => exact ⟨0, Nat.zero_le _, rfl, AwTo.zero _ _, 0, rfl⟩
      case round =>
        obtain ⟨k, hk, rfl, hu, n, rfl⟩ := hrel
        clear hne
        by_cases hlt : k < ys.length
        · have hlt2 : k < xs.length := by have := HN.out; omega
          obtain ⟨b, o, rfl, _, hbh, hc⟩ := k1.at_ hlt2
          obtain ⟨b', o', rfl, _, hbh', hc'⟩ := q1.at_ hlt
          have hv := case_at HO.out k hlt2
          have hwr : IntKind.i64.wrap (48 * xs[k]) = 48 * xs[k] := IntWalk.i64_in _ (by omega)
          have hk0 : (0 : Int) ≤ (k : Int) := by omega
          have hk1 : (k : Int) < (xs.length : Int) := by omega
          have hk2 : (k : Int) < (ys.length : Int) := by omega
          by_cases hx : 0 ≤ ys[k] ∧ ys[k] ≤ 48 * xs[k]
          · have hu' := hu.succ hlt hlt2 hx
            have hX := Lib.hid hx
            clear hu hx
            go_wp2
            go_quiet ((go_at_call 27; exact quiet_left2 (l1In_yes _ _ _ _ hX.out)))
            go_wp2
            go_roundw
            case rel => exact ⟨k + 1, by omega, by go_num, hu', _, rfl⟩
            case measure => simp [intOf]; omega
          · have hbad := Lib.hid (aw_bad E hlt hlt2 hx)
            have hX := Lib.hid hx
            clear hu hx
            go_wp2
            go_quiet ((go_at_call 27; exact quiet_left2 (l1In_no _ _ _ _ hX.out)))
            go_wp2
            go_ret
            exact ⟨ret_bool hbad.out.symm, (by first | exact below_drewN B1 _ | exact below_drewN (below_drewN B1 _) _)⟩
        · obtain rfl : k = ys.length := by omega
          have hs := aw_small HO.out HN.out hu.all
          have hend := Lib.hid (aw_end HO.out HN.out hu.all)
          have hwr : IntKind.i64.wrap (48 * E) = 48 * E := IntWalk.i64_in _ (by omega)
          clear hu
          go_wp2
          go_quiet ((go_at_call 36; exact quiet_left2 (l1Sum_any _ _ _ _ _ _ (q1.drewN _) hs)))
          go_wp2
          go_ret
          exact ⟨ret_bool (by rw [hend.out]; rfl), (by first | exact below_drewN B1 _ | exact below_drewN (below_drewN B1 _) _)⟩
    · have hne : ((ys.length : Int) != (xs.length : Int)) = true := by simp; omega
      have hbad := Lib.hid (aw_len E hn)
      clear hn
      go_enter Try.func15, Try.ntmps15
      go_wp2_with fail
      refine (specCaseOk_yes E A c xs _ _ _ k0 (by rw [hsz]; omega) hl HO.out).mono ?_
      rintro e w1 ⟨rfl, hb1⟩
      rw [hsz] at hb1
      obtain ⟨a1, a1'⟩ := keep2 hb1 a0 (by omega)
      have B1 := B0.trans (hb1.mono (by omega))
      clear hb1 a0 k0 q0 B0
      go_wp2
      go_ret
      exact ⟨ret_bool hbad.out.symm, B1⟩
  · have hok' : caseOkB E xs = false := by simpa using hok
    have HO := Lib.hid hok'
    have hbad := Lib.hid (aw_case ys hok')
    clear hok hok'
    go_enter Try.func15, Try.ntmps15
    go_wp2_with fail
    refine (specCaseOk_no E A c xs _ _ _ k0 (by rw [hsz]; omega) hl HO.out).mono ?_
    rintro e w1 ⟨rfl, hb1⟩
    rw [hsz] at hb1
    have B1 := B0.trans (hb1.mono (by omega))
    clear hb1 a0 k0 q0 B0
    go_wp2
    go_ret
    exact ⟨ret_bool hbad.out.symm, B1⟩

end Go.Proofs.Ytilhholjbjhaeaa
