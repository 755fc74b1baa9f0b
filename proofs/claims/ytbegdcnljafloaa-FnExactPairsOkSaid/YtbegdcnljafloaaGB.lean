/-
  Both functions AwardsOk return whether a row is of awards, and make new memory only.
  Both functions OwedOf return what is owed, and make new memory only.
  Both functions OtherCase return the other case, and make new memory only.
  Both functions RightsOf return the rights, and make new memory only.
  Both functions LossesOf return the losses, and make new memory only.
  Both functions CutCase return the case with cut claims, and make new memory only.
  Both functions RestCase return what is left behind the rights, and make new memory only.
  What is left behind the rights is the other case cut, turned again. No condition but that it is a case.
  Cut claims cut again stay as they are. No condition but that it is a case.
  Even rows, as pure lists: the level up to which numbers in order are met by what is left; the row of the lesser ones is of the same sum, and no row under the numbers, of the same sum, is more even.
-/
import Derived.Test.YtbegdcnljafloaaGA
import Derived.Deep.RegionHeld3
import Derived.Deep.AppendLies
import Derived.Deep.RegionLaw
namespace Go.Proofs.Ytbegdcnljafloaa
open Go.RowKit

def AwAt (xs ys : List Int) (k : Nat) : Prop := ∀ (h : k < ys.length) (h' : k < xs.length), 0 ≤ ys[k] ∧ ys[k] ≤ 48 * xs[k]
def Aw (E : Int) (xs ys : List Int) : Prop := caseOkB E xs = true ∧ ys.length = xs.length ∧ (∀ k, AwAt xs ys k) ∧ ys.sum = 48 * E
noncomputable def awardsB (E : Int) (xs ys : List Int) : Bool := @decide (Aw E xs ys) (Classical.propDecidable _)
theorem awardsB_iff (E : Int) (xs ys : List Int) : awardsB E xs ys = true ↔ Aw E xs ys := by simp [awardsB]
theorem awardsB_false {E : Int} {xs ys : List Int} (h : ¬ Aw E xs ys) : awardsB E xs ys = false := by simp [awardsB, h]
theorem aw_case {E : Int} {xs : List Int} (ys : List Int) (h : caseOkB E xs = false) : awardsB E xs ys = false := awardsB_false fun h' => by have e := h'.1; rw [h] at e; cases e
theorem aw_len (E : Int) {xs ys : List Int} (h : ¬ ys.length = xs.length) : awardsB E xs ys = false := awardsB_false fun h' => h h'.2.1
theorem aw_bad (E : Int) {xs ys : List Int} {k : Nat} (h1 : k < ys.length) (h2 : k < xs.length) (h : ¬ (0 ≤ ys[k] ∧ ys[k] ≤ 48 * xs[k])) : awardsB E xs ys = false := awardsB_false fun h' => h (h'.2.2.1 k h1 h2)
def AwTo (xs ys : List Int) (k : Nat) : Prop := ∀ j, j < k → AwAt xs ys j
theorem AwTo.zero (xs ys : List Int) : AwTo xs ys 0 := fun _ h => absurd h (by omega)
theorem AwTo.succ {xs ys : List Int} {k : Nat} (h : AwTo xs ys k) (h1 : k < ys.length) (h2 : k < xs.length) (hx : 0 ≤ ys[k] ∧ ys[k] ≤ 48 * xs[k]) : AwTo xs ys (k + 1) := fun j hj => by
  rcases Nat.lt_or_ge j k with h3 | h3
  · exact h j h3
  · obtain rfl : j = k := by omega
    exact fun _ _ => hx
theorem AwTo.all {xs ys : List Int} (h : AwTo xs ys ys.length) : ∀ k, AwAt xs ys k := fun k h1 h2 => h k h1 h1 h2
theorem aw_end {E : Int} {xs ys : List Int} (h : caseOkB E xs = true) (hn : ys.length = xs.length) (ha : ∀ k, AwAt xs ys k) : awardsB E xs ys = decide (ys.sum = 48 * E) := by
  by_cases hs : ys.sum = 48 * E
  · rw [(awardsB_iff E xs ys).2 ⟨h, hn, ha, hs⟩]; simp [hs]
  · rw [awardsB_false (fun h' => hs h'.2.2.2)]; simp [hs]
theorem aw_range {E : Int} {xs ys : List Int} (h : caseOkB E xs = true) (hn : ys.length = xs.length) (ha : ∀ k, AwAt xs ys k) : ∀ y ∈ ys, 0 ≤ y ∧ y ≤ 576 := fun y hy => by
  obtain ⟨j, hj, rfl⟩ := List.getElem_of_mem hy
  have h1 := ha j hj (by omega)
  have h2 := ((caseOk_iff E xs).1 h).2.2.1 _ (List.getElem_mem (by omega : j < xs.length))
  omega
theorem aw_small {E : Int} {xs ys : List Int} (h : caseOkB E xs = true) (hn : ys.length = xs.length) (ha : ∀ k, AwAt xs ys k) : Small ys :=
  ⟨by have := (caseOk_bd h).2.1; omega, fun y hy => by have := aw_range h hn ha y hy; omega⟩
theorem case_at {E : Int} {xs : List Int} (h : caseOkB E xs = true) (k : Nat) (hk : k < xs.length) : 0 ≤ xs[k] ∧ xs[k] ≤ 12 := ((caseOk_iff E xs).1 h).2.2.1 _ (List.getElem_mem hk)

theorem quiet_left2 {P : Program} {f : FuncId} {args : Array Value} {w : World} {a n : Nat} {v : Value}
    (h : Calls P f args (w.drewN (a + n)) fun e w' => e = .returned v ∧ w.drewN (a + n) = w') : Calls P f args (w.drewN (a + n)) fun e w'' => e = .returned v ∧ ∃ m, w'' = w.drewN (a + m) :=
  h.mono fun _ _ ⟨he, hm⟩ => ⟨he, n, hm.symm⟩

set_option maxRecDepth 10000 in
set_option maxHeartbeats 1000000 in
theorem implAwardsOk_any (E : Int) (A : Option Addr) (c : Nat) (xs : List Int) (D : Option Addr) (d : Nat) (ys : List Int) (w : World) (lo hi : Nat) (h : Ints w lo hi A xs) (hh : hi ≤ w.heap.size) (hl : xs.length ≤ 1152921504606846976)
    (lo' hi' : Nat) (h' : Ints w lo' hi' D ys) (hh' : hi' ≤ w.heap.size) (_hl' : ys.length ≤ 1152921504606846976) :
    Calls Try.prog 50 #[.agg #[.int .i64 E, .slice A xs.length c], .slice D ys.length d] w fun e w' => e = .returned (.bool (awardsB E xs ys)) ∧ Below w.heap.size w w' := by
  have k0 := h.alloc hh (.cells #[.int .i64 E, .slice A xs.length c] 31)
  have q0 := h'.alloc hh' (.cells #[.int .i64 E, .slice A xs.length c] 31)
  have a0 := new2 w (.int .i64 E) (.slice A xs.length c) 31
  have B0 := (Below.refl w.heap.size w).alloc (Nat.le_refl _) (.cells #[.int .i64 E, .slice A xs.length c] 31)
  by_cases hok : caseOkB E xs = true
  · have hbd := caseOk_bd hok
    have HO := Lib.hid hok
    clear hok
    by_cases hn : ys.length = xs.length
    · have hne : ((ys.length : Int) != (xs.length : Int)) = false := by simp [hn]
      have hlt4 : ys.length ≤ 4 := by omega
      have HN := Lib.hid hn
      clear hn
      go_enter Try.func50, Try.ntmps50
      go_wp2_with fail
      refine (implCaseOk_yes E A c xs _ _ _ k0 (by rw [hsz]; omega) hl HO.out).mono ?_
      rintro e w1 ⟨rfl, hb1⟩
      rw [hsz] at hb1
      obtain ⟨a1, a1'⟩ := keep2 hb1 a0 (by omega)
      have k1 := k0.below hb1 (by omega)
      have q1 := q0.below hb1 (by omega)
      have B1 := B0.trans (hb1.mono (by omega))
      clear hb1 a0 k0 q0 B0
      go_wp2
      go_loop [20] (fun i => ∃ k : Nat, k ≤ ys.length ∧ i = .int .i64 k ∧ AwTo xs ys k) (fun i => ys.length - (intOf i).toNat)
      case atStart => exact ⟨0, Nat.zero_le _, rfl, AwTo.zero _ _⟩
      case round =>
        obtain ⟨k, hk, rfl, hu⟩ := hrel
        clear hne
        by_cases hlt : k < ys.length
        · have hlt2 : k < xs.length := by have := HN.out; omega
          obtain ⟨b, o, rfl, _, hbh, hc⟩ := k1.at_ hlt2
          obtain ⟨b', o', rfl, _, hbh', hc'⟩ := q1.at_ hlt
          have hv := case_at HO.out k hlt2
          by_cases hx : 0 ≤ ys[k] ∧ ys[k] ≤ 48 * xs[k]
          · have hu' := hu.succ hlt hlt2 hx
            obtain ⟨hx1, hx2⟩ := hx
            clear hu
            go_wp2
            go_round
            case rel => exact ⟨k + 1, by omega, by go_num, hu'⟩
            case measure => simp [intOf]; omega
          · have hbad := Lib.hid (aw_bad E hlt hlt2 hx)
            by_cases hx1 : 0 ≤ ys[k]
            · have hx2 : ¬ ys[k] ≤ 48 * xs[k] := by omega
              clear hx hu
              go_wp2
              go_ret
              exact ⟨ret_bool hbad.out.symm, B1⟩
            · clear hx hu
              go_wp2
              go_ret
              exact ⟨ret_bool hbad.out.symm, B1⟩
        · obtain rfl : k = ys.length := by omega
          have hs := aw_small HO.out HN.out hu.all
          have hend := Lib.hid (aw_end HO.out HN.out hu.all)
          have hwr : IntKind.i64.wrap (48 * E) = 48 * E := IntWalk.i64_in _ (by omega)
          clear hu
          go_wp2
          go_quiet ((go_at_call 53; exact quiet_left (sumOf_any _ _ _ _ _ _ (q1.drewN _) hs)))
          go_wp2
          go_ret
          exact ⟨ret_bool (by rw [hend.out]; rfl), below_drewN B1 _⟩
    · have hne : ((ys.length : Int) != (xs.length : Int)) = true := by simp; omega
      have hbad := Lib.hid (aw_len E hn)
      clear hn
      go_enter Try.func50, Try.ntmps50
      go_wp2_with fail
      refine (implCaseOk_yes E A c xs _ _ _ k0 (by rw [hsz]; omega) hl HO.out).mono ?_
      rintro e w1 ⟨rfl, hb1⟩
      rw [hsz] at hb1
      obtain ⟨a1, a1'⟩ := keep2 hb1 a0 (by omega)
      have B1 := B0.trans (hb1.mono (by omega))
      clear hb1 a0 k0 q0 B0
      go_wp2
      go_ret
      exact ⟨ret_bool hbad.out.symm, B1⟩
  · have hok' : caseOkB E xs = false := by simpa using hok
    have HO := Lib.hid hok'
    have hbad := Lib.hid (aw_case ys hok')
    clear hok hok'
    go_enter Try.func50, Try.ntmps50
    go_wp2_with fail
    refine (implCaseOk_no E A c xs _ _ _ k0 (by rw [hsz]; omega) hl HO.out).mono ?_
    rintro e w1 ⟨rfl, hb1⟩
    rw [hsz] at hb1
    have B1 := B0.trans (hb1.mono (by omega))
    clear hb1 a0 k0 q0 B0
    go_wp2
    go_ret
    exact ⟨ret_bool hbad.out.symm, B1⟩

set_option maxRecDepth 10000 in
set_option maxHeartbeats 1000000 in
theorem specAwardsOk_any (E : Int) (A : Option Addr) (c : Nat) (xs : List Int) (D : Option Addr) (d : Nat) (ys : List Int) (w : World) (lo hi : Nat) (h : Ints w lo hi A xs) (hh : hi ≤ w.heap.size) (hl : xs.length ≤ 1152921504606846976)
    (lo' hi' : Nat) (h' : Ints w lo' hi' D ys) (hh' : hi' ≤ w.heap.size) (_hl' : ys.length ≤ 1152921504606846976) :
    Calls Try.prog 18 #[.agg #[.int .i64 E, .slice A xs.length c], .slice D ys.length d] w fun e w' => e = .returned (.bool (awardsB E xs ys)) ∧ Below w.heap.size w w' := by
  have k0 := h.alloc hh (.cells #[.int .i64 E, .slice A xs.length c] 31)
  have q0 := h'.alloc hh' (.cells #[.int .i64 E, .slice A xs.length c] 31)
  have a0 := new2 w (.int .i64 E) (.slice A xs.length c) 31
  have B0 := (Below.refl w.heap.size w).alloc (Nat.le_refl _) (.cells #[.int .i64 E, .slice A xs.length c] 31)
  by_cases hok : caseOkB E xs = true
  · have hbd := caseOk_bd hok
    have HO := Lib.hid hok
    clear hok
    by_cases hn : ys.length = xs.length
    · have hne : ((ys.length : Int) != (xs.length : Int)) = false := by simp [hn]
      have hlt4 : ys.length ≤ 4 := by omega
      have HN := Lib.hid hn
      clear hn
      go_enter Try.func18, Try.ntmps18
      go_wp2_with fail
      refine (specCaseOk_yes E A c xs _ _ _ k0 (by rw [hsz]; omega) hl HO.out).mono ?_
      rintro e w1 ⟨rfl, hb1⟩
      rw [hsz] at hb1
      obtain ⟨a1, a1'⟩ := keep2 hb1 a0 (by omega)
      have k1 := k0.below hb1 (by omega)
      have q1 := q0.below hb1 (by omega)
      have B1 := B0.trans (hb1.mono (by omega))
      clear hb1 a0 k0 q0 B0
      go_wp2
      go_loopw [5] (fun i wr => ∃ k : Nat, k ≤ ys.length ∧ i = .int .i64 k ∧ AwTo xs ys k ∧ ∃ n, wr = w1.drewN n) (fun i _ => ys.length - (intOf i).toNat)
      case atStart => exact ⟨0, Nat.zero_le _, rfl, AwTo.zero _ _, 0, rfl⟩
      case round =>
        obtain ⟨k, hk, rfl, hu, n, rfl⟩ := hrel
        clear hne
        by_cases hlt : k < ys.length
        · have hlt2 : k < xs.length := by have := HN.out; omega
          obtain ⟨b, o, rfl, _, hbh, hc⟩ := k1.at_ hlt2
          obtain ⟨b', o', rfl, _, hbh', hc'⟩ := q1.at_ hlt
          have hv := case_at HO.out k hlt2
          have hwr : IntKind.i64.wrap (48 * xs[k]) = 48 * xs[k] := IntWalk.i64_in _ (by omega)
          have hk0 : (0 : Int) ≤ (k : Int) := by omega
          have hk1 : (k : Int) < (xs.length : Int) := by omega
          have hk2 : (k : Int) < (ys.length : Int) := by omega
          by_cases hx : 0 ≤ ys[k] ∧ ys[k] ≤ 48 * xs[k]
          · have hu' := hu.succ hlt hlt2 hx
            have hX := Lib.hid hx
            clear hu hx
            go_wp2
            go_quiet ((go_at_call 43; exact quiet_left2 (l1In_yes _ _ _ _ hX.out)))
            go_wp2
            go_roundw
            case rel => exact ⟨k + 1, by omega, by go_num, hu', _, rfl⟩
            case measure => simp [intOf]; omega
          · have hbad := Lib.hid (aw_bad E hlt hlt2 hx)
            have hX := Lib.hid hx
            clear hu hx
            go_wp2
            go_quiet ((go_at_call 43; exact quiet_left2 (l1In_no _ _ _ _ hX.out)))
            go_wp2
            go_ret
            exact ⟨ret_bool hbad.out.symm, (by first | exact below_drewN B1 _ | exact below_drewN (below_drewN B1 _) _)⟩
        · obtain rfl : k = ys.length := by omega
          have hs := aw_small HO.out HN.out hu.all
          have hend := Lib.hid (aw_end HO.out HN.out hu.all)
          have hwr : IntKind.i64.wrap (48 * E) = 48 * E := IntWalk.i64_in _ (by omega)
          clear hu
          go_wp2
          go_quiet ((go_at_call 52; exact quiet_left2 (l1Sum_any _ _ _ _ _ _ (q1.drewN _) hs)))
          go_wp2
          go_ret
          exact ⟨ret_bool (by rw [hend.out]; rfl), (by first | exact below_drewN B1 _ | exact below_drewN (below_drewN B1 _) _)⟩
    · have hne : ((ys.length : Int) != (xs.length : Int)) = true := by simp; omega
      have hbad := Lib.hid (aw_len E hn)
      clear hn
      go_enter Try.func18, Try.ntmps18
      go_wp2_with fail
      refine (specCaseOk_yes E A c xs _ _ _ k0 (by rw [hsz]; omega) hl HO.out).mono ?_
      rintro e w1 ⟨rfl, hb1⟩
      rw [hsz] at hb1
      obtain ⟨a1, a1'⟩ := keep2 hb1 a0 (by omega)
      have B1 := B0.trans (hb1.mono (by omega))
      clear hb1 a0 k0 q0 B0
      go_wp2
      go_ret
      exact ⟨ret_bool hbad.out.symm, B1⟩
  · have hok' : caseOkB E xs = false := by simpa using hok
    have HO := Lib.hid hok'
    have hbad := Lib.hid (aw_case ys hok')
    clear hok hok'
    go_enter Try.func18, Try.ntmps18
    go_wp2_with fail
    refine (specCaseOk_no E A c xs _ _ _ k0 (by rw [hsz]; omega) hl HO.out).mono ?_
    rintro e w1 ⟨rfl, hb1⟩
    rw [hsz] at hb1
    have B1 := B0.trans (hb1.mono (by omega))
    clear hb1 a0 k0 q0 B0
    go_wp2
    go_ret
    exact ⟨ret_bool hbad.out.symm, B1⟩

end Go.Proofs.Ytbegdcnljafloaa
namespace Go.Proofs.Ytbegdcnljafloaa
open Go.RowKit

end Go.Proofs.Ytbegdcnljafloaa
namespace Go.Proofs.Ytbegdcnljafloaa
open Go.RowKit

set_option maxRecDepth 10000 in
set_option maxHeartbeats 1000000 in
theorem implOtherCase_yes (E : Int) (A : Option Addr) (c : Nat) (xs : List Int) (w : World) (lo hi : Nat) (h : Ints w lo hi A xs) (hh : hi ≤ w.heap.size) (hok : caseOkB E xs = true) :
    Calls Try.prog 19 #[.agg #[.int .i64 E, .slice A xs.length c]] w (RetCaseB w (xs.sum - E) (xs) true) := by
  have hs := caseOk_small hok
  have hbd := caseOk_bd hok
  have HO := Lib.hid hok
  clear hok
  have k0 := (h.alloc hh (.cells #[.int .i64 E, .slice A xs.length c] 31)).alloc (by simp; omega) (.cells #[.int .i64 0, .slice none 0 0] 31)
  obtain ⟨a0, r0, f0, B0, hz0⟩ := boxes2 w (.int .i64 E) (.slice A xs.length c) (.int .i64 0) (.slice none 0 0) 31 31
  have HZ := Lib.hid hz0
  clear hz0
  go_enter Try.func19, Try.ntmps19
  go_wp2_with fail
  refine (implCaseOk_yes E A c xs _ _ _ k0 (by simp; omega) (by omega) HO.out).mono ?_
  rintro e w1 ⟨rfl, hb1⟩
  rw [HZ.out] at hb1
  obtain ⟨a1, a1'⟩ := keep2 hb1 a0 (by omega)
  have r1 := keep2 hb1 r0 (by omega)
  have f1 := keep2f hb1 f0 (by omega)
  have k1 := k0.below hb1 (by omega)
  have hz1 : w.heap.size + 2 ≤ w1.heap.size := by rw [← HZ.out]; exact hb1.size
  have B1 := B0.trans (hb1.mono (by omega))
  clear hb1 a0 r0 f0 k0 h
  have hz1' : hi ≤ w1.heap.size := by omega
  have hwr : IntKind.i64.wrap (xs.sum - E) = xs.sum - E := IntWalk.i64_in _ (by omega)
  go_wp2_with fail
  go_region_held3 (fun w' => w'.cell? ⟨w.heap.size, 0, none⟩ = some (.int .i64 E) ∧ w'.cell? ⟨w.heap.size, 1, none⟩ = some (.slice A xs.length c)) (first | exact ⟨a2, a2'⟩ | go_keep)
    (first
      | (go_at_call 53
         refine (sumOf_any A c xs _ lo hi k1.drew hs).mono ?_
         rintro e w' ⟨rfl, rfl⟩)
      | (go_at_call 54
         refine (clone_any A c xs _ lo hi k1.drew (by exact hz1') (by omega) (by omega)).mono ?_
         rintro e w2 ⟨A2, c2, rfl, ho2, hbq2⟩
         have hb2 : Below w1.heap.size w1 w2 := (Below.refl _ w1).drew.trans (hbq2.mono (by exact Nat.le_refl _))
         obtain ⟨a2, a2'⟩ := keep2 hb2 ⟨a1, a1'⟩ (by omega)
         obtain ⟨r2, r2'⟩ := keep2 hb2 r1 (by omega)
         obtain ⟨f2, f2'⟩ := keep2f hb2 f1 (by omega)
         have B2 := B1.trans (hb2.mono (by omega))
         have hz2 := hb2.size))
  go_wp2
  refine bodyPost_ret (v := .tuple #[.agg #[.int .i64 (xs.sum - E), .slice (A2) (xs).length c2], .bool true]) (by simp [results, Try.results19, go_sem, r2, r2']) rfl ?_
  have ho2x : Own w2 (w.heap.size + 2) w2.heap.size (A2) (xs) := ho2.more (by exact hz1) (Nat.le_refl _)
  exact ⟨_, c2, rfl, ((ho2x.set_out (.inl (by simp)) _).set_out (.inl (by simp)) _).more (by omega) (by simp), (B2.setCell (by simp) _).setCell (by simp) _⟩

set_option maxRecDepth 10000 in
set_option maxHeartbeats 400000 in
theorem implOtherCase_no (E : Int) (A : Option Addr) (c : Nat) (xs : List Int) (w : World) (lo hi : Nat) (h : Ints w lo hi A xs) (hh : hi ≤ w.heap.size) (hl : xs.length ≤ 1152921504606846976) (hok : caseOkB E xs = false) :
    Calls Try.prog 19 #[.agg #[.int .i64 E, .slice A xs.length c]] w (RetCaseB w 0 [] false) := by
  have HO := Lib.hid hok
  clear hok
  have k0 := (h.alloc hh (.cells #[.int .i64 E, .slice A xs.length c] 31)).alloc (by simp; omega) (.cells #[.int .i64 0, .slice none 0 0] 31)
  obtain ⟨a0, r0, f0, B0, hz0⟩ := boxes2 w (.int .i64 E) (.slice A xs.length c) (.int .i64 0) (.slice none 0 0) 31 31
  have HZ := Lib.hid hz0
  clear hz0
  go_enter Try.func19, Try.ntmps19
  go_wp2_with fail
  refine (implCaseOk_no E A c xs _ _ _ k0 (by simp; omega) hl HO.out).mono ?_
  rintro e w1 ⟨rfl, hb1⟩
  rw [HZ.out] at hb1
  obtain ⟨r1, r1'⟩ := keep2 hb1 r0 (by omega)
  obtain ⟨f1, f1'⟩ := keep2f hb1 f0 (by omega)
  have B1 := B0.trans (hb1.mono (by omega))
  clear hb1 a0 r0 f0
  go_wp2
  refine bodyPost_ret (v := .tuple #[.agg #[.int .i64 0, .slice none 0 0], .bool false]) (by simp [results, Try.results19, go_sem, r1, r1']) rfl ?_
  exact ⟨none, 0, rfl, Own.nil, (B1.setCell (by simp) _).setCell (by simp) _⟩

theorem implOtherCase_any (E : Int) (A : Option Addr) (c : Nat) (xs : List Int) (w : World) (lo hi : Nat) (h : Ints w lo hi A xs) (hh : hi ≤ w.heap.size) (hl : xs.length ≤ 1152921504606846976) :
    Calls Try.prog 19 #[.agg #[.int .i64 E, .slice A xs.length c]] w (RetCaseB w (otherE E xs) (sameXs E xs) (caseOkB E xs)) := by
  by_cases hok : caseOkB E xs = true
  · have e := implOtherCase_yes E A c xs w lo hi h hh hok
    simpa [otherE, sameXs, hok] using e
  · have hok' : caseOkB E xs = false := by simpa using hok
    have e := implOtherCase_no E A c xs w lo hi h hh hl hok'
    simpa [otherE, sameXs, hok'] using e

end Go.Proofs.Ytbegdcnljafloaa
namespace Go.Proofs.Ytbegdcnljafloaa
open Go.RowKit

end Go.Proofs.Ytbegdcnljafloaa
namespace Go.Proofs.Ytbegdcnljafloaa
open Go.RowKit

def lossesRow (xs ys : List Int) : List Int := List.zipWith (fun x y => 48 * x - y) xs ys
theorem lossesRow_length {xs ys : List Int} (h : ys.length = xs.length) : (lossesRow xs ys).length = ys.length := by simp [lossesRow]; omega
theorem lossesRow_at {xs ys : List Int} (k : Nat) (h1 : k < xs.length) (h2 : k < ys.length) : (lossesRow xs ys)[k]'(by simp [lossesRow]; omega) = 48 * xs[k] - ys[k] := by simp [lossesRow]
noncomputable def losses (E : Int) (xs ys : List Int) : List Int := if awardsB E xs ys = true then lossesRow xs ys else []
theorem losses_len (E : Int) (xs ys : List Int) : (losses E xs ys).length ≤ xs.length := by
  unfold losses
  split
  · simp [lossesRow]; omega
  · simp

set_option maxRecDepth 10000 in
set_option maxHeartbeats 1000000 in
theorem implLossesOf_yes (E : Int) (A : Option Addr) (c : Nat) (xs : List Int) (D : Option Addr) (d : Nat) (ys : List Int) (w : World) (lo hi : Nat) (h : Ints w lo hi A xs) (hh : hi ≤ w.heap.size) (hl : xs.length ≤ 1152921504606846976)
    (lo' hi' : Nat) (h' : Ints w lo' hi' D ys) (hh' : hi' ≤ w.heap.size) (hl' : ys.length ≤ 1152921504606846976) (hok : awardsB E xs ys = true) :
    Calls Try.prog 20 #[.agg #[.int .i64 E, .slice A xs.length c], .slice D ys.length d] w (RetInts w (lossesRow xs ys)) := by
  obtain ⟨i0, hi0, hq0, hq1, hq2⟩ := info_parts info_int
  have hA := (awardsB_iff E xs ys).1 hok
  have hbd := caseOk_bd hA.1
  have HC := Lib.hid hA.1
  have HN := Lib.hid hA.2.1
  have hy4 : ys.length ≤ 4 := by have e := hA.2.1; omega
  have hrg := Lib.hid (aw_range hA.1 hA.2.1 hA.2.2.1)
  have HO := Lib.hid hok
  clear hok hA
  have hRl := lossesRow_length HN.out
  have HRl := Lib.hid hRl
  clear hRl
  have k0 := h.alloc hh (.cells #[.int .i64 E, .slice A xs.length c] 31)
  have q0 := h'.alloc hh' (.cells #[.int .i64 E, .slice A xs.length c] 31)
  have a0 := new2 w (.int .i64 E) (.slice A xs.length c) 31
  have B0 := (Below.refl w.heap.size w).alloc (Nat.le_refl _) (.cells #[.int .i64 E, .slice A xs.length c] 31)
  go_enter Try.func20, Try.ntmps20
  go_wp2_with fail
  refine (implAwardsOk_any E A c xs D d ys _ _ _ k0 (by rw [hsz]; omega) hl _ _ q0 (by rw [hsz]; omega) hl').mono ?_
  rintro e w1 ⟨he1, hb1⟩
  rw [HO.out] at he1
  subst he1
  rw [hsz] at hb1
  obtain ⟨a1, a1'⟩ := keep2 hb1 a0 (by omega)
  have k1 := k0.below hb1 (by omega)
  have q1 := q0.below hb1 (by omega)
  have hz1 : w.heap.size + 1 ≤ w1.heap.size := by rw [← hsz w (.cells #[.int .i64 E, .slice A xs.length c] 31)]; exact hb1.size
  have B1 := B0.trans (hb1.mono (by omega))
  clear hb1 a0 k0 q0 h h' B0
  have hRl : (lossesRow xs ys).length = ys.length := lossesRow_length HN.out
  have HRl := Lib.hid hRl
  clear hRl
  go_wp2_with (at_make; refine wpList_make_full _ rfl _ _ _ rfl w1.heap.size 3 i0 _ 1 Try.underlying29 hi0 hq0 hq1 .i64 .i64 ys.length ys.length ys.length rfl rfl rfl rfl (by rw [hq2]; omega) (by unfold maxLen; omega) (Nat.le_refl _) ?_; intro wm hownm hgrowm; have bm : Below w1.heap.size w1 wm := (Below.refl _ _).grown hgrowm (Nat.le_refl _) (by intro k hk; cases hk); have hownm' := fill_start (R := lossesRow xs ys) HRl.out hownm; clear hownm hgrowm; obtain ⟨am, am'⟩ := keep2 bm ⟨a1, a1'⟩ (by omega); have zm := bm.size)
  go_loopw [17] (fun i wr => ∃ k : Nat, k ≤ ys.length ∧ i = .int .i64 k ∧ wr.ownsRow w1.heap.size 3 1 (.slice (some ⟨w1.heap.size, 0, none⟩) ys.length ys.length) ys.length (ints (fillTo (lossesRow xs ys) k)) ∧ Below w1.heap.size w1 wr) (fun i _ => ys.length - (intOf i).toNat)
  case atStart => exact ⟨0, Nat.zero_le _, rfl, hownm', bm⟩
  case round =>
    obtain ⟨k, hk, rfl, hown, hbel⟩ := hrel
    clear hownm' bm
    obtain ⟨ar, ar'⟩ := keep2 hbel ⟨a1, a1'⟩ (by omega)
    have zr := hbel.size
    by_cases hlt : k < ys.length
    · have hlt2 : k < xs.length := by have := HN.out; omega
      obtain ⟨b, o, rfl, _, hbh, hc⟩ := (k1.below hbel (by omega)).at_ hlt2
      obtain ⟨b', o', rfl, _, hbh', hc'⟩ := (q1.below hbel (by omega)).at_ hlt
      have hv := case_at HC.out k hlt2
      have hvy := hrg.out _ (List.getElem_mem hlt)
      obtain ⟨hd, hf⟩ := fill_cell hown HRl.out hlt
      have hst := fill_more hown (by rw [HRl.out]; exact hlt) (48 * xs[k] - ys[k]) (lossesRow_at k hlt2 hlt)
      have hbel' := hbel.setCell (p := ⟨w1.heap.size, k, none⟩) (Nat.le_refl _) (.int .i64 (48 * xs[k] - ys[k]))
      have H := Lib.hid (And.intro hst hbel')
      clear hst hbel' hown hbel
      go_wp2
      go_roundw
      case rel => exact ⟨k + 1, by omega, by go_num, H.out.1, H.out.2⟩
      case measure => simp [intOf]; omega
    · obtain rfl : k = ys.length := by omega
      have how := fill_end hown HRl.out
      have Br := B1.trans (hbel.mono (by omega))
      have H := Lib.hid (And.intro how Br)
      clear how Br hown hbel
      go_wp2
      go_ret
      exact ⟨some ⟨w1.heap.size, 0, none⟩, ys.length, by rw [HRl.out]; rfl, H.out.1.more (by omega) (Nat.le_refl _), H.out.2⟩

set_option maxRecDepth 10000 in
set_option maxHeartbeats 400000 in
theorem implLossesOf_no (E : Int) (A : Option Addr) (c : Nat) (xs : List Int) (D : Option Addr) (d : Nat) (ys : List Int) (w : World) (lo hi : Nat) (h : Ints w lo hi A xs) (hh : hi ≤ w.heap.size) (hl : xs.length ≤ 1152921504606846976)
    (lo' hi' : Nat) (h' : Ints w lo' hi' D ys) (hh' : hi' ≤ w.heap.size) (hl' : ys.length ≤ 1152921504606846976) (hok : awardsB E xs ys = false) :
    Calls Try.prog 20 #[.agg #[.int .i64 E, .slice A xs.length c], .slice D ys.length d] w (RetInts w []) := by
  have HO := Lib.hid hok
  clear hok
  have k0 := h.alloc hh (.cells #[.int .i64 E, .slice A xs.length c] 31)
  have q0 := h'.alloc hh' (.cells #[.int .i64 E, .slice A xs.length c] 31)
  have B0 := (Below.refl w.heap.size w).alloc (Nat.le_refl _) (.cells #[.int .i64 E, .slice A xs.length c] 31)
  go_enter Try.func20, Try.ntmps20
  go_wp2_with fail
  refine (implAwardsOk_any E A c xs D d ys _ _ _ k0 (by rw [hsz]; omega) hl _ _ q0 (by rw [hsz]; omega) hl').mono ?_
  rintro e w1 ⟨he1, hb1⟩
  rw [HO.out] at he1
  subst he1
  rw [hsz] at hb1
  have B1 := B0.trans (hb1.mono (by omega))
  clear hb1
  go_wp2
  go_ret
  exact ⟨none, 0, rfl, Own.nil, B1⟩

theorem implLossesOf_any (E : Int) (A : Option Addr) (c : Nat) (xs : List Int) (D : Option Addr) (d : Nat) (ys : List Int) (w : World) (lo hi : Nat) (h : Ints w lo hi A xs) (hh : hi ≤ w.heap.size) (hl : xs.length ≤ 1152921504606846976)
    (lo' hi' : Nat) (h' : Ints w lo' hi' D ys) (hh' : hi' ≤ w.heap.size) (hl' : ys.length ≤ 1152921504606846976) :
    Calls Try.prog 20 #[.agg #[.int .i64 E, .slice A xs.length c], .slice D ys.length d] w (RetInts w (losses E xs ys)) := by
  by_cases hok : awardsB E xs ys = true
  · have e := implLossesOf_yes E A c xs D d ys w lo hi h hh hl lo' hi' h' hh' hl' hok
    simpa [losses, hok] using e
  · have hok' : awardsB E xs ys = false := by simpa using hok
    have e := implLossesOf_no E A c xs D d ys w lo hi h hh hl lo' hi' h' hh' hl' hok'
    simpa [losses, hok'] using e

end Go.Proofs.Ytbegdcnljafloaa
namespace Go.Proofs.Ytbegdcnljafloaa
open Go.RowKit

end Go.Proofs.Ytbegdcnljafloaa
namespace Go.Proofs.Ytbegdcnljafloaa
open Go.RowKit

theorem rest_step {w2 w4 wr : World} {O g cp k : Nat} {v : Value} {R : List Int} {rE V : Int} (hO : O = w2.heap.size) (hk : k < R.length) (hV : R[k] = V) (bx4 : Box w4 O (.int .i64 rE) v) (hbel : Below O w2 wr)
    (ownA : (wr.alloc (.cells #[.int .i64 V] 3)).drew.ownsRow (O + 1) 3 1 v k (ints (R.take k))) (hO2 : O < wr.heap.size)
    (hown4 : w4.ownsRow (O + 1) 3 1 (.slice (some ⟨g, 0, none⟩) (k + 1) cp) (k + 1) (ints (R.take k) ++ [.int .i64 V])) (hgrow4 : (wr.alloc (.cells #[.int .i64 V] 3)).drew.grownBy w4 v.ownBlock) :
    Box (w4.setCell ⟨O, 1, none⟩ (.slice (some ⟨g, 0, none⟩) (k + 1) cp)) O (.int .i64 rE) (.slice (some ⟨g, 0, none⟩) (k + 1) cp) ∧
    (w4.setCell ⟨O, 1, none⟩ (.slice (some ⟨g, 0, none⟩) (k + 1) cp)).ownsRow (O + 1) 3 1 (.slice (some ⟨g, 0, none⟩) (k + 1) cp) (R.take (k + 1)).length (ints (R.take (k + 1))) ∧
    Below O w2 (w4.setCell ⟨O, 1, none⟩ (.slice (some ⟨g, 0, none⟩) (k + 1) cp)) := by
  refine ⟨bx4.set1 _, ?_, ?_⟩
  · exact append_one hk V hV rfl (ownsRow_setCell_below hown4 (by show O < _; omega) _)
  · have h1 := ((hbel.alloc (by omega) (.cells #[.int .i64 V] 3)).drew).grown hgrow4 (by show O ≤ (wr.alloc _).heap.size; rw [hsz]; omega) (fun i hi => by have := (ownA.lt i hi).1; omega)
    exact h1.setCell (by show O ≤ O; omega) _

def RestMid (w2 : World) (rE : Int) (R : List Int) (k : Nat) (wr : World) : Prop :=
  ∃ v, Box wr w2.heap.size (.int .i64 rE) v ∧ wr.ownsRow (w2.heap.size + 1) 3 1 v (R.take k).length (ints (R.take k)) ∧ Below w2.heap.size w2 wr
theorem rest_start (w2 : World) (rE : Int) (R : List Int) : RestMid w2 rE R 0 (w2.alloc (.cells #[.int .i64 rE, .slice none 0 0] 31)).drew := by
  have b := Box.new w2 (.int .i64 rE) (.slice none 0 0) 31
  exact ⟨.slice none 0 0, ⟨b.c0, b.c1, b.f0, b.f1, b.lt⟩, World.ownsRow_nil _ _ _ _, ((Below.refl _ _).alloc (Nat.le_refl _) _).drew⟩

end Go.Proofs.Ytbegdcnljafloaa
namespace Go.Proofs.Ytbegdcnljafloaa
open Go.RowKit

theorem rest_is_cut (E : Int) (xs : List Int) : restRow E xs = cutRow (xs.sum - E) xs := by
  simp only [restRow, cutRow]
  apply List.map_congr_left
  intro x _
  omega
theorem rest_sum (E : Int) (xs : List Int) : (rightsRow E xs).sum + (cutRow (xs.sum - E) xs).sum = xs.sum :=
  sum_parts (fun x => max 0 (E - (xs.sum - x))) (fun x => min x (xs.sum - E)) (fun x => by omega) xs
theorem rest_back (E : Int) (xs : List Int) : (cutRow (xs.sum - E) xs).sum - (E - (rightsRow E xs).sum) = xs.sum - E := by
  have := rest_sum E xs; omega
theorem rest_ok {E : Int} {xs : List Int} (h : caseOkB E xs = true) : caseOkB (E - (rightsRow E xs).sum) (cutRow (xs.sum - E) xs) = true := by
  have h1 := other_ok (cut_ok (other_ok h))
  have h2 := rest_sum E xs
  rw [show (cutRow (xs.sum - E) xs).sum - (xs.sum - E) = E - (rightsRow E xs).sum by omega] at h1
  exact h1
theorem sum_zero : ∀ xs : List Int, (∀ x ∈ xs, x = 0) → xs.sum = 0
  | [], _ => by simp
  | x :: xs, h => by
    have h1 := h x (by simp)
    have h2 := sum_zero xs fun y hy => h y (by simp [hy])
    simp only [List.sum_cons]
    omega
theorem rest_none (E : Int) (xs : List Int) : (rightsRow (E - (rightsRow E xs).sum) (cutRow (xs.sum - E) xs)).sum = 0 := by
  have h2 := rest_sum E xs
  apply sum_zero
  intro y hy
  obtain ⟨z, hz, rfl⟩ := List.mem_map.1 hy
  obtain ⟨x, hx, rfl⟩ := List.mem_map.1 hz
  omega

theorem otherOfRest (E : Int) (A : Option Addr) (c : Nat) (xs : List Int) (w : World) (lo hi : Nat) (h : Ints w lo hi A (cutRow (xs.sum - E) xs)) (hh : hi ≤ w.heap.size) (hok : caseOkB (E - (rightsRow E xs).sum) (cutRow (xs.sum - E) xs) = true) :
    Calls Try.prog 19 #[.agg #[.int .i64 (E - (rightsRow E xs).sum), .slice A (cutRow (xs.sum - E) xs).length c]] w (RetCaseB w (xs.sum - E) (cutRow (xs.sum - E) xs) true) := by
  have e := implOtherCase_yes (E - (rightsRow E xs).sum) A c (cutRow (xs.sum - E) xs) w lo hi h hh hok
  rw [rest_back] at e
  exact e

end Go.Proofs.Ytbegdcnljafloaa
namespace Go.Proofs.Ytbegdcnljafloaa
open Go.RowKit

end Go.Proofs.Ytbegdcnljafloaa
namespace Go.Proofs.Ytbegdcnljafloaa
open Go.RowKit

def srt (xs : List Int) : List Int := xs.mergeSort fun x y => decide (x ≤ y)
theorem srt_perm (xs : List Int) : (srt xs).Perm xs := List.mergeSort_perm _ _
theorem srt_sorted (xs : List Int) : (srt xs).Pairwise (· ≤ ·) := by
  have h := List.pairwise_mergeSort (le := fun x y : Int => decide (x ≤ y)) (by intro a b c h1 h2; simp at *; omega) (by intro a b; simp; omega) xs
  exact h.imp (by intro a b h; simpa using h)
theorem srt_length (xs : List Int) : (srt xs).length = xs.length := (srt_perm xs).length_eq
theorem sum_perm {xs ys : List Int} (h : xs.Perm ys) : xs.sum = ys.sum := by
  induction h with
  | nil => rfl
  | cons x _ ih => simp [ih]
  | swap x y l => simp; omega
  | trans _ _ h1 h2 => exact h1.trans h2
theorem srt_sum (xs : List Int) : (srt xs).sum = xs.sum := sum_perm (srt_perm xs)
theorem mem_srt {xs : List Int} {x : Int} : x ∈ srt xs ↔ x ∈ xs := (srt_perm xs).mem_iff
theorem sorted_unique : ∀ {xs ys : List Int}, xs.Perm ys → xs.Pairwise (· ≤ ·) → ys.Pairwise (· ≤ ·) → xs = ys
  | [], ys, h, _, _ => by simpa using h.symm
  | x :: xs, [], h, _, _ => absurd h.length_eq (by simp)
  | x :: xs, y :: ys, h, hx, hy => by
    have h1 := List.pairwise_cons.1 hx
    have h2 := List.pairwise_cons.1 hy
    have e : x = y := by
      have m1 : x ∈ y :: ys := h.mem_iff.1 (by simp)
      have m2 : y ∈ x :: xs := h.mem_iff.2 (by simp)
      rcases List.mem_cons.1 m1 with e | m1
      · exact e
      · rcases List.mem_cons.1 m2 with e | m2
        · exact e.symm
        · have := h1.1 y m2; have := h2.1 x m1; omega
    subst e
    rw [sorted_unique (List.Perm.cons_inv h) h1.2 h2.2]
theorem srt_of {xs ys : List Int} (h : ys.Perm xs) (hs : ys.Pairwise (· ≤ ·)) : srt xs = ys := sorted_unique ((srt_perm xs).trans h.symm) (srt_sorted xs) hs

/-- The level up to which numbers in order are met by what is left, and whether it is whole. -/
def lev : List Int → Int → Int → Int × Bool
  | [], _, lv => (lv, true)
  | v :: vs, left, _ => if left < v * ((vs.length : Int) + 1) then (left / ((vs.length : Int) + 1), left % ((vs.length : Int) + 1) == 0) else lev vs (left - v) v
/-- What each of them gets. -/
def lrow : List Int → Int → List Int
  | [], _ => []
  | v :: vs, left => if left < v * ((vs.length : Int) + 1) then List.replicate (vs.length + 1) (left / ((vs.length : Int) + 1)) else v :: lrow vs (left - v)
theorem lrow_length : ∀ (S : List Int) (left : Int), (lrow S left).length = S.length
  | [], _ => rfl
  | v :: vs, left => by unfold lrow; split <;> simp [lrow_length vs]
theorem lev_ge : ∀ (S : List Int) (left lv : Int), S.Pairwise (· ≤ ·) → (∀ x ∈ S, lv ≤ x) → lv * (S.length : Int) ≤ left → lv ≤ (lev S left lv).1
  | [], _, _, _, _, _ => Int.le_refl _
  | v :: vs, left, lv, hs, hl, hle => by
    have h1 := List.pairwise_cons.1 hs
    have hv := hl v (by simp)
    unfold lev
    split
    · show lv ≤ left / ((vs.length : Int) + 1)
      rw [Int.le_ediv_iff_mul_le (by omega)]
      simpa using hle
    · rename_i hg
      have := lev_ge vs (left - v) v h1.2 h1.1 (by
        have e : v * ((vs.length : Int) + 1) = v * (vs.length : Int) + v := by rw [Int.mul_add]; omega
        omega)
      omega
theorem lrow_eq : ∀ (S : List Int) (left lv : Int), S.Pairwise (· ≤ ·) → lrow S left = S.map (fun x => min x (lev S left lv).1)
  | [], _, _, _ => rfl
  | v :: vs, left, _, hs => by
    have h1 := List.pairwise_cons.1 hs
    unfold lrow lev
    split
    · rename_i hg
      have hlt : left / ((vs.length : Int) + 1) < v := Int.ediv_lt_of_lt_mul (by omega) hg
      show _ = List.map (fun x => min x (left / ((vs.length : Int) + 1))) (v :: vs)
      apply List.ext_getElem (by simp)
      intro j hj hj'
      rw [List.getElem_replicate, List.getElem_map]
      have hm : (v :: vs)[j]'(by simpa using hj') ∈ v :: vs := List.getElem_mem _
      have : v ≤ (v :: vs)[j]'(by simpa using hj') := by
        rcases List.mem_cons.1 hm with e | e
        · omega
        · exact h1.1 _ e
      omega
    · rename_i hg
      have e : v * ((vs.length : Int) + 1) = v * (vs.length : Int) + v := by rw [Int.mul_add]; omega
      have h2 := lev_ge vs (left - v) v h1.2 h1.1 (by omega)
      rw [List.map_cons, ← lrow_eq vs (left - v) v h1.2]
      congr 1
      omega
theorem sum_same (n : Nat) (x : Int) : (List.replicate n x).sum = (n : Int) * x := by
  induction n with
  | zero => simp
  | succ n ih => rw [List.replicate_succ, List.sum_cons, ih, Int.natCast_add, Int.add_mul]; simp; omega
theorem lrow_sum : ∀ (S : List Int) (left lv : Int), left ≤ S.sum → 0 ≤ left → (∀ x ∈ S, 0 ≤ x) → (lev S left lv).2 = true → (lrow S left).sum = left
  | [], left, _, h1, h2, _, _ => by simp [lrow] at *; omega
  | v :: vs, left, lv, h1, h2, h3, h => by
    unfold lrow
    unfold lev at h
    split
    · rename_i hg
      rw [if_pos hg] at h
      have h' : left % ((vs.length : Int) + 1) = 0 := by simpa using h
      have hd := Int.mul_ediv_add_emod left ((vs.length : Int) + 1)
      rw [h'] at hd
      rw [sum_same]
      simp
      omega
    · rename_i hg
      rw [if_neg hg] at h
      have hv := h3 v (by simp)
      have e : v * ((vs.length : Int) + 1) = v * (vs.length : Int) + v := by rw [Int.mul_add]; omega
      have h0 : 0 ≤ v * (vs.length : Int) := Int.mul_nonneg hv (by omega)
      rw [List.sum_cons, lrow_sum vs (left - v) v (by simp at h1; omega) (by omega) (fun x hx => h3 x (by simp [hx])) h]
      omega
theorem lev_whole : ∀ (S : List Int) (left lv : Int), S.length ≤ 4 → (∀ x ∈ S, x % 48 = 0) → left % 48 = 0 → (lev S left lv).2 = true
  | [], _, _, _, _, _ => rfl
  | v :: vs, left, lv, hn, hx, hl => by
    unfold lev
    split
    · have h4 : vs.length ≤ 3 := by simpa using hn
      show (left % ((vs.length : Int) + 1) == 0) = true
      rw [beq_iff_eq]
      rcases (show vs.length = 0 ∨ vs.length = 1 ∨ vs.length = 2 ∨ vs.length = 3 from by omega) with e | e | e | e <;> rw [e] <;> simp <;> omega
    · exact lev_whole vs (left - v) v (by simp at hn; omega) (fun x h => hx x (by simp [h])) (by have := hx v (by simp); omega)
theorem lev_bd : ∀ (S : List Int) (left lv M : Int), 0 ≤ left → 0 ≤ lv → lv ≤ M → (∀ x ∈ S, 0 ≤ x ∧ x ≤ M) → left ≤ S.sum → 0 ≤ (lev S left lv).1 ∧ (lev S left lv).1 ≤ M
  | [], _, _, _, _, h1, h2, _, _ => ⟨h1, h2⟩
  | v :: vs, left, lv, M, h0, h1, h2, hx, hs => by
    have hv := hx v (by simp)
    unfold lev
    split
    · rename_i hg
      exact ⟨Int.ediv_nonneg h0 (by omega), by have : left / ((vs.length : Int) + 1) < v := Int.ediv_lt_of_lt_mul (by omega) hg; show left / ((vs.length : Int) + 1) ≤ M; omega⟩
    · rename_i hg
      have e : v * ((vs.length : Int) + 1) = v * (vs.length : Int) + v := by rw [Int.mul_add]; omega
      have h5 : 0 ≤ v * (vs.length : Int) := Int.mul_nonneg hv.1 (by omega)
      exact lev_bd vs (left - v) v M (by omega) hv.1 hv.2 (fun x h => hx x (by simp [h])) (by simp at hs; omega)
theorem lev_some : ∀ (S : List Int) (left lv : Int), S.Pairwise (· ≤ ·) → 0 < S.length → ∃ x ∈ lrow S left, x = (lev S left lv).1
  | [v], left, lv, _, _ => by
    refine ⟨_, ?_, rfl⟩
    unfold lrow lev lev
    split <;> simp [lrow]
  | v :: u :: vs, left, lv, hs, _ => by
    have h1 := List.pairwise_cons.1 hs
    unfold lrow lev
    split
    · exact ⟨_, by simp, rfl⟩
    · obtain ⟨x, hx, e⟩ := lev_some (u :: vs) (left - v) v h1.2 (by simp)
      exact ⟨x, by simp [hx], e⟩
def evenLev (xs : List Int) (e : Int) : Int := (lev (srt xs) e 0).1
def evenOk (xs : List Int) (e : Int) : Bool := (lev (srt xs) e 0).2
def evenOf (xs : List Int) (e : Int) : List Int := xs.map fun x => min x (evenLev xs e)
theorem evenOf_length (xs : List Int) (e : Int) : (evenOf xs e).length = xs.length := by simp [evenOf]
theorem evenOf_perm (xs : List Int) (e : Int) : (lrow (srt xs) e).Perm (evenOf xs e) := by
  rw [lrow_eq _ _ 0 (srt_sorted xs)]
  exact (srt_perm xs).map _
theorem evenOf_sum {xs : List Int} {e : Int} (h0 : 0 ≤ e) (h1 : e ≤ xs.sum) (h2 : ∀ x ∈ xs, 0 ≤ x) (h : evenOk xs e = true) : (evenOf xs e).sum = e := by
  rw [← sum_perm (evenOf_perm xs e)]
  exact lrow_sum _ _ 0 (by rw [srt_sum]; exact h1) h0 (fun x hx => h2 x (mem_srt.1 hx)) h
theorem evenLev_bd {xs : List Int} {e M : Int} (h0 : 0 ≤ e) (h1 : e ≤ xs.sum) (hM : 0 ≤ M) (h2 : ∀ x ∈ xs, 0 ≤ x ∧ x ≤ M) : 0 ≤ evenLev xs e ∧ evenLev xs e ≤ M :=
  lev_bd _ _ 0 M h0 (by omega) hM (fun x hx => h2 x (mem_srt.1 hx)) (by rw [srt_sum]; exact h1)
theorem evenLev_ge {xs : List Int} {e : Int} : ∀ x ∈ evenOf xs e, x ≤ evenLev xs e := by
  intro x hx
  obtain ⟨y, _, rfl⟩ := List.mem_map.1 hx
  omega
theorem evenLev_in {xs : List Int} {e : Int} (h : 0 < xs.length) : evenLev xs e ∈ evenOf xs e := by
  obtain ⟨x, hx, e1⟩ := lev_some (srt xs) e 0 (srt_sorted xs) (by rw [srt_length]; exact h)
  have := (evenOf_perm xs e).mem_iff.1 hx
  rw [e1] at this
  exact this

/-- What numbers lack up to t. -/
def lack (t : Int) (xs : List Int) : Int := (xs.map fun x => max (t - x) 0).sum
theorem lack_perm {xs ys : List Int} (h : xs.Perm ys) (t : Int) : lack t xs = lack t ys := sum_perm (h.map _)
theorem lack_nonneg (t : Int) : ∀ xs : List Int, 0 ≤ lack t xs
  | [] => by simp [lack]
  | x :: xs => by have := lack_nonneg t xs; simp only [lack, List.map_cons, List.sum_cons] at *; omega
theorem lack_cons (t x : Int) (xs : List Int) : lack t (x :: xs) = max (t - x) 0 + lack t xs := by simp [lack]
theorem pre_ge (t : Int) : ∀ (S : List Int) (k : Nat), k ≤ S.length → (k : Int) * t - lack t S ≤ (S.take k).sum
  | S, 0, _ => by have := lack_nonneg t S; simp; omega
  | x :: S, k + 1, h => by
    have := pre_ge t S k (by simpa using h)
    rw [lack_cons, List.take_succ_cons, List.sum_cons, Int.natCast_add, Int.add_mul]
    simp only [Int.natCast_one, Int.one_mul]
    omega
theorem pre_le (t : Int) : ∀ (S : List Int) (k : Nat), k ≤ S.length → (∀ x ∈ S.take k, x ≤ t) → (∀ x ∈ S.drop k, t ≤ x) → (S.take k).sum ≤ (k : Int) * t - lack t S
  | S, 0, _, _, h2 => by
    have : lack t S = 0 := by
      unfold lack
      have e : S.map (fun x => max (t - x) 0) = List.replicate S.length 0 := by
        rw [List.eq_replicate_iff]
        refine ⟨by simp, fun b hb => ?_⟩
        obtain ⟨x, hx, rfl⟩ := List.mem_map.1 hb
        have := h2 x (by simpa using hx)
        omega
      rw [e, sum_same]
      simp
    simp [this]
  | x :: S, k + 1, h, h1, h2 => by
    have := pre_le t S k (by simpa using h) (fun y hy => h1 y (by simp [hy])) (fun y hy => h2 y (by simpa using hy))
    have hx := h1 x (by simp)
    rw [lack_cons, List.take_succ_cons, List.sum_cons, Int.natCast_add, Int.add_mul]
    simp only [Int.natCast_one, Int.one_mul]
    omega
def More (a b : List Int) : Prop := a.length = b.length ∧ 1 ≤ a.length ∧ a.length ≤ 4 ∧ a.sum = b.sum ∧ ∀ k, k ≤ a.length → ((srt b).take k).sum ≤ ((srt a).take k).sum
theorem sorted_take_le {S : List Int} (h : S.Pairwise (· ≤ ·)) (k : Nat) (hk : k < S.length) : (∀ x ∈ S.take (k + 1), x ≤ S[k]) ∧ ∀ x ∈ S.drop (k + 1), S[k] ≤ x := by
  rw [List.pairwise_iff_getElem] at h
  constructor
  · intro x hx
    obtain ⟨j, hj, rfl⟩ := List.mem_iff_getElem.1 hx
    rw [List.getElem_take]
    have : j < k + 1 := by simp at hj; omega
    rcases Nat.lt_or_ge j k with h1 | h1
    · exact h j k (by omega) hk h1
    · obtain rfl : j = k := by omega
      exact Int.le_refl _
  · intro x hx
    obtain ⟨j, hj, rfl⟩ := List.mem_iff_getElem.1 hx
    rw [List.getElem_drop]
    exact h k (k + 1 + j) hk (by simp at hj; omega) (by omega)
theorem more_of {a b : List Int} (hl : a.length = b.length) (h1 : 1 ≤ a.length) (h4 : a.length ≤ 4) (hs : a.sum = b.sum) (h : ∀ t, lack t a ≤ lack t b) : More a b := by
  refine ⟨hl, h1, h4, hs, fun k hk => ?_⟩
  cases k with
  | zero => simp
  | succ k =>
    have hb : k < (srt b).length := by rw [srt_length]; omega
    obtain ⟨p1, p2⟩ := sorted_take_le (srt_sorted b) k hb
    have q1 := pre_le (srt b)[k] (srt b) (k + 1) hb p1 p2
    have q2 := pre_ge (srt b)[k] (srt a) (k + 1) (by rw [srt_length]; omega)
    have q3 := h (srt b)[k]
    rw [lack_perm (srt_perm b)] at q1
    rw [lack_perm (srt_perm a)] at q2
    omega
theorem lack_all : ∀ (t : Int) (xs : List Int), (∀ x ∈ xs, x ≤ t) → lack t xs = (xs.length : Int) * t - xs.sum
  | t, [], _ => by simp [lack]
  | t, x :: xs, h => by
    have := h x (by simp)
    rw [lack_cons, lack_all t xs fun y hy => h y (by simp [hy]), List.length_cons, List.sum_cons, Int.natCast_add, Int.add_mul]
    simp only [Int.natCast_one, Int.one_mul]
    omega
theorem lack_ge (t : Int) : ∀ (xs : List Int), (xs.length : Int) * t - xs.sum ≤ lack t xs
  | [] => by simp [lack]
  | x :: xs => by
    have := lack_ge t xs
    rw [lack_cons, List.length_cons, List.sum_cons, Int.natCast_add, Int.add_mul]
    simp only [Int.natCast_one, Int.one_mul]
    omega
theorem lack_mono (t : Int) : ∀ (a b : List Int), a.length = b.length → (∀ j, (h : j < a.length) → (h' : j < b.length) → max (t - a[j]) 0 ≤ max (t - b[j]) 0) → lack t a ≤ lack t b
  | [], [], _, _ => Int.le_refl _
  | x :: a, y :: b, hl, h => by
    have h0 := h 0 (by simp) (by simp)
    have := lack_mono t a b (by simpa using hl) fun j hj hj' => h (j + 1) (by simpa using hj) (by simpa using hj')
    simp only [List.getElem_cons_zero] at h0
    rw [lack_cons, lack_cons]
    omega
theorem even_more {xs b : List Int} {e : Int} (h0 : 0 ≤ e) (h1 : e ≤ xs.sum) (h2 : ∀ x ∈ xs, 0 ≤ x) (hok : evenOk xs e = true) (hn : 1 ≤ xs.length) (h4 : xs.length ≤ 4)
    (hl : b.length = xs.length) (hb : ∀ j, (h : j < b.length) → (h' : j < xs.length) → b[j] ≤ xs[j]) (hs : b.sum = e) : More (evenOf xs e) b := by
  refine more_of (by rw [evenOf_length, hl]) (by rw [evenOf_length]; exact hn) (by rw [evenOf_length]; exact h4) (by rw [evenOf_sum h0 h1 h2 hok, hs]) fun t => ?_
  by_cases ht : t ≤ evenLev xs e
  · refine lack_mono t _ _ (by rw [evenOf_length, hl]) fun j hj hj' => ?_
    have := hb j hj' (by rw [← hl]; exact hj')
    simp only [evenOf, List.getElem_map]
    omega
  · rw [lack_all t _ fun x hx => by have := evenLev_ge x hx; omega, evenOf_length, evenOf_sum h0 h1 h2 hok, ← hs, ← hl]
    exact lack_ge t b
theorem more_refl {a : List Int} (h1 : 1 ≤ a.length) (h4 : a.length ≤ 4) : More a a := ⟨rfl, h1, h4, rfl, fun _ _ => Int.le_refl _⟩
theorem more_perm {a b : List Int} (h : a.Perm b) (h1 : 1 ≤ a.length) (h4 : a.length ≤ 4) : More a b :=
  more_of h.length_eq h1 h4 (sum_perm h) fun t => by rw [lack_perm h]; exact Int.le_refl _
theorem more_flat {b : List Int} {m : Int} (h1 : 1 ≤ b.length) (h4 : b.length ≤ 4) (hm : b.sum = (b.length : Int) * m) : More (List.replicate b.length m) b := by
  refine more_of (by simp) (by simpa using h1) (by simpa using h4) (by rw [sum_same, hm]) fun t => ?_
  by_cases ht : t ≤ m
  · have e : lack t (List.replicate b.length m) = 0 := by
      unfold lack
      rw [List.map_replicate, sum_same]
      have : max (t - m) 0 = 0 := by omega
      rw [this]; simp
    rw [e]; exact lack_nonneg t b
  · rw [lack_all t _ fun x hx => by rw [(List.mem_replicate.1 hx).2]; omega, sum_same]
    have := lack_ge t b
    rw [List.length_replicate]
    omega
theorem min_sum_ge (v L : Int) (hL : v ≤ L) : ∀ (vs : List Int), (∀ x ∈ vs, v ≤ x) → v * (vs.length : Int) ≤ (vs.map fun x => min x L).sum
  | [], _ => by simp
  | x :: vs, h => by
    have := min_sum_ge v L hL vs fun y hy => h y (by simp [hy])
    have := h x (by simp)
    rw [List.map_cons, List.sum_cons, List.length_cons, Int.natCast_add, Int.mul_add]
    simp only [Int.natCast_one, Int.mul_one]
    omega
theorem min_sum_eq (L : Int) : ∀ (vs : List Int), (∀ x ∈ vs, L ≤ x) → (vs.map fun x => min x L) = List.replicate vs.length L
  | [], _ => rfl
  | x :: vs, h => by
    have := h x (by simp)
    rw [List.map_cons, min_sum_eq L vs fun y hy => h y (by simp [hy]), List.length_cons, List.replicate_succ]
    congr 1
    omega
theorem lev_one : ∀ (S : List Int) (left lv L : Int), S.Pairwise (· ≤ ·) → (S.map fun x => min x L).sum = left → (lev S left lv).2 = true ∧ lrow S left = S.map fun x => min x L
  | [], _, _, _, _, _ => ⟨rfl, rfl⟩
  | v :: vs, left, lv, L, hs, h => by
    have h1 := List.pairwise_cons.1 hs
    have hall : ∀ x ∈ v :: vs, v ≤ x := fun x hx => by
      rcases List.mem_cons.1 hx with e | e
      · omega
      · exact h1.1 x e
    unfold lev lrow
    split
    · rename_i hg
      have hL : L < v := by
        refine Int.lt_of_not_ge fun hL => ?_
        have := min_sum_ge v L hL (v :: vs) hall
        rw [h] at this
        simp at this
        omega
      have e := min_sum_eq L (v :: vs) fun x hx => by have := hall x hx; omega
      have hl : left = (vs.length + 1 : Int) * L := by rw [← h, e, sum_same]; simp
      have hd : left / ((vs.length : Int) + 1) = L := by rw [hl]; exact Int.mul_ediv_cancel_left _ (by omega)
      refine ⟨?_, ?_⟩
      · show (left % ((vs.length : Int) + 1) == 0) = true
        rw [hl, beq_iff_eq]; exact Int.mul_emod_right _ _
      · rw [hd, e]; simp
    · rename_i hg
      have hL : v ≤ L := by
        refine Int.le_of_not_gt fun hL => hg ?_
        have e := min_sum_eq L (v :: vs) fun x hx => by have := hall x hx; omega
        rw [e, sum_same] at h
        rw [← h, Int.mul_comm v]
        exact Int.mul_lt_mul_of_pos_left hL (by simp)
      have hmin : min v L = v := by omega
      rw [List.map_cons, List.sum_cons, hmin] at h
      obtain ⟨p, q⟩ := lev_one vs (left - v) v L h1.2 (by omega)
      exact ⟨p, by rw [q, List.map_cons, hmin]⟩
theorem even_one {xs : List Int} {e L : Int} (h : (xs.map fun x => min x L).sum = e) : evenOk xs e = true ∧ evenOf xs e = xs.map fun x => min x L := by
  have h' : ((srt xs).map fun x => min x L).sum = e := by rw [← h]; exact sum_perm ((srt_perm xs).map _)
  obtain ⟨p, q⟩ := lev_one (srt xs) e 0 L (srt_sorted xs) h'
  refine ⟨p, ?_⟩
  rw [lrow_eq (srt xs) e 0 (srt_sorted xs)] at q
  unfold evenOf
  apply List.map_congr_left
  intro x hx
  obtain ⟨j, hj, e1⟩ := List.mem_iff_getElem.1 (mem_srt.2 hx)
  have := congrArg (fun l => l[j]?) q
  simp only [List.getElem?_map, List.getElem?_eq_getElem hj, Option.map_some, e1] at this
  injection this

def inP (xs : List Int) : List Int := xs.map fun x => 48 * x
theorem inP_length (xs : List Int) : (inP xs).length = xs.length := by simp [inP]
theorem inP_sum : ∀ xs : List Int, (inP xs).sum = 48 * xs.sum
  | [] => rfl
  | x :: xs => by have := inP_sum xs; simp only [inP, List.map_cons, List.sum_cons] at *; omega
theorem inP_at (xs : List Int) (k : Nat) (h : k < xs.length) : (inP xs)[k]'(by rw [inP_length]; exact h) = 48 * xs[k] := by simp [inP]
theorem inP_rg {E : Int} {xs : List Int} (h : caseOkB E xs = true) : ∀ x ∈ inP xs, 0 ≤ x ∧ x ≤ 576 := by
  intro x hx
  obtain ⟨y, hy, rfl⟩ := List.mem_map.1 hx
  have := ((caseOk_iff E xs).1 h).2.2.1 y hy
  omega
def evenLv (E : Int) (xs : List Int) : Int := evenLev (inP xs) (48 * E)
def evenAw (E : Int) (xs : List Int) : List Int := evenOf (inP xs) (48 * E)
theorem evenAw_length (E : Int) (xs : List Int) : (evenAw E xs).length = xs.length := by rw [evenAw, evenOf_length, inP_length]
theorem evenAw_at (E : Int) (xs : List Int) (k : Nat) (h : k < xs.length) : (evenAw E xs)[k]'(by rw [evenAw_length]; exact h) = min (48 * xs[k]) (evenLv E xs) := by simp [evenAw, evenOf, inP, evenLv]
theorem even_whole {E : Int} {xs : List Int} (h : caseOkB E xs = true) : evenOk (inP xs) (48 * E) = true := by
  have h1 := (caseOk_iff E xs).1 h
  refine lev_whole _ _ _ (by rw [srt_length, inP_length]; exact h1.2.1) (fun x hx => ?_) (by omega)
  obtain ⟨y, _, rfl⟩ := List.mem_map.1 (mem_srt.1 hx)
  omega
theorem evenLv_bd {E : Int} {xs : List Int} (h : caseOkB E xs = true) : 0 ≤ evenLv E xs ∧ evenLv E xs ≤ 576 := by
  have h1 := (caseOk_iff E xs).1 h
  exact evenLev_bd (by omega) (by rw [inP_sum]; omega) (by omega) (inP_rg h)
theorem evenAw_sum {E : Int} {xs : List Int} (h : caseOkB E xs = true) : (evenAw E xs).sum = 48 * E := by
  have h1 := (caseOk_iff E xs).1 h
  exact evenOf_sum (by omega) (by rw [inP_sum]; omega) (fun x hx => (inP_rg h x hx).1) (even_whole h)
theorem aw_of {E : Int} {xs ys : List Int} (h : caseOkB E xs = true) (hl : ys.length = xs.length) (hx : ∀ k (h1 : k < ys.length) (h2 : k < xs.length), 0 ≤ ys[k] ∧ ys[k] ≤ 48 * xs[k]) (hs : ys.sum = 48 * E) : Aw E xs ys := ⟨h, hl, fun k => fun h1 h2 => hx k h1 h2, hs⟩
theorem evenAw_aw {E : Int} {xs : List Int} (h : caseOkB E xs = true) : Aw E xs (evenAw E xs) := by
  refine aw_of h (evenAw_length E xs) (fun k h1 h2 => ?_) (evenAw_sum h)
  have := evenLv_bd h
  have := ((caseOk_iff E xs).1 h).2.2.1 _ (List.getElem_mem h2)
  rw [evenAw_at E xs k h2]
  omega
theorem loss_sum : ∀ (xs ys : List Int), ys.length = xs.length → (lossesRow xs ys).sum = 48 * xs.sum - ys.sum
  | [], [], _ => rfl
  | x :: xs, y :: ys, h => by
    have := loss_sum xs ys (by simpa using h)
    simp only [lossesRow, List.zipWith_cons_cons, List.sum_cons] at *
    omega
theorem loss_aw {E : Int} {xs ys : List Int} (h : Aw E xs ys) : Aw (xs.sum - E) xs (lossesRow xs ys) := by
  obtain ⟨h1, h2, h3, h4⟩ := h
  refine aw_of (other_ok h1) (by rw [lossesRow_length h2]; exact h2) (fun k k1 k2 => ?_) (by rw [loss_sum xs ys h2, h4]; omega)
  have k3 : k < ys.length := by omega
  rw [lossesRow_at k k2 k3]
  have := h3 k k3 k2
  omega
theorem loss_twice : ∀ (xs ys : List Int), ys.length = xs.length → lossesRow xs (lossesRow xs ys) = ys
  | [], [], _ => rfl
  | x :: xs, y :: ys, h => by
    have := loss_twice xs ys (by simpa using h)
    simp only [lossesRow, List.zipWith_cons_cons] at *
    rw [this]
    congr 1
    omega
def evenLo (E : Int) (xs : List Int) : List Int := lossesRow xs (evenAw (xs.sum - E) xs)
theorem evenLo_length (E : Int) (xs : List Int) : (evenLo E xs).length = xs.length := by rw [evenLo, lossesRow_length (evenAw_length _ _), evenAw_length]
theorem evenLo_at (E : Int) (xs : List Int) (k : Nat) (h : k < xs.length) : (evenLo E xs)[k]'(by rw [evenLo_length]; exact h) = 48 * xs[k] - min (48 * xs[k]) (evenLv (xs.sum - E) xs) := by
  have h2 : k < (evenAw (xs.sum - E) xs).length := by rw [evenAw_length]; exact h
  have e := lossesRow_at (xs := xs) (ys := evenAw (xs.sum - E) xs) k h h2
  rw [evenAw_at _ xs k h] at e
  exact e
theorem back_sum {E : Int} (xs : List Int) : xs.sum - (xs.sum - E) = E := by omega
theorem evenLo_aw {E : Int} {xs : List Int} (h : caseOkB E xs = true) : Aw E xs (evenLo E xs) := by
  have := loss_aw (evenAw_aw (other_ok h))
  rw [back_sum] at this
  exact this
theorem evenLo_loss (E : Int) (xs : List Int) : lossesRow xs (evenLo E xs) = evenAw (xs.sum - E) xs := loss_twice _ _ (evenAw_length _ _)
theorem evenAw_more {E : Int} {xs ys : List Int} (h : Aw E xs ys) : More (evenAw E xs) ys := by
  obtain ⟨h1, h2, h3, h4⟩ := h
  have c := (caseOk_iff E xs).1 h1
  refine even_more (by omega) (by rw [inP_sum]; omega) (fun x hx => (inP_rg h1 x hx).1) (even_whole h1) (by rw [inP_length]; exact c.1) (by rw [inP_length]; exact c.2.1) (by rw [inP_length]; exact h2) (fun j hj hj' => ?_) h4
  have hx : j < xs.length := by omega
  rw [inP_at xs j hx]
  exact (h3 j hj hx).2
theorem evenLo_more {E : Int} {xs ys : List Int} (h : Aw E xs ys) : More (evenAw (xs.sum - E) xs) (lossesRow xs ys) := evenAw_more (loss_aw h)
theorem min_sum_lt (L L' : Int) (h : L' < L) : ∀ xs : List Int, (∃ x ∈ xs, min x L = L) → (xs.map fun x => min x L').sum < (xs.map fun x => min x L).sum
  | [], ⟨x, hx, _⟩ => by cases hx
  | x :: xs, ⟨y, hy, hyL⟩ => by
    simp only [List.map_cons, List.sum_cons]
    have hle : ∀ zs : List Int, (zs.map fun x => min x L').sum ≤ (zs.map fun x => min x L).sum := by
      intro zs
      induction zs with
      | nil => exact Int.le_refl _
      | cons z zs ih => simp only [List.map_cons, List.sum_cons]; omega
    rcases List.mem_cons.1 hy with e | e
    · subst e
      have := hle xs
      omega
    · have := min_sum_lt L L' h xs ⟨y, e, hyL⟩
      omega
theorem evenLv_mono {E F : Int} {xs : List Int} (h : caseOkB E xs = true) (h' : caseOkB F xs = true) (hEF : E ≤ F) : evenLv E xs ≤ evenLv F xs := by
  refine Int.le_of_not_gt fun hlt => ?_
  have h1 := evenAw_sum h
  have h2 := evenAw_sum h'
  have hin := evenLev_in (xs := inP xs) (e := 48 * E) (by rw [inP_length]; exact ((caseOk_iff E xs).1 h).1)
  obtain ⟨x, hx, hxe⟩ := List.mem_map.1 hin
  have := min_sum_lt (evenLv E xs) (evenLv F xs) hlt (inP xs) ⟨x, hx, hxe⟩
  have e1 : (List.map (fun x => min x (evenLv E xs)) (inP xs)).sum = 48 * E := h1
  have e2 : (List.map (fun x => min x (evenLv F xs)) (inP xs)).sum = 48 * F := h2
  omega
theorem le_of_sum_nonneg : ∀ (xs : List Int), (∀ x ∈ xs, 0 ≤ x) → ∀ x ∈ xs, x ≤ xs.sum
  | [], _, x, hx => by cases hx
  | y :: ys, h, x, hx => by
    have h0 := sum_nonneg ys fun z hz => h z (by simp [hz])
    have hy := h y (by simp)
    rw [List.sum_cons]
    rcases List.mem_cons.1 hx with e | e
    · omega
    · have := le_of_sum_nonneg ys (fun z hz => h z (by simp [hz])) x e
      omega
theorem evenAw_cut {E : Int} {xs : List Int} (h : caseOkB E xs = true) : evenAw E (cutRow E xs) = evenAw E xs := by
  have hb := evenLv_bd h
  have hmap : (inP (cutRow E xs)).map (fun x => min x (evenLv E xs)) = evenAw E xs := by
    apply List.ext_getElem (by simp [inP, cutRow, evenAw, evenOf])
    intro j hj hj'
    have hjx : j < xs.length := by rw [evenAw_length] at hj'; exact hj'
    have h1 := evenAw_at E xs j hjx
    have h2 := le_of_sum_nonneg (evenAw E xs) (fun x hx => by
      obtain ⟨i, hi, rfl⟩ := List.mem_iff_getElem.1 hx
      have hi' : i < xs.length := by rw [evenAw_length] at hi; exact hi
      exact ((evenAw_aw h).2.2.1 i hi hi').1) _ (List.getElem_mem hj')
    rw [evenAw_sum h, h1] at h2
    rw [h1]
    simp only [inP, cutRow, List.getElem_map]
    omega
  have := even_one (xs := inP (cutRow E xs)) (e := 48 * E) (L := evenLv E xs) (by rw [hmap, evenAw_sum h])
  rw [evenAw, this.2, hmap]
theorem evenLo_rest {E : Int} {xs : List Int} (h : caseOkB E xs = true) (k : Nat) (hk : k < xs.length) :
    (evenLo (E - (rightsRow E xs).sum) (cutRow (xs.sum - E) xs))[k]'(by rw [evenLo_length, cutRow_length]; exact hk) + 48 * (rightsRow E xs)[k]'(by rw [rightsRow_length]; exact hk) = (evenLo E xs)[k]'(by rw [evenLo_length]; exact hk) := by
  have hk2 : k < (cutRow (xs.sum - E) xs).length := by rw [cutRow_length]; exact hk
  have e := evenAw_cut (other_ok h)
  have e2 := congrArg (fun l : List Int => l[k]?) e
  rw [List.getElem?_eq_getElem (by rw [evenAw_length]; exact hk2), List.getElem?_eq_getElem (by rw [evenAw_length]; exact hk)] at e2
  injection e2 with e2
  rw [evenAw_at _ _ k hk2, evenAw_at _ _ k hk] at e2
  rw [evenLo_at _ _ k hk2, evenLo_at _ _ k hk, rest_back]
  have e3 := rights_cut_at E xs k hk
  omega

end Go.Proofs.Ytbegdcnljafloaa
