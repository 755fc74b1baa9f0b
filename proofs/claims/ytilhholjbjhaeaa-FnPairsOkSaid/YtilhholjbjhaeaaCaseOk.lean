/-
  Both functions CaseOk return whether a case is one, and make new memory only.
-/
import Derived.Test.YtilhholjbjhaeaaSum
namespace Go.Proofs.Ytilhholjbjhaeaa
open Go.RowKit

set_option maxRecDepth 10000 in
set_option maxHeartbeats 400000 in
theorem implCaseOk_any (E : Int) (A : Option Addr) (c : Nat) (xs : List Int) (w : World) (lo hi : Nat) (h : Ints w lo hi A xs) (hh : hi ≤ w.heap.size) (hl : xs.length ≤ 1152921504606846976) :
    Calls Try.prog 29 #[.agg #[.int .i64 E, .slice A xs.length c]] w fun e w' => e = .returned (.bool (caseOkB E xs)) ∧ Below w.heap.size w w' := by
  by_cases hlen : 1 ≤ xs.length ∧ xs.length ≤ 4
  · obtain ⟨hl1, hl2⟩ := hlen
    have hw := h.alloc hh (.cells #[.int .i64 E, .slice A xs.length c] 31)
    go_enter Try.func29, Try.ntmps29
    go_wp2
    go_loop [18] (fun i => ∃ k : Nat, k ≤ xs.length ∧ i = .int .i64 k ∧ Upto xs k) (fun i => xs.length - (intOf i).toNat)
    case atStart => exact ⟨0, Nat.zero_le _, rfl, Upto.zero _⟩
    case round =>
      obtain ⟨k, hk, rfl, hu⟩ := hrel
      by_cases hlt : k < xs.length
      · obtain ⟨b, o, rfl, _, hb, hc⟩ := h.at_ hlt
        have hbw : b < w.heap.size := by omega
        by_cases hx : 0 ≤ xs[k] ∧ xs[k] ≤ 12
        · have hu' := hu.succ hlt hx
          obtain ⟨hx1, hx2⟩ := hx
          clear hu
          go_wp2
          go_round
          case rel => exact ⟨k + 1, by omega, by go_num, hu'⟩
          case measure => simp [intOf]; omega
        · have hbad := Lib.hid (caseOk_bad E xs k hlt hx)
          by_cases hx1 : 0 ≤ xs[k]
          · have hx2 : ¬ xs[k] ≤ 12 := by omega
            clear hx
            go_wp2
            go_ret
            exact ⟨ret_bool hbad.out.symm, (Below.refl _ _).alloc (Nat.le_refl _) _⟩
          · clear hx
            go_wp2
            go_ret
            exact ⟨ret_bool hbad.out.symm, (Below.refl _ _).alloc (Nat.le_refl _) _⟩
      · obtain rfl : k = xs.length := by omega
        have hs := small_of hl2 hu.all
        have hend := Lib.hid (caseOk_end E xs ⟨hl1, hl2⟩ hu.all)
        clear hu
        by_cases he : 0 ≤ E
        · go_wp2
          go_quiet ((go_at_call 37; exact quiet_left (sumOf_any _ _ _ _ _ _ (hw.drewN _) hs)))
          go_wp2
          go_ret
          exact ⟨ret_bool (by rw [hend.out]; simp [he]), below_drewN ((Below.refl _ _).alloc (Nat.le_refl _) _) _⟩
        · have hd : decide (0 ≤ E) = false := by simpa using he
          go_wp2
          go_quiet (fail)
          go_wp2
          go_ret
          exact ⟨ret_bool (by rw [hend.out]; simp; omega), below_drewN ((Below.refl _ _).alloc (Nat.le_refl _) _) _⟩
  · have hbad := Lib.hid (caseOk_len E xs hlen)
    by_cases hl1 : 1 ≤ xs.length
    · have hl2 : ¬ xs.length ≤ 4 := by omega
      clear hlen
      go_enter Try.func29, Try.ntmps29
      go_wp2
      go_ret
      exact ⟨ret_bool hbad.out.symm, (Below.refl _ _).alloc (Nat.le_refl _) _⟩
    · clear hlen
      go_enter Try.func29, Try.ntmps29
      go_wp2
      go_ret
      exact ⟨ret_bool hbad.out.symm, (Below.refl _ _).alloc (Nat.le_refl _) _⟩

set_option maxRecDepth 10000 in
set_option maxHeartbeats 400000 in
theorem specCaseOk_any (E : Int) (A : Option Addr) (c : Nat) (xs : List Int) (w : World) (lo hi : Nat) (h : Ints w lo hi A xs) (hh : hi ≤ w.heap.size) (hl : xs.length ≤ 1152921504606846976) :
    Calls Try.prog 31 #[.agg #[.int .i64 E, .slice A xs.length c]] w fun e w' => e = .returned (.bool (caseOkB E xs)) ∧ Below w.heap.size w w' := by
  have hw := h.alloc hh (.cells #[.int .i64 E, .slice A xs.length c] 31)
  go_enter Try.func31, Try.ntmps31
  go_wp2
  go_loop [3] (fun i => ∃ k : Nat, k ≤ xs.length ∧ i = .int .i64 k ∧ Upto xs k) (fun i => xs.length - (intOf i).toNat)
  case atStart => exact ⟨0, Nat.zero_le _, rfl, Upto.zero _⟩
  case round =>
    obtain ⟨k, hk, rfl, hu⟩ := hrel
    by_cases hlt : k < xs.length
    · obtain ⟨b, o, rfl, _, hb, hc⟩ := h.at_ hlt
      have hbw : b < w.heap.size := by omega
      by_cases hx : 0 ≤ xs[k] ∧ xs[k] ≤ 12
      · have hu' := hu.succ hlt hx
        have hX := Lib.hid hx
        clear hu hx
        go_wp2_with (go_at_call 27; refine (l1In_yes _ _ _ _ hX.out).mono ?_; rintro e w' ⟨rfl, rfl⟩)
        go_round
        case rel => exact ⟨k + 1, by omega, by go_num, hu'⟩
        case measure => simp [intOf]; omega
      · have hbad := Lib.hid (caseOk_bad E xs k hlt hx)
        have hX := Lib.hid hx
        clear hx
        go_wp2_with (go_at_call 27; refine (l1In_no _ _ _ _ hX.out).mono ?_; rintro e w' ⟨rfl, rfl⟩)
        go_ret
        exact ⟨ret_bool hbad.out.symm, (Below.refl _ _).alloc (Nat.le_refl _) _⟩
    · obtain rfl : k = xs.length := by omega
      by_cases hlen : 1 ≤ xs.length ∧ xs.length ≤ 4
      · have hs := small_of hlen.2 hu.all
        have hend := Lib.hid (caseOk_end E xs hlen hu.all)
        have hX : Hid ((1 : Int) ≤ (xs.length : Int) ∧ (xs.length : Int) ≤ 4) := ⟨by omega, by omega⟩
        clear hu hlen
        go_wp2
        go_quiet ((first | (go_at_call 36; exact quiet_left (l1Sum_any _ _ _ _ _ _ (hw.drewN _) hs)) | (go_at_call 27; first | exact quiet_left (l1In_yes _ _ _ _ hX.out) | exact quiet_left (l1In_any _ _ _ _))))
        go_wp2
        go_ret
        exact ⟨ret_bool (by rw [hend.out]; simp), below_drewN ((Below.refl _ _).alloc (Nat.le_refl _) _) _⟩
      · have hbad := Lib.hid (caseOk_len E xs hlen)
        have hX : Hid (¬ ((1 : Int) ≤ (xs.length : Int) ∧ (xs.length : Int) ≤ 4)) := by intro h'; exact hlen ⟨by omega, by omega⟩
        clear hu hlen
        go_wp2
        go_quiet ((go_at_call 27; exact quiet_left (l1In_no _ _ _ _ hX.out)))
        go_wp2
        go_ret
        exact ⟨ret_bool hbad.out.symm, below_drewN ((Below.refl _ _).alloc (Nat.le_refl _) _) _⟩

theorem implCaseOk_yes (E : Int) (A : Option Addr) (c : Nat) (xs : List Int) (w : World) (lo hi : Nat) (h : Ints w lo hi A xs) (hh : hi ≤ w.heap.size) (hl : xs.length ≤ 1152921504606846976) (hc : caseOkB E xs = true) :
    Calls Try.prog 29 #[.agg #[.int .i64 E, .slice A xs.length c]] w fun e w' => e = .returned (.bool true) ∧ Below w.heap.size w w' :=
  (implCaseOk_any E A c xs w lo hi h hh hl).mono fun _ _ ⟨e1, e2⟩ => ⟨by rw [e1, hc], e2⟩
theorem implCaseOk_no (E : Int) (A : Option Addr) (c : Nat) (xs : List Int) (w : World) (lo hi : Nat) (h : Ints w lo hi A xs) (hh : hi ≤ w.heap.size) (hl : xs.length ≤ 1152921504606846976) (hc : caseOkB E xs = false) :
    Calls Try.prog 29 #[.agg #[.int .i64 E, .slice A xs.length c]] w fun e w' => e = .returned (.bool false) ∧ Below w.heap.size w w' :=
  (implCaseOk_any E A c xs w lo hi h hh hl).mono fun _ _ ⟨e1, e2⟩ => ⟨by rw [e1, hc], e2⟩
theorem specCaseOk_yes (E : Int) (A : Option Addr) (c : Nat) (xs : List Int) (w : World) (lo hi : Nat) (h : Ints w lo hi A xs) (hh : hi ≤ w.heap.size) (hl : xs.length ≤ 1152921504606846976) (hc : caseOkB E xs = true) :
    Calls Try.prog 31 #[.agg #[.int .i64 E, .slice A xs.length c]] w fun e w' => e = .returned (.bool true) ∧ Below w.heap.size w w' :=
  (specCaseOk_any E A c xs w lo hi h hh hl).mono fun _ _ ⟨e1, e2⟩ => ⟨by rw [e1, hc], e2⟩
theorem specCaseOk_no (E : Int) (A : Option Addr) (c : Nat) (xs : List Int) (w : World) (lo hi : Nat) (h : Ints w lo hi A xs) (hh : hi ≤ w.heap.size) (hl : xs.length ≤ 1152921504606846976) (hc : caseOkB E xs = false) :
    Calls Try.prog 31 #[.agg #[.int .i64 E, .slice A xs.length c]] w fun e w' => e = .returned (.bool false) ∧ Below w.heap.size w w' :=
  (specCaseOk_any E A c xs w lo hi h hh hl).mono fun _ _ ⟨e1, e2⟩ => ⟨by rw [e1, hc], e2⟩

end Go.Proofs.Ytilhholjbjhaeaa
