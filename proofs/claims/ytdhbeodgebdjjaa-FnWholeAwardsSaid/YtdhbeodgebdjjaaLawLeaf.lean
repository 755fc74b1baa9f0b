/-
  What the helpers of the laws return: two lists that are the same, two cases that are the same, the sum of a row, the fixed answer. No condition but lengths that fit.
-/
import Derived.Test.YtdhbeodgebdjjaaCaseOk
namespace Go.Proofs.Ytdhbeodgebdjjaa
open Go.RowKit

set_option maxRecDepth 10000 in
set_option maxHeartbeats 400000 in
theorem sameInts_same (A A' : Option Addr) (c c' : Nat) (xs : List Int) (w : World) (lo hi lo' hi' : Nat) (h : Ints w lo hi A xs) (h' : Ints w lo' hi' A' xs) (hl : xs.length ≤ 1152921504606846976) :
    Calls Try.prog 13 #[.slice A xs.length c, .slice A' xs.length c'] w fun e w' => e = .returned (.bool true) ∧ ∃ n, w' = w.drewN n := by
  have hne : ((xs.length : Int) != (xs.length : Int)) = false := by simp
  go_enter Try.func13, Try.ntmps13
  go_wp2
  go_loopw [5] (fun i wr => ∃ k : Nat, k ≤ xs.length ∧ i = .int .i64 k ∧ ∃ n, wr = w.drewN n) (fun i _ => xs.length - (intOf i).toNat)
  case atStart => exact ⟨0, Nat.zero_le _, rfl, 0, rfl⟩
  case round =>
    obtain ⟨k, hk, rfl, n, rfl⟩ := hrel
    clear hne
    by_cases hlt : k < xs.length
    · obtain ⟨b, o, rfl, _, hb, hc⟩ := h.at_ hlt
      obtain ⟨b', o', rfl, _, hb', hc'⟩ := h'.at_ hlt
      have hX : (xs[k] != xs[k]) = false := by simp
      go_wp2
      go_quiet (fail)
      go_wp2
      go_roundw
      case rel => exact ⟨k + 1, by omega, by go_num, _, rfl⟩
      case measure => simp [intOf]; omega
    · obtain rfl : k = xs.length := by omega
      go_wp2
      go_ret
      exact ⟨rfl, _, rfl⟩
theorem sameInts_below (A A' : Option Addr) (c c' : Nat) (xs : List Int) (w : World) (lo hi lo' hi' : Nat) (h : Ints w lo hi A xs) (h' : Ints w lo' hi' A' xs) (hl : xs.length ≤ 1152921504606846976) :
    Calls Try.prog 13 #[.slice A xs.length c, .slice A' xs.length c'] w fun e w' => e = .returned (.bool true) ∧ Below w.heap.size w w' :=
  (sameInts_same A A' c c' xs w lo hi lo' hi' h h' hl).mono fun _ _ ⟨e1, n, e2⟩ => ⟨e1, by rw [e2]; exact below_drewN (Below.refl _ _) n⟩

theorem row_one (w : World) (x : Int) (t : TypeId) : Ints (w.alloc (.cells #[.int .i64 x] t)) w.heap.size (w.heap.size + 1) (some ⟨w.heap.size, 0, none⟩) [x] := fun _ =>
  ⟨w.heap.size, 0, rfl, Nat.le_refl _, Nat.lt_succ_self _, fun j hj => by
    have e : j = 0 := by simp at hj; exact hj
    subst e
    simp [go_sem]⟩

theorem case_one_one : caseOkB 1 [1] = true := (caseOk_iff 1 [1]).2 ⟨by simp, by simp, by simp, by omega, by simp⟩
theorem case_two_one : caseOkB 2 [1] = false := by
  have h : ¬ caseOkB 2 [1] = true := fun h => by have := ((caseOk_iff 2 [1]).1 h).2.2.2.2; simp at this
  simpa using h
theorem case_zero_zero : caseOkB 0 [0] = true := (caseOk_iff 0 [0]).2 ⟨by simp, by simp, by simp, by omega, by simp⟩
theorem case_nil (E : Int) : caseOkB E [] = false := caseOk_len E [] (by simp)

set_option maxRecDepth 10000 in
set_option maxHeartbeats 400000 in
theorem alive_any (w : World) : Calls Try.prog 16 #[] w fun e w' => e = .returned (.bool true) ∧ Below w.heap.size w w' := by
  have k0 := row_one w 1 3
  have B0 := (Below.refl w.heap.size w).alloc (Nat.le_refl _) (.cells #[.int .i64 1] 3)
  go_enter Try.func16, Try.ntmps16
  go_wp2_with fail
  refine (implCaseOk_yes 1 (some ⟨w.heap.size, 0, none⟩) 1 [1] _ _ _ k0 (by rw [hsz]; omega) (by simp) case_one_one).mono ?_
  rintro e w1 ⟨rfl, hb1⟩
  have z1 := hb1.size
  rw [hsz] at hb1 z1
  have B1 := B0.trans (hb1.mono (by omega))
  have k1 := row_one w1 1 3
  have B2 := B1.alloc (by omega) (.cells #[.int .i64 1] 3)
  clear hb1 k0 B0
  go_wp2_with fail
  refine (implCaseOk_no 2 (some ⟨w1.heap.size, 0, none⟩) 1 [1] _ _ _ k1 (by rw [hsz]; omega) (by simp) case_two_one).mono ?_
  rintro e w2 ⟨rfl, hb2⟩
  have B3 := B2.trans (hb2.mono (by rw [hsz]; omega))
  clear hb2 k1
  go_wp2
  go_ret
  exact ⟨rfl, B3⟩

set_option maxRecDepth 10000 in
set_option maxHeartbeats 400000 in
theorem lsumOf_any (A : Option Addr) (c : Nat) (xs : List Int) (w : World) (lo hi : Nat) (h : Ints w lo hi A xs) (hs : Small xs) :
    Calls Try.prog 19 #[.slice A xs.length c] w fun e w' => e = .returned (.int .i64 xs.sum) ∧ w = w' := by
  have hlen := hs.1
  go_enter Try.func19, Try.ntmps19
  go_wp2
  go_loop [3, 4] (fun s i => ∃ k : Nat, k ≤ xs.length ∧ i = .int .i64 k ∧ s = .int .i64 (xs.take k).sum) (fun _ i => xs.length - (intOf i).toNat)
  case atStart => exact ⟨0, Nat.zero_le _, rfl, rfl⟩
  case round =>
    obtain ⟨k, hk, rfl, rfl⟩ := hrel
    have hd := sum_bd xs hs k
    by_cases hlt : k < xs.length
    · obtain ⟨b, o, rfl, _, _, hc⟩ := h.at_ hlt
      have hv := small_at xs hs k hlt
      have hS := Lib.hid (sum_snoc xs k hlt)
      go_wp2
      go_round
      case rel => exact ⟨k + 1, by omega, by go_num, by rw [hS.out]⟩
      case measure => simp [intOf]; omega
    · obtain rfl : k = xs.length := by omega
      go_wp2
      go_ret
      exact ⟨ret_int (by simp), rfl⟩

end Go.Proofs.Ytdhbeodgebdjjaa
