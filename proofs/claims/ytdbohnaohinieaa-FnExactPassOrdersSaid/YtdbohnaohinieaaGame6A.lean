/-
  The program's functions of chapter 6: what a set is worth, the core, misses, orders of rows. They make new memory only. No condition but lengths that fit.
-/
import Derived.Test.YtdbohnaohinieaaGame
import Derived.Test.YtdbohnaohinieaaSortIn
import Derived.BigQuiet
import Derived.Deep.Cut
namespace Go.Proofs.Ytdbohnaohinieaa
open Go.RowKit

theorem and_one {x : Int} (h0 : 0 ≤ x) (h1 : x < 4294967296) : bits .and .i64 x 1 = x % 2 := by
  obtain ⟨n, rfl⟩ : ∃ n : Nat, x = (n : Int) := ⟨x.toNat, by omega⟩
  have e := and_i64 n 1 (by omega) (by omega)
  rw [show ((1 : Nat) : Int) = 1 from rfl] at e
  rw [e, Nat.and_one_is_mod]; omega
/-- How two numbers stand. -/
def cmpI (x y : Int) : Int := if x < y then -1 else if y < x then 1 else 0

set_option maxRecDepth 10000 in
set_option maxHeartbeats 400000 in
theorem setsOf_is (n p : Nat) (w : World) (hn : n ≤ 4) (hp : 2 ^ n = p) :
    Calls Try.prog 34 #[.int .i64 (n : Int)] w fun e w' => e = .returned (.int .i64 (p : Int)) ∧ w = w' := by
  obtain ⟨hp1, hp2⟩ := pow_bd hn
  go_enter Try.func34, Try.ntmps34
  go_wp2
  go_ret
  exact ⟨ret_int (by rw [← hp, Int.natCast_pow]; rfl), rfl⟩

set_option maxRecDepth 10000 in
set_option maxHeartbeats 400000 in
theorem isSet_any (s : Int) (n p : Nat) (w : World) (hn : n ≤ 4) (hp : 2 ^ n = p) :
    Calls Try.prog 41 #[.int .i64 s, .int .i64 (n : Int)] w fun e w' => e = .returned (.bool (decide (0 ≤ s ∧ s < (p : Int)))) ∧ w = w' := by
  have HP := Lib.hid hp
  clear hp
  go_enter Try.func41, Try.ntmps41
  by_cases h1_ : s ≥ 0
  · have h1_d : decide (s ≥ 0) = true := decide_eq_true h1_
    go_wp2_with fail
    refine (setsOf_is n p _ (by omega) HP.out).mono ?_
    rintro e w' ⟨rfl, rfl⟩
    by_cases h2_ : s < (p : Int)
    · have h2_d : decide (s < (p : Int)) = true := decide_eq_true h2_
      go_wp2
      go_ret
      exact ⟨ret_bool (by first | exact (by first | rfl | exact (decide_eq_true (show (0 ≤ s ∧ s < (p : Int)) by omega)).symm) | exact (decide_eq_true (by omega)).trans (by first | rfl | exact (decide_eq_true (show (0 ≤ s ∧ s < (p : Int)) by omega)).symm)), rfl⟩
    · have h2_d : decide (s < (p : Int)) = false := decide_eq_false h2_
      go_wp2
      go_ret
      exact ⟨ret_bool (by first | exact (by first | rfl | exact (decide_eq_false (show ¬ (0 ≤ s ∧ s < (p : Int)) by omega)).symm) | exact (decide_eq_false (by omega)).trans (by first | rfl | exact (decide_eq_false (show ¬ (0 ≤ s ∧ s < (p : Int)) by omega)).symm)), rfl⟩
  · have h1_d : decide (s ≥ 0) = false := decide_eq_false h1_
    go_wp2
    go_ret
    exact ⟨ret_bool (by first | exact (by first | rfl | exact (decide_eq_false (show ¬ (0 ≤ s ∧ s < (p : Int)) by omega)).symm) | exact (decide_eq_false (by omega)).trans (by first | rfl | exact (decide_eq_false (show ¬ (0 ≤ s ∧ s < (p : Int)) by omega)).symm)), rfl⟩

theorem isSet_yes (s : Int) (n p : Nat) (w : World) (hn : n ≤ 4) (hp : 2 ^ n = p) (h : 0 ≤ s ∧ s < (p : Int)) : Calls Try.prog 41 #[.int .i64 s, .int .i64 (n : Int)] w (fun e w' => e = .returned (.bool true) ∧ w = w') :=
  (isSet_any s n p w hn hp).mono fun _ _ ⟨e, r⟩ => ⟨by rw [e, decide_eq_true h], r⟩
theorem isSet_no (s : Int) (n p : Nat) (w : World) (hn : n ≤ 4) (hp : 2 ^ n = p) (h : ¬ (0 ≤ s ∧ s < (p : Int))) : Calls Try.prog 41 #[.int .i64 s, .int .i64 (n : Int)] w (fun e w' => e = .returned (.bool false) ∧ w = w') :=
  (isSet_any s n p w hn hp).mono fun _ _ ⟨e, r⟩ => ⟨by rw [e, decide_eq_false h], r⟩

theorem isWithin_any (k : Nat) (s : Int) (w : World) (hk : k ≤ 5) (hs : 0 ≤ s) (hs2 : s ≤ 255) :
    Calls Try.prog 39 #[.int .i64 (k : Int), .int .i64 s] w fun e w' => e = .returned (.bool (decide (s / 2 ^ k % 2 = 1))) ∧ w = w' := by
  have hp2 : 0 ≤ s / 2 ^ k := Int.ediv_nonneg (by omega) (by exact Int.le_of_lt (Int.pow_pos (by omega)))
  obtain ⟨B, hB⟩ : ∃ B, bits .and .i64 (s / 2 ^ k) 1 = B := ⟨_, rfl⟩
  have qB : B = s / 2 ^ k % 2 := by rw [← hB]; exact and_one hp2 (by have e := Int.ediv_le_self (2 ^ k) hs; omega)
  by_cases h6 : B = 1
  · have h6_b : (B == 1) = true := by simpa using h6
    have HD : Hid (decide (s / 2 ^ k % 2 = 1) = true) := decide_eq_true (by rw [← qB]; exact h6)
    have H6 := Lib.hid h6
    clear h6 qB
    go_enter Try.func39, Try.ntmps39
    go_wp2
    go_ret
    exact ⟨ret_bool (by first | exact HD.out.symm | (rw [HD.out]; simp [H6.out])), rfl⟩
  · have h6_b : (B == 1) = false := by simpa using h6
    have HD : Hid (decide (s / 2 ^ k % 2 = 1) = false) := decide_eq_false (by rw [← qB]; exact h6)
    clear qB
    go_enter Try.func39, Try.ntmps39
    go_wp2
    go_ret
    exact ⟨ret_bool (by first | exact HD.out.symm | (rw [HD.out]; simp [h6])), rfl⟩
theorem isWithin_yes (k : Nat) (s : Int) (w : World) (hk : k ≤ 5) (hs : 0 ≤ s) (hs2 : s ≤ 255) (h : s / 2 ^ k % 2 = 1) : Calls Try.prog 39 #[.int .i64 (k : Int), .int .i64 s] w (fun e w' => e = .returned (.bool true) ∧ w = w') :=
  (isWithin_any k s w hk hs hs2).mono fun _ _ ⟨e, r⟩ => ⟨by rw [e, decide_eq_true h], r⟩
theorem isWithin_no (k : Nat) (s : Int) (w : World) (hk : k ≤ 5) (hs : 0 ≤ s) (hs2 : s ≤ 255) (h : ¬ s / 2 ^ k % 2 = 1) : Calls Try.prog 39 #[.int .i64 (k : Int), .int .i64 s] w (fun e w' => e = .returned (.bool false) ∧ w = w') :=
  (isWithin_any k s w hk hs hs2).mono fun _ _ ⟨e, r⟩ => ⟨by rw [e, decide_eq_false h], r⟩

theorem pow_bd3 {n p : Nat} (h : 2 ^ n = p) (hn : n ≤ 4) : 1 ≤ p ∧ p ≤ 16 := by
  subst h
  rcases (show n = 0 ∨ n = 1 ∨ n = 2 ∨ n = 3 ∨ n = 4 from by omega) with rfl | rfl | rfl | rfl | rfl <;> simp

theorem worth_in {E : Int} {xs : List Int} {s : Int} (_h : caseOkB E xs = true) (h0 : 0 ≤ s) : worth E xs s = max 0 (E - (xs.sum - inSum xs s xs.length)) := by
  obtain ⟨n, rfl⟩ : ∃ n : Nat, s = (n : Int) := ⟨s.toNat, by omega⟩
  have e := in_out xs n xs.length
  rw [List.take_length] at e
  unfold worth; omega

end Go.Proofs.Ytdbohnaohinieaa
