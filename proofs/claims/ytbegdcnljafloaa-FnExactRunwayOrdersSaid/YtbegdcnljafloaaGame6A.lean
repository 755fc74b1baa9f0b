/-
  The program's functions of chapter 6: what a set is worth, the core, misses, orders of rows. They make new memory only. No condition but lengths that fit.
-/
import Derived.Test.YtbegdcnljafloaaGame
import Derived.Test.YtbegdcnljafloaaSortIn
import Derived.BigQuiet
import Derived.Deep.Cut
namespace Go.Proofs.Ytbegdcnljafloaa
open Go.RowKit

theorem and_one {x : Int} (h0 : 0 ≤ x) (h1 : x < 4294967296) : bits .and .i64 x 1 = x % 2 := by
  obtain ⟨n, rfl⟩ : ∃ n : Nat, x = (n : Int) := ⟨x.toNat, by omega⟩
  have e := and_i64 n 1 (by omega) (by omega)
  rw [show ((1 : Nat) : Int) = 1 from rfl] at e
  rw [e, Nat.and_one_is_mod]; omega
/-- How two numbers stand. -/
def cmpI (x y : Int) : Int := if x < y then -1 else if y < x then 1 else 0

set_option maxRecDepth 10000 in
set_option maxHeartbeats 400000 in
theorem isNaN_any (x : Int) (w : World) :
    Calls Try.prog 98 #[.int .i64 x] w fun e w' => e = .returned (.bool false) ∧ w = w' := by
  go_enter Try.func98, Try.ntmps98
  go_wp2
  go_ret
  exact ⟨by simp, rfl⟩

set_option maxRecDepth 10000 in
set_option maxHeartbeats 400000 in
theorem setsOf_is (n p : Nat) (w : World) (hn : n ≤ 4) (hp : 2 ^ n = p) :
    Calls Try.prog 59 #[.int .i64 (n : Int)] w fun e w' => e = .returned (.int .i64 (p : Int)) ∧ w = w' := by
  obtain ⟨hp1, hp2⟩ := pow_bd hn
  go_enter Try.func59, Try.ntmps59
  go_wp2
  go_ret
  exact ⟨ret_int (by rw [← hp, Int.natCast_pow]; rfl), rfl⟩

set_option maxRecDepth 10000 in
set_option maxHeartbeats 400000 in
theorem isSet_any (s : Int) (n p : Nat) (w : World) (hn : n ≤ 4) (hp : 2 ^ n = p) :
    Calls Try.prog 64 #[.int .i64 s, .int .i64 (n : Int)] w fun e w' => e = .returned (.bool (decide (0 ≤ s ∧ s < (p : Int)))) ∧ w = w' := by
  have HP := Lib.hid hp
  clear hp
  go_enter Try.func64, Try.ntmps64
  by_cases h1_ : s ≥ 0
  · have h1_d : decide (s ≥ 0) = true := decide_eq_true h1_
    go_wp2_with fail
    refine (setsOf_is n p _ (by omega) HP.out).mono ?_
    rintro e w' ⟨rfl, rfl⟩
    by_cases h2_ : s < (p : Int)
    · have h2_d : decide (s < (p : Int)) = true := decide_eq_true h2_
      go_wp2
      go_ret
      exact ⟨ret_bool (by first | exact (by first | rfl | exact (decide_eq_true (show (0 ≤ s ∧ s < (p : Int)) by omega)).symm) | exact (decide_eq_true (by omega)).trans (by first | rfl | exact (decide_eq_true (show (0 ≤ s ∧ s < (p : Int)) by omega)).symm)), rfl⟩
    · have h2_d : decide (s < (p : Int)) = false := decide_eq_false h2_
      go_wp2
      go_ret
      exact ⟨ret_bool (by first | exact (by first | rfl | exact (decide_eq_false (show ¬ (0 ≤ s ∧ s < (p : Int)) by omega)).symm) | exact (decide_eq_false (by omega)).trans (by first | rfl | exact (decide_eq_false (show ¬ (0 ≤ s ∧ s < (p : Int)) by omega)).symm)), rfl⟩
  · have h1_d : decide (s ≥ 0) = false := decide_eq_false h1_
    go_wp2
    go_ret
    exact ⟨ret_bool (by first | exact (by first | rfl | exact (decide_eq_false (show ¬ (0 ≤ s ∧ s < (p : Int)) by omega)).symm) | exact (decide_eq_false (by omega)).trans (by first | rfl | exact (decide_eq_false (show ¬ (0 ≤ s ∧ s < (p : Int)) by omega)).symm)), rfl⟩

theorem isSet_yes (s : Int) (n p : Nat) (w : World) (hn : n ≤ 4) (hp : 2 ^ n = p) (h : 0 ≤ s ∧ s < (p : Int)) : Calls Try.prog 64 #[.int .i64 s, .int .i64 (n : Int)] w (fun e w' => e = .returned (.bool true) ∧ w = w') :=
  (isSet_any s n p w hn hp).mono fun _ _ ⟨e, r⟩ => ⟨by rw [e, decide_eq_true h], r⟩
theorem isSet_no (s : Int) (n p : Nat) (w : World) (hn : n ≤ 4) (hp : 2 ^ n = p) (h : ¬ (0 ≤ s ∧ s < (p : Int))) : Calls Try.prog 64 #[.int .i64 s, .int .i64 (n : Int)] w (fun e w' => e = .returned (.bool false) ∧ w = w') :=
  (isSet_any s n p w hn hp).mono fun _ _ ⟨e, r⟩ => ⟨by rw [e, decide_eq_false h], r⟩

theorem isWithin_any (k : Nat) (s : Int) (w : World) (hk : k ≤ 5) (hs : 0 ≤ s) (hs2 : s ≤ 255) :
    Calls Try.prog 65 #[.int .i64 (k : Int), .int .i64 s] w fun e w' => e = .returned (.bool (decide (s / 2 ^ k % 2 = 1))) ∧ w = w' := by
  have hp2 : 0 ≤ s / 2 ^ k := Int.ediv_nonneg (by omega) (by exact Int.le_of_lt (Int.pow_pos (by omega)))
  obtain ⟨B, hB⟩ : ∃ B, bits .and .i64 (s / 2 ^ k) 1 = B := ⟨_, rfl⟩
  have qB : B = s / 2 ^ k % 2 := by rw [← hB]; exact and_one hp2 (by have e := Int.ediv_le_self (2 ^ k) hs; omega)
  by_cases h6 : B = 1
  · have h6_b : (B == 1) = true := by simpa using h6
    have HD : Hid (decide (s / 2 ^ k % 2 = 1) = true) := decide_eq_true (by rw [← qB]; exact h6)
    have H6 := Lib.hid h6
    clear h6 qB
    go_enter Try.func65, Try.ntmps65
    go_wp2
    go_ret
    exact ⟨ret_bool (by first | exact HD.out.symm | (rw [HD.out]; simp [H6.out])), rfl⟩
  · have h6_b : (B == 1) = false := by simpa using h6
    have HD : Hid (decide (s / 2 ^ k % 2 = 1) = false) := decide_eq_false (by rw [← qB]; exact h6)
    clear qB
    go_enter Try.func65, Try.ntmps65
    go_wp2
    go_ret
    exact ⟨ret_bool (by first | exact HD.out.symm | (rw [HD.out]; simp [h6])), rfl⟩
theorem isWithin_yes (k : Nat) (s : Int) (w : World) (hk : k ≤ 5) (hs : 0 ≤ s) (hs2 : s ≤ 255) (h : s / 2 ^ k % 2 = 1) : Calls Try.prog 65 #[.int .i64 (k : Int), .int .i64 s] w (fun e w' => e = .returned (.bool true) ∧ w = w') :=
  (isWithin_any k s w hk hs hs2).mono fun _ _ ⟨e, r⟩ => ⟨by rw [e, decide_eq_true h], r⟩
theorem isWithin_no (k : Nat) (s : Int) (w : World) (hk : k ≤ 5) (hs : 0 ≤ s) (hs2 : s ≤ 255) (h : ¬ s / 2 ^ k % 2 = 1) : Calls Try.prog 65 #[.int .i64 (k : Int), .int .i64 s] w (fun e w' => e = .returned (.bool false) ∧ w = w') :=
  (isWithin_any k s w hk hs hs2).mono fun _ _ ⟨e, r⟩ => ⟨by rw [e, decide_eq_false h], r⟩

set_option maxRecDepth 10000 in
set_option maxHeartbeats 400000 in
theorem sumWithin_any (A : Option Addr) (c : Nat) (xs : List Int) (s : Int) (w : World) (lo hi : Nat) (h : Ints w lo hi A xs) (h4 : xs.length ≤ 5) (hs : 0 ≤ s) (hs2 : s ≤ 255) (hx : ∀ k, k < xs.length → -2400 ≤ xs.getD k 0 ∧ xs.getD k 0 ≤ 2400) :
    Calls Try.prog 60 #[.slice A xs.length c, .int .i64 s] w fun e w' => e = .returned (.int .i64 (inSum xs s xs.length)) ∧ w = w' := by
  have HV := Lib.hid hx
  have HB := Lib.hid (fun k hk => inSum_bd h4 hx s k hk)
  clear hx
  go_enter Try.func60, Try.ntmps60
  go_wp2
  go_loop [5, 10] (fun o i => ∃ k : Nat, ∃ S : Int, o = .int .i64 S ∧ i = .int .i64 k ∧ (k ≤ xs.length) ∧ (S = inSum xs s k)) (fun o i => xs.length - (intOf i).toNat)
  case atStart => exact ⟨0, 0, rfl, rfl, Nat.zero_le _, rfl⟩
  case round =>
    obtain ⟨k, S, rfl, rfl, hk, hS⟩ := hrel
    have hbS := HB.out k hk
    rw [← hS] at hbS
    have hp2 : 0 ≤ s / 2 ^ k := Int.ediv_nonneg (by omega) (by exact Int.le_of_lt (Int.pow_pos (by omega)))
    have HS := Lib.hid hS
    clear hS
    by_cases hlt0 : k < xs.length
    · obtain ⟨b1_, f2_, rfl, _, b1_h, -⟩ := h (by omega)
      have c3_ : w.cell? ⟨b1_, f2_ + k, none⟩ = some (.int .i64 (xs.getD k 0)) := h.at2 k (by first | omega | (simp; omega) | simp)
      have c3_i : (k : Int) < (xs.length : Int) := by omega
      have c3_j : (0 : Int) ≤ (k : Int) := by omega
      have v4_g := (HV.out k (by omega) : -2400 ≤ xs.getD k 0 ∧ xs.getD k 0 ≤ 2400)
      obtain ⟨v4_, hv4_⟩ : ∃ v, v = xs.getD k 0 := ⟨_, rfl⟩
      rw [← hv4_] at c3_ v4_g
      have Hv4_ := Lib.hid hv4_
      clear hv4_
      obtain ⟨v4_g1, v4_g2⟩ := v4_g
      by_cases h5_ : s / 2 ^ k % 2 = 1
      · have H5_ := Lib.hid h5_
        clear h5_
        go_wp2_with fail
        refine (isWithin_yes k s _ (by omega) (by omega) (by omega) H5_.out).mono ?_
        rintro e w' ⟨rfl, rfl⟩
        go_wp2
        go_round
        case rel => exact ⟨k + 1, S + v4_, by go_num, by go_num, by omega, by simp only [inSum]; rw [← HS.out, if_pos (H5_.out)]; rw [← Hv4_.out]⟩
        case measure => simp [intOf] <;> omega
      · have H5_ := Lib.hid h5_
        clear h5_
        go_wp2_with fail
        refine (isWithin_no k s _ (by omega) (by omega) (by omega) H5_.out).mono ?_
        rintro e w' ⟨rfl, rfl⟩
        go_wp2
        go_round
        case rel => exact ⟨k + 1, S, by go_num, by go_num, by omega, by simp only [inSum]; rw [← HS.out, if_neg (H5_.out)]; simp⟩
        case measure => simp [intOf] <;> omega
    · obtain rfl : k = xs.length := by omega
      go_wp2
      go_ret
      exact ⟨ret_int HS.out, rfl⟩

theorem pow_bd3 {n p : Nat} (h : 2 ^ n = p) (hn : n ≤ 4) : 1 ≤ p ∧ p ≤ 16 := by
  subst h
  rcases (show n = 0 ∨ n = 1 ∨ n = 2 ∨ n = 3 ∨ n = 4 from by omega) with rfl | rfl | rfl | rfl | rfl <;> simp

theorem worth_in {E : Int} {xs : List Int} {s : Int} (_h : caseOkB E xs = true) (h0 : 0 ≤ s) : worth E xs s = max 0 (E - (xs.sum - inSum xs s xs.length)) := by
  obtain ⟨n, rfl⟩ : ∃ n : Nat, s = (n : Int) := ⟨s.toNat, by omega⟩
  have e := in_out xs n xs.length
  rw [List.take_length] at e
  unfold worth; omega

end Go.Proofs.Ytbegdcnljafloaa
