/-
  The program's functions of chapter 6: what a set is worth, the core, misses, orders of rows. They make new memory only. No condition but lengths that fit.
-/
import Derived.Test.YthhcjomfpjopdaaGame
import Derived.Test.YthhcjomfpjopdaaSortIn
import Derived.BigQuiet
import Derived.Deep.Cut
namespace Go.Proofs.Ythhcjomfpjopdaa
open Go.RowKit

theorem and_one {x : Int} (h0 : 0 ≤ x) (h1 : x < 4294967296) : bits .and .i64 x 1 = x % 2 := by
  obtain ⟨n, rfl⟩ : ∃ n : Nat, x = (n : Int) := ⟨x.toNat, by omega⟩
  have e := and_i64 n 1 (by omega) (by omega)
  rw [show ((1 : Nat) : Int) = 1 from rfl] at e
  rw [e, Nat.and_one_is_mod]; omega
/-- How two numbers stand. -/
def cmpI (x y : Int) : Int := if x < y then -1 else if y < x then 1 else 0

set_option maxRecDepth 10000 in
set_option maxHeartbeats 400000 in
theorem isNaN_any (x : Int) (w : World) :
    Calls Try.prog 97 #[.int .i64 x] w fun e w' => e = .returned (.bool false) ∧ w = w' := by
  go_enter Try.func97, Try.ntmps97
  go_wp2
  go_ret
  exact ⟨by simp, rfl⟩

set_option maxRecDepth 10000 in
set_option maxHeartbeats 400000 in
theorem cmpC_any (x y : Int) (w : World) :
    Calls Try.prog 82 #[.int .i64 x, .int .i64 y] w fun e w' => e = .returned (.int .i64 (cmpI x y)) ∧ w = w' := by
  go_enter Try.func82, Try.ntmps82
  go_wp2_with fail
  refine (isNaN_any x _).mono ?_
  rintro e w' ⟨rfl, rfl⟩
  go_wp2_with fail
  refine (isNaN_any y _).mono ?_
  rintro e w' ⟨rfl, rfl⟩
  by_cases h1_ : x < y
  · have h1_d : decide (x < y) = true := decide_eq_true h1_
    go_wp2
    go_ret
    exact ⟨ret_int (by unfold cmpI; split <;> (try split) <;> omega), rfl⟩
  · have h1_d : decide (x < y) = false := decide_eq_false h1_
    by_cases h2_ : x > y
    · have h2_d : decide (x > y) = true := decide_eq_true h2_
      go_wp2
      go_ret
      exact ⟨ret_int (by unfold cmpI; split <;> (try split) <;> omega), rfl⟩
    · have h2_d : decide (x > y) = false := decide_eq_false h2_
      go_wp2
      go_ret
      exact ⟨ret_int (by unfold cmpI; split <;> (try split) <;> omega), rfl⟩

set_option maxRecDepth 10000 in
set_option maxHeartbeats 400000 in
theorem compare_any (A : Option Addr) (c : Nat) (xs : List Int) (D : Option Addr) (d : Nat) (ys : List Int) (w : World) (lo hi : Nat) (h : Ints w lo hi A xs) (lo' hi' : Nat) (h' : Ints w lo' hi' D ys) (hn : xs.length = ys.length) (hl : xs.length ≤ 1152921504606846976) :
    Calls Try.prog 70 #[.slice A xs.length c, .slice D ys.length d] w fun e w' => e = .returned (.int .i64 (ordTo xs ys xs.length)) ∧ w = w' := by
  have hn1 : (xs.length : Int) = (ys.length : Int) := by omega
  have hn2 : xs.length ≤ ys.length := by omega
  have hn3 : ys.length ≤ xs.length := by omega
  have HN := Lib.hid hn
  clear hn hn1
  go_enter Try.func70, Try.ntmps70
  go_wp2
  go_loop [11] (fun i => ∃ k : Nat, i = .int .i64 k ∧ (k ≤ xs.length) ∧ (ordTo xs ys k = 0)) (fun i => xs.length - (intOf i).toNat)
  case atStart => exact ⟨0, rfl, Nat.zero_le _, rfl⟩
  case round =>
    obtain ⟨k, rfl, hk, ho⟩ := hrel
    have HO := Lib.hid ho
    clear ho
    by_cases hlt0 : k < xs.length
    · obtain ⟨b1_, f2_, rfl, _, b1_h, -⟩ := h (by omega)
      have c3_ : w.cell? ⟨b1_, f2_ + k, none⟩ = some (.int .i64 (xs.getD k 0)) := h.at2 k (by first | omega | (simp; omega) | simp)
      have c3_i : (k : Int) < (xs.length : Int) := by omega
      have c3_j : (0 : Int) ≤ (k : Int) := by omega
      obtain ⟨v4_, hv4_⟩ : ∃ v, v = xs.getD k 0 := ⟨_, rfl⟩
      rw [← hv4_] at c3_
      have Hv4_ := Lib.hid hv4_
      clear hv4_
      have h5_ : ¬ ((k : Int) ≥ (ys.length : Int)) := by omega
      have h5_d : decide ((k : Int) ≥ (ys.length : Int)) = false := decide_eq_false h5_
      obtain ⟨b6_, f7_, rfl, _, b6_h, -⟩ := h' (by omega)
      have c8_ : w.cell? ⟨b6_, f7_ + k, none⟩ = some (.int .i64 (ys.getD k 0)) := h'.at2 k (by first | omega | (simp; omega) | simp)
      have c8_i : (k : Int) < (ys.length : Int) := by omega
      have c8_j : (0 : Int) ≤ (k : Int) := by omega
      obtain ⟨v9_, hv9_⟩ : ∃ v, v = ys.getD k 0 := ⟨_, rfl⟩
      rw [← hv9_] at c8_
      have Hv9_ := Lib.hid hv9_
      clear hv9_
      go_wp2_with fail
      refine (cmpC_any v4_ v9_ _).mono ?_
      rintro e w' ⟨he, rfl⟩
      obtain ⟨v10_, hv10_⟩ : ∃ v, cmpI v4_ v9_ = v := ⟨_, rfl⟩
      rw [hv10_] at he
      subst he
      have Hv10_ := Lib.hid hv10_
      clear hv10_
      by_cases h11_ : v10_ = 0
      · have h11_b : (v10_ == 0) = true := by simpa using h11_
        have h11_n : (v10_ != 0) = false := by simpa using h11_
        have h11_le : v10_ ≤ 0 := by omega
        have h11_ge : 0 ≤ v10_ := by omega
        have Hh11_ := Lib.hid h11_
        clear h11_
        go_wp2
        go_round
        case rel => exact ⟨k + 1, by go_num, by omega, by have e : ordTo xs ys (k + 1) = v10_ := (by simp only [ordTo]; rw [HO.out, if_pos rfl, ← Hv4_.out, ← Hv9_.out]; exact Hv10_.out); rw [e]; exact Hh11_.out⟩
        case measure => simp [intOf] <;> omega
      · have h11_b : (v10_ == 0) = false := by simpa using h11_
        have h11_n : (v10_ != 0) = true := by simpa using h11_
        have e : ordTo xs ys (k + 1) = v10_ := (by simp only [ordTo]; rw [HO.out, if_pos rfl, ← Hv4_.out, ← Hv9_.out]; exact Hv10_.out)
        go_wp2
        go_ret
        exact ⟨ret_int (by rw [ordTo_stay (k := k + 1) (by rw [e]; omega) _ (by omega), e]), rfl⟩
    · obtain rfl : k = xs.length := by omega
      have h1_ : ¬ ((xs.length : Int) < (ys.length : Int)) := by omega
      have h1_d : decide ((xs.length : Int) < (ys.length : Int)) = false := decide_eq_false h1_
      go_wp2
      go_ret
      exact ⟨ret_int HO.out.symm, rfl⟩

set_option maxRecDepth 10000 in
set_option maxHeartbeats 400000 in
theorem implRowOrder_any (A : Option Addr) (c : Nat) (xs : List Int) (D : Option Addr) (d : Nat) (ys : List Int) (w : World) (lo hi : Nat) (h : Ints w lo hi A xs) (_hh : hi ≤ w.heap.size) (lo' hi' : Nat) (h' : Ints w lo' hi' D ys) (_hh' : hi' ≤ w.heap.size) (_hl : xs.length ≤ 1152921504606846976) (_hl' : ys.length ≤ 1152921504606846976) :
    Calls Try.prog 29 #[.slice A xs.length c, .slice D ys.length d] w fun e w' => e = .returned (.int .i64 (rowOrd xs ys)) ∧ Below w.heap.size w w' := by
  go_enter Try.func29, Try.ntmps29
  by_cases h1_ : (xs.length : Int) = (ys.length : Int)
  · have h1_b : ((xs.length : Int) == (ys.length : Int)) = true := by simpa using h1_
    have h1_n : ((xs.length : Int) != (ys.length : Int)) = false := by simpa using h1_
    have h1_le : (xs.length : Int) ≤ (ys.length : Int) := by omega
    have h1_ge : (ys.length : Int) ≤ (xs.length : Int) := by omega
    have Hh1_ := Lib.hid h1_
    clear h1_
    by_cases h2_ : (xs.length : Int) > 16
    · have h2_d : decide ((xs.length : Int) > 16) = true := decide_eq_true h2_
      go_wp2
      go_ret
      exact ⟨ret_int (by rw [rowOrd, if_neg (fun h => by have e := h.2; omega)]), Below.refl _ _⟩
    · have h2_d : decide ((xs.length : Int) > 16) = false := decide_eq_false h2_
      go_wp2_with fail
      refine (compare_any A c xs D d ys _ _ _ h _ _ h' (by omega) (by omega)).mono ?_
      rintro e w' ⟨he, rfl⟩
      obtain ⟨v3_, hv3_⟩ : ∃ v, ordTo xs ys xs.length = v := ⟨_, rfl⟩
      rw [hv3_] at he
      subst he
      have Hv3_ := Lib.hid hv3_
      clear hv3_
      go_wp2
      go_ret
      exact ⟨ret_int (by rw [rowOrd, if_pos ⟨by omega, by omega⟩]; exact Hv3_.out.symm), Below.refl _ _⟩
  · have h1_b : ((xs.length : Int) == (ys.length : Int)) = false := by simpa using h1_
    have h1_n : ((xs.length : Int) != (ys.length : Int)) = true := by simpa using h1_
    go_wp2
    go_ret
    exact ⟨ret_int (by rw [rowOrd, if_neg (fun h => h1_ (by rw [h.1]))]), Below.refl _ _⟩

set_option maxRecDepth 10000 in
set_option maxHeartbeats 400000 in
theorem setsOf_is (n p : Nat) (w : World) (hn : n ≤ 4) (hp : 2 ^ n = p) :
    Calls Try.prog 72 #[.int .i64 (n : Int)] w fun e w' => e = .returned (.int .i64 (p : Int)) ∧ w = w' := by
  obtain ⟨hp1, hp2⟩ := pow_bd hn
  go_enter Try.func72, Try.ntmps72
  go_wp2
  go_ret
  exact ⟨ret_int (by rw [← hp, Int.natCast_pow]; rfl), rfl⟩

set_option maxRecDepth 10000 in
set_option maxHeartbeats 400000 in
theorem isSet_any (s : Int) (n p : Nat) (w : World) (hn : n ≤ 4) (hp : 2 ^ n = p) :
    Calls Try.prog 50 #[.int .i64 s, .int .i64 (n : Int)] w fun e w' => e = .returned (.bool (decide (0 ≤ s ∧ s < (p : Int)))) ∧ w = w' := by
  have HP := Lib.hid hp
  clear hp
  go_enter Try.func50, Try.ntmps50
  by_cases h1_ : s ≥ 0
  · have h1_d : decide (s ≥ 0) = true := decide_eq_true h1_
    go_wp2_with fail
    refine (setsOf_is n p _ (by omega) HP.out).mono ?_
    rintro e w' ⟨rfl, rfl⟩
    by_cases h2_ : s < (p : Int)
    · have h2_d : decide (s < (p : Int)) = true := decide_eq_true h2_
      go_wp2
      go_ret
      exact ⟨ret_bool (by first | exact (by first | rfl | exact (decide_eq_true (show (0 ≤ s ∧ s < (p : Int)) by omega)).symm) | exact (decide_eq_true (by omega)).trans (by first | rfl | exact (decide_eq_true (show (0 ≤ s ∧ s < (p : Int)) by omega)).symm)), rfl⟩
    · have h2_d : decide (s < (p : Int)) = false := decide_eq_false h2_
      go_wp2
      go_ret
      exact ⟨ret_bool (by first | exact (by first | rfl | exact (decide_eq_false (show ¬ (0 ≤ s ∧ s < (p : Int)) by omega)).symm) | exact (decide_eq_false (by omega)).trans (by first | rfl | exact (decide_eq_false (show ¬ (0 ≤ s ∧ s < (p : Int)) by omega)).symm)), rfl⟩
  · have h1_d : decide (s ≥ 0) = false := decide_eq_false h1_
    go_wp2
    go_ret
    exact ⟨ret_bool (by first | exact (by first | rfl | exact (decide_eq_false (show ¬ (0 ≤ s ∧ s < (p : Int)) by omega)).symm) | exact (decide_eq_false (by omega)).trans (by first | rfl | exact (decide_eq_false (show ¬ (0 ≤ s ∧ s < (p : Int)) by omega)).symm)), rfl⟩

theorem isSet_yes (s : Int) (n p : Nat) (w : World) (hn : n ≤ 4) (hp : 2 ^ n = p) (h : 0 ≤ s ∧ s < (p : Int)) : Calls Try.prog 50 #[.int .i64 s, .int .i64 (n : Int)] w (fun e w' => e = .returned (.bool true) ∧ w = w') :=
  (isSet_any s n p w hn hp).mono fun _ _ ⟨e, r⟩ => ⟨by rw [e, decide_eq_true h], r⟩
theorem isSet_no (s : Int) (n p : Nat) (w : World) (hn : n ≤ 4) (hp : 2 ^ n = p) (h : ¬ (0 ≤ s ∧ s < (p : Int))) : Calls Try.prog 50 #[.int .i64 s, .int .i64 (n : Int)] w (fun e w' => e = .returned (.bool false) ∧ w = w') :=
  (isSet_any s n p w hn hp).mono fun _ _ ⟨e, r⟩ => ⟨by rw [e, decide_eq_false h], r⟩

theorem isWithin_any (k : Nat) (s : Int) (w : World) (hk : k ≤ 5) (hs : 0 ≤ s) (hs2 : s ≤ 255) :
    Calls Try.prog 75 #[.int .i64 (k : Int), .int .i64 s] w fun e w' => e = .returned (.bool (decide (s / 2 ^ k % 2 = 1))) ∧ w = w' := by
  have hp2 : 0 ≤ s / 2 ^ k := Int.ediv_nonneg (by omega) (by exact Int.le_of_lt (Int.pow_pos (by omega)))
  obtain ⟨B, hB⟩ : ∃ B, bits .and .i64 (s / 2 ^ k) 1 = B := ⟨_, rfl⟩
  have qB : B = s / 2 ^ k % 2 := by rw [← hB]; exact and_one hp2 (by have e := Int.ediv_le_self (2 ^ k) hs; omega)
  by_cases h6 : B = 1
  · have h6_b : (B == 1) = true := by simpa using h6
    have HD : Hid (decide (s / 2 ^ k % 2 = 1) = true) := decide_eq_true (by rw [← qB]; exact h6)
    have H6 := Lib.hid h6
    clear h6 qB
    go_enter Try.func75, Try.ntmps75
    go_wp2
    go_ret
    exact ⟨ret_bool (by first | exact HD.out.symm | (rw [HD.out]; simp [H6.out])), rfl⟩
  · have h6_b : (B == 1) = false := by simpa using h6
    have HD : Hid (decide (s / 2 ^ k % 2 = 1) = false) := decide_eq_false (by rw [← qB]; exact h6)
    clear qB
    go_enter Try.func75, Try.ntmps75
    go_wp2
    go_ret
    exact ⟨ret_bool (by first | exact HD.out.symm | (rw [HD.out]; simp [h6])), rfl⟩
theorem isWithin_yes (k : Nat) (s : Int) (w : World) (hk : k ≤ 5) (hs : 0 ≤ s) (hs2 : s ≤ 255) (h : s / 2 ^ k % 2 = 1) : Calls Try.prog 75 #[.int .i64 (k : Int), .int .i64 s] w (fun e w' => e = .returned (.bool true) ∧ w = w') :=
  (isWithin_any k s w hk hs hs2).mono fun _ _ ⟨e, r⟩ => ⟨by rw [e, decide_eq_true h], r⟩
theorem isWithin_no (k : Nat) (s : Int) (w : World) (hk : k ≤ 5) (hs : 0 ≤ s) (hs2 : s ≤ 255) (h : ¬ s / 2 ^ k % 2 = 1) : Calls Try.prog 75 #[.int .i64 (k : Int), .int .i64 s] w (fun e w' => e = .returned (.bool false) ∧ w = w') :=
  (isWithin_any k s w hk hs hs2).mono fun _ _ ⟨e, r⟩ => ⟨by rw [e, decide_eq_false h], r⟩

set_option maxRecDepth 10000 in
set_option maxHeartbeats 400000 in
theorem sumWithin_any (A : Option Addr) (c : Nat) (xs : List Int) (s : Int) (w : World) (lo hi : Nat) (h : Ints w lo hi A xs) (h4 : xs.length ≤ 5) (hs : 0 ≤ s) (hs2 : s ≤ 255) (hx : ∀ k, k < xs.length → -2400 ≤ xs.getD k 0 ∧ xs.getD k 0 ≤ 2400) :
    Calls Try.prog 52 #[.slice A xs.length c, .int .i64 s] w fun e w' => e = .returned (.int .i64 (inSum xs s xs.length)) ∧ w = w' := by
  have HV := Lib.hid hx
  have HB := Lib.hid (fun k hk => inSum_bd h4 hx s k hk)
  clear hx
  go_enter Try.func52, Try.ntmps52
  go_wp2
  go_loop [5, 10] (fun o i => ∃ k : Nat, ∃ S : Int, o = .int .i64 S ∧ i = .int .i64 k ∧ (k ≤ xs.length) ∧ (S = inSum xs s k)) (fun o i => xs.length - (intOf i).toNat)
  case atStart => exact ⟨0, 0, rfl, rfl, Nat.zero_le _, rfl⟩
  case round =>
    obtain ⟨k, S, rfl, rfl, hk, hS⟩ := hrel
    have hbS := HB.out k hk
    rw [← hS] at hbS
    have hp2 : 0 ≤ s / 2 ^ k := Int.ediv_nonneg (by omega) (by exact Int.le_of_lt (Int.pow_pos (by omega)))
    have HS := Lib.hid hS
    clear hS
    by_cases hlt0 : k < xs.length
    · obtain ⟨b1_, f2_, rfl, _, b1_h, -⟩ := h (by omega)
      have c3_ : w.cell? ⟨b1_, f2_ + k, none⟩ = some (.int .i64 (xs.getD k 0)) := h.at2 k (by first | omega | (simp; omega) | simp)
      have c3_i : (k : Int) < (xs.length : Int) := by omega
      have c3_j : (0 : Int) ≤ (k : Int) := by omega
      have v4_g := (HV.out k (by omega) : -2400 ≤ xs.getD k 0 ∧ xs.getD k 0 ≤ 2400)
      obtain ⟨v4_, hv4_⟩ : ∃ v, v = xs.getD k 0 := ⟨_, rfl⟩
      rw [← hv4_] at c3_ v4_g
      have Hv4_ := Lib.hid hv4_
      clear hv4_
      obtain ⟨v4_g1, v4_g2⟩ := v4_g
      by_cases h5_ : s / 2 ^ k % 2 = 1
      · have H5_ := Lib.hid h5_
        clear h5_
        go_wp2_with fail
        refine (isWithin_yes k s _ (by omega) (by omega) (by omega) H5_.out).mono ?_
        rintro e w' ⟨rfl, rfl⟩
        go_wp2
        go_round
        case rel => exact ⟨k + 1, S + v4_, by go_num, by go_num, by omega, by simp only [inSum]; rw [← HS.out, if_pos (H5_.out)]; rw [← Hv4_.out]⟩
        case measure => simp [intOf] <;> omega
      · have H5_ := Lib.hid h5_
        clear h5_
        go_wp2_with fail
        refine (isWithin_no k s _ (by omega) (by omega) (by omega) H5_.out).mono ?_
        rintro e w' ⟨rfl, rfl⟩
        go_wp2
        go_round
        case rel => exact ⟨k + 1, S, by go_num, by go_num, by omega, by simp only [inSum]; rw [← HS.out, if_neg (H5_.out)]; simp⟩
        case measure => simp [intOf] <;> omega
    · obtain rfl : k = xs.length := by omega
      go_wp2
      go_ret
      exact ⟨ret_int HS.out, rfl⟩

theorem pow_bd3 {n p : Nat} (h : 2 ^ n = p) (hn : n ≤ 4) : 1 ≤ p ∧ p ≤ 16 := by
  subst h
  rcases (show n = 0 ∨ n = 1 ∨ n = 2 ∨ n = 3 ∨ n = 4 from by omega) with rfl | rfl | rfl | rfl | rfl <;> simp

theorem worth_in {E : Int} {xs : List Int} {s : Int} (_h : caseOkB E xs = true) (h0 : 0 ≤ s) : worth E xs s = max 0 (E - (xs.sum - inSum xs s xs.length)) := by
  obtain ⟨n, rfl⟩ : ∃ n : Nat, s = (n : Int) := ⟨s.toNat, by omega⟩
  have e := in_out xs n xs.length
  rw [List.take_length] at e
  unfold worth; omega

set_option maxRecDepth 10000 in
set_option maxHeartbeats 400000 in
theorem implWorthOf_any (E : Int) (A : Option Addr) (c : Nat) (xs : List Int) (s : Int) (w : World) (lo hi : Nat) (h : Ints w lo hi A xs) (hh : hi ≤ w.heap.size) (hl : xs.length ≤ 1152921504606846976) :
    Calls Try.prog 15 #[.agg #[.int .i64 E, .slice A xs.length c], .int .i64 s] w fun e w' => e = .returned (.int .i64 (worthOf E xs s)) ∧ Below w.heap.size w w' := by
  go_enter Try.func15, Try.ntmps15
  have o1_ := h.alloc (by first | omega | (simp; omega) | simp) (.cells #[.int .i64 E, .slice A xs.length c] 25)
  have B2_ := (Below.refl w.heap.size w).alloc (Nat.le_refl _) (.cells #[.int .i64 E, .slice A xs.length c] 25)
  have a3_ : (w.alloc (.cells #[.int .i64 E, .slice A xs.length c] 25)).cell? ⟨w.heap.size, 0, none⟩ = some (.int .i64 E) := by simp [go_sem]
  have a4_ : (w.alloc (.cells #[.int .i64 E, .slice A xs.length c] 25)).cell? ⟨w.heap.size, 1, none⟩ = some (.slice A xs.length c) := by simp [go_sem]
  by_cases h5_ : caseOkB E xs = true
  · have H5_ := Lib.hid h5_
    clear h5_
    have hbd := caseOk_bd H5_.out
    have HV := Lib.hid (fun k hk => case_getD H5_.out k hk)
    have HSM := Lib.hid (caseOk_small H5_.out)
    have HCB := Lib.hid H5_.out
    obtain ⟨p, hp⟩ : ∃ p : Nat, 2 ^ xs.length = p := ⟨_, rfl⟩
    have hpb := pow_bd3 hp hbd.2.1
    obtain ⟨hp1, hp2⟩ := hpb
    have HP := Lib.hid hp
    clear hp
    go_wp2_with fail
    refine (implCaseOk_any E A c xs _ _ _ o1_ (by first | omega | (simp; omega) | simp) hl).mono ?_
    rintro e w6 ⟨he, hb6_⟩
    rw [H5_.out] at he
    subst he
    have o7_ := o1_.below hb6_ (by first | omega | (simp; omega) | simp)
    have o8_ := (hb6_.cell (p := ⟨w.heap.size, 0, none⟩) (by first | omega | (simp; omega) | simp)).trans a3_
    have o9_ := (hb6_.cell (p := ⟨w.heap.size, 1, none⟩) (by first | omega | (simp; omega) | simp)).trans a4_
    have z10_ := hb6_.size
    try simp at z10_
    have B11_ := B2_.trans (hb6_.mono (by first | omega | (simp; omega) | simp))
    clear hb6_
    by_cases h12_ : 0 ≤ s ∧ s < (p : Int)
    · have H12_ := Lib.hid h12_
      clear h12_
      obtain ⟨H12_a, H12_b⟩ := H12_.out
      go_wp2_with fail
      refine (isSet_yes s xs.length p _ (by omega) HP.out H12_.out).mono ?_
      rintro e w' ⟨rfl, rfl⟩
      obtain ⟨v13_, hv13_⟩ : ∃ v, xs.sum = v := ⟨_, rfl⟩
      have bv13_ : 0 ≤ v13_ ∧ v13_ ≤ 48 := by omega
      obtain ⟨bv13_1, bv13_2⟩ := bv13_
      have Hv13_ := Lib.hid hv13_
      clear hv13_
      obtain ⟨v14_, hv14_⟩ : ∃ v, inSum xs s xs.length = v := ⟨_, rfl⟩
      have bv14_ := inSum_bd (xs := xs) (by omega) HV.out s xs.length (Nat.le_refl _)
      rw [hv14_] at bv14_
      obtain ⟨bv14_1, bv14_2⟩ := bv14_
      have Hv14_ := Lib.hid hv14_
      clear hv14_
      have hw15_ : IntKind.i64.wrap (v13_ - v14_) = (v13_ - v14_) := IntWalk.i64_in _ (by omega)
      go_wp2
      go_quiet ((first | (go_at_call 51; exact quiet_left1 (same_is (sumOf_any A c xs _ _ _ o7_ HSM.out) (congrArg (Value.int .i64) Hv13_.out))) | (go_at_call 52; exact quiet_left1 (same_is (sumWithin_any A c xs s _ _ _ o7_ (by omega) (by omega) (by omega) HV.out) (congrArg (Value.int .i64) Hv14_.out)))))
      obtain ⟨w16, hw16⟩ : ∃ x, x = w6.drewN nq := ⟨_, rfl⟩
      have hb17_ : Below w6.heap.size w6 w16 := by rw [hw16]; exact below_drewN (Below.refl _ _) _
      rw [← hw16]
      clear hw16
      clear hw15_
      have o19_ := o7_.below hb17_ (by first | omega | (simp; omega) | simp)
      have o20_ := (hb17_.cell (p := ⟨w.heap.size, 0, none⟩) (by first | omega | (simp; omega) | simp)).trans o8_
      have o21_ := (hb17_.cell (p := ⟨w.heap.size, 1, none⟩) (by first | omega | (simp; omega) | simp)).trans o9_
      have z22_ := hb17_.size
      have B23_ := B11_.trans (hb17_.mono (by first | omega | (simp; omega) | simp))
      clear hb17_
      go_wp2
      all_goals
        go_ret
        exact ⟨ret_int (by rw [worthOf, if_pos ⟨HCB.out, by omega, (by have e : s < (p : Int) := (by omega); rw [← HP.out, Int.natCast_pow] at e; exact e)⟩, worth_in HCB.out (by omega), Hv13_.out, Hv14_.out]; (try omega)), B23_⟩
    · have H12_ := Lib.hid h12_
      clear h12_
      go_wp2_with fail
      refine (isSet_no s xs.length p _ (by omega) HP.out H12_.out).mono ?_
      rintro e w' ⟨rfl, rfl⟩
      go_wp2
      go_ret
      exact ⟨ret_int (by rw [worthOf, if_neg (fun h => H12_.out ⟨h.2.1, by have e := h.2.2; rw [← HP.out, Int.natCast_pow]; exact e⟩)]), B11_⟩
  · have H5_ : Hid (caseOkB E xs = false) := by show _ = _; simpa using h5_
    clear h5_
    go_wp2_with fail
    refine (implCaseOk_any E A c xs _ _ _ o1_ (by first | omega | (simp; omega) | simp) hl).mono ?_
    rintro e w6 ⟨he, hb6_⟩
    rw [H5_.out] at he
    subst he
    have o7_ := o1_.below hb6_ (by first | omega | (simp; omega) | simp)
    have o8_ := (hb6_.cell (p := ⟨w.heap.size, 0, none⟩) (by first | omega | (simp; omega) | simp)).trans a3_
    have o9_ := (hb6_.cell (p := ⟨w.heap.size, 1, none⟩) (by first | omega | (simp; omega) | simp)).trans a4_
    have z10_ := hb6_.size
    try simp at z10_
    have B11_ := B2_.trans (hb6_.mono (by first | omega | (simp; omega) | simp))
    clear hb6_
    go_wp2
    go_ret
    exact ⟨ret_int (by rw [worthOf, H5_.out]; simp), B11_⟩

theorem implWorth_in (E : Int) (A : Option Addr) (c : Nat) (xs : List Int) (s : Nat) (w : World) (lo hi : Nat) (h : Ints w lo hi A xs) (hh : hi ≤ w.heap.size) (hok : caseOkB E xs = true) {p : Nat} (hp : 2 ^ xs.length = p) (hs : s < p) :
    Calls Try.prog 15 #[.agg #[.int .i64 E, .slice A xs.length c], .int .i64 (s : Int)] w (fun e w' => e = .returned (.int .i64 (worth E xs (s : Int))) ∧ Below w.heap.size w w') := by
  have e := implWorthOf_any E A c xs (s : Int) w lo hi h hh (by have e := caseOk_bd hok; omega)
  rwa [worthOf_is hok (by omega) (by subst hp; exact_mod_cast hs)] at e

set_option maxRecDepth 10000 in
set_option maxHeartbeats 400000 in
theorem implWorthRow_yes (E : Int) (A : Option Addr) (c : Nat) (xs : List Int) (w : World) (lo hi : Nat) (h : Ints w lo hi A xs) (hh : hi ≤ w.heap.size) (hl : xs.length ≤ 1152921504606846976) (hok : caseOkB E xs = true) :
    Calls Try.prog 33 #[.agg #[.int .i64 E, .slice A xs.length c]] w (RetInts w (worthRow E xs)) := by
  have HCB := Lib.hid hok
  clear hok
  have hbd := caseOk_bd HCB.out
  have HV := Lib.hid (fun k hk => case_getD HCB.out k hk)
  have HSM := Lib.hid (caseOk_small HCB.out)
  obtain ⟨p, hp⟩ : ∃ p : Nat, 2 ^ xs.length = p := ⟨_, rfl⟩
  have hpb := pow_bd3 hp hbd.2.1
  obtain ⟨hp1, hp2⟩ := hpb
  have HP := Lib.hid hp
  clear hp
  go_enter Try.func33, Try.ntmps33
  have o1_ := h.alloc (by first | omega | (simp; omega) | simp) (.cells #[.int .i64 E, .slice A xs.length c] 25)
  have B2_ := (Below.refl w.heap.size w).alloc (Nat.le_refl _) (.cells #[.int .i64 E, .slice A xs.length c] 25)
  have a3_ : (w.alloc (.cells #[.int .i64 E, .slice A xs.length c] 25)).cell? ⟨w.heap.size, 0, none⟩ = some (.int .i64 E) := by simp [go_sem]
  have a4_ : (w.alloc (.cells #[.int .i64 E, .slice A xs.length c] 25)).cell? ⟨w.heap.size, 1, none⟩ = some (.slice A xs.length c) := by simp [go_sem]
  go_wp2_with fail
  refine (implCaseOk_any E A c xs _ _ _ o1_ (by first | omega | (simp; omega) | simp) hl).mono ?_
  rintro e w5 ⟨he, hb5_⟩
  rw [HCB.out] at he
  subst he
  have o6_ := o1_.below hb5_ (by first | omega | (simp; omega) | simp)
  have o7_ := (hb5_.cell (p := ⟨w.heap.size, 0, none⟩) (by first | omega | (simp; omega) | simp)).trans a3_
  have o8_ := (hb5_.cell (p := ⟨w.heap.size, 1, none⟩) (by first | omega | (simp; omega) | simp)).trans a4_
  have z9_ := hb5_.size
  try simp at z9_
  have B10_ := B2_.trans (hb5_.mono (by first | omega | (simp; omega) | simp))
  clear hb5_
  go_wp2_with fail
  refine (setsOf_is xs.length p _ (by omega) HP.out).mono ?_
  rintro e w' ⟨rfl, rfl⟩
  go_upto_region 4 with (at_make; (refine make_gr (by rfl) _ _ (by rfl) (n := p) (x := (p : Int)) (by omega) (by rfl) (by rfl) (by omega) ?_; intro w11 G11_ hb12_))
  have o14_ := o6_.below hb12_ (by first | omega | (simp; omega) | simp)
  have o15_ := (hb12_.cell (p := ⟨w.heap.size, 0, none⟩) (by first | omega | (simp; omega) | simp)).trans o7_
  have o16_ := (hb12_.cell (p := ⟨w.heap.size, 1, none⟩) (by first | omega | (simp; omega) | simp)).trans o8_
  have z17_ := hb12_.size
  have B18_ := B10_.trans (hb12_.mono (by first | omega | (simp; omega) | simp))
  clear hb12_
  have l19_ := G11_.lt
  have HL20_ : Hid ((List.replicate p 0).length = p) := List.length_replicate
  go_wp2
  go_loopw [15] (fun i wr => ∃ m : Nat, i = .int .i64 m ∧ (m ≤ p) ∧ Grow wr w5.heap.size p (fillTo (worthTo E xs p) m) ∧ Below w.heap.size w wr ∧ w11.heap.size ≤ wr.heap.size ∧ Ints wr (lo) (hi) A xs ∧ wr.cell? ⟨w.heap.size, 0, none⟩ = some (.int .i64 E) ∧ wr.cell? ⟨w.heap.size, 1, none⟩ = some (.slice A xs.length c)) (fun i _ => p - (intOf i).toNat)
  case atStart => exact ⟨0, rfl, Nat.zero_le _, (by rw [fillTo_zero, worthTo_length]; exact G11_), B18_, (by first | omega | (simp; omega) | simp), o14_, o15_, o16_⟩
  case round =>
    obtain ⟨m, rfl, hm, G22_, k23_, k24_, k25_, k26_, k27_⟩ := hrel
    obtain ⟨w21, rfl⟩ : ∃ x, x = wr := ⟨_, rfl⟩
    have HL28_ : Hid ((fillTo (worthTo E xs p) m).length = p) := (by show _ = _; rw [fillTo_length _ _ (by rw [worthTo_length]; omega), worthTo_length])
    have l29_ := G22_.lt
    by_cases hlt0 : m < p
    · go_wp2_with fail
      refine (implWorth_in E A c xs m _ _ _ k25_ (by first | omega | (simp; omega) | simp) HCB.out HP.out (by omega)).mono ?_
      rintro e w30 ⟨he, hb30_⟩
      obtain ⟨v31_, hv31_⟩ : ∃ v, worth E xs (m : Int) = v := ⟨_, rfl⟩
      rw [hv31_] at he
      subst he
      have Hv31_ := Lib.hid hv31_
      clear hv31_
      have o32_ := k25_.below hb30_ (by first | omega | (simp; omega) | simp)
      have o33_ := G22_.below hb30_ (by first | omega | (simp; omega) | simp)
      have o34_ := (hb30_.cell (p := ⟨w.heap.size, 0, none⟩) (by first | omega | (simp; omega) | simp)).trans k26_
      have o35_ := (hb30_.cell (p := ⟨w.heap.size, 1, none⟩) (by first | omega | (simp; omega) | simp)).trans k27_
      have z36_ := hb30_.size
      have B37_ := k23_.trans (hb30_.mono (by first | omega | (simp; omega) | simp))
      clear hb30_
      have c39_ := o33_.at_ m (by rw [fillTo_length _ _ (by rw [worthTo_length]; omega), worthTo_length]; omega)
      have c39_f := o33_.soft m (by rw [fillTo_length _ _ (by rw [worthTo_length]; omega), worthTo_length]; omega)
      have c39_i : (m : Int) < (p : Int) := by omega
      have c39_j : (0 : Int) ≤ (m : Int) := by omega
      have hC38_ := Chg.setCell (lo := w5.heap.size) (hi := w5.heap.size + 1) w30 (p := ⟨w5.heap.size, m, none⟩) ⟨Nat.le_refl _, Nat.lt_succ_self _⟩ (.int .i64 v31_)
      have G40_ := o33_.store m v31_
      have o41_ := o32_.chg hC38_ (by first | omega | (simp; omega) | simp) (by omega)
      have o42_ := (hC38_.cell (p := ⟨w.heap.size, 0, none⟩) (by first | omega | (simp; omega) | simp) (by first | omega | (simp; omega) | simp)).trans o34_
      have o43_ := (hC38_.cell (p := ⟨w.heap.size, 1, none⟩) (by first | omega | (simp; omega) | simp) (by first | omega | (simp; omega) | simp)).trans o35_
      have z44_ := hC38_.size
      try simp at z44_
      have B45_ := B37_.trans (hC38_.below (by omega) (by first | omega | (simp; omega) | simp))
      clear hC38_
      go_wp2
      go_roundw
      case rel => exact ⟨m + 1, by go_num, by omega, (by have e := fillTo_set (worthTo E xs p) m (by rw [worthTo_length]; omega); rw [← getD_of_lt _ m (by rw [worthTo_length]; omega), worthTo_getD E xs hlt0, Hv31_.out] at e; rw [← e]; exact G40_), B45_, (by first | omega | (simp; omega) | simp), o41_, o42_, o43_⟩
      case measure => simp [intOf] <;> omega
    · obtain rfl : m = p := by omega
      have hfa := fillTo_all (worthTo E xs m)
      rw [worthTo_length] at hfa
      rw [hfa] at G22_
      have hfin : worthRow E xs = worthTo E xs m := by rw [worthRow, if_pos HCB.out, HP.out]
      go_wp2
      go_ret
      rw [hfin]
      (refine retInts_grow G22_ (by omega) ?_ k23_; rw [worthTo_length])

set_option maxRecDepth 10000 in
set_option maxHeartbeats 400000 in
theorem implWorthRow_no (E : Int) (A : Option Addr) (c : Nat) (xs : List Int) (w : World) (lo hi : Nat) (h : Ints w lo hi A xs) (hh : hi ≤ w.heap.size) (hl : xs.length ≤ 1152921504606846976) (hok : caseOkB E xs = false) :
    Calls Try.prog 33 #[.agg #[.int .i64 E, .slice A xs.length c]] w (RetInts w (worthRow E xs)) := by
  have HCB := Lib.hid hok
  clear hok
  go_enter Try.func33, Try.ntmps33
  have o1_ := h.alloc (by first | omega | (simp; omega) | simp) (.cells #[.int .i64 E, .slice A xs.length c] 25)
  have B2_ := (Below.refl w.heap.size w).alloc (Nat.le_refl _) (.cells #[.int .i64 E, .slice A xs.length c] 25)
  have a3_ : (w.alloc (.cells #[.int .i64 E, .slice A xs.length c] 25)).cell? ⟨w.heap.size, 0, none⟩ = some (.int .i64 E) := by simp [go_sem]
  have a4_ : (w.alloc (.cells #[.int .i64 E, .slice A xs.length c] 25)).cell? ⟨w.heap.size, 1, none⟩ = some (.slice A xs.length c) := by simp [go_sem]
  go_wp2_with fail
  refine (implCaseOk_any E A c xs _ _ _ o1_ (by first | omega | (simp; omega) | simp) hl).mono ?_
  rintro e w5 ⟨he, hb5_⟩
  rw [HCB.out] at he
  subst he
  have o6_ := o1_.below hb5_ (by first | omega | (simp; omega) | simp)
  have o7_ := (hb5_.cell (p := ⟨w.heap.size, 0, none⟩) (by first | omega | (simp; omega) | simp)).trans a3_
  have o8_ := (hb5_.cell (p := ⟨w.heap.size, 1, none⟩) (by first | omega | (simp; omega) | simp)).trans a4_
  have z9_ := hb5_.size
  try simp at z9_
  have B10_ := B2_.trans (hb5_.mono (by first | omega | (simp; omega) | simp))
  clear hb5_
  go_wp2
  go_ret
  exact retInts_nil (by rw [worthRow, if_neg (by rw [HCB.out]; simp)]) B10_

theorem implWorthRow_any (E : Int) (A : Option Addr) (c : Nat) (xs : List Int) (w : World) (lo hi : Nat) (h : Ints w lo hi A xs) (hh : hi ≤ w.heap.size) (hl : xs.length ≤ 1152921504606846976) :
    Calls Try.prog 33 #[.agg #[.int .i64 E, .slice A xs.length c]] w (RetInts w (worthRow E xs)) := by
  by_cases hok : caseOkB E xs = true
  · exact implWorthRow_yes E A c xs w lo hi h hh hl hok
  · exact implWorthRow_no E A c xs w lo hi h hh hl (by simpa using hok)


end Go.Proofs.Ythhcjomfpjopdaa
