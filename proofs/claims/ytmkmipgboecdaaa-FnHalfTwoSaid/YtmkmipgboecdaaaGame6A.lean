/-
  The program's functions of chapter 6: what a set is worth, the core, misses, orders of rows. They make new memory only. No condition but lengths that fit.
-/
import Derived.Test.YtmkmipgboecdaaaGame
import Derived.Test.YtmkmipgboecdaaaSortIn
import Derived.BigQuiet
import Derived.Deep.Cut
namespace Go.Proofs.Ytmkmipgboecdaaa
open Go.RowKit

theorem and_one {x : Int} (h0 : 0 ≤ x) (h1 : x < 4294967296) : bits .and .i64 x 1 = x % 2 := by
  obtain ⟨n, rfl⟩ : ∃ n : Nat, x = (n : Int) := ⟨x.toNat, by omega⟩
  have e := and_i64 n 1 (by omega) (by omega)
  rw [show ((1 : Nat) : Int) = 1 from rfl] at e
  rw [e, Nat.and_one_is_mod]; omega
/-- How two numbers stand. -/
def cmpI (x y : Int) : Int := if x < y then -1 else if y < x then 1 else 0

set_option maxRecDepth 10000 in
set_option maxHeartbeats 400000 in
theorem isNaN_any (x : Int) (w : World) :
    Calls Try.prog 123 #[.int .i64 x] w fun e w' => e = .returned (.bool false) ∧ w = w' := by
  go_enter Try.func123, Try.ntmps123
  go_wp2
  go_ret
  exact ⟨by simp, rfl⟩

set_option maxRecDepth 10000 in
set_option maxHeartbeats 400000 in
theorem setsOf_is (n p : Nat) (w : World) (hn : n ≤ 4) (hp : 2 ^ n = p) :
    Calls Try.prog 68 #[.int .i64 (n : Int)] w fun e w' => e = .returned (.int .i64 (p : Int)) ∧ w = w' := by
  obtain ⟨hp1, hp2⟩ := pow_bd hn
  go_enter Try.func68, Try.ntmps68
  go_wp2
  go_ret
  exact ⟨ret_int (by rw [← hp, Int.natCast_pow]; rfl), rfl⟩

set_option maxRecDepth 10000 in
set_option maxHeartbeats 400000 in
theorem isSet_any (s : Int) (n p : Nat) (w : World) (hn : n ≤ 4) (hp : 2 ^ n = p) :
    Calls Try.prog 72 #[.int .i64 s, .int .i64 (n : Int)] w fun e w' => e = .returned (.bool (decide (0 ≤ s ∧ s < (p : Int)))) ∧ w = w' := by
  have HP := Lib.hid hp
  clear hp
  go_enter Try.func72, Try.ntmps72
  by_cases h1_ : s ≥ 0
  · have h1_d : decide (s ≥ 0) = true := decide_eq_true h1_
    go_wp2_with fail
    refine (setsOf_is n p _ (by omega) HP.out).mono ?_
    rintro e w' ⟨rfl, rfl⟩
    by_cases h2_ : s < (p : Int)
    · have h2_d : decide (s < (p : Int)) = true := decide_eq_true h2_
      go_wp2
      go_ret
      exact ⟨ret_bool (by first | exact (by first | rfl | exact (decide_eq_true (show (0 ≤ s ∧ s < (p : Int)) by omega)).symm) | exact (decide_eq_true (by omega)).trans (by first | rfl | exact (decide_eq_true (show (0 ≤ s ∧ s < (p : Int)) by omega)).symm)), rfl⟩
    · have h2_d : decide (s < (p : Int)) = false := decide_eq_false h2_
      go_wp2
      go_ret
      exact ⟨ret_bool (by first | exact (by first | rfl | exact (decide_eq_false (show ¬ (0 ≤ s ∧ s < (p : Int)) by omega)).symm) | exact (decide_eq_false (by omega)).trans (by first | rfl | exact (decide_eq_false (show ¬ (0 ≤ s ∧ s < (p : Int)) by omega)).symm)), rfl⟩
  · have h1_d : decide (s ≥ 0) = false := decide_eq_false h1_
    go_wp2
    go_ret
    exact ⟨ret_bool (by first | exact (by first | rfl | exact (decide_eq_false (show ¬ (0 ≤ s ∧ s < (p : Int)) by omega)).symm) | exact (decide_eq_false (by omega)).trans (by first | rfl | exact (decide_eq_false (show ¬ (0 ≤ s ∧ s < (p : Int)) by omega)).symm)), rfl⟩

theorem isSet_yes (s : Int) (n p : Nat) (w : World) (hn : n ≤ 4) (hp : 2 ^ n = p) (h : 0 ≤ s ∧ s < (p : Int)) : Calls Try.prog 72 #[.int .i64 s, .int .i64 (n : Int)] w (fun e w' => e = .returned (.bool true) ∧ w = w') :=
  (isSet_any s n p w hn hp).mono fun _ _ ⟨e, r⟩ => ⟨by rw [e, decide_eq_true h], r⟩
theorem isSet_no (s : Int) (n p : Nat) (w : World) (hn : n ≤ 4) (hp : 2 ^ n = p) (h : ¬ (0 ≤ s ∧ s < (p : Int))) : Calls Try.prog 72 #[.int .i64 s, .int .i64 (n : Int)] w (fun e w' => e = .returned (.bool false) ∧ w = w') :=
  (isSet_any s n p w hn hp).mono fun _ _ ⟨e, r⟩ => ⟨by rw [e, decide_eq_false h], r⟩

theorem isWithin_any (k : Nat) (s : Int) (w : World) (hk : k ≤ 5) (hs : 0 ≤ s) (hs2 : s ≤ 255) :
    Calls Try.prog 69 #[.int .i64 (k : Int), .int .i64 s] w fun e w' => e = .returned (.bool (decide (s / 2 ^ k % 2 = 1))) ∧ w = w' := by
  have hp2 : 0 ≤ s / 2 ^ k := Int.ediv_nonneg (by omega) (by exact Int.le_of_lt (Int.pow_pos (by omega)))
  obtain ⟨B, hB⟩ : ∃ B, bits .and .i64 (s / 2 ^ k) 1 = B := ⟨_, rfl⟩
  have qB : B = s / 2 ^ k % 2 := by rw [← hB]; exact and_one hp2 (by have e := Int.ediv_le_self (2 ^ k) hs; omega)
  by_cases h6 : B = 1
  · have h6_b : (B == 1) = true := by simpa using h6
    have HD : Hid (decide (s / 2 ^ k % 2 = 1) = true) := decide_eq_true (by rw [← qB]; exact h6)
    have H6 := Lib.hid h6
    clear h6 qB
    go_enter Try.func69, Try.ntmps69
    go_wp2
    go_ret
    exact ⟨ret_bool (by first | exact HD.out.symm | (rw [HD.out]; simp [H6.out])), rfl⟩
  · have h6_b : (B == 1) = false := by simpa using h6
    have HD : Hid (decide (s / 2 ^ k % 2 = 1) = false) := decide_eq_false (by rw [← qB]; exact h6)
    clear qB
    go_enter Try.func69, Try.ntmps69
    go_wp2
    go_ret
    exact ⟨ret_bool (by first | exact HD.out.symm | (rw [HD.out]; simp [h6])), rfl⟩
theorem isWithin_yes (k : Nat) (s : Int) (w : World) (hk : k ≤ 5) (hs : 0 ≤ s) (hs2 : s ≤ 255) (h : s / 2 ^ k % 2 = 1) : Calls Try.prog 69 #[.int .i64 (k : Int), .int .i64 s] w (fun e w' => e = .returned (.bool true) ∧ w = w') :=
  (isWithin_any k s w hk hs hs2).mono fun _ _ ⟨e, r⟩ => ⟨by rw [e, decide_eq_true h], r⟩
theorem isWithin_no (k : Nat) (s : Int) (w : World) (hk : k ≤ 5) (hs : 0 ≤ s) (hs2 : s ≤ 255) (h : ¬ s / 2 ^ k % 2 = 1) : Calls Try.prog 69 #[.int .i64 (k : Int), .int .i64 s] w (fun e w' => e = .returned (.bool false) ∧ w = w') :=
  (isWithin_any k s w hk hs hs2).mono fun _ _ ⟨e, r⟩ => ⟨by rw [e, decide_eq_false h], r⟩

set_option maxRecDepth 10000 in
set_option maxHeartbeats 400000 in
theorem sumWithin_any (A : Option Addr) (c : Nat) (xs : List Int) (s : Int) (w : World) (lo hi : Nat) (h : Ints w lo hi A xs) (h4 : xs.length ≤ 5) (hs : 0 ≤ s) (hs2 : s ≤ 255) (hx : ∀ k, k < xs.length → -2400 ≤ xs.getD k 0 ∧ xs.getD k 0 ≤ 2400) :
    Calls Try.prog 94 #[.slice A xs.length c, .int .i64 s] w fun e w' => e = .returned (.int .i64 (inSum xs s xs.length)) ∧ w = w' := by
  have HV := Lib.hid hx
  have HB := Lib.hid (fun k hk => inSum_bd h4 hx s k hk)
  clear hx
  go_enter Try.func94, Try.ntmps94
  go_wp2
  go_loop [5, 10] (fun o i => ∃ k : Nat, ∃ S : Int, o = .int .i64 S ∧ i = .int .i64 k ∧ (k ≤ xs.length) ∧ (S = inSum xs s k)) (fun o i => xs.length - (intOf i).toNat)
  case atStart => exact ⟨0, 0, rfl, rfl, Nat.zero_le _, rfl⟩
  case round =>
    obtain ⟨k, S, rfl, rfl, hk, hS⟩ := hrel
    have hbS := HB.out k hk
    rw [← hS] at hbS
    have hp2 : 0 ≤ s / 2 ^ k := Int.ediv_nonneg (by omega) (by exact Int.le_of_lt (Int.pow_pos (by omega)))
    have HS := Lib.hid hS
    clear hS
    by_cases hlt0 : k < xs.length
    · obtain ⟨b1_, f2_, rfl, _, b1_h, -⟩ := h (by omega)
      have c3_ : w.cell? ⟨b1_, f2_ + k, none⟩ = some (.int .i64 (xs.getD k 0)) := h.at2 k (by first | omega | (simp; omega) | simp)
      have c3_i : (k : Int) < (xs.length : Int) := by omega
      have c3_j : (0 : Int) ≤ (k : Int) := by omega
      have v4_g := (HV.out k (by omega) : -2400 ≤ xs.getD k 0 ∧ xs.getD k 0 ≤ 2400)
      obtain ⟨v4_, hv4_⟩ : ∃ v, v = xs.getD k 0 := ⟨_, rfl⟩
      rw [← hv4_] at c3_ v4_g
      have Hv4_ := Lib.hid hv4_
      clear hv4_
      obtain ⟨v4_g1, v4_g2⟩ := v4_g
      by_cases h5_ : s / 2 ^ k % 2 = 1
      · have H5_ := Lib.hid h5_
        clear h5_
        go_wp2_with fail
        refine (isWithin_yes k s _ (by omega) (by omega) (by omega) H5_.out).mono ?_
        rintro e w' ⟨rfl, rfl⟩
        go_wp2
        go_round
        case rel => exact ⟨k + 1, S + v4_, by go_num, by go_num, by omega, by simp only [inSum]; rw [← HS.out, if_pos (H5_.out)]; rw [← Hv4_.out]⟩
        case measure => simp [intOf] <;> omega
      · have H5_ := Lib.hid h5_
        clear h5_
        go_wp2_with fail
        refine (isWithin_no k s _ (by omega) (by omega) (by omega) H5_.out).mono ?_
        rintro e w' ⟨rfl, rfl⟩
        go_wp2
        go_round
        case rel => exact ⟨k + 1, S, by go_num, by go_num, by omega, by simp only [inSum]; rw [← HS.out, if_neg (H5_.out)]; simp⟩
        case measure => simp [intOf] <;> omega
    · obtain rfl : k = xs.length := by omega
      go_wp2
      go_ret
      exact ⟨ret_int HS.out, rfl⟩

theorem pow_bd3 {n p : Nat} (h : 2 ^ n = p) (hn : n ≤ 4) : 1 ≤ p ∧ p ≤ 16 := by
  subst h
  rcases (show n = 0 ∨ n = 1 ∨ n = 2 ∨ n = 3 ∨ n = 4 from by omega) with rfl | rfl | rfl | rfl | rfl <;> simp

theorem worth_in {E : Int} {xs : List Int} {s : Int} (_h : caseOkB E xs = true) (h0 : 0 ≤ s) : worth E xs s = max 0 (E - (xs.sum - inSum xs s xs.length)) := by
  obtain ⟨n, rfl⟩ : ∃ n : Nat, s = (n : Int) := ⟨s.toNat, by omega⟩
  have e := in_out xs n xs.length
  rw [List.take_length] at e
  unfold worth; omega

set_option maxRecDepth 10000 in
set_option maxHeartbeats 400000 in
theorem implWorthOf_any (E : Int) (A : Option Addr) (c : Nat) (xs : List Int) (s : Int) (w : World) (lo hi : Nat) (h : Ints w lo hi A xs) (hh : hi ≤ w.heap.size) (hl : xs.length ≤ 1152921504606846976) :
    Calls Try.prog 73 #[.agg #[.int .i64 E, .slice A xs.length c], .int .i64 s] w fun e w' => e = .returned (.int .i64 (worthOf E xs s)) ∧ Below w.heap.size w w' := by
  go_enter Try.func73, Try.ntmps73
  have o1_ := h.alloc (by first | omega | (simp; omega) | simp) (.cells #[.int .i64 E, .slice A xs.length c] 25)
  have B2_ := (Below.refl w.heap.size w).alloc (Nat.le_refl _) (.cells #[.int .i64 E, .slice A xs.length c] 25)
  have a3_ : (w.alloc (.cells #[.int .i64 E, .slice A xs.length c] 25)).cell? ⟨w.heap.size, 0, none⟩ = some (.int .i64 E) := by simp [go_sem]
  have a4_ : (w.alloc (.cells #[.int .i64 E, .slice A xs.length c] 25)).cell? ⟨w.heap.size, 1, none⟩ = some (.slice A xs.length c) := by simp [go_sem]
  by_cases h5_ : caseOkB E xs = true
  · have H5_ := Lib.hid h5_
    clear h5_
    have hbd := caseOk_bd H5_.out
    have HV := Lib.hid (fun k hk => case_getD H5_.out k hk)
    have HSM := Lib.hid (caseOk_small H5_.out)
    have HCB := Lib.hid H5_.out
    obtain ⟨p, hp⟩ : ∃ p : Nat, 2 ^ xs.length = p := ⟨_, rfl⟩
    have hpb := pow_bd3 hp hbd.2.1
    obtain ⟨hp1, hp2⟩ := hpb
    have HP := Lib.hid hp
    clear hp
    go_wp2_with fail
    refine (implCaseOk_any E A c xs _ _ _ o1_ (by first | omega | (simp; omega) | simp) hl).mono ?_
    rintro e w6 ⟨he, hb6_⟩
    rw [H5_.out] at he
    subst he
    have o7_ := o1_.below hb6_ (by first | omega | (simp; omega) | simp)
    have o8_ := (hb6_.cell (p := ⟨w.heap.size, 0, none⟩) (by first | omega | (simp; omega) | simp)).trans a3_
    have o9_ := (hb6_.cell (p := ⟨w.heap.size, 1, none⟩) (by first | omega | (simp; omega) | simp)).trans a4_
    have z10_ := hb6_.size
    try simp at z10_
    have B11_ := B2_.trans (hb6_.mono (by first | omega | (simp; omega) | simp))
    clear hb6_
    by_cases h12_ : 0 ≤ s ∧ s < (p : Int)
    · have H12_ := Lib.hid h12_
      clear h12_
      obtain ⟨H12_a, H12_b⟩ := H12_.out
      go_wp2_with fail
      refine (isSet_yes s xs.length p _ (by omega) HP.out H12_.out).mono ?_
      rintro e w' ⟨rfl, rfl⟩
      obtain ⟨v13_, hv13_⟩ : ∃ v, xs.sum = v := ⟨_, rfl⟩
      have bv13_ : 0 ≤ v13_ ∧ v13_ ≤ 48 := by omega
      obtain ⟨bv13_1, bv13_2⟩ := bv13_
      have Hv13_ := Lib.hid hv13_
      clear hv13_
      obtain ⟨v14_, hv14_⟩ : ∃ v, inSum xs s xs.length = v := ⟨_, rfl⟩
      have bv14_ := inSum_bd (xs := xs) (by omega) HV.out s xs.length (Nat.le_refl _)
      rw [hv14_] at bv14_
      obtain ⟨bv14_1, bv14_2⟩ := bv14_
      have Hv14_ := Lib.hid hv14_
      clear hv14_
      have hw15_ : IntKind.i64.wrap (v13_ - v14_) = (v13_ - v14_) := IntWalk.i64_in _ (by omega)
      go_wp2
      go_quiet ((first | (go_at_call 60; exact quiet_left1 (same_is (sumOf_any A c xs _ _ _ o7_ HSM.out) (congrArg (Value.int .i64) Hv13_.out))) | (go_at_call 94; exact quiet_left1 (same_is (sumWithin_any A c xs s _ _ _ o7_ (by omega) (by omega) (by omega) HV.out) (congrArg (Value.int .i64) Hv14_.out)))))
      obtain ⟨w16, hw16⟩ : ∃ x, x = w6.drewN nq := ⟨_, rfl⟩
      have hb17_ : Below w6.heap.size w6 w16 := by rw [hw16]; exact below_drewN (Below.refl _ _) _
      rw [← hw16]
      clear hw16
      clear hw15_
      have o19_ := o7_.below hb17_ (by first | omega | (simp; omega) | simp)
      have o20_ := (hb17_.cell (p := ⟨w.heap.size, 0, none⟩) (by first | omega | (simp; omega) | simp)).trans o8_
      have o21_ := (hb17_.cell (p := ⟨w.heap.size, 1, none⟩) (by first | omega | (simp; omega) | simp)).trans o9_
      have z22_ := hb17_.size
      have B23_ := B11_.trans (hb17_.mono (by first | omega | (simp; omega) | simp))
      clear hb17_
      go_wp2
      all_goals
        go_ret
        exact ⟨ret_int (by rw [worthOf, if_pos ⟨HCB.out, by omega, (by have e : s < (p : Int) := (by omega); rw [← HP.out, Int.natCast_pow] at e; exact e)⟩, worth_in HCB.out (by omega), Hv13_.out, Hv14_.out]; (try omega)), B23_⟩
    · have H12_ := Lib.hid h12_
      clear h12_
      go_wp2_with fail
      refine (isSet_no s xs.length p _ (by omega) HP.out H12_.out).mono ?_
      rintro e w' ⟨rfl, rfl⟩
      go_wp2
      go_ret
      exact ⟨ret_int (by rw [worthOf, if_neg (fun h => H12_.out ⟨h.2.1, by have e := h.2.2; rw [← HP.out, Int.natCast_pow]; exact e⟩)]), B11_⟩
  · have H5_ : Hid (caseOkB E xs = false) := by show _ = _; simpa using h5_
    clear h5_
    go_wp2_with fail
    refine (implCaseOk_any E A c xs _ _ _ o1_ (by first | omega | (simp; omega) | simp) hl).mono ?_
    rintro e w6 ⟨he, hb6_⟩
    rw [H5_.out] at he
    subst he
    have o7_ := o1_.below hb6_ (by first | omega | (simp; omega) | simp)
    have o8_ := (hb6_.cell (p := ⟨w.heap.size, 0, none⟩) (by first | omega | (simp; omega) | simp)).trans a3_
    have o9_ := (hb6_.cell (p := ⟨w.heap.size, 1, none⟩) (by first | omega | (simp; omega) | simp)).trans a4_
    have z10_ := hb6_.size
    try simp at z10_
    have B11_ := B2_.trans (hb6_.mono (by first | omega | (simp; omega) | simp))
    clear hb6_
    go_wp2
    go_ret
    exact ⟨ret_int (by rw [worthOf, H5_.out]; simp), B11_⟩

theorem implWorth_in (E : Int) (A : Option Addr) (c : Nat) (xs : List Int) (s : Nat) (w : World) (lo hi : Nat) (h : Ints w lo hi A xs) (hh : hi ≤ w.heap.size) (hok : caseOkB E xs = true) {p : Nat} (hp : 2 ^ xs.length = p) (hs : s < p) :
    Calls Try.prog 73 #[.agg #[.int .i64 E, .slice A xs.length c], .int .i64 (s : Int)] w (fun e w' => e = .returned (.int .i64 (worth E xs (s : Int))) ∧ Below w.heap.size w w') := by
  have e := implWorthOf_any E A c xs (s : Int) w lo hi h hh (by have e := caseOk_bd hok; omega)
  rwa [worthOf_is hok (by omega) (by subst hp; exact_mod_cast hs)] at e

end Go.Proofs.Ytmkmipgboecdaaa
