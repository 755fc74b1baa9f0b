/-
  Chapter 7, the program's functions OrderAwards, BringsOf, GameShares. They make new memory only. No condition but lengths that fit.
-/
import Derived.Test.YtbegdcnljafloaaSpec7C
import Derived.Test.YtbegdcnljafloaaGame6A
import Derived.BigQuiet
import Derived.Deep.Cut
namespace Go.Proofs.Ytbegdcnljafloaa
open Go.RowKit


theorem left_step48 {E : Int} {xs os : List Int} {k x : Nat} {u m L : Int} (hx : ∀ k, 0 ≤ xs.getD k 0) (ho : os.getD k 0 = (x : Int)) (hu : u = xs.getD x 0) (hL : L = 48 * leftTo E xs os k) (hm : min (48 * u) L = m) : L - m = 48 * leftTo E xs os (k + 1) ∧ m = posAt E xs os k := by
  have e1 := hx x
  have e2 := bef_pos hx (os := os) k
  simp only [leftTo, bef, posAt, mar, ho, Int.toNat_natCast] at *
  omega

theorem fac_up (m : Nat) : fac m * ((m : Int) + 1) = fac (m + 1) := by show _ = ((m : Int) + 1) * fac m; rw [Int.mul_comm]

set_option maxRecDepth 10000 in
set_option maxHeartbeats 400000 in
theorem countOrders_any (n : Nat) (w : World) (hn : n ≤ 4) :
    Calls Try.prog 80 #[.int .i64 (n : Int)] w fun e w' => e = .returned (.int .i64 (fac n)) ∧ w = w' := by
  go_enter Try.func80, Try.ntmps80
  go_wp2
  go_loop [6, 3] (fun k p => ∃ m : Nat, ∃ F : Int, k = .int .i64 (m : Int) ∧ p = .int .i64 F ∧ (m ≤ n) ∧ (F = fac m)) (fun k p => n - (intOf k).toNat)
  case atStart => exact ⟨0, 1, rfl, rfl, Nat.zero_le _, rfl⟩
  case round =>
    obtain ⟨m, F, rfl, rfl, hm, hF⟩ := hrel
    have HF := Lib.hid hF
    clear hF
    have hFb := fac_bd (n := m) (by omega)
    rw [← HF.out] at hFb
    obtain ⟨hFb1, hFb2⟩ := hFb
    by_cases hlt0 : m < n
    · obtain ⟨P1_, hP1_⟩ : ∃ P, F * ((m : Int) + 1) = P := ⟨_, rfl⟩
      have bP1_ := show 0 ≤ F * ((m : Int) + 1) ∧ F * ((m : Int) + 1) ≤ 24 from by rw [HF.out, fac_up]; have e := fac_bd (n := m + 1) (by omega); omega
      rw [hP1_] at bP1_
      obtain ⟨bP1_, bP1_'⟩ := bP1_
      have wP1_ : IntKind.i64.wrap P1_ = P1_ := IntWalk.i64_in _ (by omega)
      go_wp2
      go_round
      case rel => exact ⟨m + 1, P1_, by go_num, by go_num, (by omega), (by rw [← fac_up m, ← HF.out, ← hP1_])⟩
      case measure => simp [intOf] <;> omega
    · obtain rfl : m = n := by omega
      go_wp2
      go_ret
      exact ⟨ret_int HF.out, rfl⟩

theorem countOrders_at (x : Int) (n : Nat) (w : World) (hn : n ≤ 4) (hx : x = (n : Int)) : Calls Try.prog 80 #[.int .i64 x] w fun e w' => e = .returned (.int .i64 (fac n)) ∧ w = w' := by subst hx; exact countOrders_any n w hn

theorem pop_four {m n : Nat} (hm : m < 2 ^ n) (hn : n ≤ 4) : pop m 4 = pop m n := by
  have far : ∀ j, n ≤ j → m.testBit j = false := fun j hj => Nat.testBit_lt_two_pow (Nat.lt_of_lt_of_le hm (Nat.pow_le_pow_right (by omega) hj))
  have step : ∀ j, n ≤ j → pop m (j + 1) = pop m j := fun j hj => by simp only [pop]; rw [far j hj]; simp
  rcases (show n = 0 ∨ n = 1 ∨ n = 2 ∨ n = 3 ∨ n = 4 from by omega) with rfl | rfl | rfl | rfl | rfl
  · rw [step 3 (by omega), step 2 (by omega), step 1 (by omega), step 0 (by omega)]
  · rw [step 3 (by omega), step 2 (by omega), step 1 (by omega)]
  · rw [step 3 (by omega), step 2 (by omega)]
  · rw [step 3 (by omega)]
  · rfl

/-- The part of all orders in which just b people come before a given other one of n, in parts of a unit. -/
def ordPart (n b : Nat) : Int := 48 / fac n * fac b * fac (n - 1 - b)
theorem ordPart_of {n b : Nat} (h1 : 1 ≤ n) (h4 : n ≤ 4) : 48 * fac b * fac (n - 1 - b) / fac n = ordPart n b := by
  have e := (part_fac h1 h4).2
  have p := fac_pos n
  unfold ordPart
  generalize 48 / fac n = q at *
  rw [← e, show q * fac n * fac b * fac (n - 1 - b) = fac n * (q * fac b * fac (n - 1 - b)) from by rw [Int.mul_comm q]; simp only [Int.mul_assoc]]
  exact Int.mul_ediv_cancel_left _ (by omega)
theorem ordPart_rg {n b : Nat} (h1 : 1 ≤ n) (h4 : n ≤ 4) (hb : b + 1 ≤ n) : 0 ≤ ordPart n b ∧ ordPart n b ≤ 27648 := by
  have e := (part_fac h1 h4).1
  have e1 := fac_bd (n := b) (by omega)
  have e2 := fac_bd (n := n - 1 - b) (by omega)
  have e3 : 48 / fac n ≤ 48 := by have p := fac_bd h4; exact Int.ediv_le_self _ (by omega)
  unfold ordPart
  generalize 48 / fac n = q at *
  have p1 := mul_bd (A := 48) (B := 24) (b0 := 1) (show 0 ≤ q ∧ q ≤ 48 from ⟨by omega, e3⟩) e1
  have p2 := mul_bd (A := 48 * 24) (B := 24) (b0 := 1) p1 e2
  omega

theorem or_lt {m k n p : Nat} (hp : 2 ^ n = p) (hm : (m : Int) < (p : Int)) (hk : k < n) : m ||| 2 ^ k < p := by
  subst hp
  exact Nat.or_lt_two_pow (by exact_mod_cast hm) (Nat.pow_lt_pow_right (by omega) hk)
theorem cast_pow {n p : Nat} (hp : 2 ^ n = p) : (p : Int) = 2 ^ n := by subst hp; simp

/-- The share of i by the sets below m. -/
def shTo (E : Int) (xs : List Int) (m i : Nat) : Int := 48 / fac xs.length * gSum E xs i m
theorem shTo_zero (E : Int) (xs : List Int) (i : Nat) : shTo E xs 0 i = 0 := by simp [shTo, gSum]
theorem shTo_all {E : Int} {xs : List Int} (h : caseOkB E xs = true) {p : Nat} (hp : 2 ^ xs.length = p) {i : Nat} (hi : i < xs.length) : shTo E xs p i = arrAt E xs i := by
  have hb := caseOk_bd h
  have e := gSum_arr h hi
  have f := (part_fac (n := xs.length) (by omega) (by omega)).2
  have g := fac_pos xs.length
  subst hp
  rw [← e]
  unfold shTo
  generalize 48 / fac xs.length = q at *
  rw [← f, show gSum E xs i (2 ^ xs.length) * (q * fac xs.length) = fac xs.length * (q * gSum E xs i (2 ^ xs.length)) from by rw [Int.mul_comm (gSum _ _ _ _), Int.mul_comm q, Int.mul_assoc]]
  rw [Int.mul_ediv_cancel_left _ (by omega)]
theorem shTo_rg {E : Int} {xs : List Int} (h : caseOkB E xs = true) {i : Nat} (hi : i < xs.length) {m : Nat} (hm : m ≤ 17) : 0 ≤ shTo E xs m i ∧ shTo E xs m i ≤ 48 * (27648 * 17) := by
  have hb := caseOk_bd h
  have e := gSum_bd h hi m
  have e1 := (part_fac (n := xs.length) (by omega) (by omega)).1
  have e3 : 48 / fac xs.length ≤ 48 := by have p := fac_bd (n := xs.length) (by omega); exact Int.ediv_le_self _ (by omega)
  unfold shTo
  generalize 48 / fac xs.length = q at *
  exact mul_bd (A := 48) (B := 27648 * 17) (b0 := 0) ⟨by omega, e3⟩ ⟨e.1, by omega⟩
theorem mid7_rg {E : Int} {xs : List Int} (h : caseOkB E xs = true) {m j k : Nat} (hm : m < 16) (hk : k < xs.length) : 0 ≤ (fnRow xs.length (fun i => if i < j then shTo E xs (m + 1) i else shTo E xs m i)).getD k 0 ∧ (fnRow xs.length (fun i => if i < j then shTo E xs (m + 1) i else shTo E xs m i)).getD k 0 ≤ 48 * (27648 * 17) := by
  rw [fnRow_getD _ hk]
  have e1 := shTo_rg h hk (m := m) (by omega)
  have e2 := shTo_rg h hk (m := m + 1) (by omega)
  split <;> omega
theorem mid7_same (E : Int) (xs : List Int) {m j : Nat} (hb : m.testBit j = true) : fnRow xs.length (fun i => if i < j then shTo E xs (m + 1) i else shTo E xs m i) = fnRow xs.length (fun i => if i < (j + 1) then shTo E xs (m + 1) i else shTo E xs m i) :=
  fnRow_congr fun i hi => by
    by_cases e : i = j
    · subst e
      rw [if_neg (by omega), if_pos (by omega)]
      unfold shTo; rw [gSum_succ, gTerm_yes hb, Int.add_zero]
    · by_cases e2 : i < j
      · rw [if_pos e2, if_pos (by omega)]
      · rw [if_neg e2, if_neg (by omega)]
theorem mid7_step {E : Int} {xs : List Int} {m j : Nat} (hj : j < xs.length) (hb : m.testBit j = false) {v a b P : Int} (hv : v = (fnRow xs.length (fun i => if i < j then shTo E xs (m + 1) i else shTo E xs m i)).getD j 0) (ha : worth E xs (m ||| 2 ^ j : Nat) - worth E xs m = a) (hq : ordPart xs.length (pop m xs.length) = b) (hP : a * b = P) :
    (fnRow xs.length (fun i => if i < j then shTo E xs (m + 1) i else shTo E xs m i)).set j (v + P) = fnRow xs.length (fun i => if i < (j + 1) then shTo E xs (m + 1) i else shTo E xs m i) := by
  refine fnRow_set (fun i _ hn => ?_) ?_
  · by_cases e2 : i < j
    · (try simp only []); rw [if_pos e2, if_pos (by omega)]
    · (try simp only []); rw [if_neg e2, if_neg (by omega)]
  · (try simp only [])
    rw [hv, fnRow_getD _ hj, if_neg (by omega), if_pos (by omega), ← hP, ← ha, ← hq]
    unfold shTo ordPart
    rw [gSum_succ, Int.mul_add]
    congr 1
    unfold gTerm
    rw [if_neg (by rw [hb]; simp)]
    generalize worth E xs (m ||| 2 ^ j : Nat) - worth E xs m = x
    generalize fac (pop m xs.length) = y
    generalize fac (xs.length - 1 - pop m xs.length) = z
    generalize 48 / fac xs.length = q
    rw [Int.mul_assoc q, Int.mul_left_comm x q, Int.mul_assoc x]

end Go.Proofs.Ytbegdcnljafloaa
