/-
  Rates that rise and rates that fall, in plain mathematics: of losses as of awards, of even awards and even losses, and of shares. No condition but that of a case.
-/
import Derived.Test.YtakmbpdapdnniaaRates
import Derived.Test.YtakmbpdapdnniaaKeepsLaw
import Derived.Test.YtakmbpdapdnniaaEven
namespace Go.Proofs.Ytakmbpdapdnniaa
open Go.RowKit

theorem rate_loss {E : Int} {xs ys : List Int} (s : Bool) (h : awardsB E xs ys = true) : rateB (!s) (xs.sum - E) xs (lossesRow xs ys) = rateB s E xs ys := by
  have hA := (awardsB_iff E xs ys).1 h
  have h2 : awardsB (xs.sum - E) xs (lossesRow xs ys) = true := (awardsB_iff _ _ _).2 (loss_aw hA)
  have hl := hA.2.1
  have hm : ∀ a b : Int, a * (48 * b) = 48 * (a * b) := fun a b => by rw [← Int.mul_assoc, Int.mul_comm a 48, Int.mul_assoc]
  have hk : Rates (!s) xs (lossesRow xs ys) ↔ Rates s xs ys := by
    have e : ∀ i j, i < xs.length → j < xs.length → (RateAt (!s) xs (lossesRow xs ys) i j ↔ RateAt s xs ys i j) := fun i j hi hj => by
      rw [RateAt, RateAt, loss_getD hl i hi, loss_getD hl j hj]
      generalize xs.getD i 0 = a
      generalize xs.getD j 0 = b
      generalize ys.getD i 0 = p
      generalize ys.getD j 0 = q
      have e1 : (48 * a - p) * b = 48 * (a * b) - p * b := by rw [Int.sub_mul, Int.mul_assoc]
      have e2 : (48 * b - q) * a = 48 * (a * b) - q * a := by rw [Int.sub_mul, Int.mul_assoc, Int.mul_comm b a]
      rw [e1, e2]
      cases s <;> simp <;> constructor <;> intro k hab <;> have := k hab <;> omega
    constructor
    · intro k i j hi hj; exact (e i j hi hj).1 (k i j hi hj)
    · intro k i j hi hj; exact (e i j hi hj).2 (k i j hi hj)
  have e : rateB (!s) (xs.sum - E) xs (lossesRow xs ys) = true ↔ rateB s E xs ys = true := by
    rw [rateB_iff, rateB_iff, hk]; simp [h, h2]
  exact Bool.eq_iff_iff.2 e
theorem fall_aw {E : Int} {xs : List Int} (h : caseOkB E xs = true) : rateB false E xs (evenAw E xs) = true := by
  have hA := evenAw_aw h
  refine (rateB_iff _ _ _ _).2 ⟨(awardsB_iff _ _ _).2 hA, fun i j hi hj hx => ?_⟩
  have hi' : i < (evenAw E xs).length := by rw [evenAw_length]; exact hi
  have hj' : j < (evenAw E xs).length := by rw [evenAw_length]; exact hj
  have e1 : (evenAw E xs).getD i 0 = min (48 * xs.getD i 0) (evenLv E xs) := by rw [getD_of_lt _ i hi', getD_of_lt xs i hi]; exact evenAw_at E xs i hi
  have e2 : (evenAw E xs).getD j 0 = min (48 * xs.getD j 0) (evenLv E xs) := by rw [getD_of_lt _ j hj', getD_of_lt xs j hj]; exact evenAw_at E xs j hj
  have h0 := (hA.2.2.1 i hi' hi).1
  rw [← getD_of_lt _ i hi', e1] at h0
  have hxi : 0 ≤ xs.getD i 0 := by rw [getD_of_lt xs i hi]; exact (case_at h i hi).1
  rw [e1, e2]
  simp only [Bool.false_eq_true, if_false]
  generalize evenLv E xs = l at h0
  generalize xs.getD i 0 = a at *
  generalize xs.getD j 0 = b at *
  rcases Int.lt_or_le l (48 * a) with h1 | h1
  · have m1 : min (48 * a) l = l := by omega
    have m2 : min (48 * b) l = l := by omega
    rw [m1, m2]
    rw [m1] at h0
    exact Int.mul_le_mul_of_nonneg_left (by omega) h0
  · have m1 : min (48 * a) l = 48 * a := by omega
    have m2 : min (48 * b) l ≤ 48 * b := by omega
    rw [m1]
    have m3 := Int.mul_le_mul_of_nonneg_right m2 hxi
    have m4 : 48 * b * a = 48 * a * b := by rw [Int.mul_assoc, Int.mul_assoc, Int.mul_comm b a]
    rw [m4] at m3
    exact m3
theorem rise_lo {E : Int} {xs : List Int} (h : caseOkB E xs = true) : rateB true E xs (evenLo E xs) = true := by
  have h2 := fall_aw (other_ok h)
  have h3 := (awardsB_iff _ _ _).2 (evenLo_aw h)
  have e := rate_loss true h3
  rw [evenLo_loss] at e
  rw [← e]
  exact h2
theorem rates_even {E : Int} {xs ys : List Int} (h1 : rateB true E xs ys = true) (h2 : rateB false E xs ys = true) (h3 : keepsB E xs ys = true) (i j : Nat) (hi : i < xs.length) (hj : j < xs.length) :
    ys.getD i 0 * xs.getD j 0 = ys.getD j 0 * xs.getD i 0 := by
  have r := ((rateB_iff _ _ _ _).1 h1).2
  have f := ((rateB_iff _ _ _ _).1 h2).2
  have k := ((keepsB_iff _ _ _).1 h3).2
  rcases Int.lt_trichotomy (xs.getD i 0) (xs.getD j 0) with h | h | h
  · have a := r i j hi hj h
    have b := f i j hi hj h
    simp only [if_true] at a
    simp only [Bool.false_eq_true, if_false] at b
    omega
  · have a := (k i j hi hj (by omega)).1
    have b := (k j i hj hi (by omega)).1
    have e : ys.getD i 0 = ys.getD j 0 := by omega
    rw [e, h]
  · have a := r j i hj hi h
    have b := f j i hj hi h
    simp only [if_true] at a
    simp only [Bool.false_eq_true, if_false] at b
    omega
theorem sum_times (a p : Int) : ∀ (xs ys : List Int), xs.length = ys.length → (∀ j, j < xs.length → p * xs.getD j 0 = ys.getD j 0 * a) → p * xs.sum = ys.sum * a
  | [], [], _, _ => by simp
  | [], _ :: _, h, _ => by simp at h
  | _ :: _, [], h, _ => by simp at h
  | x :: xs, y :: ys, h, k => by
    have ih := sum_times a p xs ys (by simpa using h) (fun j hj => by simpa using k (j + 1) (by simpa using hj))
    have h0 := k 0 (by simp)
    simp only [List.getD_cons_zero] at h0
    rw [List.sum_cons, List.sum_cons, Int.mul_add, Int.add_mul, ih, h0]
theorem rates_share {E : Int} {xs ys : List Int} (h1 : rateB true E xs ys = true) (h2 : rateB false E xs ys = true) (h3 : keepsB E xs ys = true) (i : Nat) (hi : i < xs.length) (hy : i < ys.length) (hs : i < (shareRow E xs).length) :
    ys[i] * xs.sum = 48 * (shareRow E xs)[i] := by
  have hA := (awardsB_iff _ _ _).1 ((rateB_iff _ _ _ _).1 h1).1
  have e := sum_times (xs.getD i 0) (ys.getD i 0) xs ys hA.2.1.symm (fun j hj => rates_even h1 h2 h3 i j hi hj)
  rw [shareRow_at E xs i hi, ← getD_of_lt ys i hy, e, hA.2.2.2, getD_of_lt xs i hi, Int.mul_assoc, Int.mul_comm E]

theorem implRise_is (E : Int) (A : Option Addr) (c : Nat) (xs : List Int) (D : Option Addr) (d : Nat) (ys : List Int) (K : Bool) (w : World) (lo hi : Nat) (h : Ints w lo hi A xs) (hh : hi ≤ w.heap.size) (hl : xs.length ≤ 1152921504606846976)
    (lo' hi' : Nat) (h' : Ints w lo' hi' D ys) (hh' : hi' ≤ w.heap.size) (hl' : ys.length ≤ 1152921504606846976) (hK : rateB true E xs ys = K) :
    Calls Try.prog 8 #[.agg #[.int .i64 E, .slice A xs.length c], .slice D ys.length d] w fun e w' => e = .returned (.bool K) ∧ Below w.heap.size w w' := by
  have e := implRatesRise_any E A c xs D d ys w lo hi h hh hl lo' hi' h' hh' hl'
  rw [hK] at e
  exact e
theorem implFall_is (E : Int) (A : Option Addr) (c : Nat) (xs : List Int) (D : Option Addr) (d : Nat) (ys : List Int) (K : Bool) (w : World) (lo hi : Nat) (h : Ints w lo hi A xs) (hh : hi ≤ w.heap.size) (hl : xs.length ≤ 1152921504606846976)
    (lo' hi' : Nat) (h' : Ints w lo' hi' D ys) (hh' : hi' ≤ w.heap.size) (hl' : ys.length ≤ 1152921504606846976) (hK : rateB false E xs ys = K) :
    Calls Try.prog 14 #[.agg #[.int .i64 E, .slice A xs.length c], .slice D ys.length d] w fun e w' => e = .returned (.bool K) ∧ Below w.heap.size w w' := by
  have e := implRatesFall_any E A c xs D d ys w lo hi h hh hl lo' hi' h' hh' hl'
  rw [hK] at e
  exact e
theorem specRise_is (E : Int) (A : Option Addr) (c : Nat) (xs : List Int) (D : Option Addr) (d : Nat) (ys : List Int) (K : Bool) (w : World) (lo hi : Nat) (h : Ints w lo hi A xs) (hh : hi ≤ w.heap.size) (hl : xs.length ≤ 1152921504606846976)
    (lo' hi' : Nat) (h' : Ints w lo' hi' D ys) (hh' : hi' ≤ w.heap.size) (hl' : ys.length ≤ 1152921504606846976) (hK : rateB true E xs ys = K) :
    Calls Try.prog 9 #[.agg #[.int .i64 E, .slice A xs.length c], .slice D ys.length d] w fun e w' => e = .returned (.bool K) ∧ Below w.heap.size w w' := by
  have e := specRatesRise_any E A c xs D d ys w lo hi h hh hl lo' hi' h' hh' hl'
  rw [hK] at e
  exact e
theorem specFall_is (E : Int) (A : Option Addr) (c : Nat) (xs : List Int) (D : Option Addr) (d : Nat) (ys : List Int) (K : Bool) (w : World) (lo hi : Nat) (h : Ints w lo hi A xs) (hh : hi ≤ w.heap.size) (hl : xs.length ≤ 1152921504606846976)
    (lo' hi' : Nat) (h' : Ints w lo' hi' D ys) (hh' : hi' ≤ w.heap.size) (hl' : ys.length ≤ 1152921504606846976) (hK : rateB false E xs ys = K) :
    Calls Try.prog 18 #[.agg #[.int .i64 E, .slice A xs.length c], .slice D ys.length d] w fun e w' => e = .returned (.bool K) ∧ Below w.heap.size w w' := by
  have e := specRatesFall_any E A c xs D d ys w lo hi h hh hl lo' hi' h' hh' hl'
  rw [hK] at e
  exact e

end Go.Proofs.Ytakmbpdapdnniaa
