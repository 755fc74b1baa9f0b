/-
  Runways, the pure mathematics: what a set costs, unit by unit, what each one pays for a unit, what the orders give. No condition but that the needs are some.
-/
import Derived.Test.YtbegdcnljafloaaBid
import Derived.Test.YtbegdcnljafloaaSpec7B
import Derived.Test.YtbegdcnljafloaaArr7
import Derived.Test.YtbegdcnljafloaaGame
namespace Go.Proofs.Ytbegdcnljafloaa
open Go.RowKit

/-- A need in 0..12 for each of 1..4 people. -/
def needB (xs : List Int) : Bool := decide (1 ≤ xs.length ∧ xs.length ≤ 4 ∧ ∀ x ∈ xs, 0 ≤ x ∧ x ≤ 12)
theorem needB_iff (xs : List Int) : needB xs = true ↔ (1 ≤ xs.length ∧ xs.length ≤ 4 ∧ ∀ x ∈ xs, 0 ≤ x ∧ x ≤ 12) := by simp [needB]
theorem need_bd {xs : List Int} (h : needB xs = true) : 1 ≤ xs.length ∧ xs.length ≤ 4 := ⟨((needB_iff xs).1 h).1, ((needB_iff xs).1 h).2.1⟩
theorem need_rg {xs : List Int} (h : needB xs = true) (k : Nat) : 0 ≤ xs.getD k 0 ∧ xs.getD k 0 ≤ 12 := by
  by_cases hk : k < xs.length
  · rw [getD_of_lt xs k hk]; exact ((needB_iff xs).1 h).2.2 _ (List.getElem_mem hk)
  · rw [getD_far xs (by omega)]; omega

/-! What a set costs. -/
/-- What the first k people of a set need together. -/
def costTo (xs : List Int) (s : Int) : Nat → Int
  | 0 => 0
  | k + 1 => if s / 2 ^ k % 2 = 1 then max (costTo xs s k) (xs.getD k 0) else costTo xs s k
theorem cost_succ (xs : List Int) (n k : Nat) : costTo xs (n : Int) (k + 1) = if n.testBit k then max (costTo xs (n : Int) k) (xs.getD k 0) else costTo xs (n : Int) k := by
  simp only [costTo]
  by_cases h : n.testBit k = true
  · rw [if_pos ((bit_nat n k).2 h), if_pos h]
  · rw [if_neg (fun e => h ((bit_nat n k).1 e)), if_neg h]
theorem cost_rg {xs : List Int} (h : ∀ k, 0 ≤ xs.getD k 0 ∧ xs.getD k 0 ≤ 12) (s : Int) : ∀ k, 0 ≤ costTo xs s k ∧ costTo xs s k ≤ 12
  | 0 => by simp [costTo]
  | k + 1 => by
    have e := cost_rg h s k
    have e2 := h k
    simp only [costTo]; split <;> omega
theorem cost_or (xs : List Int) (a b : Nat) : ∀ k, costTo xs ((a ||| b : Nat) : Int) k = max (costTo xs (a : Int) k) (costTo xs (b : Int) k)
  | 0 => by simp [costTo]
  | k + 1 => by
    rw [cost_succ, cost_succ, cost_succ, cost_or xs a b k, Nat.testBit_or]
    cases a.testBit k <;> cases b.testBit k <;> simp <;> omega
theorem cost_and (xs : List Int) (a b : Nat) : ∀ k, costTo xs ((a &&& b : Nat) : Int) k ≤ costTo xs (a : Int) k ∧ costTo xs ((a &&& b : Nat) : Int) k ≤ costTo xs (b : Int) k
  | 0 => by simp [costTo]
  | k + 1 => by
    have e := cost_and xs a b k
    rw [cost_succ, cost_succ, cost_succ, Nat.testBit_and]
    cases a.testBit k <;> cases b.testBit k <;> simp <;> omega
theorem cost_both (xs : List Int) (a b k : Nat) : costTo xs ((a ||| b : Nat) : Int) k + costTo xs ((a &&& b : Nat) : Int) k ≤ costTo xs (a : Int) k + costTo xs (b : Int) k := by
  have e := cost_or xs a b k
  have e2 := cost_and xs a b k
  omega
theorem cost_none (xs : List Int) : ∀ k, costTo xs 0 k = 0
  | 0 => rfl
  | k + 1 => by
    have e := cost_succ xs 0 k
    simp only [Int.natCast_zero, Nat.zero_testBit] at e
    rw [e]; simpa using cost_none xs k

/-! Unit by unit. -/
theorem sumN_each {f g : Nat → Int} : ∀ {n : Nat}, (∀ k, k < n → f k ≤ g k) → sumN f n ≤ sumN g n
  | 0, _ => Int.le_refl _
  | n + 1, h => by
    have e := sumN_each (n := n) fun k hk => h k (by omega)
    have e2 := h n (by omega)
    simp only [sumN]; omega
/-- Whether a number reaches a unit (the units are told from 0). -/
def hit (v : Int) (u : Nat) : Int := if (u : Int) < v then 1 else 0
theorem hit_min {v : Int} (h : 0 ≤ v) : ∀ m : Nat, sumN (hit v) m = min v (m : Int)
  | 0 => by simp only [sumN]; omega
  | m + 1 => by
    simp only [sumN, hit_min h m, hit]
    split <;> omega
theorem hit_all {v : Int} (h : 0 ≤ v ∧ v ≤ 12) : sumN (hit v) 12 = v := by rw [hit_min h.1]; omega
theorem hit_yes {v : Int} {u : Nat} (h : (u : Int) < v) : hit v u = 1 := if_pos h
theorem hit_no {v : Int} {u : Nat} (h : ¬ (u : Int) < v) : hit v u = 0 := if_neg h
/-- How many of the first k people need a unit. -/
def manyTo (xs : List Int) (u : Nat) : Nat → Int
  | 0 => 0
  | k + 1 => manyTo xs u k + hit (xs.getD k 0) u
theorem many_rg (xs : List Int) (u : Nat) : ∀ k, 0 ≤ manyTo xs u k ∧ manyTo xs u k ≤ k
  | 0 => by simp [manyTo]
  | k + 1 => by
    have e := many_rg xs u k
    simp only [manyTo, hit]; split <;> omega
theorem many_up (xs : List Int) (u : Nat) : ∀ {k m : Nat}, k ≤ m → manyTo xs u k ≤ manyTo xs u m
  | k, 0, h => by obtain rfl : k = 0 := by omega
                  exact Int.le_refl _
  | k, m + 1, h => by
    rcases Nat.lt_or_ge m k with q | q
    · obtain rfl : k = m + 1 := by omega
      exact Int.le_refl _
    · have e := many_up xs u (k := k) (m := m) q
      simp only [manyTo, hit]; split <;> omega
theorem many_pos {xs : List Int} {u k n : Nat} (hk : k < n) (h : (u : Int) < xs.getD k 0) : 1 ≤ manyTo xs u n := by
  have e := many_up xs u (k := k + 1) (m := n) (by omega)
  have e2 := many_rg xs u k
  simp only [manyTo, hit_yes h] at e; omega
/-- How many of the first k people of a set need a unit. -/
def inTo (xs : List Int) (s u : Nat) : Nat → Int
  | 0 => 0
  | k + 1 => inTo xs s u k + if s.testBit k then hit (xs.getD k 0) u else 0
theorem hit_rg (v : Int) (u : Nat) : 0 ≤ hit v u ∧ hit v u ≤ 1 := by unfold hit; split <;> omega
theorem in_many (xs : List Int) (s u : Nat) : ∀ k, 0 ≤ inTo xs s u k ∧ inTo xs s u k ≤ manyTo xs u k
  | 0 => by simp [inTo, manyTo]
  | k + 1 => by
    have e := in_many xs s u k
    have e2 := hit_rg (xs.getD k 0) u
    simp only [inTo, manyTo]; split <;> omega
theorem in_far {xs : List Int} {s u : Nat} : ∀ {k : Nat}, ¬ (u : Int) < costTo xs (s : Int) k → inTo xs s u k = 0
  | 0, _ => rfl
  | k + 1, h => by
    rw [cost_succ] at h
    simp only [inTo]
    split at h
    · rename_i e
      rw [if_pos e, in_far (k := k) (by omega), hit_no (by omega)]; rfl
    · rename_i e
      rw [if_neg e, in_far (k := k) h]; rfl
theorem in_all {xs : List Int} {u n : Nat} : ∀ k, k ≤ n → inTo xs (2 ^ n - 1) u k = manyTo xs u k
  | 0, _ => rfl
  | k + 1, h => by
    simp only [inTo, manyTo]
    rw [in_all k (by omega), if_pos (by rw [Nat.testBit_two_pow_sub_one]; simp; omega)]
theorem many_cost {xs : List Int} {u n : Nat} : ∀ k, k ≤ n → (u : Int) < costTo xs ((2 ^ n - 1 : Nat) : Int) k → 1 ≤ manyTo xs u k
  | 0, _, h => by simp [costTo] at h; omega
  | k + 1, hk, h => by
    rw [cost_succ, if_pos (by rw [Nat.testBit_two_pow_sub_one]; simp; omega)] at h
    have e := many_rg xs u k
    simp only [manyTo]
    by_cases q : (u : Int) < xs.getD k 0
    · rw [hit_yes q]; omega
    · rw [hit_no q]
      have e2 := many_cost (xs := xs) (u := u) (n := n) k (by omega) (by omega)
      omega
theorem part_many {m : Int} (h1 : 1 ≤ m) (h4 : m ≤ 4) : m * (48 / m) = 48 ∧ 12 ≤ 48 / m ∧ 48 / m ≤ 48 := by
  rcases (show m = 1 ∨ m = 2 ∨ m = 3 ∨ m = 4 from by omega) with e | e | e | e <;> rw [e] <;> decide

/-! Shares. -/
/-- What one pays for a unit. -/
def unitP (xs : List Int) (u : Nat) : Int := 48 / manyTo xs u xs.length
theorem unitP_rg {xs : List Int} (h4 : xs.length ≤ 4) (u : Nat) : 0 ≤ unitP xs u ∧ unitP xs u ≤ 48 := by
  have e := many_rg xs u xs.length
  unfold unitP
  rcases (show manyTo xs u xs.length = 0 ∨ 1 ≤ manyTo xs u xs.length from by omega) with q | q
  · rw [q]; decide
  · have e2 := part_many q (by omega); omega
/-- What one pays. -/
def shareAt (xs : List Int) (k : Nat) : Int := sumN (unitP xs) (xs.getD k 0).toNat
theorem sumN_cut (f : Nat → Int) (m : Nat) : ∀ n, m ≤ n → sumN (fun u => if u < m then f u else 0) n = sumN f m
  | 0, h => by obtain rfl : m = 0 := by omega
               rfl
  | n + 1, h => by
    simp only [sumN]
    rcases Nat.lt_or_ge n m with q | q
    · obtain rfl : m = n + 1 := by omega
      rw [if_pos (by omega), sumN_congr (g := f) fun k hk => if_pos (by omega)]; rfl
    · rw [if_neg (by omega), sumN_cut f m n q]; omega
theorem share_units {xs : List Int} {k : Nat} (h : 0 ≤ xs.getD k 0 ∧ xs.getD k 0 ≤ 12) : shareAt xs k = sumN (fun u => hit (xs.getD k 0) u * unitP xs u) 12 := by
  unfold shareAt
  rw [← sumN_cut _ _ 12 (by omega)]
  refine sumN_congr fun u _ => ?_
  by_cases q : u < (xs.getD k 0).toNat
  · rw [if_pos q, hit_yes (by omega)]; omega
  · rw [if_neg q, hit_no (by omega)]; omega
theorem share_mono {xs : List Int} (h4 : xs.length ≤ 4) {k j : Nat} (h : xs.getD k 0 ≤ xs.getD j 0) : shareAt xs k ≤ shareAt xs j := by
  unfold shareAt
  rw [← sumN_cut (unitP xs) _ (xs.getD j 0).toNat (by omega)]
  refine sumN_each fun u _ => ?_
  have e := unitP_rg h4 u
  split <;> omega
theorem shareTo_rg {xs : List Int} (h4 : xs.length ≤ 4) : ∀ m : Nat, 0 ≤ sumN (unitP xs) m ∧ sumN (unitP xs) m ≤ 48 * m
  | 0 => by simp [sumN]
  | m + 1 => by
    have e := shareTo_rg h4 m
    have e2 := unitP_rg h4 m
    simp only [sumN]; omega
theorem share_rg {xs : List Int} (h : needB xs = true) (k : Nat) : 0 ≤ shareAt xs k ∧ shareAt xs k ≤ 48 * xs.getD k 0 ∧ shareAt xs k ≤ 576 := by
  have e := shareTo_rg (need_bd h).2 (xs.getD k 0).toNat
  have e2 := need_rg h k
  unfold shareAt; omega
/-- The shares, a row. -/
def shareR (xs : List Int) : List Int := fnRow xs.length (shareAt xs)
theorem shareR_length (xs : List Int) : (shareR xs).length = xs.length := fnRow_length _ _
theorem share_set {xs : List Int} (h : needB xs = true) (s : Nat) : ∀ k, k ≤ xs.length → inSum (shareR xs) (s : Int) k = sumN (fun u => inTo xs s u k * unitP xs u) 12
  | 0, _ => by simp [inSum, inTo, sumN_zero]
  | k + 1, hk => by
    rw [in_succ, share_set h s k (by omega), shareR, fnRow_getD _ (by omega), share_units (need_rg h k)]
    by_cases q : s.testBit k = true
    · rw [if_pos q, ← sumN_add]
      refine sumN_congr fun u _ => ?_
      simp only [inTo]; rw [if_pos q, Int.add_mul]
    · rw [if_neg q, Int.add_zero]
      refine sumN_congr fun u _ => ?_
      simp only [inTo]; rw [if_neg q, Int.add_zero]
theorem share_pays {xs : List Int} (h : needB xs = true) (s : Nat) : inSum (shareR xs) (s : Int) xs.length ≤ 48 * costTo xs (s : Int) xs.length := by
  have hr := cost_rg (need_rg h) (s : Int) xs.length
  rw [share_set h s _ (Nat.le_refl _)]
  have e : 48 * costTo xs (s : Int) xs.length = sumN (fun u => 48 * hit (costTo xs (s : Int) xs.length) u) 12 := by rw [sumN_mul, hit_all hr]
  rw [e]
  refine sumN_each fun u _ => ?_
  have e1 := in_many xs s u xs.length
  have e2 := many_rg xs u xs.length
  have h4 := (need_bd h).2
  by_cases q : (u : Int) < costTo xs (s : Int) xs.length
  · rw [hit_yes q]
    unfold unitP
    rcases (show manyTo xs u xs.length = 0 ∨ 1 ≤ manyTo xs u xs.length from by omega) with q2 | q2
    · rw [show inTo xs s u xs.length = 0 from by omega]; omega
    · have e3 := part_many q2 (by omega)
      have e4 : inTo xs s u xs.length * (48 / manyTo xs u xs.length) ≤ manyTo xs u xs.length * (48 / manyTo xs u xs.length) := Int.mul_le_mul_of_nonneg_right e1.2 (by omega)
      omega
  · rw [in_far q]; rw [hit_no q]; omega
theorem share_total {xs : List Int} (h : needB xs = true) : inSum (shareR xs) ((2 ^ xs.length - 1 : Nat) : Int) xs.length = 48 * costTo xs ((2 ^ xs.length - 1 : Nat) : Int) xs.length := by
  have hr := cost_rg (need_rg h) ((2 ^ xs.length - 1 : Nat) : Int) xs.length
  have h4 := (need_bd h).2
  rw [share_set h _ _ (Nat.le_refl _)]
  have e : 48 * costTo xs ((2 ^ xs.length - 1 : Nat) : Int) xs.length = sumN (fun u => 48 * hit (costTo xs ((2 ^ xs.length - 1 : Nat) : Int) xs.length) u) 12 := by rw [sumN_mul, hit_all hr]
  rw [e]
  refine sumN_congr fun u _ => ?_
  have e2 := many_rg xs u xs.length
  by_cases q : (u : Int) < costTo xs ((2 ^ xs.length - 1 : Nat) : Int) xs.length
  · have e3 := part_many (many_cost _ (Nat.le_refl _) q) (by omega)
    rw [hit_yes q, in_all _ (Nat.le_refl _)]
    unfold unitP; omega
  · rw [in_far q, hit_no q]; omega
theorem cost_all_natl (n : Nat) : ((2 ^ n - 1 : Nat) : Int) = 2 ^ n - 1 := by
  have e : 1 ≤ 2 ^ n := Nat.one_le_two_pow
  have q : ((2 ^ n : Nat) : Int) = (2 : Int) ^ n := by rw [Int.natCast_pow]; rfl
  omega
theorem share_sum {xs : List Int} (h : needB xs = true) : (shareR xs).sum = 48 * costTo xs (2 ^ xs.length - 1) xs.length := by
  have e := share_total h
  have e1 := in_out (shareR xs) (2 ^ xs.length - 1) xs.length
  have e2 := out_all (shareR xs) xs.length xs.length (Nat.le_refl _)
  rw [cost_all_natl] at e e1
  rw [e2, List.take_of_length_le (by rw [shareR_length]; exact Nat.le_refl _)] at e1
  omega

/-! All orders. -/
theorem perm_rg {n m j : Nat} (hn : n ≤ 4) (hm : m < (perms n).length) (hj : j < n) : 0 ≤ ((perms n).getD m []).getD j 0 ∧ ((perms n).getD m []).getD j 0 < (n : Int) := by
  have e := perms_ok n hn _ (perms_in hm)
  have e2 := of_decide_eq_true (List.all_eq_true.1 e.2 j (List.mem_range.2 (by rw [e.1]; exact hj)))
  exact ⟨e2.1, e2.2.1⟩
/-- How long the runway is for the first p of an order. -/
def longTo (xs os : List Int) : Nat → Int
  | 0 => 0
  | p + 1 => max (longTo xs os p) (xs.getD (os.getD p 0).toNat 0)
theorem long_rg {xs : List Int} (h : ∀ k, 0 ≤ xs.getD k 0 ∧ xs.getD k 0 ≤ 12) (os : List Int) : ∀ p, 0 ≤ longTo xs os p ∧ longTo xs os p ≤ 12
  | 0 => by simp [longTo]
  | p + 1 => by
    have e := long_rg h os p
    have e2 := h (os.getD p 0).toNat
    simp only [longTo]; omega
/-- What one pays of the first p of an order. -/
def runTo (xs os : List Int) (i : Nat) : Nat → Int
  | 0 => 0
  | p + 1 => runTo xs os i p + if (os.getD p 0).toNat = i then 48 * (max (longTo xs os p) (xs.getD i 0) - longTo xs os p) else 0
theorem run_rg {xs : List Int} (h : ∀ k, 0 ≤ xs.getD k 0 ∧ xs.getD k 0 ≤ 12) (os : List Int) (i : Nat) : ∀ p : Nat, 0 ≤ runTo xs os i p ∧ runTo xs os i p ≤ 576 * p
  | 0 => by simp [runTo]
  | p + 1 => by
    have e := run_rg h os i p
    have e1 := long_rg h os p
    have e2 := h i
    simp only [runTo]; split <;> omega
/-- Whether one of the first p of an order is marked; how often i is the first one marked. -/
def seenB (b : Nat → Bool) (os : List Int) : Nat → Bool
  | 0 => false
  | p + 1 => seenB b os p || b (os.getD p 0).toNat
def firstB (b : Nat → Bool) (os : List Int) (i : Nat) : Nat → Int
  | 0 => 0
  | p + 1 => firstB b os i p + if (os.getD p 0).toNat = i ∧ b i = true ∧ seenB b os p = false then 1 else 0
def markB (xs : List Int) (u : Nat) : Nat → Bool := fun j => decide ((u : Int) < xs.getD j 0)
theorem seen_long {xs os : List Int} {u : Nat} : ∀ p, seenB (markB xs u) os p = true ↔ (u : Int) < longTo xs os p
  | 0 => by simp [seenB, longTo]
  | p + 1 => by
    have e := seen_long (xs := xs) (os := os) (u := u) p
    simp only [seenB, longTo, Bool.or_eq_true, e, markB, decide_eq_true_eq]; omega
theorem run_first {xs : List Int} (h : ∀ k, 0 ≤ xs.getD k 0 ∧ xs.getD k 0 ≤ 12) (os : List Int) (i : Nat) : ∀ p, runTo xs os i p = 48 * sumN (fun u => firstB (markB xs u) os i p) 12
  | 0 => by simp [runTo, firstB, sumN_zero]
  | p + 1 => by
    have e1 := long_rg h os p
    have e2 := h i
    simp only [runTo]
    rw [run_first h os i p]
    by_cases q : (os.getD p 0).toNat = i
    · have e3 : max (longTo xs os p) (xs.getD i 0) - longTo xs os p = sumN (fun u => hit (max (longTo xs os p) (xs.getD i 0)) u - hit (longTo xs os p) u) 12 := by
        rw [sumN_sub, hit_all (by omega), hit_all e1]
      rw [if_pos q, e3, ← Int.mul_add, ← sumN_add]
      congr 1
      refine sumN_congr fun u _ => ?_
      simp only [firstB]
      congr 1
      have e4 := seen_long (xs := xs) (os := os) (u := u) p
      by_cases c1 : (u : Int) < longTo xs os p
      · rw [hit_yes c1, hit_yes (by omega), if_neg (fun z => by rw [e4.2 c1] at z; cases z.2.2)]; rfl
      · have e5 : seenB (markB xs u) os p = false := by cases z : seenB (markB xs u) os p with
          | false => rfl
          | true => exact absurd (e4.1 z) c1
        rw [hit_no c1]
        by_cases c2 : (u : Int) < xs.getD i 0
        · rw [hit_yes (by omega), if_pos ⟨q, by simpa [markB] using c2, e5⟩]; rfl
        · rw [hit_no (by omega), if_neg (fun z => c2 (by simpa [markB] using z.2.1))]; rfl
    · rw [if_neg q, Int.add_zero]
      congr 1
      refine sumN_congr fun u _ => ?_
      simp only [firstB]
      rw [if_neg (fun z => q z.1)]; omega
/-- How many of the first n are marked. -/
def markN (b : Nat → Bool) : Nat → Int
  | 0 => 0
  | n + 1 => markN b n + if b n then 1 else 0
theorem markN_many (xs : List Int) (u : Nat) : ∀ n, markN (markB xs u) n = manyTo xs u n
  | 0 => rfl
  | n + 1 => by simp only [markN, manyTo, markN_many xs u n, markB, hit, decide_eq_true_eq]
def four (b : Nat → Bool) : Nat → Bool := fun j => [b 0, b 1, b 2, b 3].getD j false
theorem four_is (b : Nat → Bool) {j : Nat} (h : j < 4) : four b j = b j := by
  rcases (show j = 0 ∨ j = 1 ∨ j = 2 ∨ j = 3 from by omega) with rfl | rfl | rfl | rfl <;> rfl
theorem seen_four (b : Nat → Bool) {os : List Int} (h : ∀ j, (os.getD j 0).toNat < 4) : ∀ p, seenB (four b) os p = seenB b os p
  | 0 => rfl
  | p + 1 => by simp only [seenB]; rw [seen_four b h p, four_is b (h p)]
theorem first_four (b : Nat → Bool) {os : List Int} (h : ∀ j, (os.getD j 0).toNat < 4) {i : Nat} (hi : i < 4) : ∀ p, firstB (four b) os i p = firstB b os i p
  | 0 => rfl
  | p + 1 => by simp only [firstB]; rw [first_four b h hi p, seen_four b h p, four_is b hi]
theorem mark_four (b : Nat → Bool) : ∀ n, n ≤ 4 → markN (four b) n = markN b n
  | 0, _ => rfl
  | n + 1, h => by simp only [markN]; rw [mark_four b n (by omega), four_is b (by omega)]
theorem perms_small : ∀ n, n ≤ 4 → ∀ os ∈ perms n, ∀ j, (os.getD j 0).toNat < 4 := by
  intro n hn os ho j
  have e := perms_ok n hn os ho
  by_cases hj : j < os.length
  · have e2 := List.all_eq_true.1 e.2 j (List.mem_range.2 hj)
    have e3 := (of_decide_eq_true e2)
    omega
  · rw [getD_far os (by omega)]; decide
theorem first_count : ∀ (n : Nat), n ≤ 4 → ∀ (b0 b1 b2 b3 : Bool) (i : Nat), i < n → ((perms n).map fun os => firstB (fun j => [b0, b1, b2, b3].getD j false) os i n).sum = if [b0, b1, b2, b3].getD i false then fac n / markN (fun j => [b0, b1, b2, b3].getD j false) n else 0
  | 0, _ => by intro _ _ _ _ i hi; omega
  | 1, _ => by decide +kernel
  | 2, _ => by decide +kernel
  | 3, _ => by decide +kernel
  | 4, _ => by decide +kernel
  | k + 5, h => by omega
theorem first_sum {n : Nat} (hn : n ≤ 4) (b : Nat → Bool) {i : Nat} (hi : i < n) : ((perms n).map fun os => firstB b os i n).sum = if b i then fac n / markN b n else 0 := by
  have e := first_count n hn (b 0) (b 1) (b 2) (b 3) i hi
  have e2 : ((perms n).map fun os => firstB b os i n) = (perms n).map fun os => firstB (four b) os i n := List.map_congr_left fun os ho => (first_four b (perms_small n hn os ho) (by omega) n).symm
  rw [e2, ← mark_four b n hn, ← four_is b (show i < 4 by omega)]
  exact e
theorem list_swap (F : List Int → Nat → Int) (m : Nat) : ∀ l : List (List Int), (l.map fun os => sumN (F os) m).sum = sumN (fun u => (l.map fun os => F os u).sum) m
  | [] => by simp [sumN_zero]
  | a :: l => by
    simp only [List.map_cons, List.sum_cons]
    rw [list_swap F m l, ← sumN_add]
theorem list_mul (q : Int) (F : List Int → Int) : ∀ l : List (List Int), (l.map fun os => q * F os).sum = q * (l.map F).sum
  | [] => by simp
  | a :: l => by
    simp only [List.map_cons, List.sum_cons]
    rw [list_mul q F l, Int.mul_add]
theorem fac_part {n : Nat} {m : Int} (h1 : 1 ≤ m) (hm : m ≤ n) (hn : n ≤ 4) : 48 * (fac n / m) = fac n * (48 / m) := by
  rcases (show n = 0 ∨ n = 1 ∨ n = 2 ∨ n = 3 ∨ n = 4 from by omega) with rfl | rfl | rfl | rfl | rfl <;>
    rcases (show m = 1 ∨ m = 2 ∨ m = 3 ∨ m = 4 from by omega) with e | e | e | e <;> subst e <;> first | (exfalso; omega) | decide
/-- What one pays by all orders together. -/
theorem run_total {xs : List Int} (h : needB xs = true) {i : Nat} (hi : i < xs.length) : ((perms xs.length).map fun os => runTo xs os i xs.length).sum = fac xs.length * shareAt xs i := by
  have hn := (need_bd h).2
  rw [List.map_congr_left (g := fun os => 48 * sumN (fun u => firstB (markB xs u) os i xs.length) 12) fun os _ => run_first (need_rg h) os i xs.length]
  rw [list_mul, list_swap (fun os u => firstB (markB xs u) os i xs.length), share_units (need_rg h i), ← sumN_mul, ← sumN_mul]
  refine sumN_congr fun u _ => ?_
  rw [first_sum hn _ hi, markN_many]
  by_cases q : (u : Int) < xs.getD i 0
  · rw [if_pos (by simpa [markB] using q), hit_yes q, Int.one_mul]
    exact fac_part (many_pos hi q) (many_rg xs u xs.length).2 hn
  · rw [if_neg (by simpa [markB] using q), hit_no q]; omega
theorem run_mean {xs : List Int} (h : needB xs = true) {i : Nat} (hi : i < xs.length) : ((perms xs.length).map fun os => runTo xs os i xs.length).sum / ((perms xs.length).length : Int) = shareAt xs i := by
  have e := fac_pos xs.length
  rw [run_total h hi, perms_fac (need_bd h).2, Int.mul_ediv_cancel_left _ (by omega)]

/-! A further need; the greatest need one more. -/
theorem many_snoc (xs : List Int) (u : Nat) : ∀ k, k ≤ xs.length → manyTo (xs ++ [0]) u k = manyTo xs u k
  | 0, _ => rfl
  | k + 1, h => by
    simp only [manyTo]
    rw [many_snoc xs u k (by omega), show (xs ++ [(0 : Int)]).getD k 0 = xs.getD k 0 from by simp only [List.getD]; rw [List.getElem?_append_left (by omega)]]
theorem many_wide (xs : List Int) (u : Nat) : manyTo (xs ++ [0]) u (xs ++ [(0 : Int)]).length = manyTo xs u xs.length := by
  rw [List.length_append]
  show manyTo (xs ++ [0]) u (xs.length + 1) = _
  simp only [manyTo]
  rw [many_snoc xs u _ (Nat.le_refl _), show (xs ++ [(0 : Int)]).getD xs.length 0 = 0 from by simp [List.getD], hit_no (by omega)]; omega
theorem unitP_wide (xs : List Int) : unitP (xs ++ [0]) = unitP xs := by
  funext u; unfold unitP; rw [many_wide]
theorem shareR_wide (xs : List Int) : shareR (xs ++ [0]) = shareR xs ++ [0] := by
  refine row_ext (by rw [shareR_length, List.length_append, List.length_append, shareR_length]) fun k hk => ?_
  rw [shareR_length, List.length_append] at hk
  have hk2 : k < xs.length + 1 := hk
  rw [shareR, fnRow_getD _ (by rw [List.length_append]; exact hk)]
  unfold shareAt
  rw [unitP_wide]
  rcases Nat.lt_or_ge k xs.length with q | q
  · rw [show (xs ++ [(0 : Int)]).getD k 0 = xs.getD k 0 from by simp only [List.getD]; rw [List.getElem?_append_left q]]
    rw [show (shareR xs ++ [(0 : Int)]).getD k 0 = (shareR xs).getD k 0 from by simp only [List.getD]; rw [List.getElem?_append_left (by rw [shareR_length]; exact q)]]
    rw [shareR, fnRow_getD _ q]; rfl
  · obtain rfl : k = xs.length := by omega
    rw [show (xs ++ [(0 : Int)]).getD xs.length 0 = 0 from by simp [List.getD]]
    rw [show (shareR xs ++ [(0 : Int)]).getD xs.length 0 = 0 from by rw [← shareR_length xs]; simp [List.getD]]
    rfl
theorem need_wide {xs : List Int} (h : needB xs = true) (h3 : xs.length ≤ 3) : needB (xs ++ [0]) = true := by
  have e := (needB_iff xs).1 h
  refine (needB_iff _).2 ⟨by simp, by simp; omega, fun x hx => ?_⟩
  rcases List.mem_append.1 hx with q | q
  · exact e.2.2 x q
  · obtain rfl : x = 0 := by simpa using q
    omega
theorem set_getD (xs : List Int) (f k : Nat) (v : Int) (hf : f < xs.length) : (xs.set f v).getD k 0 = if f = k then v else xs.getD k 0 := by
  simp only [List.getD, List.getElem?_set]
  by_cases e : f = k
  · subst e; simp [hf]
  · simp [e]
theorem many_more {xs : List Int} {f : Nat} (hf : f < xs.length) {u : Nat} (hu : (u : Int) < xs.getD f 0) : ∀ k, manyTo (xs.set f (xs.getD f 0 + 1)) u k = manyTo xs u k
  | 0 => rfl
  | k + 1 => by
    simp only [manyTo]
    rw [many_more hf hu k, set_getD xs f k _ hf]
    by_cases e : f = k
    · subst e; rw [if_pos rfl, hit_yes (by omega), hit_yes hu]
    · rw [if_neg e]
theorem many_top {xs : List Int} {f : Nat} (hf : f < xs.length) {u : Nat} (hu : (u : Int) = xs.getD f 0) (hm : ∀ k, xs.getD k 0 ≤ xs.getD f 0) : ∀ k, manyTo (xs.set f (xs.getD f 0 + 1)) u k = if f < k then 1 else 0
  | 0 => rfl
  | k + 1 => by
    simp only [manyTo]
    rw [many_top hf hu hm k, set_getD xs f k _ hf]
    by_cases e : f = k
    · subst e; rw [if_pos rfl, if_neg (by omega), if_pos (by omega), hit_yes (by omega)]; rfl
    · have e2 := hm k
      rw [if_neg e, hit_no (by omega)]
      by_cases e3 : f < k
      · rw [if_pos e3, if_pos (by omega)]; rfl
      · rw [if_neg e3, if_neg (by omega)]; rfl
theorem share_more {xs : List Int} (h : needB xs = true) {f : Nat} (hf : f < xs.length) (hm : ∀ k, xs.getD k 0 ≤ xs.getD f 0) (k : Nat) : shareAt (xs.set f (xs.getD f 0 + 1)) k = shareAt xs k + if k = f then 48 else 0 := by
  have hr := need_rg h
  have hu : ∀ u : Nat, (u : Int) < xs.getD f 0 → unitP (xs.set f (xs.getD f 0 + 1)) u = unitP xs u := fun u q => by
    unfold unitP; rw [List.length_set, many_more hf q]
  unfold shareAt
  rw [set_getD xs f k _ hf]
  by_cases e : f = k
  · subst e
    have e0 := hr f
    rw [if_pos rfl, if_pos rfl, show (xs.getD f 0 + 1).toNat = (xs.getD f 0).toNat + 1 from by omega]
    simp only [sumN]
    rw [sumN_congr (g := unitP xs) fun u q => hu u (by omega)]
    congr 1
    unfold unitP
    rw [List.length_set, many_top hf (by omega) hm, if_pos hf]; rfl
  · rw [if_neg e, if_neg (Ne.symm e), Int.add_zero]
    have e2 := hm k
    have e3 := hr k
    exact sumN_congr fun u q => hu u (by omega)

/-! What can be paid. -/
noncomputable def payB (xs ys : List Int) : Bool := @decide (needB xs = true ∧ ys.length = xs.length ∧ (∀ y ∈ ys, 0 ≤ y ∧ y ≤ 576) ∧ ys.sum = 48 * costTo xs (2 ^ xs.length - 1) xs.length ∧ ∀ s : Nat, s < 2 ^ xs.length → inSum ys (s : Int) xs.length ≤ 48 * costTo xs (s : Int) xs.length) (Classical.propDecidable _)
theorem payB_iff (xs ys : List Int) : payB xs ys = true ↔ (needB xs = true ∧ ys.length = xs.length ∧ (∀ y ∈ ys, 0 ≤ y ∧ y ≤ 576) ∧ ys.sum = 48 * costTo xs (2 ^ xs.length - 1) xs.length ∧ ∀ s : Nat, s < 2 ^ xs.length → inSum ys (s : Int) xs.length ≤ 48 * costTo xs (s : Int) xs.length) := by simp [payB]
theorem share_payB {xs : List Int} (h : needB xs = true) : payB xs (shareR xs) = true :=
  (payB_iff _ _).2 ⟨h, shareR_length xs, fun y hy => by
    obtain ⟨k, hk, rfl⟩ := List.mem_iff_getElem.1 hy
    have e := share_rg h k
    rw [← getD_of_lt _ k hk, shareR, fnRow_getD _ (by rwa [shareR_length] at hk)]; omega, share_sum h, fun s _ => share_pays h s⟩
theorem cost_one {xs : List Int} (h : ∀ k, 0 ≤ xs.getD k 0 ∧ xs.getD k 0 ≤ 12) (k : Nat) : ∀ m, costTo xs ((2 ^ k : Nat) : Int) m = if k < m then xs.getD k 0 else 0
  | 0 => rfl
  | m + 1 => by
    rw [cost_succ, cost_one h k m, Nat.testBit_two_pow]
    have e := h k
    by_cases q : k = m
    · subst q; rw [if_pos (by simp), if_neg (by omega), if_pos (by omega)]; omega
    · rw [if_neg (by simpa using q)]
      by_cases q2 : k < m
      · rw [if_pos q2, if_pos (by omega)]
      · rw [if_neg q2, if_neg (by omega)]
theorem pay_alone {xs ys : List Int} (h : payB xs ys = true) {k : Nat} (hk : k < xs.length) : ys.getD k 0 ≤ 48 * xs.getD k 0 := by
  have e := (payB_iff _ _).1 h
  have e2 := e.2.2.2.2 (2 ^ k) (Nat.pow_lt_pow_right (by omega) hk)
  rw [in_one, if_pos hk, cost_one (need_rg e.1), if_pos hk] at e2
  exact e2
theorem cost_le {xs : List Int} {s : Nat} {g : Int} (hg : 0 ≤ g) : ∀ {m : Nat}, (∀ k, k < m → s.testBit k = true → xs.getD k 0 ≤ g) → costTo xs (s : Int) m ≤ g
  | 0, _ => hg
  | m + 1, h => by
    have e := cost_le (xs := xs) (s := s) hg (m := m) fun k hk => h k (by omega)
    rw [cost_succ]
    split
    · rename_i q
      have e2 := h m (by omega) q
      omega
    · exact e
theorem cost_ge {xs : List Int} {s k : Nat} (hb : s.testBit k = true) : ∀ {m : Nat}, k < m → xs.getD k 0 ≤ costTo xs (s : Int) m
  | 0, h => absurd h (by omega)
  | m + 1, h => by
    rw [cost_succ]
    by_cases q : k = m
    · subst q; rw [if_pos hb]; omega
    · have e := cost_ge (xs := xs) hb (m := m) (by omega)
      split <;> omega
theorem pay_first {xs ys : List Int} (h : payB xs ys = true) {f : Nat} (hf : f < xs.length) (hm : ∀ k, xs.getD k 0 ≤ xs.getD f 0) {g : Int} (hg : 0 ≤ g) (hs : ∀ k, k < xs.length → ¬ k = f → xs.getD k 0 ≤ g) : 48 * (xs.getD f 0 - g) ≤ ys.getD f 0 := by
  have e := (payB_iff _ _).1 h
  have hr := need_rg e.1
  have hp : 2 ^ f < 2 ^ xs.length := Nat.pow_lt_pow_right (by omega) hf
  have e2 := e.2.2.2.2 (2 ^ xs.length - 1 - 2 ^ f) (Nat.lt_of_le_of_lt (Nat.sub_le _ _) (Nat.sub_lt (Nat.lt_of_le_of_lt (Nat.zero_le _) hp) (by omega)))
  have hbit : ∀ k, k < xs.length → (2 ^ xs.length - 1 - 2 ^ f).testBit k = !(2 ^ f).testBit k := fun k hk => by
    have q := Nat.testBit_two_pow_sub_succ hp k
    rw [show 2 ^ xs.length - (2 ^ f + 1) = 2 ^ xs.length - 1 - 2 ^ f from by omega] at q
    rw [q]; simp [hk]
  have e3 : costTo xs ((2 ^ xs.length - 1 - 2 ^ f : Nat) : Int) xs.length ≤ g := cost_le hg fun k hk hb => by
    refine hs k hk fun z => ?_
    subst z
    rw [hbit k hk, Nat.testBit_two_pow] at hb
    simp at hb
  have e4 := out_sub (xs := ys) hp xs.length (Nat.le_refl _)
  have eL := e.2.1
  have e5 := in_out ys (2 ^ xs.length - 1 - 2 ^ f) xs.length
  rw [e4] at e5
  rw [in_one, if_pos hf, List.take_of_length_le (by rw [e.2.1]; exact Nat.le_refl _), e.2.2.2.1] at e5
  have e6 : xs.getD f 0 ≤ costTo xs ((2 ^ xs.length - 1 : Nat) : Int) xs.length := cost_ge (by rw [Nat.testBit_two_pow_sub_one]; simpa using hf) hf
  rw [cost_all_natl] at e6
  omega

end Go.Proofs.Ytbegdcnljafloaa
