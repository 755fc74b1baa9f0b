/-
  What sets of people are worth, in plain mathematics: sets by their numbers' digits; the sum over a set and that over the others; two sets and what they share. No condition but those of a case.
-/
import Derived.Test.YtbegdcnljafloaaSpec6
import Derived.Test.YtbegdcnljafloaaGC
namespace Go.Proofs.Ytbegdcnljafloaa
open Go.RowKit

theorem bit_nat (n k : Nat) : ((n : Int) / 2 ^ k % 2 = 1) ↔ n.testBit k = true := by
  have e : ((n / 2 ^ k % 2 : Nat) : Int) = (n : Int) / 2 ^ k % 2 := by simp
  rw [← e, Nat.testBit_eq_decide_div_mod_eq, decide_eq_true_iff]
  omega
theorem bit_nat0 (n k : Nat) : ((n : Int) / 2 ^ k % 2 = 0) ↔ n.testBit k = false := by
  have e := bit_nat n k
  have e2 : 0 ≤ (n : Int) / 2 ^ k % 2 := Int.emod_nonneg _ (by omega)
  have e3 : (n : Int) / 2 ^ k % 2 < 2 := Int.emod_lt_of_pos _ (by omega)
  cases h : n.testBit k
  · simp only [h, Bool.false_eq_true, iff_false] at e
    simp only [iff_true]; omega
  · simp only [h, iff_true] at e
    simp only [Bool.true_eq_false, iff_false]; omega
theorem out_succ (xs : List Int) (n k : Nat) : outSum xs n (k + 1) = outSum xs n k + (if n.testBit k then 0 else xs.getD k 0) := by
  simp only [outSum]
  cases h : n.testBit k
  · rw [if_pos ((bit_nat0 n k).2 h)]; simp
  · rw [if_neg (fun e => by rw [(bit_nat0 n k).1 e] at h; cases h)]; simp
theorem in_succ (xs : List Int) (n k : Nat) : inSum xs n (k + 1) = inSum xs n k + (if n.testBit k then xs.getD k 0 else 0) := by
  simp only [inSum]
  cases h : n.testBit k
  · rw [if_neg (fun e => by rw [(bit_nat n k).1 e] at h; cases h)]; simp
  · rw [if_pos ((bit_nat n k).2 h)]; simp
theorem sum_take_succ (xs : List Int) (k : Nat) : (xs.take (k + 1)).sum = (xs.take k).sum + xs.getD k 0 := by
  by_cases h : k < xs.length
  · rw [sum_snoc xs k h, getD_of_lt xs k h]
  · rw [List.take_of_length_le (by omega), List.take_of_length_le (by omega)]
    simp only [List.getD, List.getElem?_eq_none (show xs.length ≤ k by omega)]; simp
theorem in_out (xs : List Int) (n : Nat) : ∀ k, inSum xs n k + outSum xs n k = (xs.take k).sum
  | 0 => by simp [inSum, outSum]
  | k + 1 => by
    have e := in_out xs n k
    rw [in_succ, out_succ, sum_take_succ]
    cases n.testBit k <;> simp <;> omega
theorem out_or_and (xs : List Int) (a b : Nat) : ∀ k, outSum xs a k + outSum xs b k = outSum xs (a ||| b : Nat) k + outSum xs (a &&& b : Nat) k
  | 0 => by simp [outSum]
  | k + 1 => by
    have e := out_or_and xs a b k
    rw [out_succ, out_succ, out_succ, out_succ, Nat.testBit_or, Nat.testBit_and]
    cases a.testBit k <;> cases b.testBit k <;> simp <;> omega
theorem out_or_le {xs : List Int} (hx : ∀ k, 0 ≤ xs.getD k 0) (a b : Nat) : ∀ k, outSum xs (a ||| b : Nat) k ≤ outSum xs a k ∧ outSum xs (a ||| b : Nat) k ≤ outSum xs b k
  | 0 => by simp [outSum]
  | k + 1 => by
    have e := out_or_le hx a b k
    have e2 := hx k
    rw [out_succ, out_succ, out_succ, Nat.testBit_or]
    generalize xs.getD k 0 = v at *
    cases a.testBit k <;> cases b.testBit k <;> simp <;> omega
theorem out_nonneg {xs : List Int} (hx : ∀ k, 0 ≤ xs.getD k 0) (s : Int) : ∀ k, 0 ≤ outSum xs s k
  | 0 => by simp [outSum]
  | k + 1 => by
    have e := out_nonneg hx s k
    have e2 := hx k
    simp only [outSum]; split <;> omega
theorem case_nonneg {E : Int} {xs : List Int} (h : caseOkB E xs = true) (k : Nat) : 0 ≤ xs.getD k 0 := by
  by_cases hk : k < xs.length
  · rw [getD_of_lt xs k hk]; exact (case_at h k hk).1
  · simp only [List.getD, List.getElem?_eq_none (show xs.length ≤ k by omega)]; simp
theorem worth_super {E : Int} {xs : List Int} (hx : ∀ k, 0 ≤ xs.getD k 0) (a b : Nat) : worth E xs a + worth E xs b ≤ worth E xs (a ||| b : Nat) + worth E xs (a &&& b : Nat) := by
  have e1 := out_or_and xs a b xs.length
  have e2 := out_or_le hx a b xs.length
  unfold worth; omega
theorem or_i64 (a b : Nat) (ha : a < 4294967296) (hb : b < 4294967296) : bits .or .i64 (a : Int) (b : Int) = ((a ||| b : Nat) : Int) := by
  have hx : a ||| b < 2 ^ 32 := Nat.or_lt_two_pow (by omega) (by omega)
  have e : ∀ n : Nat, n < 4294967296 → (BitVec.ofInt 64 (n : Int)).toNat = n := fun n hn => by
    rw [BitVec.ofInt_natCast, BitVec.toNat_ofNat]; exact Nat.mod_eq_of_lt (by omega)
  show IntKind.i64.wrap ((BitVec.ofInt 64 (a : Int) ||| BitVec.ofInt 64 (b : Int)).toNat : Int) = _
  rw [BitVec.toNat_or, e a ha, e b hb, IntKind.wrap_i64]
  omega
theorem and_i64 (a b : Nat) (ha : a < 4294967296) (hb : b < 4294967296) : bits .and .i64 (a : Int) (b : Int) = ((a &&& b : Nat) : Int) := by
  have hx : a &&& b < 2 ^ 32 := Nat.and_lt_two_pow _ (by omega)
  have e : ∀ n : Nat, n < 4294967296 → (BitVec.ofInt 64 (n : Int)).toNat = n := fun n hn => by
    rw [BitVec.ofInt_natCast, BitVec.toNat_ofNat]; exact Nat.mod_eq_of_lt (by omega)
  show IntKind.i64.wrap ((BitVec.ofInt 64 (a : Int) &&& BitVec.ofInt 64 (b : Int)).toNat : Int) = _
  rw [BitVec.toNat_and, e a ha, e b hb, IntKind.wrap_i64]
  omega
/-- A number below 2 to the power of n, and another: both of their digits together stay below. -/
theorem or_bd {n : Nat} {a b : Int} (ha : 0 ≤ a ∧ a < 2 ^ n) (hb : 0 ≤ b ∧ b < 2 ^ n) (hn : n ≤ 5) : ∃ x y : Nat, a = x ∧ b = y ∧ bits .or .i64 a b = ((x ||| y : Nat) : Int) ∧ bits .and .i64 a b = ((x &&& y : Nat) : Int) ∧ ((x ||| y : Nat) : Int) < 2 ^ n ∧ ((x &&& y : Nat) : Int) < 2 ^ n := by
  obtain ⟨x, rfl⟩ := Int.eq_ofNat_of_zero_le ha.1
  obtain ⟨y, rfl⟩ := Int.eq_ofNat_of_zero_le hb.1
  have e : ((2 ^ n : Nat) : Int) = 2 ^ n := by simp
  have e2 : 2 ^ n ≤ 32 := by
    have := Nat.pow_le_pow_right (show 0 < 2 by omega) hn
    simpa using this
  have h1 : x < 2 ^ n := by omega
  have h2 : y < 2 ^ n := by omega
  have h3 : x ||| y < 2 ^ n := Nat.or_lt_two_pow h1 h2
  have h4 : x &&& y < 2 ^ n := Nat.and_lt_two_pow _ h2
  exact ⟨x, y, rfl, rfl, or_i64 x y (by omega) (by omega), and_i64 x y (by omega) (by omega), by omega, by omega⟩
theorem and_mask {n : Nat} {a : Int} (ha : 0 ≤ a ∧ a ≤ 255) (hn : n ≤ 5) : 0 ≤ bits .and .i64 a (2 ^ n - 1) ∧ bits .and .i64 a (2 ^ n - 1) < 2 ^ n := by
  obtain ⟨x, rfl⟩ := Int.eq_ofNat_of_zero_le ha.1
  have e : ((2 ^ n : Nat) : Int) = 2 ^ n := by simp
  have e2 : 2 ^ n ≤ 32 := by
    have := Nat.pow_le_pow_right (show 0 < 2 by omega) hn
    simpa using this
  have e3 : 0 < 2 ^ n := Nat.pow_pos (by omega)
  have e4 : (2 : Int) ^ n - 1 = ((2 ^ n - 1 : Nat) : Int) := by omega
  rw [e4, and_i64 x _ (by omega) (by omega)]
  have h4 : x &&& (2 ^ n - 1) < 2 ^ n := Nat.and_lt_two_pow _ (by omega)
  omega
theorem out_all (xs : List Int) (n : Nat) : ∀ k, k ≤ n → outSum xs ((2 : Int) ^ n - 1) k = 0 := by
  have e3 : 0 < 2 ^ n := Nat.pow_pos (by omega)
  have e4 : (2 : Int) ^ n - 1 = ((2 ^ n - 1 : Nat) : Int) := by
    have e : ((2 ^ n : Nat) : Int) = 2 ^ n := by simp
    omega
  intro k
  rw [e4]
  induction k with
  | zero => intro _; rfl
  | succ k ih =>
    intro hk
    rw [out_succ, ih (by omega), Nat.testBit_two_pow_sub_one]
    simp; omega
theorem out_none (xs : List Int) : ∀ k, outSum xs 0 k = (xs.take k).sum
  | 0 => by simp [outSum]
  | k + 1 => by
    have e := out_none xs k
    have e2 := out_succ xs 0 k
    simp only [Nat.zero_testBit] at e2
    rw [sum_take_succ, ← e]
    simpa using e2
theorem worth_all {E : Int} {xs : List Int} (h : 0 ≤ E) : worth E xs (2 ^ xs.length - 1) = E := by
  unfold worth; rw [out_all xs xs.length _ (Nat.le_refl _)]; omega
theorem worth_none {E : Int} {xs : List Int} (h : E ≤ xs.sum) : worth E xs 0 = 0 := by
  unfold worth; rw [out_none, List.take_length]; omega
/-! WorthOf. -/
theorem worthOf_neg {E : Int} {xs : List Int} {s : Int} (h : worthOf E xs s < 0) : worthOf E xs s = -1 := by
  unfold worthOf at h ⊢
  split at h
  · rename_i hc
    unfold worth at h; omega
  · rename_i hc
    rw [if_neg hc]
theorem worthOf_ok {E : Int} {xs : List Int} {s : Int} (h : ¬ worthOf E xs s < 0) : caseOkB E xs = true ∧ 0 ≤ s ∧ s < 2 ^ xs.length := by
  unfold worthOf at h
  split at h
  · assumption
  · omega
theorem worthOf_is {E : Int} {xs : List Int} {s : Int} (h : caseOkB E xs = true) (h0 : 0 ≤ s) (h1 : s < 2 ^ xs.length) : worthOf E xs s = worth E xs s := if_pos ⟨h, h0, h1⟩
theorem worthOf_bd (E : Int) (xs : List Int) (s : Int) : -1 ≤ worthOf E xs s ∧ worthOf E xs s ≤ 48 := by
  unfold worthOf
  split
  · rename_i h
    have e := (caseOk_iff E xs).1 h.1
    have e2 := out_nonneg (case_nonneg h.1) s xs.length
    have e3 := (caseOk_bd h.1).2.2.2.2
    unfold worth; omega
  · omega
theorem worthOf_super {E : Int} {xs : List Int} {a b : Int} (h : caseOkB E xs = true) (ha : 0 ≤ a ∧ a < 2 ^ xs.length) (hb : 0 ≤ b ∧ b < 2 ^ xs.length) :
    worthOf E xs a + worthOf E xs b ≤ worthOf E xs (bits .or .i64 a b) + worthOf E xs (bits .and .i64 a b) := by
  obtain ⟨x, y, rfl, rfl, h1, h2, h3, h4⟩ := or_bd ha hb (by have := (caseOk_bd h).2.1; omega)
  rw [h1, h2, worthOf_is h ha.1 ha.2, worthOf_is h hb.1 hb.2, worthOf_is h (by omega) h3, worthOf_is h (by omega) h4]
  exact worth_super (case_nonneg h) x y
theorem worthOf_all {E : Int} {xs : List Int} (h : caseOkB E xs = true) : worthOf E xs (2 ^ xs.length - 1) = E := by
  have e : 0 < (2 : Int) ^ xs.length := Int.pow_pos (by omega)
  rw [worthOf_is h (by omega) (by omega)]
  exact worth_all ((caseOk_iff E xs).1 h).2.2.2.1
theorem worthOf_none {E : Int} {xs : List Int} (h : caseOkB E xs = true) : worthOf E xs 0 = 0 := by
  have e : 0 < (2 : Int) ^ xs.length := Int.pow_pos (by omega)
  rw [worthOf_is h (by omega) e]
  exact worth_none ((caseOk_iff E xs).1 h).2.2.2.2
theorem worthOf_far (E : Int) (xs : List Int) : worthOf E xs (2 ^ xs.length) = -1 := by
  unfold worthOf
  rw [if_neg (fun h => Int.lt_irrefl _ h.2.2)]
/-! The other side. -/
theorem worth_other {E : Int} {xs : List Int} {s : Nat} : worth (xs.sum - E) xs s = max (inSum xs s xs.length - E) 0 := by
  have e := in_out xs s xs.length
  rw [List.take_length] at e
  unfold worth; omega
theorem sub_all {n s : Nat} (h : s < 2 ^ n) (k : Nat) (hk : k < n) : (2 ^ n - 1 - s).testBit k = !s.testBit k := by
  have e := Nat.testBit_two_pow_sub_succ h k
  have e2 : 2 ^ n - (s + 1) = 2 ^ n - 1 - s := by omega
  rw [e2] at e
  simpa [hk] using e
theorem out_sub {xs : List Int} {n s : Nat} (h : s < 2 ^ n) : ∀ k, k ≤ n → outSum xs (2 ^ n - 1 - s : Nat) k = inSum xs s k
  | 0, _ => rfl
  | k + 1, hk => by
    rw [out_succ, in_succ, out_sub h k (by omega), sub_all h k (by omega)]
    cases s.testBit k <;> simp
theorem worth_rest {E : Int} {xs : List Int} {s : Nat} (h : s < 2 ^ xs.length) : worth E xs (2 ^ xs.length - 1 - s : Nat) = max (E - inSum xs s xs.length) 0 := by
  unfold worth; rw [out_sub h _ (Nat.le_refl _)]
/-- A set and all others together have at most the estate. -/
theorem worth_both {E : Int} {xs : List Int} (h : caseOkB E xs = true) {s : Nat} (hs : s < 2 ^ xs.length) : worth E xs s + worth E xs (2 ^ xs.length - 1 - s : Nat) ≤ E := by
  have e := in_out xs s xs.length
  rw [List.take_length] at e
  have e1 := out_nonneg (case_nonneg h) s xs.length
  have e3 := (caseOk_iff E xs).1 h
  have e2 : 0 ≤ inSum xs s xs.length := by rw [← out_sub hs _ (Nat.le_refl _)]; exact out_nonneg (case_nonneg h) _ _
  rw [worth_rest hs]
  unfold worth; omega
/-! One person. -/
theorem in_one (xs : List Int) (k : Nat) : ∀ m, inSum xs (2 ^ k : Nat) m = if k < m then xs.getD k 0 else 0
  | 0 => by simp [inSum]
  | m + 1 => by
    have e := in_one xs k m
    rw [in_succ, e, Nat.testBit_two_pow]
    by_cases h2 : k = m
    · subst h2
      rw [if_neg (Nat.lt_irrefl k), if_pos (Nat.lt_succ_self k), if_pos (decide_eq_true rfl)]; omega
    · rw [if_neg (c := decide (k = m) = true) (by simp [h2])]
      by_cases h1 : k < m
      · rw [if_pos h1, if_pos (show k < m + 1 by omega)]; omega
      · rw [if_neg h1, if_neg (show ¬ k < m + 1 by omega)]; omega
theorem pow_lt {k n : Nat} (h : k < n) : 2 ^ k < 2 ^ n := Nat.pow_lt_pow_right (by omega) h
theorem worth_one {E : Int} {xs : List Int} {k : Nat} (hk : k < xs.length) : worth E xs (2 ^ k : Nat) = (rightsRow E xs).getD k 0 := by
  have e := in_out xs (2 ^ k) xs.length
  rw [List.take_length, in_one, if_pos hk] at e
  rw [getD_of_lt _ k (by rw [rightsRow_length]; exact hk), rightsRow_at E xs k hk, ← getD_of_lt xs k hk]
  unfold worth; omega
theorem worth_but {E : Int} {xs : List Int} {k : Nat} (hk : k < xs.length) : worth E xs (2 ^ xs.length - 1 - 2 ^ k : Nat) = max (E - xs.getD k 0) 0 := by
  rw [worth_rest (pow_lt hk), in_one, if_pos hk]
/-! Awards are the core. -/
theorem out_scale {xs ys : List Int} (n : Nat) (h : ∀ k, k < n → ys.getD k 0 ≤ 48 * xs.getD k 0) (s : Nat) : ∀ k, k ≤ n → outSum ys s k ≤ 48 * outSum xs s k
  | 0, _ => by simp [outSum]
  | k + 1, hk => by
    have e := out_scale n h s k (by omega)
    have e2 := h k (by omega)
    rw [out_succ, out_succ]
    generalize xs.getD k 0 = u at *
    generalize ys.getD k 0 = v at *
    cases s.testBit k <;> simp <;> omega
theorem in_nonneg {xs : List Int} (hx : ∀ k, 0 ≤ xs.getD k 0) (s : Nat) : ∀ k, 0 ≤ inSum xs s k
  | 0 => by simp [inSum]
  | k + 1 => by
    have e := in_nonneg hx s k
    have e2 := hx k
    rw [in_succ]
    generalize xs.getD k 0 = u at *
    cases s.testBit k <;> simp <;> omega
theorem getD_far (xs : List Int) {k : Nat} (h : xs.length ≤ k) : xs.getD k 0 = 0 := by
  simp only [List.getD, List.getElem?_eq_none h]; rfl
theorem core_aw {E : Int} {xs ys : List Int} (hc : caseOkB E xs = true) : coreB E xs ys = awardsB E xs ys := by
  have hsum := le_of_sum_nonneg xs (fun x hx => (((caseOk_iff E xs).1 hc).2.2.1 x hx).1)
  rw [Bool.eq_iff_iff, coreB_iff, awardsB_iff]
  constructor
  · rintro ⟨_, hn, hr, hs, ht⟩
    refine aw_of hc hn (fun k h1 h2 => ?_) ht
    have e1 := hr k h1
    have e2 := hs (2 ^ ys.length - 1 - 2 ^ k) (by
      have a : ((2 ^ ys.length : Nat) : Int) = 2 ^ ys.length := by simp
      have b : 0 < 2 ^ ys.length := Nat.pow_pos (by omega)
      rw [← a]
      refine Int.ofNat_lt.2 ?_
      generalize 2 ^ ys.length = p at *
      generalize 2 ^ k = q at *
      omega)
    unfold CoreAt at e2
    have e3 := in_out ys (2 ^ ys.length - 1 - 2 ^ k) ys.length
    rw [List.take_length, out_sub (pow_lt h1) _ (Nat.le_refl _), in_one, if_pos h1] at e3
    have e4 : worth E xs ((2 ^ ys.length - 1 - 2 ^ k : Nat) : Int) = max (E - xs.getD k 0) 0 := by rw [hn]; exact worth_but h2
    rw [e4] at e2
    unfold InRow at e1
    rw [← getD_of_lt ys k h1, ← getD_of_lt xs k h2]
    omega
  · intro hA
    have hr := hA.2.2.1
    have hy : ∀ k, 0 ≤ ys.getD k 0 ∧ ys.getD k 0 ≤ 48 * xs.getD k 0 := fun k => by
      by_cases hk : k < ys.length
      · have e := hr k hk (by rw [← hA.2.1]; exact hk)
        rw [getD_of_lt ys k hk, getD_of_lt xs k (by rw [← hA.2.1]; exact hk)]; exact e
      · rw [getD_far ys (by omega), getD_far xs (by rw [← hA.2.1]; omega)]; omega
    refine ⟨hc, hA.2.1, fun k hk => ?_, fun s _ => ?_, hA.2.2.2⟩
    · have e := hy k
      have hk' : k < xs.length := by rw [← hA.2.1]; exact hk
      have e2 := hsum _ (List.getElem_mem hk')
      rw [← getD_of_lt xs k hk'] at e2
      unfold InRow; omega
    · have e := in_out ys s ys.length
      rw [List.take_length, hA.2.2.2] at e
      have e1 := out_scale ys.length (fun k _ => (hy k).2) s ys.length (Nat.le_refl _)
      have e2 := in_nonneg (fun k => (hy k).1) s ys.length
      unfold CoreAt worth
      rw [← hA.2.1]
      omega
/-! Cut claims. -/
theorem cut_getD {E : Int} (xs : List Int) (h0 : 0 ≤ E) (k : Nat) : (cutRow E xs).getD k 0 = min (xs.getD k 0) E := by
  by_cases hk : k < xs.length
  · rw [getD_of_lt _ k (by rw [cutRow_length]; exact hk), cutRow_at E xs k hk, getD_of_lt xs k hk]; split <;> omega
  · rw [getD_far _ (by rw [cutRow_length]; omega), getD_far xs (by omega)]; omega
theorem out_cut {E : Int} {xs : List Int} (hx : ∀ k, 0 ≤ xs.getD k 0) (h0 : 0 ≤ E) (s : Nat) : ∀ k, min E (outSum (cutRow E xs) s k) = min E (outSum xs s k)
  | 0 => rfl
  | k + 1 => by
    have e := out_cut hx h0 s k
    have e1 := out_nonneg hx s k
    have e2 := out_nonneg (xs := cutRow E xs) (fun k => by rw [cut_getD xs h0]; have := hx k; omega) s k
    have e3 := hx k
    rw [out_succ, out_succ, cut_getD xs h0]
    generalize xs.getD k 0 = u at *
    cases s.testBit k <;> simp <;> omega
theorem worth_cut {E : Int} {xs : List Int} (h : caseOkB E xs = true) (s : Nat) : worth E (cutRow E xs) s = worth E xs s := by
  have h0 := ((caseOk_iff E xs).1 h).2.2.2.1
  have e := out_cut (case_nonneg h) h0 s xs.length
  unfold worth; rw [cutRow_length]; omega
theorem worthTo_cut {E : Int} {xs : List Int} (h : caseOkB E xs = true) (m : Nat) : worthTo E (cutRow E xs) m = worthTo E xs m := by
  unfold worthTo; exact List.map_congr_left (fun s _ => worth_cut h s)
theorem worthTo_getD (E : Int) (xs : List Int) {m s : Nat} (h : s < m) : (worthTo E xs m).getD s 0 = worth E xs s := by
  rw [getD_of_lt _ s (by rw [worthTo_length]; exact h)]; simp [worthTo]
/-! The order of rows. -/
theorem ordTo_turn (xs ys : List Int) : ∀ k, ordTo ys xs k = - ordTo xs ys k
  | 0 => rfl
  | k + 1 => by
    have e := ordTo_turn xs ys k
    simp only [ordTo, e]
    by_cases h : ordTo xs ys k = 0
    · rw [if_pos (by omega), if_pos h]
      split <;> split <;> (try split) <;> omega
    · rw [if_neg (by omega), if_neg h]
theorem ordTo_rg (xs ys : List Int) : ∀ k, ordTo xs ys k = -1 ∨ ordTo xs ys k = 0 ∨ ordTo xs ys k = 1
  | 0 => .inr (.inl rfl)
  | k + 1 => by
    have e := ordTo_rg xs ys k
    simp only [ordTo]
    split
    · split
      · exact .inl rfl
      · split
        · exact .inr (.inr rfl)
        · exact .inr (.inl rfl)
    · exact e
theorem ordTo_zero (xs ys : List Int) : ∀ k, ordTo xs ys k = 0 ↔ ∀ j, j < k → xs.getD j 0 = ys.getD j 0
  | 0 => by simp [ordTo]
  | k + 1 => by
    have e := ordTo_zero xs ys k
    simp only [ordTo]
    constructor
    · intro h j hj
      by_cases h0 : ordTo xs ys k = 0
      · rw [if_pos h0] at h
        rcases Nat.lt_or_ge j k with h1 | h1
        · exact e.1 h0 j h1
        · obtain rfl : j = k := by omega
          split at h
          · omega
          · split at h
            · omega
            · omega
      · rw [if_neg h0] at h; exact absurd h h0
    · intro h
      have h0 := e.2 (fun j hj => h j (by omega))
      have h1 := h k (by omega)
      rw [if_pos h0, if_neg (by omega), if_neg (by omega)]
theorem ordTo_congr {xs ys us vs : List Int} : ∀ k, (∀ j, j < k → us.getD j 0 = - xs.getD j 0 ∧ vs.getD j 0 = - ys.getD j 0) → ordTo us vs k = - ordTo xs ys k
  | 0, _ => rfl
  | k + 1, h => by
    have e := ordTo_congr k (fun j hj => h j (by omega))
    obtain ⟨h1, h2⟩ := h k (by omega)
    simp only [ordTo, e, h1, h2]
    by_cases h0 : ordTo xs ys k = 0
    · rw [if_pos (by omega), if_pos h0]
      split <;> split <;> (try split) <;> omega
    · rw [if_neg (by omega), if_neg h0]
theorem rowOrd_two {xs ys : List Int} : rowOrd xs ys = 2 ↔ ¬ (xs.length = ys.length ∧ xs.length ≤ 16) := by
  unfold rowOrd
  split
  · rename_i h
    have e := ordTo_rg xs ys xs.length
    constructor
    · intro h2; omega
    · intro h2; exact absurd h h2
  · rename_i h
    exact ⟨fun _ => h, fun _ => rfl⟩
theorem rowOrd_turn {xs ys : List Int} (h : ¬ rowOrd xs ys = 2) : rowOrd ys xs = - rowOrd xs ys := by
  have h1 : xs.length = ys.length ∧ xs.length ≤ 16 := Classical.not_not.1 (fun e => h (rowOrd_two.2 e))
  unfold rowOrd
  rw [if_pos h1, if_pos ⟨h1.1.symm, by omega⟩, ordTo_turn, h1.1]
theorem rowOrd_zero {xs ys : List Int} (h : ¬ rowOrd xs ys = 2) : rowOrd xs ys = 0 ↔ xs = ys := by
  have h1 : xs.length = ys.length ∧ xs.length ≤ 16 := Classical.not_not.1 (fun e => h (rowOrd_two.2 e))
  unfold rowOrd
  rw [if_pos h1, ordTo_zero]
  constructor
  · intro e
    refine List.ext_getElem h1.1 (fun k h2 h3 => ?_)
    have e2 := e k h2
    rwa [getD_of_lt xs k h2, getD_of_lt ys k h3] at e2
  · rintro rfl _ _; rfl
theorem rowOrd_neg {xs ys us vs : List Int} (h : ¬ rowOrd xs ys = 2) (hu : us.length = xs.length) (hv : vs.length = ys.length) (he : ∀ j, j < xs.length → us.getD j 0 = - xs.getD j 0 ∧ vs.getD j 0 = - ys.getD j 0) : rowOrd us vs = - rowOrd xs ys := by
  have h1 : xs.length = ys.length ∧ xs.length ≤ 16 := Classical.not_not.1 (fun e => h (rowOrd_two.2 e))
  unfold rowOrd
  rw [if_pos h1, if_pos ⟨by omega, by omega⟩, hu, ordTo_congr _ he]
theorem rowOrd_rg (xs ys : List Int) : -1 ≤ rowOrd xs ys ∧ rowOrd xs ys ≤ 2 := by
  unfold rowOrd
  split
  · have e := ordTo_rg xs ys xs.length; omega
  · omega
theorem worthOf_other {E : Int} {xs : List Int} {s S : Int} (h : caseOkB E xs = true) (h0 : 0 ≤ s) (h1 : s < 2 ^ xs.length) (hS : S = inSum xs s xs.length) : worthOf (xs.sum - E) xs s = max (S - E) 0 := by
  obtain ⟨n, rfl⟩ := Int.eq_ofNat_of_zero_le h0
  rw [worthOf_is (other_ok h) h0 h1, hS]; exact worth_other
theorem worthOf_other2 {E : Int} {xs : List Int} {s S : Int} (h : caseOkB E xs = true) (h0 : 0 ≤ s) (h1 : s < 2 ^ xs.length) (hS : S = inSum xs s xs.length) : worthOf (xs.sum - E) xs s = S - E + worthOf E xs (2 ^ xs.length - 1 - s) := by
  rw [worthOf_other h h0 h1 hS, worthOf_is h (by omega) (by omega)]
  obtain ⟨n, rfl⟩ := Int.eq_ofNat_of_zero_le h0
  have e : ((2 ^ xs.length : Nat) : Int) = 2 ^ xs.length := by simp
  have e2 : n < 2 ^ xs.length := by
    refine Int.ofNat_lt.1 ?_
    rw [e]; exact h1
  have e3 : (2 : Int) ^ xs.length - 1 - (n : Int) = ((2 ^ xs.length - 1 - n : Nat) : Int) := by
    rw [← e]
    generalize 2 ^ xs.length = p at *
    omega
  rw [e3, worth_rest e2, hS]; omega
theorem neg_snoc {xs ys us vs : List Int} {k : Nat} {a b : Int} (hu : us.length = k) (hv : vs.length = k) (h : ∀ j, j < k → us.getD j 0 = - xs.getD j 0 ∧ vs.getD j 0 = - ys.getD j 0) (ha : a = xs.getD k 0) (hb : b = ys.getD k 0) :
    ∀ j, j < k + 1 → (us ++ [-a]).getD j 0 = - xs.getD j 0 ∧ (vs ++ [-b]).getD j 0 = - ys.getD j 0 := fun j hj => by
  rcases Nat.lt_or_ge j k with h1 | h1
  · have e := h j h1
    (have e2 : j < us.length := by omega); (have e3 : j < vs.length := by omega)
    simpa [List.getD, List.getElem?_append_left e2, List.getElem?_append_left e3] using e
  · obtain rfl : j = k := by omega
    subst ha; subst hb
    exact ⟨by rw [← hu]; simp, by rw [← hv]; simp⟩
theorem worthRow_len (E : Int) (xs : List Int) : (worthRow E xs).length ≤ 32 := by
  unfold worthRow
  split
  · rename_i h
    have e := (caseOk_bd h).2.1
    have e2 : 2 ^ xs.length ≤ 2 ^ 5 := Nat.pow_le_pow_right (by omega) (by omega)
    rw [worthTo_length]; omega
  · simp
theorem worthRow_yes {E : Int} {xs : List Int} (h : caseOkB E xs = true) : worthRow E xs = worthTo E xs (2 ^ xs.length) := if_pos h
theorem worthRow_pow {E : Int} {xs : List Int} (h : caseOkB E xs = true) : ((worthRow E xs).length : Int) = 2 ^ xs.length := by
  rw [worthRow_yes h, worthTo_length]; simp
theorem worthRow_ok {E : Int} {xs : List Int} (h : ¬ (worthRow E xs).length = 0) : caseOkB E xs = true := by
  by_cases c : caseOkB E xs = true
  · exact c
  · unfold worthRow at h; rw [if_neg c] at h; exact absurd rfl h
theorem worthRow_no {E : Int} {xs : List Int} (h : (worthRow E xs).length = 0) : caseOkB E xs = false := by
  by_cases c : caseOkB E xs = true
  · rw [worthRow_yes c, worthTo_length] at h
    have e : 0 < 2 ^ xs.length := Nat.pow_pos (by omega)
    omega
  · simpa using c
theorem pow_not_ge {k n : Nat} (h : k < n) : ¬ (2 : Int) ^ k ≥ 2 ^ n := by
  have e := Int.ofNat_lt.2 (pow_lt h)
  have e1 : ((2 ^ n : Nat) : Int) = 2 ^ n := by simp
  have e2 : ((2 ^ k : Nat) : Int) = 2 ^ k := by simp
  omega
theorem worthRow_one {E : Int} {xs : List Int} {k x : Nat} (h : caseOkB E xs = true) (hk : k < xs.length) (hx : (2 : Int) ^ k = (x : Int)) : (worthRow E xs).getD x 0 = (rightsRow E xs).getD k 0 := by
  have e2 : x = 2 ^ k := by
    have e3 : ((2 ^ k : Nat) : Int) = 2 ^ k := by simp
    exact Int.ofNat_inj.1 (by rw [← hx, ← e3])
  rw [worthRow_yes h, e2, worthTo_getD E xs (pow_lt hk), worth_one hk]
theorem worthRow_bd (E : Int) (xs : List Int) (k : Nat) : 0 ≤ (worthRow E xs).getD k 0 ∧ (worthRow E xs).getD k 0 ≤ 48 := by
  by_cases hk : k < (worthRow E xs).length
  · have h := worthRow_ok (E := E) (xs := xs) (by omega)
    have e1 := (caseOk_iff E xs).1 h
    have e2 := out_nonneg (case_nonneg h) k xs.length
    have e3 := caseOk_bd h
    rw [worthRow_yes h, worthTo_length] at *
    rw [worthTo_getD E xs hk]
    unfold worth; omega
  · rw [getD_far _ (by omega)]; omega
theorem worthRow_both {E : Int} {xs : List Int} {s x : Nat} (h : caseOkB E xs = true) (hs : s < (worthRow E xs).length) (hx : ((worthRow E xs).length : Int) - 1 - (s : Int) = (x : Int)) : (worthRow E xs).getD s 0 + (worthRow E xs).getD x 0 ≤ E := by
  obtain rfl : x = (worthRow E xs).length - 1 - s := by omega
  clear hx
  rw [worthRow_yes h, worthTo_length] at *
  rw [worthTo_getD E xs hs, worthTo_getD E xs (by omega)]
  exact worth_both h hs
theorem worthRow_cut {E : Int} {xs : List Int} (h : caseOkB E xs = true) : worthRow E (cutRow E xs) = worthRow E xs := by
  rw [worthRow_yes h, worthRow_yes (cut_ok h), cutRow_length, worthTo_cut h]
theorem missRow_len (E : Int) (xs ys : List Int) : (missRow E xs ys).length ≤ 16 := by
  unfold missRow
  split
  · rename_i h
    have hA := (awardsB_iff E xs ys).1 h
    have e := (caseOk_bd hA.1).2.1
    have e2 : 2 ^ ys.length ≤ 2 ^ 4 := Nat.pow_le_pow_right (by omega) (by have := hA.2.1; omega)
    rw [missTo_length]; omega
  · simp

end Go.Proofs.Ytbegdcnljafloaa
