/-
  Chapter 7, the given package's functions BringsOf and GameShares. Premises: lengths that fit.
-/
import Derived.Test.YtbegdcnljafloaaSpec7B
import Derived.BigQuiet
import Derived.Deep.Cut
namespace Go.Proofs.Ytbegdcnljafloaa
open Go.RowKit


theorem fac_bd {n : Nat} (h : n ≤ 4) : 1 ≤ fac n ∧ fac n ≤ 24 := by
  rcases (show n = 0 ∨ n = 1 ∨ n = 2 ∨ n = 3 ∨ n = 4 from by omega) with rfl | rfl | rfl | rfl | rfl <;> decide
theorem fac_step (m : Nat) : fac (m + 1) * ((m : Int) + 2) = fac (m + 2) := by show _ = (((m + 1 : Nat) : Int) + 1) * fac (m + 1); rw [Int.mul_comm]; congr 1

/-- What BringsOf returns. -/
def bringsOf (E : Int) (xs : List Int) (p s : Int) : Int :=
  if caseOkB E xs = true ∧ (0 ≤ p ∧ p ≤ (xs.length : Int) - 1) ∧ (0 ≤ s ∧ s ≤ 2 ^ xs.length - 1) ∧ ¬ s / 2 ^ p.toNat % 2 = 1 then worth E xs (s.toNat ||| 2 ^ p.toNat : Nat) - worth E xs s else -1
theorem pow_in {k n : Nat} (hk : k < n) (hn : n ≤ 4) : 1 ≤ (2 : Int) ^ k ∧ (2 : Int) ^ k ≤ 8 ∧ (2 : Int) ^ k < 2 ^ n := by
  have e1 := pow_bd (n := k) (by omega)
  have e2 : (2 : Nat) ^ k < 2 ^ n := pow_lt hk
  have e3 : (2 : Nat) ^ k ≤ 2 ^ 3 := Nat.pow_le_pow_right (by omega) (by omega)
  refine ⟨e1.1, by exact_mod_cast e3, by exact_mod_cast e2⟩
theorem or_is {n m k : Nat} (hm : (m : Int) < 2 ^ n) (hk : k < n) (hn : n ≤ 4) : bits .or .i64 (m : Int) (2 ^ k) = ((m ||| 2 ^ k : Nat) : Int) := by
  have e := or_i64 m (2 ^ k) (by have e := (pow_bd hn).2; omega) (by have e := (pow_in hk hn).2.1; have e2 : (2 : Nat) ^ k ≤ 8 := by exact_mod_cast e
                                                                     omega)
  rw [← e, Int.natCast_pow]; rfl

theorem bringsOf_is {E : Int} {xs : List Int} {k m : Nat} (h : caseOkB E xs = true) (hk : k < xs.length) (hm : m < 2 ^ xs.length) (hb : m.testBit k = false) : bringsOf E xs (k : Int) (m : Int) = worth E xs (m ||| 2 ^ k : Nat) - worth E xs m := by
  have e : (m : Int) < 2 ^ xs.length := by exact_mod_cast hm
  rw [bringsOf, if_pos ⟨h, ⟨by omega, by omega⟩, ⟨by omega, by omega⟩, by rw [Int.toNat_natCast, bit_nat]; simp [hb]⟩, Int.toNat_natCast, Int.toNat_natCast]

theorem nat_lt_pow {m n : Nat} (h : (m : Int) < 2 ^ n) : m < 2 ^ n := by exact_mod_cast h
theorem fnRow_succ (n : Nat) (f : Nat → Int) : fnRow (n + 1) f = fnRow n f ++ [f n] := by simp [fnRow, List.range_succ]
theorem pop_step (m j : Nat) : ((pop m (j + 1) : Nat) : Int) = (pop m j : Int) + (m : Int) / 2 ^ j % 2 := by
  simp only [pop]
  cases h : m.testBit j with
  | true => rw [(bit_nat m j).2 h, if_pos rfl]; omega
  | false => rw [(bit_nat0 m j).2 h, if_neg (by simp)]; omega
theorem pop_le (m : Nat) : ∀ n, pop m n ≤ n
  | 0 => Nat.le_refl _
  | n + 1 => by have e := pop_le m n; simp only [pop]; split <;> omega
theorem pop_lt {m k : Nat} (h : m.testBit k = false) : ∀ n, k < n → pop m n + 1 ≤ n
  | 0, hk => absurd hk (by omega)
  | n + 1, hk => by
    simp only [pop]
    by_cases e : k = n
    · subst e; have e := pop_le m k; rw [if_neg (by simp [h])]; omega
    · have e2 := pop_lt h n (by omega); split <;> omega
theorem brings_in {E : Int} {xs : List Int} (h : caseOkB E xs = true) {k m : Nat} (hk : k < xs.length) (hb : m.testBit k = false) : 0 ≤ worth E xs (m ||| 2 ^ k : Nat) - worth E xs m ∧ worth E xs (m ||| 2 ^ k : Nat) - worth E xs m ≤ 48 := by
  have e := brings_rg (E := E) (case_nonneg h) hk hb
  have e2 := (case_rg h k).2
  omega
theorem mul_bd {a b A B b0 : Int} (ha : 0 ≤ a ∧ a ≤ A) (hb : b0 ≤ b ∧ b ≤ B) (_h0 : 0 ≤ b0 := by omega) : 0 ≤ a * b ∧ a * b ≤ A * B :=
  ⟨Int.mul_nonneg ha.1 (by omega), Int.mul_le_mul ha.2 hb.2 (by omega) (by omega)⟩
theorem gTerm_bd {E : Int} {xs : List Int} (h : caseOkB E xs = true) {k : Nat} (hk : k < xs.length) (s : Nat) : 0 ≤ gTerm E xs k s ∧ gTerm E xs k s ≤ 27648 := by
  have hb := caseOk_bd h
  cases hs : s.testBit k with
  | true => rw [gTerm_yes hs]; omega
  | false =>
    have e0 := brings_in (E := E) h hk hs
    have e1 := fac_bd (n := pop s xs.length) (by have e := pop_le s xs.length; omega)
    have e2 := fac_bd (n := xs.length - 1 - pop s xs.length) (by omega)
    unfold gTerm
    rw [if_neg (by simp [hs])]
    generalize worth E xs (s ||| 2 ^ k : Nat) - worth E xs s = a at *
    generalize fac (pop s xs.length) = b at *
    generalize fac (xs.length - 1 - pop s xs.length) = c at *
    have p1 := mul_bd e0 e1
    have p2 := mul_bd p1 e2
    omega
theorem gSum_bd {E : Int} {xs : List Int} (h : caseOkB E xs = true) {k : Nat} (hk : k < xs.length) : ∀ m, 0 ≤ gSum E xs k m ∧ gSum E xs k m ≤ 27648 * m
  | 0 => by simp [gSum]
  | m + 1 => by
    have e := gSum_bd h hk m
    have e2 := gTerm_bd h hk m
    rw [gSum_succ]
    omega

end Go.Proofs.Ytbegdcnljafloaa
