/-
  Sums in two halves: high and low halves of a number of 64 bits, kept so by a number more, and a number less. No condition but numbers far from the bounds.
-/
import Derived.Test.YtmkmipgboecdaaaGA
import Derived.IntWalk
namespace Go.Proofs.Ytmkmipgboecdaaa
open Go.RowKit

theorem and_low (a : Int) : bits .and .i64 a 4294967295 = a % 4294967296 := by
  have e1 : (BitVec.ofInt 64 a).toNat = (a % 18446744073709551616).toNat := by rw [BitVec.toNat_ofInt]; rfl
  have e2 : (BitVec.ofInt 64 4294967295).toNat = 2 ^ 32 - 1 := by decide
  have h : (BitVec.ofInt 64 a &&& BitVec.ofInt 64 4294967295).toNat = (a % 18446744073709551616).toNat % 2 ^ 32 := by rw [BitVec.toNat_and, e1, e2, Nat.and_two_pow_sub_one_eq_mod]
  show IntKind.i64.wrap (((BitVec.ofInt 64 a &&& BitVec.ofInt 64 4294967295).toNat : Nat) : Int) = _
  rw [h]
  have h3 : (((a % 18446744073709551616).toNat % 2 ^ 32 : Nat) : Int) = a % 4294967296 := by
    have := Int.emod_nonneg a (show (18446744073709551616 : Int) ≠ 0 by decide)
    rw [Int.natCast_emod, Int.toNat_of_nonneg this]
    have e : ((2 ^ 32 : Nat) : Int) = 4294967296 := by decide
    rw [e]
    omega
  rw [h3]
  exact IntWalk.i64_in _ (by omega)
/-- The two halves of a number. -/
def halves (V : Int) : Value := .agg #[.int .i64 (V / 4294967296), .int .i64 (V % 4294967296)]

set_option maxRecDepth 10000 in
set_option maxHeartbeats 400000 in
theorem wholeSum_any (h l : Int) (w : World) (h1 : -1000000000000 ≤ h ∧ h ≤ 1000000000000) (l1 : -1000000000000 ≤ l ∧ l ≤ 1000000000000) :
    Calls Try.prog 100 #[.int .i64 h, .int .i64 l] w fun e w' => e = .returned (.agg #[.int .i64 (h + l / 4294967296), .int .i64 (l % 4294967296)]) ∧ Below w.heap.size w w' := by
  have hand := and_low l
  go_enter Try.func100, Try.ntmps100
  go_wp2
  refine bodyPost_ret (v := .agg #[.int .i64 (h + l / 4294967296), .int .i64 (l % 4294967296)]) (by simp [results, Try.results100, go_sem]) rfl ?_
  exact ⟨rfl, (Below.refl _ _).alloc (Nat.le_refl _) _⟩

set_option maxRecDepth 10000 in
set_option maxHeartbeats 400000 in
theorem plus_any (V n : Int) (w : World) (h1 : -100000000000 ≤ V ∧ V ≤ 100000000000) (h2 : -100000000000 ≤ n ∧ n ≤ 100000000000) :
    Calls Try.prog 85 #[.agg #[.int .i64 (V / 4294967296), .int .i64 (V % 4294967296)], .int .i64 n] w fun e w' => e = .returned (.agg #[.int .i64 ((V + n) / 4294967296), .int .i64 ((V + n) % 4294967296)]) ∧ Below w.heap.size w w' := by
  obtain ⟨a0, r0, f0, B0, hz0⟩ := boxes2 w (.int .i64 (V / 4294967296)) (.int .i64 (V % 4294967296)) (.int .i64 0) (.int .i64 0) 74 74
  have hand := and_low n
  have e1 : V / 4294967296 + n / 4294967296 + (V % 4294967296 + n % 4294967296) / 4294967296 = (V + n) / 4294967296 := by omega
  have e2 : (V % 4294967296 + n % 4294967296) % 4294967296 = (V + n) % 4294967296 := by omega
  have HE := Lib.hid (And.intro e1 e2)
  have HZ := Lib.hid hz0
  clear e1 e2 hz0
  go_enter Try.func85, Try.ntmps85
  go_wp2_with fail
  refine (wholeSum_any (V / 4294967296 + n / 4294967296) (V % 4294967296 + n % 4294967296) _ (by omega) (by omega)).mono ?_
  rintro e w1 ⟨rfl, hb1⟩
  rw [HE.out.1, HE.out.2]
  rw [HZ.out] at hb1
  obtain ⟨r1, r1'⟩ := keep2 hb1 r0 (by omega)
  obtain ⟨f1, f1'⟩ := keep2f hb1 f0 (by omega)
  have B1 := B0.trans (hb1.mono (by omega))
  clear hb1 a0 r0 f0
  go_wp2
  refine bodyPost_ret (v := .agg #[.int .i64 ((V + n) / 4294967296), .int .i64 ((V + n) % 4294967296)]) (by simp [results, Try.results85, go_sem, r1, r1']) rfl ?_
  exact ⟨rfl, (B1.setCell (by simp) _).setCell (by simp) _⟩

set_option maxRecDepth 10000 in
set_option maxHeartbeats 400000 in
theorem minus_any (V n : Int) (w : World) (h1 : -100000000000 ≤ V ∧ V ≤ 100000000000) (h2 : -100000000000 ≤ n ∧ n ≤ 100000000000) :
    Calls Try.prog 86 #[.agg #[.int .i64 (V / 4294967296), .int .i64 (V % 4294967296)], .int .i64 n] w fun e w' => e = .returned (.agg #[.int .i64 ((V - n) / 4294967296), .int .i64 ((V - n) % 4294967296)]) ∧ Below w.heap.size w w' := by
  obtain ⟨a0, r0, f0, B0, hz0⟩ := boxes2 w (.int .i64 (V / 4294967296)) (.int .i64 (V % 4294967296)) (.int .i64 0) (.int .i64 0) 74 74
  have hand := and_low n
  have e1 : V / 4294967296 - n / 4294967296 + (V % 4294967296 - n % 4294967296) / 4294967296 = (V - n) / 4294967296 := by omega
  have e2 : (V % 4294967296 - n % 4294967296) % 4294967296 = (V - n) % 4294967296 := by omega
  have HE := Lib.hid (And.intro e1 e2)
  have HZ := Lib.hid hz0
  clear e1 e2 hz0
  go_enter Try.func86, Try.ntmps86
  go_wp2_with fail
  refine (wholeSum_any (V / 4294967296 - n / 4294967296) (V % 4294967296 - n % 4294967296) _ (by omega) (by omega)).mono ?_
  rintro e w1 ⟨rfl, hb1⟩
  rw [HE.out.1, HE.out.2]
  rw [HZ.out] at hb1
  obtain ⟨r1, r1'⟩ := keep2 hb1 r0 (by omega)
  obtain ⟨f1, f1'⟩ := keep2f hb1 f0 (by omega)
  have B1 := B0.trans (hb1.mono (by omega))
  clear hb1 a0 r0 f0
  go_wp2
  refine bodyPost_ret (v := .agg #[.int .i64 ((V - n) / 4294967296), .int .i64 ((V - n) % 4294967296)]) (by simp [results, Try.results86, go_sem, r1, r1']) rfl ?_
  exact ⟨rfl, (B1.setCell (by simp) _).setCell (by simp) _⟩

end Go.Proofs.Ytmkmipgboecdaaa
