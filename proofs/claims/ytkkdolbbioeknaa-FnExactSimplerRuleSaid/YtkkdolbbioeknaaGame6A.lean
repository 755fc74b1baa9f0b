/-
  The program's functions of chapter 6: what a set is worth, the core, misses, orders of rows. They make new memory only. No condition but lengths that fit.
-/
import Derived.Test.YtkkdolbbioeknaaGame
import Derived.Test.YtkkdolbbioeknaaSortIn
import Derived.BigQuiet
import Derived.Deep.Cut
namespace Go.Proofs.Ytkkdolbbioeknaa
open Go.RowKit

theorem and_one {x : Int} (h0 : 0 ≤ x) (h1 : x < 4294967296) : bits .and .i64 x 1 = x % 2 := by
  obtain ⟨n, rfl⟩ : ∃ n : Nat, x = (n : Int) := ⟨x.toNat, by omega⟩
  have e := and_i64 n 1 (by omega) (by omega)
  rw [show ((1 : Nat) : Int) = 1 from rfl] at e
  rw [e, Nat.and_one_is_mod]; omega
/-- How two numbers stand. -/
def cmpI (x y : Int) : Int := if x < y then -1 else if y < x then 1 else 0

set_option maxRecDepth 10000 in
set_option maxHeartbeats 400000 in
theorem isNaN_any (x : Int) (w : World) :
    Calls Try.prog 111 #[.int .i64 x] w fun e w' => e = .returned (.bool false) ∧ w = w' := by
  go_enter Try.func111, Try.ntmps111
  go_wp2
  go_ret
  exact ⟨by simp, rfl⟩

theorem pow_bd3 {n p : Nat} (h : 2 ^ n = p) (hn : n ≤ 4) : 1 ≤ p ∧ p ≤ 16 := by
  subst h
  rcases (show n = 0 ∨ n = 1 ∨ n = 2 ∨ n = 3 ∨ n = 4 from by omega) with rfl | rfl | rfl | rfl | rfl <;> simp

theorem worth_in {E : Int} {xs : List Int} {s : Int} (_h : caseOkB E xs = true) (h0 : 0 ≤ s) : worth E xs s = max 0 (E - (xs.sum - inSum xs s xs.length)) := by
  obtain ⟨n, rfl⟩ : ∃ n : Nat, s = (n : Int) := ⟨s.toNat, by omega⟩
  have e := in_out xs n xs.length
  rw [List.take_length] at e
  unfold worth; omega

end Go.Proofs.Ytkkdolbbioeknaa
