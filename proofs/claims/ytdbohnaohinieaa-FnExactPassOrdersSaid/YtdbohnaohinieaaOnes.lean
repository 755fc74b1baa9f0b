/-
  math/bits.OnesCount of a set of up to four. Premise: the set is one.
-/
import Derived.Test.YtdbohnaohinieaaPass
namespace Go.Proofs.Ytdbohnaohinieaa
open Go.RowKit

set_option maxRecDepth 10000 in
set_option maxHeartbeats 2000000 in
theorem onesCount64_is (v : Int) (w : World) (h0 : 0 ≤ v) (h1 : v < 16) :
    Calls Try.prog 49 #[.int .u64 v] w fun e w' => e = .returned (.int .i64 ((pop v.toNat 4 : Nat) : Int)) ∧ w = w' := by
  rcases (show v = 0 ∨ v = 1 ∨ v = 2 ∨ v = 3 ∨ v = 4 ∨ v = 5 ∨ v = 6 ∨ v = 7 ∨ v = 8 ∨ v = 9 ∨ v = 10 ∨ v = 11 ∨ v = 12 ∨ v = 13 ∨ v = 14 ∨ v = 15 from by omega) with rfl | rfl | rfl | rfl | rfl | rfl | rfl | rfl | rfl | rfl | rfl | rfl | rfl | rfl | rfl | rfl
  all_goals
    clear h0 h1
    go_enter Try.func49, Try.ntmps49
    go_wp2
    go_ret
    exact ⟨ret_int (by decide +kernel), rfl⟩
theorem onesCount_is (v : Int) (w : World) (h0 : 0 ≤ v) (h1 : v < 16) :
    Calls Try.prog 40 #[.int .u64 v] w fun e w' => e = .returned (.int .i64 ((pop v.toNat 4 : Nat) : Int)) ∧ w = w' := by
  go_enter Try.func40, Try.ntmps40
  go_wp2_with (go_at_call 49; refine (onesCount64_is v _ h0 h1).mono ?_; rintro e w' ⟨rfl, rfl⟩)
  go_ret
  exact ⟨rfl, rfl⟩
theorem ones_in : ∀ n : Fin 5, ∀ m : Fin 16, m.val < 2 ^ n.val → pop m.val 4 = pop m.val n.val := by decide +kernel
theorem ones_pop {n m : Nat} (hn : n ≤ 4) (hm : m < 2 ^ n) : pop m 4 = pop m n := ones_in ⟨n, by omega⟩ ⟨m, by have e := pow16 hn; omega⟩ hm

end Go.Proofs.Ytdbohnaohinieaa
