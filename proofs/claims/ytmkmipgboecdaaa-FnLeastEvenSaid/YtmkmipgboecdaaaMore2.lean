/-
  A row that is as even as another one is told so; awards are small numbers. No condition.
-/
import Derived.Test.YtmkmipgboecdaaaMoreImpl
import Derived.Test.YtmkmipgboecdaaaGC
namespace Go.Proofs.Ytmkmipgboecdaaa
open Go.RowKit

theorem aw_small' {E : Int} {xs ys : List Int} (h : Aw E xs ys) : Small ys := aw_small h.1 h.2.1 h.2.2.1
theorem drawn_small {ys : List Int} (h5 : ys.length ≤ 5) (hb : ∀ y ∈ ys, -1 ≤ y ∧ y ≤ 1000) : Small ys := ⟨by omega, fun y hy => by have := hb y hy; omega⟩
theorem implMoreEven_yes (A : Option Addr) (c : Nat) (a : List Int) (D : Option Addr) (d : Nat) (b : List Int) (w : World) (lo hi : Nat) (h : Ints w lo hi A a) (hh : hi ≤ w.heap.size) (lo' hi' : Nat) (h' : Ints w lo' hi' D b) (hh' : hi' ≤ w.heap.size) (ha : Small a) (hb : Small b) (hm : More a b) :
    Calls Try.prog 45 #[.slice A a.length c, .slice D b.length d] w fun e w' => e = .returned (.bool true) ∧ Below w.heap.size w w' := by
  have e := implMoreEven_any A c a D d b w lo hi h hh lo' hi' h' hh' ha hb
  rwa [(moreB_iff a b).2 hm] at e

theorem implLosses_even (E : Int) (A : Option Addr) (c : Nat) (xs : List Int) (D : Option Addr) (d : Nat) (w : World) (lo hi : Nat) (h : Ints w lo hi A xs) (hh : hi ≤ w.heap.size) (hl : xs.length ≤ 1152921504606846976)
    (lo' hi' : Nat) (h' : Ints w lo' hi' D (evenLo E xs)) (hh' : hi' ≤ w.heap.size) (hok : caseOkB E xs = true) :
    Calls Try.prog 22 #[.agg #[.int .i64 E, .slice A xs.length c], .slice D (evenLo E xs).length d] w (RetInts w (evenAw (xs.sum - E) xs)) :=
  implLossesOf_back E A c xs D d (evenAw (xs.sum - E) xs) w lo hi h hh hl lo' hi' h' hh' (by show (evenLo E xs).length ≤ _; rw [evenLo_length]; exact hl) ((awardsB_iff _ _ _).2 (evenLo_aw hok)) (evenAw_length _ _)

end Go.Proofs.Ytmkmipgboecdaaa
