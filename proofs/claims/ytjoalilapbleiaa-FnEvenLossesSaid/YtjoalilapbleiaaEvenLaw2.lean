/-
  More of what the promise on cut claims uses. No condition but that it is a case.
-/
import Derived.Test.YtjoalilapbleiaaEvenLaw
namespace Go.Proofs.Ytjoalilapbleiaa
open Go.RowKit

theorem evenLo_at_bd {E : Int} {xs : List Int} (h : caseOkB E xs = true) (k : Nat) (hk : k < xs.length) : 0 ≤ (evenLo E xs)[k]'(by rw [evenLo_length]; exact hk) ∧ (evenLo E xs)[k]'(by rw [evenLo_length]; exact hk) ≤ 576 := by
  have h1 := ((caseOk_iff E xs).1 h).2.2.1 _ (List.getElem_mem hk)
  have h2 := evenLv_bd (other_ok h)
  rw [evenLo_at _ xs k hk]
  omega
theorem implEvenAwards_cut (E : Int) (A : Option Addr) (c : Nat) (xs : List Int) (w : World) (lo hi : Nat) (h : Ints w lo hi A (cutRow E xs)) (hh : hi ≤ w.heap.size) (hok : caseOkB E xs = true) :
    Calls Try.prog 15 #[.agg #[.int .i64 E, .slice A (cutRow E xs).length c]] w (RetInts w (evenAw E xs)) := by
  have e := implEvenAwards_yes E A c (cutRow E xs) w lo hi h hh (cut_ok hok)
  rw [evenAw_cut hok] at e
  exact e

end Go.Proofs.Ytjoalilapbleiaa
