/-
  What a promise on named cases uses: both functions NamedCase where it is a case and an order, and where not; each right of the named case is that of the person.
-/
import Derived.Test.YtpoafafoncgenaaNamedPure
import Derived.Test.YtpoafafoncgenaaOwedOf
import Derived.Test.YtpoafafoncgenaaLawLeaf
namespace Go.Proofs.Ytpoafafoncgenaa
open Go.RowKit

theorem namedB_parts {E : Int} {xs ys : List Int} (h : namedB E xs ys = true) : caseOkB E xs = true ∧ orderB xs.length ys = true := by simpa [namedB] using h
section
variable (E : Int) (A : Option Addr) (c : Nat) (xs : List Int) (D : Option Addr) (d : Nat) (ys : List Int) (w : World) (lo hi : Nat) (h : Ints w lo hi A xs) (hh : hi ≤ w.heap.size) (hl : xs.length ≤ 1152921504606846976)
    (lo' hi' : Nat) (h' : Ints w lo' hi' D ys) (hh' : hi' ≤ w.heap.size) (hl' : ys.length ≤ 1152921504606846976)
include h hh hl h' hh' hl'
theorem implNamed_y (hb : namedB E xs ys = true) : Calls Try.prog 16 #[.agg #[.int .i64 E, .slice A xs.length c], .slice D ys.length d] w (RetCaseB w E (placed xs ys xs.length xs.length) true) := by
  have e := implNamedCase_any E A c xs D d ys w lo hi h hh hl lo' hi' h' hh' hl'
  have hn : ys.length = xs.length := (order_iff (namedB_parts hb).2).1
  simpa [namedE, namedXs, hb, hn] using e
theorem implNamed_n (hb : namedB E xs ys = false) : Calls Try.prog 16 #[.agg #[.int .i64 E, .slice A xs.length c], .slice D ys.length d] w (RetCaseB w 0 [] false) := by
  have e := implNamedCase_any E A c xs D d ys w lo hi h hh hl lo' hi' h' hh' hl'
  simpa [namedE, namedXs, hb] using e
theorem specNamed_y (hb : namedB E xs ys = true) : Calls Try.prog 17 #[.agg #[.int .i64 E, .slice A xs.length c], .slice D ys.length d] w (RetCaseB w E (placed xs ys xs.length xs.length) true) := by
  have e := specNamedCase_any E A c xs D d ys w lo hi h hh hl lo' hi' h' hh' hl'
  have hn : ys.length = xs.length := (order_iff (namedB_parts hb).2).1
  simpa [namedE, namedXs, hb, hn] using e
theorem specNamed_n (hb : namedB E xs ys = false) : Calls Try.prog 17 #[.agg #[.int .i64 E, .slice A xs.length c], .slice D ys.length d] w (RetCaseB w 0 [] false) := by
  have e := specNamedCase_any E A c xs D d ys w lo hi h hh hl lo' hi' h' hh' hl'
  simpa [namedE, namedXs, hb] using e
end

/-- The place of person k, and what is there in a row that is named alike. -/
theorem named_row {E : Int} {xs ys R R' : List Int} (hb : namedB E xs ys = true) (hR : R.length = xs.length) (hR' : R'.length = xs.length)
    (ha : ∀ k, k < xs.length → R'.getD (ys.getD k 0).toNat 0 = R.getD k 0) (k : Nat) (hk : k < R.length) :
    ∃ y : Nat, ∃ hk' : k < ys.length, ys[k] = (y : Int) ∧ ∃ hy : y < R'.length, R'[y] = R[k] := by
  obtain ⟨hc, ho⟩ := namedB_parts hb
  obtain ⟨hl, hto⟩ := order_iff ho
  have hkx : k < xs.length := by omega
  obtain ⟨h0, h1, _⟩ := hto k (by omega)
  have hk' : k < ys.length := by omega
  have e1 : ys.getD k 0 = ys[k] := getD_at _ _ hk'
  rw [e1] at h0 h1
  have hy : ys[k].toNat < R'.length := by omega
  refine ⟨ys[k].toNat, hk', by omega, hy, ?_⟩
  have e2 := ha k hkx
  rw [e1, getD_at _ _ hy, getD_at _ _ hk] at e2
  exact e2
theorem named_rights' {E : Int} {xs ys : List Int} (hb : namedB E xs ys = true) : ∀ k, k < xs.length → (rightsRow E (placed xs ys xs.length xs.length)).getD (ys.getD k 0).toNat 0 = (rightsRow E xs).getD k 0 := fun k hk =>
  (named_rights (namedB_parts hb).1 (namedB_parts hb).2 k hk).2.2
theorem implOwed_sum (E S : Int) (A : Option Addr) (c : Nat) (xs : List Int) (w : World) (lo hi : Nat) (h : Ints w lo hi A xs) (hh : hi ≤ w.heap.size) (hl : xs.length ≤ 1152921504606846976) (hok : caseOkB E xs = true) (hS : xs.sum = S) :
    Calls Try.prog 22 #[.agg #[.int .i64 E, .slice A xs.length c]] w fun e w' => e = .returned (.int .i64 S) ∧ Below w.heap.size w w' := by
  have e := implOwedOf_any E A c xs w lo hi h hh hl
  simp only [owedOf, hok, if_true, hS] at e
  exact e

end Go.Proofs.Ytpoafafoncgenaa
