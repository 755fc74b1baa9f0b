/-
  The level up to which claims in parts are met, as the program finds it: whether they are claims in parts; a sorted copy; the level. No condition but that they are, and an estate that they cover.
-/
import Derived.Test.YtilhholjbjhaeaaInParts
import Derived.Test.YtilhholjbjhaeaaPart
import Derived.Test.YtilhholjbjhaeaaSort
import Derived.BigQuiet
namespace Go.Proofs.Ytilhholjbjhaeaa
open Go.RowKit

/-- What the loop of the level keeps: the rest in order, what is left, the level so far. -/
def LevAt (xs : List Int) (e : Int) (k : Nat) (L left : Int) : Prop := lev ((srt xs).drop k) left L = lev (srt xs) e 0 ∧ 0 ≤ left ∧ left ≤ 2304 ∧ 0 ≤ L ∧ (∀ x ∈ (srt xs).drop k, L ≤ x)
theorem levAt_0 {xs : List Int} {e : Int} (h : partB xs = true) (h0 : 0 ≤ e) (h1 : e ≤ xs.sum) : LevAt xs e 0 0 e := by
  have := part_sum h
  exact ⟨by simp, h0, by omega, by omega, fun x hx => (((partB_iff xs).1 h).2.2 x (mem_srt.1 (by simpa using hx))).1⟩
theorem lev_drop (S : List Int) (k : Nat) (h : k < S.length) (left L : Int) : lev (S.drop k) left L =
    if left < S[k] * ((S.length : Int) - (k : Int)) then (left / ((S.length : Int) - (k : Int)), left % ((S.length : Int) - (k : Int)) == 0) else lev (S.drop (k + 1)) (left - S[k]) S[k] := by
  rw [List.drop_eq_getElem_cons h]
  have e : ((S.drop (k + 1)).length : Int) + 1 = (S.length : Int) - (k : Int) := by rw [List.length_drop]; omega
  show (if left < S[k] * (((S.drop (k + 1)).length : Int) + 1) then _ else _) = _
  rw [e]
theorem srt_rg {xs : List Int} (h : partB xs = true) (k : Nat) (hk : k < (srt xs).length) : 0 ≤ (srt xs)[k] ∧ (srt xs)[k] ≤ 576 := ((partB_iff xs).1 h).2.2 _ (mem_srt.1 (List.getElem_mem hk))
theorem prod_bd (v : Int) (n k : Nat) (h0 : 0 ≤ v) (h1 : v ≤ 576) (hk : k < n) (hn : n ≤ 4) : v ≤ v * ((n : Int) - (k : Int)) ∧ 0 ≤ v * ((n : Int) - (k : Int)) ∧ v * ((n : Int) - (k : Int)) ≤ 2304 := by
  rcases (show (n : Int) - (k : Int) = 1 ∨ (n : Int) - (k : Int) = 2 ∨ (n : Int) - (k : Int) = 3 ∨ (n : Int) - (k : Int) = 4 from by omega) with e | e | e | e <;> rw [e] <;> omega
theorem levAt_next {xs : List Int} {e : Int} {k : Nat} {L left : Int} (h : LevAt xs e k L left) (hp : partB xs = true) (hk : k < (srt xs).length) (hg : ¬ left < (srt xs)[k] * (((srt xs).length : Int) - (k : Int))) :
    LevAt xs e (k + 1) (srt xs)[k] (left - (srt xs)[k]) := by
  obtain ⟨h1, h2, h3, h4, h5⟩ := h
  have hv := srt_rg hp k hk
  have hn : (srt xs).length ≤ 4 := by rw [srt_length]; exact ((partB_iff xs).1 hp).2.1
  have hb := prod_bd (srt xs)[k] (srt xs).length k hv.1 hv.2 hk hn
  refine ⟨?_, by omega, by omega, hv.1, fun x hx => (sorted_take_le (srt_sorted xs) k hk).2 x hx⟩
  rw [lev_drop _ k hk, if_neg hg] at h1
  exact h1
theorem levAt_end {xs : List Int} {e : Int} {k : Nat} {L left : Int} (h : LevAt xs e k L left) (hk : k < (srt xs).length) (hg : left < (srt xs)[k] * (((srt xs).length : Int) - (k : Int))) :
    evenLev xs e = left / (((srt xs).length : Int) - (k : Int)) ∧ evenOk xs e = (left % (((srt xs).length : Int) - (k : Int)) == 0) := by
  have h1 := h.1
  rw [lev_drop _ k hk, if_pos hg] at h1
  exact ⟨by rw [evenLev, ← h1], by rw [evenOk, ← h1]⟩
theorem levAt_all {xs : List Int} {e : Int} {L left : Int} (h : LevAt xs e (srt xs).length L left) : evenLev xs e = L ∧ evenOk xs e = true := by
  have h1 := h.1
  rw [List.drop_length] at h1
  exact ⟨by rw [evenLev, ← h1]; rfl, by rw [evenOk, ← h1]; rfl⟩
theorem ret_pair {a b : Int} {p q : Bool} (h1 : a = b) (h2 : p = q) : Ending.returned (.tuple #[.int .i64 a, .bool p]) = .returned (.tuple #[.int .i64 b, .bool q]) := by rw [h1, h2]

end Go.Proofs.Ytilhholjbjhaeaa
