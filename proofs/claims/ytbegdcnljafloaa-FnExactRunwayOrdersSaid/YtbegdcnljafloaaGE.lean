/-
  A sorted copy of numbers is new memory, and is the numbers in order. No condition but that there are some, and a length that fits.
  The level up to which claims in parts are met, as the program finds it: whether they are claims in parts; a sorted copy; the level. No condition but that they are, and an estate that they cover.
  Even rows, as the program finds them: the row and true, or none and false. No condition but a length that fits.
  The greatest of some numbers, as the library returns it; of even awards it is the level. No condition but that there are some.
  EvenAwards, EvenLevel, EvenLosses and LossLevel of the program: what they return of each case, and of what is none; they make new memory only. No condition but a length that fits.
  The places of a row in ascending order of its numbers, in new memory. No condition but a row of at most a thousand numbers.
  Even awards of parts, as the given package finds them: the row, its level, and whether it is whole. No condition but claims in parts and an estate that they cover.
  EvenAwards, EvenLevel, EvenLosses and LossLevel of the given package: what they return of each case, and of what is none; they make new memory only. No condition but a length that fits.
-/
import Derived.Test.YtbegdcnljafloaaGB
import Derived.Test.YtbegdcnljafloaaShelf
import Derived.Test.YtbegdcnljafloaaGC
import Derived.Test.YtbegdcnljafloaaGA
import Derived.BigQuiet
import Derived.Deep.RegionHeld3
import Derived.Test.YtbegdcnljafloaaGD
import Derived.Deep.AppendLies
namespace Go.Proofs.Ytbegdcnljafloaa
open Go.RowKit Go.Sort

theorem holds_of_own {w : World} {lo hi b o : Nat} {xs : List Int} (h : Own w lo hi (some ⟨b, o, none⟩) xs) : Holds (Value.int .i64) w b o xs.toArray := fun j hj => by
  have hj' : j < xs.length := by simpa using hj
  obtain ⟨b', o', e, _, _, hc, hf⟩ := h (by omega)
  cases e
  refine ⟨?_, hf j hj'⟩
  rw [hc j hj', getElem!_pos _ j (by simpa using hj'), getD_of_lt xs j hj']
  simp
theorem own_of_holds {w : World} {lo hi b o : Nat} {xs : List Int} (h : Holds (Value.int .i64) w b o xs.toArray) (h1 : lo ≤ b) (h2 : b < hi) : Own w lo hi (some ⟨b, o, none⟩) xs := fun _ =>
  ⟨b, o, rfl, h1, h2, fun j hj => by
    have e := (h j (by simpa using hj)).1
    rw [e, getElem!_pos _ j (by simpa using hj), getD_of_lt xs j hj]
    simp, fun j hj => (h j (by simpa using hj)).2⟩

theorem grownBy_at {w : World} {g o n : Nat} {os : Array Obj} (d : Array Int) : w.grownBy (grow (putRow (Value.int .i64) (Sort.ahead w n) g o d) os) (some g) := by
  refine ⟨rfl, rfl, rfl, by simp, fun k hk hne => ?_⟩
  rw [heap_grow_old _ _ (by simpa using hk)]
  have : g ≠ k := fun e => hne (by rw [e])
  simp [putRow, mapBlock, Sort.ahead, Array.getElem?_modify, this]

set_option maxRecDepth 10000 in
set_option maxHeartbeats 400000 in
theorem ascending_any (A : Option Addr) (c : Nat) (xs : List Int) (w : World) (lo hi : Nat) (h : Ints w lo hi A xs) (hh : hi ≤ w.heap.size) (hn : 0 < xs.length) (hl : xs.length ≤ 1048576) :
    Calls Try.prog 56 #[.slice A xs.length c] w (RetInts w (srt xs)) := by
  go_enter Try.func56, Try.ntmps56
  go_wp2_with fail
  refine (clone_any A c xs w lo hi h hh hn hl).mono ?_
  rintro e w1 ⟨A1, c1, rfl, ho1, hb1⟩
  obtain ⟨b, o, rfl, h1, h2, _, _⟩ := id ho1 hn
  have hH := holds_of_own ho1
  have hB := Lib.hid hb1
  clear hb1 ho1 h
  go_wp2_with fail
  refine (Try.slices_Sort_int b o c1 xs w1 hH h2 (by omega)).mono ?_
  rintro e w2 ⟨rfl, nn, os, hw2⟩
  have hH2 : Holds (Value.int .i64) w2 b o (srt xs).toArray := by
    subst hw2
    exact holds_grow _ _ os b o _ (by simpa [putRow, mapBlock, Sort.ahead] using h2) (holds_putRow _ _ b o _ _ (holds_ahead _ w1 nn b o _ hH) (by simp))
  have hB2 : Below w.heap.size w w2 ∧ b < w2.heap.size := by
    subst hw2
    refine ⟨hB.out.grown (grownBy_at _) hB.out.size (fun j hj => by cases hj; exact h1), ?_⟩
    exact Nat.lt_of_lt_of_le h2 (by simp)
  have H := Lib.hid (And.intro hB2 (own_of_holds (lo := w.heap.size) (hi := w2.heap.size) hH2 h1 hB2.2))
  clear hw2 hH2 hB2 hH
  go_wp2
  go_ret
  exact ⟨some ⟨b, o, none⟩, c1, by rw [srt_length]; rfl, H.out.2, H.out.1.1⟩

end Go.Proofs.Ytbegdcnljafloaa
namespace Go.Proofs.Ytbegdcnljafloaa
open Go.RowKit

/-- What the loop of the level keeps: the rest in order, what is left, the level so far. -/
def LevAt (xs : List Int) (e : Int) (k : Nat) (L left : Int) : Prop := lev ((srt xs).drop k) left L = lev (srt xs) e 0 ∧ 0 ≤ left ∧ left ≤ 2304 ∧ 0 ≤ L ∧ (∀ x ∈ (srt xs).drop k, L ≤ x)
theorem levAt_0 {xs : List Int} {e : Int} (h : partB xs = true) (h0 : 0 ≤ e) (h1 : e ≤ xs.sum) : LevAt xs e 0 0 e := by
  have := part_sum h
  exact ⟨by simp, h0, by omega, by omega, fun x hx => (((partB_iff xs).1 h).2.2 x (mem_srt.1 (by simpa using hx))).1⟩
theorem lev_drop (S : List Int) (k : Nat) (h : k < S.length) (left L : Int) : lev (S.drop k) left L =
    if left < S[k] * ((S.length : Int) - (k : Int)) then (left / ((S.length : Int) - (k : Int)), left % ((S.length : Int) - (k : Int)) == 0) else lev (S.drop (k + 1)) (left - S[k]) S[k] := by
  rw [List.drop_eq_getElem_cons h]
  have e : ((S.drop (k + 1)).length : Int) + 1 = (S.length : Int) - (k : Int) := by rw [List.length_drop]; omega
  show (if left < S[k] * (((S.drop (k + 1)).length : Int) + 1) then _ else _) = _
  rw [e]
theorem srt_rg {xs : List Int} (h : partB xs = true) (k : Nat) (hk : k < (srt xs).length) : 0 ≤ (srt xs)[k] ∧ (srt xs)[k] ≤ 576 := ((partB_iff xs).1 h).2.2 _ (mem_srt.1 (List.getElem_mem hk))
theorem prod_bd (v : Int) (n k : Nat) (h0 : 0 ≤ v) (h1 : v ≤ 576) (hk : k < n) (hn : n ≤ 4) : v ≤ v * ((n : Int) - (k : Int)) ∧ 0 ≤ v * ((n : Int) - (k : Int)) ∧ v * ((n : Int) - (k : Int)) ≤ 2304 := by
  rcases (show (n : Int) - (k : Int) = 1 ∨ (n : Int) - (k : Int) = 2 ∨ (n : Int) - (k : Int) = 3 ∨ (n : Int) - (k : Int) = 4 from by omega) with e | e | e | e <;> rw [e] <;> omega
theorem levAt_next {xs : List Int} {e : Int} {k : Nat} {L left : Int} (h : LevAt xs e k L left) (hp : partB xs = true) (hk : k < (srt xs).length) (hg : ¬ left < (srt xs)[k] * (((srt xs).length : Int) - (k : Int))) :
    LevAt xs e (k + 1) (srt xs)[k] (left - (srt xs)[k]) := by
  obtain ⟨h1, h2, h3, h4, h5⟩ := h
  have hv := srt_rg hp k hk
  have hn : (srt xs).length ≤ 4 := by rw [srt_length]; exact ((partB_iff xs).1 hp).2.1
  have hb := prod_bd (srt xs)[k] (srt xs).length k hv.1 hv.2 hk hn
  refine ⟨?_, by omega, by omega, hv.1, fun x hx => (sorted_take_le (srt_sorted xs) k hk).2 x hx⟩
  rw [lev_drop _ k hk, if_neg hg] at h1
  exact h1
theorem levAt_end {xs : List Int} {e : Int} {k : Nat} {L left : Int} (h : LevAt xs e k L left) (hk : k < (srt xs).length) (hg : left < (srt xs)[k] * (((srt xs).length : Int) - (k : Int))) :
    evenLev xs e = left / (((srt xs).length : Int) - (k : Int)) ∧ evenOk xs e = (left % (((srt xs).length : Int) - (k : Int)) == 0) := by
  have h1 := h.1
  rw [lev_drop _ k hk, if_pos hg] at h1
  exact ⟨by rw [evenLev, ← h1], by rw [evenOk, ← h1]⟩
theorem levAt_all {xs : List Int} {e : Int} {L left : Int} (h : LevAt xs e (srt xs).length L left) : evenLev xs e = L ∧ evenOk xs e = true := by
  have h1 := h.1
  rw [List.drop_length] at h1
  exact ⟨by rw [evenLev, ← h1]; rfl, by rw [evenOk, ← h1]; rfl⟩
theorem ret_pair {a b : Int} {p q : Bool} (h1 : a = b) (h2 : p = q) : Ending.returned (.tuple #[.int .i64 a, .bool p]) = .returned (.tuple #[.int .i64 b, .bool q]) := by rw [h1, h2]

end Go.Proofs.Ytbegdcnljafloaa
namespace Go.Proofs.Ytbegdcnljafloaa
open Go.RowKit

/-- What a function that hands a new slice of numbers and a bool back leaves. -/
def RetIntsB (w : World) (xs : List Int) (b : Bool) (e : Ending) (w' : World) : Prop :=
  ∃ A c, e = .returned (.tuple #[.slice A xs.length c, .bool b]) ∧ Own w' w.heap.size w'.heap.size A xs ∧ Below w.heap.size w w'
noncomputable def evenB (xs : List Int) (e : Int) : Bool := partB xs && (decide (0 ≤ e ∧ e ≤ xs.sum) && evenOk xs e)
noncomputable def evenXs (xs : List Int) (e : Int) : List Int := if evenB xs e = true then evenOf xs e else []
theorem evenB_iff (xs : List Int) (e : Int) : evenB xs e = true ↔ partB xs = true ∧ (0 ≤ e ∧ e ≤ xs.sum) ∧ evenOk xs e = true := by simp [evenB]
theorem evenOf_min (xs : List Int) (e : Int) (k : Nat) (h : k < xs.length) : (evenOf xs e)[k]'(by rw [evenOf_length]; exact h) = min xs[k] (evenLev xs e) := by simp [evenOf]
end Go.Proofs.Ytbegdcnljafloaa
namespace Go.Proofs.Ytbegdcnljafloaa
open Go.RowKit

theorem maxOf_take (xs : List Int) : ∀ k, 0 < k → k ≤ xs.length → (∀ j, j < k → xs.getD j 0 ≤ Lib.maxOf (xs.take k)) ∧ ∃ j, j < k ∧ Lib.maxOf (xs.take k) = xs.getD j 0
  | 0, h, _ => absurd h (by omega)
  | 1, _, _ => by
    rw [Lib.maxOf_one]
    exact ⟨fun j hj => by obtain rfl : j = 0 := by omega
                          exact Int.le_refl _, 0, by omega, rfl⟩
  | k + 2, _, h => by
    obtain ⟨h1, j, hj, h2⟩ := maxOf_take xs (k + 1) (by omega) (by omega)
    rw [Lib.maxOf_step xs (k + 1) (by omega) (by omega)]
    refine ⟨fun i hi => ?_, ?_⟩
    · rcases Nat.lt_or_ge i (k + 1) with h3 | h3
      · have := h1 i h3; omega
      · obtain rfl : i = k + 1 := by omega
        omega
    · by_cases hm : xs.getD (k + 1) 0 ≤ Lib.maxOf (xs.take (k + 1))
      · exact ⟨j, by omega, by omega⟩
      · exact ⟨k + 1, by omega, by omega⟩
theorem maxOf_is {xs : List Int} {M : Int} (h1 : ∀ x ∈ xs, x ≤ M) (h2 : M ∈ xs) : Lib.maxOf xs = M := by
  have hn : 0 < xs.length := by
    cases xs with
    | nil => cases h2
    | cons x xs => simp
  obtain ⟨p, j, hj, q⟩ := maxOf_take xs xs.length hn (Nat.le_refl _)
  rw [List.take_length] at p q
  obtain ⟨i, hi, rfl⟩ := List.mem_iff_getElem.1 h2
  have e1 := p i hi
  rw [getD_of_lt xs i hi] at e1
  rw [getD_of_lt xs j hj] at q
  have e2 := h1 _ (List.getElem_mem hj)
  omega
theorem even_max {E : Int} {xs : List Int} (h : caseOkB E xs = true) : Lib.maxOf (evenAw E xs) = evenLv E xs :=
  maxOf_is (fun x hx => evenLev_ge x hx) (evenLev_in (by rw [inP_length]; exact ((caseOk_iff E xs).1 h).1))

end Go.Proofs.Ytbegdcnljafloaa
namespace Go.Proofs.Ytbegdcnljafloaa
open Go.RowKit

theorem even_part {E : Int} {xs : List Int} (h : caseOkB E xs = true) : partB (inP xs) = true := by
  have h1 := (caseOk_iff E xs).1 h
  exact (partB_iff _).2 ⟨by rw [inP_length]; exact h1.1, by rw [inP_length]; exact h1.2.1, inP_rg h⟩
theorem even_is {E : Int} {xs : List Int} (h : caseOkB E xs = true) : evenB (inP xs) (48 * E) = true := by
  have h1 := (caseOk_iff E xs).1 h
  exact (evenB_iff _ _).2 ⟨even_part h, ⟨by omega, by rw [inP_sum]; omega⟩, even_whole h⟩
def evenAws (E : Int) (xs : List Int) : List Int := if caseOkB E xs = true then evenAw E xs else []
def evenLvl (E : Int) (xs : List Int) : Int := if caseOkB E xs = true then evenLv E xs else -1
def evenLos (E : Int) (xs : List Int) : List Int := if caseOkB E xs = true then evenLo E xs else []
def lossLvl (E : Int) (xs : List Int) : Int := if caseOkB E xs = true then evenLv (xs.sum - E) xs else -1
theorem evenAws_len (E : Int) (xs : List Int) : (evenAws E xs).length ≤ xs.length := by unfold evenAws; split <;> simp [evenAw_length]
theorem evenLos_len (E : Int) (xs : List Int) : (evenLos E xs).length ≤ xs.length := by unfold evenLos; split <;> simp [evenLo_length]

end Go.Proofs.Ytbegdcnljafloaa
namespace Go.Proofs.Ytbegdcnljafloaa
open Go.RowKit

def ofN (ps : List Nat) : List Int := ps.map fun (p : Nat) => (p : Int)
theorem ofN_length (ps : List Nat) : (ofN ps).length = ps.length := by simp [ofN]
theorem ofN_getD (ps : List Nat) (j : Nat) (h : j < ps.length) : (ofN ps).getD j 0 = ((ps.getD j 0 : Nat) : Int) := by
  simp [ofN, List.getD, List.getElem?_eq_getElem h]
theorem ofN_cut (ps : List Nat) (a k : Nat) : ofN (ps.take a ++ [k] ++ ps.drop a) = (ofN ps).take a ++ [(k : Int)] ++ (ofN ps).drop a := by simp [ofN, List.map_take, List.map_drop]
/-- The numbers at places. -/
def valsAt (xs : List Int) (ps : List Nat) : List Int := ps.map fun p => xs.getD p 0
theorem valsAt_length (xs : List Int) (ps : List Nat) : (valsAt xs ps).length = ps.length := by simp [valsAt]
/-- The places 0 .. k - 1 in ascending order of the numbers there, equal ones by their places. -/
def SortTo (xs : List Int) (ps : List Nat) (k : Nat) : Prop := ps.Perm (List.range k) ∧ (valsAt xs ps).Pairwise (· ≤ ·) ∧ ps.Pairwise fun p q => xs.getD p 0 < xs.getD q 0 ∨ (xs.getD p 0 = xs.getD q 0 ∧ p < q)
theorem SortTo.len {xs : List Int} {ps : List Nat} {k : Nat} (h : SortTo xs ps k) : ps.length = k := by rw [h.1.length_eq, List.length_range]
theorem SortTo.lt {xs : List Int} {ps : List Nat} {k : Nat} (h : SortTo xs ps k) (j : Nat) (hj : j < k) : ps.getD j 0 < k := by
  have hj' : j < ps.length := by rw [h.len]; exact hj
  have e : ps.getD j 0 = ps[j] := by simp [List.getD, List.getElem?_eq_getElem hj']
  rw [e]
  exact List.mem_range.1 (h.1.mem_iff.1 (List.getElem_mem hj'))
theorem valsAt_getElem (xs : List Int) (ps : List Nat) (j : Nat) (h : j < ps.length) : (valsAt xs ps)[j]'(by rw [valsAt_length]; exact h) = xs.getD (ps.getD j 0) 0 := by
  simp [valsAt, List.getD, List.getElem?_eq_getElem h]
theorem SortTo.stable {xs : List Int} {ps : List Nat} {k a : Nat} (h : SortTo xs ps k) (ha : a ≤ k) (hgt : ∀ j, a ≤ j → j < k → xs.getD k 0 < xs.getD (ps.getD j 0) 0) (hle : 0 < a → xs.getD (ps.getD (a - 1) 0) 0 ≤ xs.getD k 0) :
    (ps.take a ++ k :: ps.drop a).Pairwise fun p q => xs.getD p 0 < xs.getD q 0 ∨ (xs.getD p 0 = xs.getD q 0 ∧ p < q) := by
  have hl := h.len
  have hs := h.2.2
  have hv := h.2.1
  have hm : ∀ x ∈ ps, x < k := fun x hx => List.mem_range.1 (h.1.mem_iff.1 hx)
  have ge : ∀ j (hj : j < ps.length), ps.getD j 0 = ps[j] := fun j hj => by simp [List.getD, List.getElem?_eq_getElem hj]
  have h1 : ∀ x ∈ ps.take a, xs.getD x 0 ≤ xs.getD k 0 ∧ x < k := fun x hx => by
    refine ⟨?_, hm x (List.mem_of_mem_take hx)⟩
    obtain ⟨j, hj, rfl⟩ := List.mem_iff_getElem.1 hx
    have hja : j < a := by rw [List.length_take] at hj; omega
    rw [List.getElem_take]
    have h2 := hle (by omega)
    rw [ge (a - 1) (by omega)] at h2
    rcases Nat.lt_or_ge j (a - 1) with h3 | h3
    · have h4 := (List.pairwise_iff_getElem.1 hs) j (a - 1) (by omega) (by omega) h3
      omega
    · obtain rfl : j = a - 1 := by omega
      exact h2
  have h2 : ∀ x ∈ ps.drop a, xs.getD k 0 < xs.getD x 0 := fun x hx => by
    obtain ⟨j, hj, rfl⟩ := List.mem_iff_getElem.1 hx
    rw [List.getElem_drop]
    rw [List.length_drop] at hj
    have h3 := hgt (a + j) (by omega) (by omega)
    rwa [ge (a + j) (by omega)] at h3
  rw [List.pairwise_append]
  refine ⟨hs.sublist (List.take_sublist _ _), List.pairwise_cons.2 ⟨fun x hx => .inl (h2 x hx), hs.sublist (List.drop_sublist _ _)⟩, fun x hx y hy => ?_⟩
  have hx1 := h1 x hx
  rcases List.mem_cons.1 hy with rfl | hy
  · rcases Int.lt_or_eq_of_le hx1.1 with h | h
    · exact .inl h
    · exact .inr ⟨h, hx1.2⟩
  · exact .inl (by have := h2 y hy; omega)
theorem SortTo.insert {xs : List Int} {ps : List Nat} {k a : Nat} (h : SortTo xs ps k) (ha : a ≤ k) (hgt : ∀ j, a ≤ j → j < k → xs.getD k 0 < xs.getD (ps.getD j 0) 0) (hle : 0 < a → xs.getD (ps.getD (a - 1) 0) 0 ≤ xs.getD k 0) :
    SortTo xs (ps.take a ++ [k] ++ ps.drop a) (k + 1) := by
  have hl := h.len
  constructor
  · have e : ps.take a ++ [k] ++ ps.drop a = ps.take a ++ k :: ps.drop a := by simp
    rw [e]
    refine List.perm_middle.trans ?_
    rw [List.take_append_drop, List.range_succ]
    exact (List.Perm.cons k h.1).trans (List.perm_append_singleton k _).symm
  refine ⟨?_, by simpa using h.stable ha hgt hle⟩
  · have hs := h.2.1
    have e : valsAt xs (ps.take a ++ [k] ++ ps.drop a) = (valsAt xs ps).take a ++ (xs.getD k 0 :: (valsAt xs ps).drop a) := by simp [valsAt, List.map_take, List.map_drop]
    rw [e, List.pairwise_append]
    have h1 : ∀ x ∈ (valsAt xs ps).take a, x ≤ xs.getD k 0 := fun x hx => by
      obtain ⟨j, hj, rfl⟩ := List.mem_iff_getElem.1 hx
      have hja : j < a := by rw [List.length_take] at hj; omega
      rw [List.getElem_take]
      have h2 := hle (by omega)
      have hv : a - 1 < (valsAt xs ps).length := by rw [valsAt_length]; omega
      rw [← valsAt_getElem xs ps (a - 1) (by omega)] at h2
      rcases Nat.lt_or_ge j (a - 1) with h3 | h3
      · have := (List.pairwise_iff_getElem.1 hs) j (a - 1) (by rw [valsAt_length]; omega) hv h3
        omega
      · obtain rfl : j = a - 1 := by omega
        exact h2
    have h2 : ∀ x ∈ (valsAt xs ps).drop a, xs.getD k 0 ≤ x := fun x hx => by
      obtain ⟨j, hj, rfl⟩ := List.mem_iff_getElem.1 hx
      rw [List.getElem_drop]
      have hj' : a + j < ps.length := by rw [List.length_drop, valsAt_length] at hj; omega
      rw [valsAt_getElem xs ps (a + j) hj']
      have := hgt (a + j) (by omega) (by omega)
      omega
    refine ⟨hs.sublist (List.take_sublist _ _), List.pairwise_cons.2 ⟨h2, hs.sublist (List.drop_sublist _ _)⟩, fun x hx y hy => ?_⟩
    rcases List.mem_cons.1 hy with hy | hy
    · subst hy; exact h1 x hx
    · have := h1 x hx; have := h2 y hy; omega
/-- What the sorting leaves. -/
def SortedTo (w : World) (xs : List Int) (e : Ending) (w' : World) : Prop :=
  ∃ A' c', ∃ ps : List Nat, e = .returned (.slice A' ps.length c') ∧ Own w' w.heap.size w'.heap.size A' (ofN ps) ∧ SortTo xs ps xs.length ∧ Below w.heap.size w w'
/-- What holds between the places that are put in order. -/
def SMid (w : World) (xs : List Int) (k : Nat) (v : Value) (wr : World) : Prop :=
  ∃ g cap, ∃ ps : List Nat, v = .slice (some ⟨g, 0, none⟩) k cap ∧ SortTo xs ps k ∧ k ≤ cap ∧ wr.ownsRow w.heap.size 3 1 (.slice (some ⟨g, 0, none⟩) k cap) k (ints (ofN ps)) ∧ Below w.heap.size w wr
theorem below_grow {w u u' : World} {gv n' c' : Nat} (h : Below w.heap.size w u) (hg : u.grownBy u' (Value.ownBlock (.slice (some ⟨gv, 0, none⟩) n' c'))) (hgv : w.heap.size ≤ gv) : Below w.heap.size w u' :=
  h.grown hg h.size (fun e he => by have e' : gv = e := Option.some.inj he; omega)
theorem append_keep' {w w' : World} {g k cap B : Nat} {os : List Int} {o : Obj} {n' c' gv : Nat} (own : w.ownsRow B 3 1 (.slice (some ⟨g, 0, none⟩) k cap) k (ints os))
    (hgr : (w.alloc o).grownBy w' (Value.ownBlock (.slice (some ⟨gv, 0, none⟩) n' c'))) (hne : g ≠ gv) :
    w'.ownsRow B 3 1 (.slice (some ⟨g, 0, none⟩) k cap) k (ints os) ∧ w.heap.size + 1 ≤ w'.heap.size := by
  have z := hgr.size
  rw [hsz] at z
  exact ⟨(own.alloc o).kept hgr (.inr (fun e => hne (Option.some.inj e))), z⟩
theorem sort_step {w w2 w3 w4 w5 : World} {k a n5 g1 g2 g3 cap3 n1 c1 n2 c2 : Nat} {xs : List Int} {ps : List Nat} {o o' : Obj} (hps : SortTo xs ps k) (hak : a ≤ k) (hgt : ∀ j, a ≤ j → j < k → xs.getD k 0 < xs.getD (ps.getD j 0) 0) (hle : 0 < a → xs.getD (ps.getD (a - 1) 0) 0 ≤ xs.getD k 0) (hn5 : n5 = k + 1)
    (hown5 : w5.ownsRow w2.heap.size 3 1 (.slice (some ⟨g3, 0, none⟩) n5 cap3) n5 (ints ((ofN ps).take a) ++ [.int .i64 (k : Int)] ++ ints ((ofN ps).drop a))) (hcp3 : n5 ≤ cap3) (hB : Below w.heap.size w w2)
    (hgrow3 : (w2.alloc o).grownBy w3 (Value.ownBlock (.slice (some ⟨w2.heap.size, 0, none⟩) 0 0))) (hgrow4 : (w3.alloc o').grownBy w4 (Value.ownBlock (.slice (some ⟨g1, 0, none⟩) n1 c1))) (hgrow5 : w4.grownBy w5 (Value.ownBlock (.slice (some ⟨g2, 0, none⟩) n2 c2))) (hg1 : w2.heap.size ≤ g1) (hg2 : w2.heap.size ≤ g2) :
    SMid w xs (k + 1) (.slice (some ⟨g3, 0, none⟩) n5 cap3) w5 := by
  subst hn5
  have z := hB.size
  refine ⟨g3, cap3, ps.take a ++ [k] ++ ps.drop a, rfl, hps.insert hak hgt hle, hcp3, ?_, ?_⟩
  · have e : ints (ofN (ps.take a ++ [k] ++ ps.drop a)) = ints ((ofN ps).take a) ++ [.int .i64 (k : Int)] ++ ints ((ofN ps).drop a) := by rw [ofN_cut]; simp [ints]
    rw [e]
    exact own_lower hown5 z
  · have b3 := below_grow (hB.alloc z o) hgrow3 z
    have b4 := below_grow (b3.alloc b3.size o') hgrow4 (by omega)
    exact below_grow b4 hgrow5 (by omega)

set_option maxRecDepth 10000 in
set_option maxHeartbeats 4000000 in
theorem l2Sorted_any (A : Option Addr) (c : Nat) (xs : List Int) (w : World) (lo hi : Nat) (h : Ints w lo hi A xs) (hh : hi ≤ w.heap.size) (hl : xs.length ≤ 1000) :
    Calls Try.prog 75 #[.slice A xs.length c] w (SortedTo w xs) := by
  obtain ⟨i0, hi0, hq0, hq1, hq2⟩ := info_parts info_int
  have mid0 : SMid w xs 0 (.slice (some ⟨w.heap.size, 0, none⟩) 0 0) (w.alloc (.cells #[] 3)) :=
    ⟨w.heap.size, 0, [], rfl, ⟨by simp, by simp [valsAt], by simp⟩, Nat.le_refl _, World.ownsRow_made w #[] 0 (Nat.le_refl _) (by unfold maxLen; omega) rfl, (Below.refl _ _).alloc (Nat.le_refl _) _⟩
  go_enter Try.func75, Try.ntmps75
  go_wp2
  go_loopw [3, 4] (fun v i wr => ∃ k : Nat, k ≤ xs.length ∧ i = .int .i64 k ∧ SMid w xs k v wr) (fun _ i _ => xs.length - (intOf i).toNat)
  case atStart => exact ⟨0, Nat.zero_le _, rfl, mid0⟩
  case round =>
    obtain ⟨k, hk, rfl, hmid⟩ := hrel
    clear mid0
    obtain ⟨g, cap, ps, rfl, hps, hkc, hown, hbel⟩ := hmid
    obtain ⟨wo, rfl⟩ : ∃ x, x = wr := ⟨_, rfl⟩
    have HOL := Lib.hid hps.len
    have HPS := Lib.hid hps
    have HB := Lib.hid hbel
    by_cases hlt : k < xs.length
    · obtain ⟨b, o, rfl, hb1, hb2, hc⟩ := (h.below hbel hh) (by omega)
      have hlto := Lib.hid (fun j (hj : j < k) => hps.lt j hj)
      have HC := Lib.hid hc
      clear hps hbel hc
      go_wp2_with fail
      go_loopw [5] (fun i wi => ∃ a : Nat, a ≤ k ∧ i = .int .i64 a ∧ (∀ j, a ≤ j → j < k → xs.getD k 0 < xs.getD (ps.getD j 0) 0) ∧ ∃ n, wi = wo.drewN n) (fun i _ => (intOf i).toNat)
      case atStart => exact ⟨k, Nat.le_refl _, rfl, fun j h1 h2 => absurd h2 (by omega), 0, rfl⟩
      case round =>
        obtain ⟨a, hak, rfl, hga, n, rfl⟩ := hrel
        have HGA := Lib.hid hga
        clear hga
        have hck : wo.cell? ⟨b, o + k, none⟩ = some (.int .i64 (xs.getD k 0)) := HC.out k hlt
        obtain ⟨vk, hvk⟩ : ∃ v, v = xs.getD k 0 := ⟨_, rfl⟩
        rw [← hvk] at hck
        have hkx : (k : Int) < (xs.length : Int) := by omega
        have hk0 : (0 : Int) ≤ (k : Int) := by omega
        by_cases h0 : 0 < a
        · have hd0 : decide ((0 : Int) < (a : Int)) = true := by simp only [decide_eq_true_eq]; omega
          have hd0n : decide (0 < a) = true := by simpa using h0
          have hwa : IntKind.i64.wrap ((a : Int) - 1) = (a : Int) - 1 := IntWalk.i64_in _ (by omega)
          have h1a : (1 : Int) ≤ (a : Int) := by omega
          have h1n : 1 ≤ a := h0
          have hka : (a : Int) ≤ (k : Int) := by omega
          have hi0' : (0 : Int) ≤ (a : Int) - 1 := by omega
          have hi1' : (a : Int) - 1 < (k : Int) := by omega
          have hp0 := hlto.out (a - 1) (by omega)
          have hcg : wo.cell? ⟨g, a - 1, none⟩ = some (.int .i64 ((ps.getD (a - 1) 0 : Nat) : Int)) := by
            rw [hown.cellAt (a - 1) (by omega), ints_at _ _ (by rw [ofN_length, HOL.out]; omega), ofN_getD _ _ (by rw [HOL.out]; omega)]
          have hcp : wo.cell? ⟨b, o + ps.getD (a - 1) 0, none⟩ = some (.int .i64 (xs.getD (ps.getD (a - 1) 0) 0)) := HC.out _ (by omega)
          obtain ⟨vp, hvp⟩ : ∃ v, v = xs.getD (ps.getD (a - 1) 0) 0 := ⟨_, rfl⟩
          rw [← hvp] at hcp
          have HVP : Hid (xs.getD (ps.getD (a - 1) 0) 0 = vp) := hvp.symm
          have HVK : Hid (xs.getD k 0 = vk) := hvk.symm
          clear hvp hvk
          generalize hpe : ps.getD (a - 1) 0 = p at hp0 hcg hcp
          have HPE := Lib.hid hpe
          clear hpe
          have hp1 : (p : Int) < (xs.length : Int) := by omega
          have hp2 : (0 : Int) ≤ (p : Int) := by omega
          by_cases hg : vk < vp
          · have hd1 : decide (vk < vp) = true := by simpa using hg
            have HGN : Hid (∀ j, a - 1 ≤ j → j < k → xs.getD k 0 < xs.getD (ps.getD j 0) 0) := fun j h1 h2 => by
              rcases Nat.lt_or_ge j a with h3 | h3
              · obtain rfl : j = a - 1 := by omega
                rw [HVP.out, HVK.out]; exact hg
              · exact HGA.out j h3 h2
            go_wp2
            go_quiet (fail)
            go_wp2
            go_roundw
            case rel => exact ⟨a - 1, by omega, congrArg (Value.int .i64) (by omega), HGN.out, by first | exact ⟨_, rfl⟩ | (rw [World.drewN_drewN]; exact ⟨_, rfl⟩)⟩
            case measure => simp [intOf]; omega
          · have hd1 : decide (vk < vp) = false := by simpa using hg
            have HLE : Hid (0 < a → xs.getD (ps.getD (a - 1) 0) 0 ≤ xs.getD k 0) := fun _ => by rw [HVP.out, HVK.out]; omega
            go_wp2_with fail
            go_quiet (fail)
            generalize hw2 : World.drewN _ _ = w2
            have own2 : w2.ownsRow w.heap.size 3 1 (.slice (some ⟨g, 0, none⟩) k cap) k (ints (ofN ps)) := by rw [← hw2]; exact hown
            have HB2 : Hid (Below w.heap.size w w2) := by show Below _ _ _; rw [← hw2]; first | exact below_drewN HB.out _ | exact below_drewN (below_drewN HB.out _) _
            have HGT : Hid (∀ j, a ≤ j → j < k → xs.getD k 0 < xs.getD (ps.getD j 0) 0) := HGA.out
            clear hw2 hown
            have z2 : w.heap.size ≤ w2.heap.size := HB2.out.size
            have hgw : g < w2.heap.size := (own2.lt g rfl).2
            have e1 : (w2.alloc (.cells #[] 3)).ownsRow w2.heap.size 3 1 (.slice (some ⟨w2.heap.size, 0, none⟩) 0 0) 0 [] := World.ownsRow_made w2 #[] 0 (Nat.le_refl _) (by unfold maxLen; omega) rfl
            have own2a := own2.alloc (.cells #[] 3)
            have ht1 : Hid (((ofN ps).take a).length = a) := by show _ = _; rw [List.length_take, ofN_length, HOL.out]; omega
            have hl1' : Hid ((ints ((ofN ps).take a)).length = a * 1) := by show _ = _; rw [ints_length, ht1.out, Nat.mul_one]
            have n1 := own_news own2a 0 ((ofN ps).take a) (fun j hj => by
              rw [ht1.out] at hj
              exact ⟨by omega, by simp [List.getD, hj]⟩)
            have o1 := ints_one ((ofN ps).take a)
            have s1 : w2.heap.size ≤ (w2.alloc (.cells #[] 3)).heap.size := by rw [hsz]; omega
            have cc1 : ¬ ((cap : Int) < (a : Int)) := by omega
            by_cases hca : cap = a
            · obtain rfl : k = cap := by omega
              obtain rfl : k = a := by omega
              clear hca
              have hkk : k - k = 0 := Nat.sub_self k
              go_wp2_with (first
                | (at_builtin; (
                   refine wpList_append_own _ rfl (.tmp 35) (.tmp 38) 29 rfl w2.heap.size 3 i0 (.int .i64 0) 1 8 Try.underlying29 hi0 hq0 hq1 hq2 rfl (by decide) _ _ _ rfl e1 ⟨g, 0, none⟩ k k (ints ((ofN ps).take k)) rfl hl1'.out n1 o1 (by unfold maxLen; omega) (by omega) s1 ?_
                   intro v1 w3 hown3 hgrow3 hnil3
                   simp only [Nat.zero_add, List.nil_append] at hown3
                   obtain ⟨g1, cap1, rfl, hg1, hg1', hcp1⟩ := own_some hown3 (fun e => by have := (hnil3.1 e).1; cases this)
                   obtain ⟨own3, z3⟩ := append_keep' own2 hgrow3 (by omega)
                   have e3 := hown3.alloc (.cells #[.int .i64 (k : Int)] 3)
                   have n3 := news_one w3 (k : Int) 3
                   have o3 := one_cell (k : Int)
                   have s3 : w2.heap.size ≤ (w3.alloc (.cells #[.int .i64 (k : Int)] 3)).heap.size := by rw [hsz]; omega))
                | (at_builtin; (
                   refine wpList_append_own _ rfl (.tmp 40) (.tmp 42) 29 rfl w2.heap.size 3 i0 (.int .i64 0) 1 8 Try.underlying29 hi0 hq0 hq1 hq2 rfl (by decide) _ _ _ rfl e3 ⟨w3.heap.size, 0, none⟩ 1 1 [.int .i64 (k : Int)] rfl rfl n3 o3 (by unfold maxLen; omega) (by omega) s3 ?_
                   intro v2 w4 hown4 hgrow4 hnil4
                   obtain ⟨g2, cap2, rfl, hg2, hg2', hcp2⟩ := own_some hown4 (fun e => by have := (hnil4.1 e).2; cases this)
                   obtain ⟨own4, z4⟩ := append_keep' own3 hgrow4 (by omega)
                   have n4 := own_news own4 0 ((ofN ps).drop k) (fun j hj => by
       rw [List.length_drop, ofN_length, HOL.out] at hj
       exact ⟨by omega, by omega⟩)
                   have o4 := ints_one ((ofN ps).drop k)
                   have hl4 : Hid ((ints ((ofN ps).drop k)).length = 0 * 1) := by show _ = _; rw [ints_length, List.length_drop, ofN_length, HOL.out, hkk]
                   have s4 : w2.heap.size ≤ w4.heap.size := by omega))
                | (at_builtin; (refine wpList_append_own _ rfl (.tmp 44) (.tmp 47) 29 rfl w2.heap.size 3 i0 (.int .i64 0) 1 8 Try.underlying29 hi0 hq0 hq1 hq2 rfl (by decide) _ _ _ rfl hown4 ⟨g, 0, none⟩ 0 0 (ints ((ofN ps).drop k)) rfl hl4.out n4 o4 (by unfold maxLen; omega) (by omega) s4 ?_; intro v3 w5 hown5 hgrow5 hnil5)))
              obtain ⟨g3, cap3, rfl, hg3, hg3', hcp3⟩ := own_some hown5 (fun e => by have := (hnil5.1 e).1; cases this)
              have hl5 : Hid (k + 1 + 0 = k + 1) := by show _ = _; omega
              have HM := Lib.hid (sort_step HPS.out (Nat.le_refl _) HGT.out HLE.out hl5.out hown5 hcp3 HB2.out hgrow3 hgrow4 hgrow5 hg1 hg2)
              clear own2 own2a own3 own4 hown3 hown4 hown5 hgrow3 hgrow4 hgrow5 e1 e3
              refine ⟨⟨k + 1, by omega, by rw [Int.natCast_add]; rfl, ?_⟩, by simp [intOf]; omega⟩
              exact HM.out
            · have hcb : (cap = a) = False := by simp [hca]
              go_wp2_with (first
                | (at_builtin; (
                   refine wpList_append_own _ rfl (.tmp 35) (.tmp 38) 29 rfl w2.heap.size 3 i0 (.int .i64 0) 1 8 Try.underlying29 hi0 hq0 hq1 hq2 rfl (by decide) _ _ _ rfl e1 ⟨g, 0, none⟩ a cap (ints ((ofN ps).take a)) rfl hl1'.out n1 o1 (by unfold maxLen; omega) (by omega) s1 ?_
                   intro v1 w3 hown3 hgrow3 hnil3
                   simp only [Nat.zero_add, List.nil_append] at hown3
                   obtain ⟨g1, cap1, rfl, hg1, hg1', hcp1⟩ := own_some hown3 (fun e => by have := (hnil3.1 e).1; cases this)
                   obtain ⟨own3, z3⟩ := append_keep' own2 hgrow3 (by omega)
                   have e3 := hown3.alloc (.cells #[.int .i64 (k : Int)] 3)
                   have n3 := news_one w3 (k : Int) 3
                   have o3 := one_cell (k : Int)
                   have s3 : w2.heap.size ≤ (w3.alloc (.cells #[.int .i64 (k : Int)] 3)).heap.size := by rw [hsz]; omega))
                | (at_builtin; (
                   refine wpList_append_own _ rfl (.tmp 40) (.tmp 42) 29 rfl w2.heap.size 3 i0 (.int .i64 0) 1 8 Try.underlying29 hi0 hq0 hq1 hq2 rfl (by decide) _ _ _ rfl e3 ⟨w3.heap.size, 0, none⟩ 1 1 [.int .i64 (k : Int)] rfl rfl n3 o3 (by unfold maxLen; omega) (by omega) s3 ?_
                   intro v2 w4 hown4 hgrow4 hnil4
                   obtain ⟨g2, cap2, rfl, hg2, hg2', hcp2⟩ := own_some hown4 (fun e => by have := (hnil4.1 e).2; cases this)
                   obtain ⟨own4, z4⟩ := append_keep' own3 hgrow4 (by omega)
                   have n4 := own_news own4 a ((ofN ps).drop a) (fun j hj => by
       rw [List.length_drop, ofN_length, HOL.out] at hj
       exact ⟨by omega, by simp [List.getD, List.getElem?_drop]⟩)
                   have o4 := ints_one ((ofN ps).drop a)
                   have hl4 : Hid ((ints ((ofN ps).drop a)).length = (k - a) * 1) := by show _ = _; rw [ints_length, List.length_drop, ofN_length, HOL.out, Nat.mul_one]
                   have s4 : w2.heap.size ≤ w4.heap.size := by omega))
                | (at_builtin; (refine wpList_append_own _ rfl (.tmp 44) (.tmp 47) 29 rfl w2.heap.size 3 i0 (.int .i64 0) 1 8 Try.underlying29 hi0 hq0 hq1 hq2 rfl (by decide) _ _ _ rfl hown4 ⟨g, a, none⟩ (k - a) (cap - a) (ints ((ofN ps).drop a)) rfl hl4.out n4 o4 (by unfold maxLen; omega) (by omega) s4 ?_; intro v3 w5 hown5 hgrow5 hnil5)))
              obtain ⟨g3, cap3, rfl, hg3, hg3', hcp3⟩ := own_some hown5 (fun e => by have := (hnil5.1 e).1; cases this)
              have hl5 : Hid (a + 1 + (k - a) = k + 1) := by show _ = _; omega
              have HM := Lib.hid (sort_step HPS.out hak HGT.out HLE.out hl5.out hown5 hcp3 HB2.out hgrow3 hgrow4 hgrow5 hg1 hg2)
              clear own2 own2a own3 own4 hown3 hown4 hown5 hgrow3 hgrow4 hgrow5 e1 e3
              refine ⟨⟨k + 1, by omega, by rw [Int.natCast_add]; rfl, ?_⟩, by simp [intOf]; omega⟩
              exact HM.out
        · have hd0 : decide ((0 : Int) < (a : Int)) = false := by simp; omega
          have hd0n : decide (0 < a) = false := by simpa using h0
          have HLE : Hid (0 < a → xs.getD (ps.getD (a - 1) 0) 0 ≤ xs.getD k 0) := fun h1 => absurd h1 h0
          clear hvk
          go_wp2_with fail
          go_quiet (fail)
          generalize hw2 : World.drewN _ _ = w2
          have own2 : w2.ownsRow w.heap.size 3 1 (.slice (some ⟨g, 0, none⟩) k cap) k (ints (ofN ps)) := by rw [← hw2]; exact hown
          have HB2 : Hid (Below w.heap.size w w2) := by show Below _ _ _; rw [← hw2]; first | exact below_drewN HB.out _ | exact below_drewN (below_drewN HB.out _) _
          have HGT : Hid (∀ j, a ≤ j → j < k → xs.getD k 0 < xs.getD (ps.getD j 0) 0) := HGA.out
          clear hw2 hown
          have z2 : w.heap.size ≤ w2.heap.size := HB2.out.size
          have hgw : g < w2.heap.size := (own2.lt g rfl).2
          have e1 : (w2.alloc (.cells #[] 3)).ownsRow w2.heap.size 3 1 (.slice (some ⟨w2.heap.size, 0, none⟩) 0 0) 0 [] := World.ownsRow_made w2 #[] 0 (Nat.le_refl _) (by unfold maxLen; omega) rfl
          have own2a := own2.alloc (.cells #[] 3)
          have ht1 : Hid (((ofN ps).take a).length = a) := by show _ = _; rw [List.length_take, ofN_length, HOL.out]; omega
          have hl1' : Hid ((ints ((ofN ps).take a)).length = a * 1) := by show _ = _; rw [ints_length, ht1.out, Nat.mul_one]
          have n1 := own_news own2a 0 ((ofN ps).take a) (fun j hj => by
            rw [ht1.out] at hj
            exact ⟨by omega, by simp [List.getD, hj]⟩)
          have o1 := ints_one ((ofN ps).take a)
          have s1 : w2.heap.size ≤ (w2.alloc (.cells #[] 3)).heap.size := by rw [hsz]; omega
          have cc1 : ¬ ((cap : Int) < (a : Int)) := by omega
          by_cases hca : cap = a
          · obtain rfl : k = cap := by omega
            obtain rfl : k = a := by omega
            clear hca
            have hkk : k - k = 0 := Nat.sub_self k
            go_wp2_with (first
              | (at_builtin; (
                 refine wpList_append_own _ rfl (.tmp 35) (.tmp 38) 29 rfl w2.heap.size 3 i0 (.int .i64 0) 1 8 Try.underlying29 hi0 hq0 hq1 hq2 rfl (by decide) _ _ _ rfl e1 ⟨g, 0, none⟩ k k (ints ((ofN ps).take k)) rfl hl1'.out n1 o1 (by unfold maxLen; omega) (by omega) s1 ?_
                 intro v1 w3 hown3 hgrow3 hnil3
                 simp only [Nat.zero_add, List.nil_append] at hown3
                 obtain ⟨g1, cap1, rfl, hg1, hg1', hcp1⟩ := own_some hown3 (fun e => by have := (hnil3.1 e).1; cases this)
                 obtain ⟨own3, z3⟩ := append_keep' own2 hgrow3 (by omega)
                 have e3 := hown3.alloc (.cells #[.int .i64 (k : Int)] 3)
                 have n3 := news_one w3 (k : Int) 3
                 have o3 := one_cell (k : Int)
                 have s3 : w2.heap.size ≤ (w3.alloc (.cells #[.int .i64 (k : Int)] 3)).heap.size := by rw [hsz]; omega))
              | (at_builtin; (
                 refine wpList_append_own _ rfl (.tmp 40) (.tmp 42) 29 rfl w2.heap.size 3 i0 (.int .i64 0) 1 8 Try.underlying29 hi0 hq0 hq1 hq2 rfl (by decide) _ _ _ rfl e3 ⟨w3.heap.size, 0, none⟩ 1 1 [.int .i64 (k : Int)] rfl rfl n3 o3 (by unfold maxLen; omega) (by omega) s3 ?_
                 intro v2 w4 hown4 hgrow4 hnil4
                 obtain ⟨g2, cap2, rfl, hg2, hg2', hcp2⟩ := own_some hown4 (fun e => by have := (hnil4.1 e).2; cases this)
                 obtain ⟨own4, z4⟩ := append_keep' own3 hgrow4 (by omega)
                 have n4 := own_news own4 0 ((ofN ps).drop k) (fun j hj => by
       rw [List.length_drop, ofN_length, HOL.out] at hj
       exact ⟨by omega, by omega⟩)
                 have o4 := ints_one ((ofN ps).drop k)
                 have hl4 : Hid ((ints ((ofN ps).drop k)).length = 0 * 1) := by show _ = _; rw [ints_length, List.length_drop, ofN_length, HOL.out, hkk]
                 have s4 : w2.heap.size ≤ w4.heap.size := by omega))
              | (at_builtin; (refine wpList_append_own _ rfl (.tmp 44) (.tmp 47) 29 rfl w2.heap.size 3 i0 (.int .i64 0) 1 8 Try.underlying29 hi0 hq0 hq1 hq2 rfl (by decide) _ _ _ rfl hown4 ⟨g, 0, none⟩ 0 0 (ints ((ofN ps).drop k)) rfl hl4.out n4 o4 (by unfold maxLen; omega) (by omega) s4 ?_; intro v3 w5 hown5 hgrow5 hnil5)))
            obtain ⟨g3, cap3, rfl, hg3, hg3', hcp3⟩ := own_some hown5 (fun e => by have := (hnil5.1 e).1; cases this)
            have hl5 : Hid (k + 1 + 0 = k + 1) := by show _ = _; omega
            have HM := Lib.hid (sort_step HPS.out (Nat.le_refl _) HGT.out HLE.out hl5.out hown5 hcp3 HB2.out hgrow3 hgrow4 hgrow5 hg1 hg2)
            clear own2 own2a own3 own4 hown3 hown4 hown5 hgrow3 hgrow4 hgrow5 e1 e3
            refine ⟨⟨k + 1, by omega, by rw [Int.natCast_add]; rfl, ?_⟩, by simp [intOf]; omega⟩
            exact HM.out
          · have hcb : (cap = a) = False := by simp [hca]
            go_wp2_with (first
              | (at_builtin; (
                 refine wpList_append_own _ rfl (.tmp 35) (.tmp 38) 29 rfl w2.heap.size 3 i0 (.int .i64 0) 1 8 Try.underlying29 hi0 hq0 hq1 hq2 rfl (by decide) _ _ _ rfl e1 ⟨g, 0, none⟩ a cap (ints ((ofN ps).take a)) rfl hl1'.out n1 o1 (by unfold maxLen; omega) (by omega) s1 ?_
                 intro v1 w3 hown3 hgrow3 hnil3
                 simp only [Nat.zero_add, List.nil_append] at hown3
                 obtain ⟨g1, cap1, rfl, hg1, hg1', hcp1⟩ := own_some hown3 (fun e => by have := (hnil3.1 e).1; cases this)
                 obtain ⟨own3, z3⟩ := append_keep' own2 hgrow3 (by omega)
                 have e3 := hown3.alloc (.cells #[.int .i64 (k : Int)] 3)
                 have n3 := news_one w3 (k : Int) 3
                 have o3 := one_cell (k : Int)
                 have s3 : w2.heap.size ≤ (w3.alloc (.cells #[.int .i64 (k : Int)] 3)).heap.size := by rw [hsz]; omega))
              | (at_builtin; (
                 refine wpList_append_own _ rfl (.tmp 40) (.tmp 42) 29 rfl w2.heap.size 3 i0 (.int .i64 0) 1 8 Try.underlying29 hi0 hq0 hq1 hq2 rfl (by decide) _ _ _ rfl e3 ⟨w3.heap.size, 0, none⟩ 1 1 [.int .i64 (k : Int)] rfl rfl n3 o3 (by unfold maxLen; omega) (by omega) s3 ?_
                 intro v2 w4 hown4 hgrow4 hnil4
                 obtain ⟨g2, cap2, rfl, hg2, hg2', hcp2⟩ := own_some hown4 (fun e => by have := (hnil4.1 e).2; cases this)
                 obtain ⟨own4, z4⟩ := append_keep' own3 hgrow4 (by omega)
                 have n4 := own_news own4 a ((ofN ps).drop a) (fun j hj => by
       rw [List.length_drop, ofN_length, HOL.out] at hj
       exact ⟨by omega, by simp [List.getD, List.getElem?_drop]⟩)
                 have o4 := ints_one ((ofN ps).drop a)
                 have hl4 : Hid ((ints ((ofN ps).drop a)).length = (k - a) * 1) := by show _ = _; rw [ints_length, List.length_drop, ofN_length, HOL.out, Nat.mul_one]
                 have s4 : w2.heap.size ≤ w4.heap.size := by omega))
              | (at_builtin; (refine wpList_append_own _ rfl (.tmp 44) (.tmp 47) 29 rfl w2.heap.size 3 i0 (.int .i64 0) 1 8 Try.underlying29 hi0 hq0 hq1 hq2 rfl (by decide) _ _ _ rfl hown4 ⟨g, a, none⟩ (k - a) (cap - a) (ints ((ofN ps).drop a)) rfl hl4.out n4 o4 (by unfold maxLen; omega) (by omega) s4 ?_; intro v3 w5 hown5 hgrow5 hnil5)))
            obtain ⟨g3, cap3, rfl, hg3, hg3', hcp3⟩ := own_some hown5 (fun e => by have := (hnil5.1 e).1; cases this)
            have hl5 : Hid (a + 1 + (k - a) = k + 1) := by show _ = _; omega
            have HM := Lib.hid (sort_step HPS.out hak HGT.out HLE.out hl5.out hown5 hcp3 HB2.out hgrow3 hgrow4 hgrow5 hg1 hg2)
            clear own2 own2a own3 own4 hown3 hown4 hown5 hgrow3 hgrow4 hgrow5 e1 e3
            refine ⟨⟨k + 1, by omega, by rw [Int.natCast_add]; rfl, ?_⟩, by simp [intOf]; omega⟩
            exact HM.out
    · obtain rfl : k = xs.length := by omega
      have H : Hid (SortedTo w xs (.returned (.slice (some ⟨g, 0, none⟩) xs.length cap)) wo) := by
        have e := hps.len
        have hown' : wo.ownsRow w.heap.size 3 1 (.slice (some ⟨g, 0, none⟩) (ofN ps).length cap) (ofN ps).length (ints (ofN ps)) := by rw [ofN_length, e]; exact hown
        obtain ⟨A', c', e1, _, ho⟩ := own_of_row hown'
        injection e1 with e1 e2 e3
        exact ⟨some ⟨g, 0, none⟩, cap, ps, by rw [e], e1 ▸ ho, hps, hbel⟩
      clear hown hps hbel
      go_wp2
      go_ret
      exact H.out

end Go.Proofs.Ytbegdcnljafloaa
namespace Go.Proofs.Ytbegdcnljafloaa
open Go.RowKit

theorem l2Sorted_is (A : Option Addr) (c : Nat) (xs : List Int) (w : World) (lo hi : Nat) (h : Ints w lo hi A xs) (hh : hi ≤ w.heap.size) (hl : xs.length ≤ 1000) :
    Calls Try.prog 75 #[.slice A xs.length c] w fun e w' => ∃ A' c', ∃ ps : List Nat, e = .returned (.slice A' xs.length c') ∧ Own w' w.heap.size w'.heap.size A' (ofN ps) ∧ SortTo xs ps xs.length ∧ Below w.heap.size w w' :=
  (l2Sorted_any A c xs w lo hi h hh hl).mono fun _ _ ⟨A', c', ps, h1, h2, h3, h4⟩ => ⟨A', c', ps, by rw [h1, h3.len], h2, h3, h4⟩
theorem vals_perm {xs : List Int} {ps : List Nat} (h : SortTo xs ps xs.length) : (valsAt xs ps).Perm xs := by
  have e : valsAt xs (List.range xs.length) = xs := by
    apply List.ext_getElem (by simp [valsAt])
    intro j hj hj'
    simp [valsAt, List.getD, List.getElem?_eq_getElem hj']
  have p : (valsAt xs ps).Perm (valsAt xs (List.range xs.length)) := h.1.map _
  rw [e] at p
  exact p
theorem vals_srt {xs : List Int} {ps : List Nat} (h : SortTo xs ps xs.length) : srt xs = valsAt xs ps := srt_of (vals_perm h) h.2.1
theorem srt_at {xs : List Int} {ps : List Nat} (h : SortTo xs ps xs.length) (k : Nat) (hk : k < (srt xs).length) : (srt xs)[k] = xs.getD (ps.getD k 0) 0 := by
  have hk' : k < ps.length := by rw [h.len, ← srt_length xs]; exact hk
  have e := vals_srt h
  have e2 := congrArg (fun l : List Int => l[k]?) e
  rw [List.getElem?_eq_getElem hk, List.getElem?_eq_getElem (by rw [valsAt_length]; exact hk')] at e2
  injection e2 with e2
  rw [e2, valsAt_getElem xs ps k hk']
theorem own_below {w w' : World} {B : Nat} {e : TypeId} {v : Value} {n : Nat} {xs : List Value} (h : w.ownsRow B e 1 v n xs) (hb : Below w.heap.size w w') : w'.ownsRow B e 1 v n xs :=
  h.kept (row := none) ⟨hb.os, hb.tape, hb.output, hb.size, fun i hi _ => hb.block i hi⟩ (by cases hv : v.ownBlock <;> simp)
/-- Places that are each once: a row that is filled there. -/
theorem put_at (T : List Int) (ps : List Nat) (n : Nat) (hn : ps.Nodup) : ∀ k, k ≤ ps.length → (∀ j, j < k → ps.getD j 0 < n) → ∀ j, j < k → (placed T (ofN ps) n k).getD (ps.getD j 0) 0 = T.getD j 0
  | k + 1, hk, hlt, j, hj => by
    have e : ((ofN ps).getD k 0).toNat = ps.getD k 0 := by rw [ofN_getD ps k (by omega), Int.toNat_natCast]
    rw [placed, e]
    by_cases ejk : j = k
    · subst ejk
      rw [getD_set_same _ _ _ _ (by rw [placed_length]; exact hlt j (by omega))]
    · have hne : ps.getD k 0 ≠ ps.getD j 0 := by
        intro e2
        have h1 : ps.getD k 0 = ps[k] := by simp [List.getD, List.getElem?_eq_getElem (show k < ps.length by omega)]
        have h2 : ps.getD j 0 = ps[j] := by simp [List.getD, List.getElem?_eq_getElem (show j < ps.length by omega)]
        rw [h1, h2] at e2
        exact ejk ((List.getElem_inj hn).1 e2).symm
      rw [getD_set_other _ _ _ _ _ hne]
      exact put_at T ps n hn k (by omega) (fun i hi => hlt i (by omega)) j (by omega)
theorem put_even {xs : List Int} {e : Int} {ps : List Nat} (h : SortTo xs ps xs.length) : placed (lrow (srt xs) e) (ofN ps) xs.length xs.length = evenOf xs e := by
  have hn : ps.Nodup := h.1.nodup_iff.2 List.nodup_range
  have hl := h.len
  apply List.ext_getElem (by rw [placed_length, evenOf_length])
  intro p hp hp'
  have hpx : p < xs.length := by rw [placed_length] at hp; exact hp
  obtain ⟨j, hj, rfl⟩ := List.mem_iff_getElem.1 (h.1.mem_iff.2 (List.mem_range.2 hpx))
  have hjn : j < xs.length := by omega
  have e1 := put_at (lrow (srt xs) e) ps xs.length hn xs.length (by omega) (fun i hi => h.lt i hi) j hjn
  have hjp : ps.getD j 0 = ps[j] := by simp [List.getD, List.getElem?_eq_getElem hj]
  rw [hjp, getD_at _ _ hp] at e1
  rw [e1]
  have hS : j < (srt xs).length := by rw [srt_length]; exact hjn
  have e2 : (lrow (srt xs) e).getD j 0 = min (srt xs)[j] (evenLev xs e) := by
    rw [lrow_eq _ _ 0 (srt_sorted xs)]
    simp only [List.getD, List.getElem?_map, List.getElem?_eq_getElem hS, Option.map_some, Option.getD_some]
    rfl
  rw [e2, srt_at h j hS, hjp, getD_at _ _ hpx]
  simp [evenOf]

/-- What the loop keeps: as the program's, and what the others get. -/
def EvAt (xs : List Int) (e : Int) (k : Nat) (L left : Int) : Prop := LevAt xs e k L left ∧ lrow ((srt xs).drop k) left = (lrow (srt xs) e).drop k
theorem chg_drew {lo hi : Nat} {a b : World} (h : Chg lo hi a b) : Chg lo hi a b.drew := ⟨h.os, h.tape, h.output, h.size, h.block⟩
theorem evAt_0 {xs : List Int} {e : Int} (h : partB xs = true) (h0 : 0 ≤ e) (h1 : e ≤ xs.sum) : EvAt xs e 0 0 e := ⟨levAt_0 h h0 h1, by simp⟩
theorem drop_getD (T : List Int) (k : Nat) (v : Int) (vs : List Int) (h : T.drop k = v :: vs) : T.getD k 0 = v ∧ T.drop (k + 1) = vs := by
  constructor
  · have := congrArg (fun l : List Int => l[0]?) h
    simp only [List.getElem?_drop, Nat.add_zero, List.getElem?_cons_zero] at this
    simp [List.getD, this]
  · rw [← List.drop_drop, h]; rfl
theorem lrow_drop (S : List Int) (k : Nat) (h : k < S.length) (left : Int) : lrow (S.drop k) left =
    if left < S[k] * ((S.length : Int) - (k : Int)) then List.replicate (S.length - k) (left / ((S.length : Int) - (k : Int))) else S[k] :: lrow (S.drop (k + 1)) (left - S[k]) := by
  rw [List.drop_eq_getElem_cons h]
  have e : ((S.drop (k + 1)).length : Int) + 1 = (S.length : Int) - (k : Int) := by rw [List.length_drop]; omega
  have e' : (S.drop (k + 1)).length + 1 = S.length - k := by rw [List.length_drop]; omega
  show (if left < S[k] * (((S.drop (k + 1)).length : Int) + 1) then List.replicate ((S.drop (k + 1)).length + 1) (left / (((S.drop (k + 1)).length : Int) + 1)) else _) = _
  rw [e, e']
theorem evAt_next {xs : List Int} {e : Int} {k : Nat} {L left : Int} (h : EvAt xs e k L left) (hp : partB xs = true) (hk : k < (srt xs).length) (hg : ¬ left < (srt xs)[k] * (((srt xs).length : Int) - (k : Int))) :
    EvAt xs e (k + 1) (srt xs)[k] (left - (srt xs)[k]) ∧ (lrow (srt xs) e).getD k 0 = (srt xs)[k] := by
  have h2 := h.2
  rw [lrow_drop _ k hk, if_neg hg] at h2
  obtain ⟨h3, h4⟩ := drop_getD _ _ _ _ h2.symm
  exact ⟨⟨levAt_next h.1 hp hk hg, h4.symm⟩, h3⟩
theorem evAt_stop {xs : List Int} {e : Int} {k : Nat} {L left : Int} (h : EvAt xs e k L left) (hk : k < (srt xs).length) (hg : left < (srt xs)[k] * (((srt xs).length : Int) - (k : Int))) :
    ∀ m, k ≤ m → m < (srt xs).length → (lrow (srt xs) e).getD m 0 = left / (((srt xs).length : Int) - (k : Int)) := fun m h1 h3 => by
  have h2 := h.2
  rw [lrow_drop _ k hk, if_pos hg] at h2
  have := congrArg (fun l : List Int => l[m - k]?) h2
  simp only [List.getElem?_drop, List.getElem?_replicate, if_pos (show m - k < (srt xs).length - k by omega), show k + (m - k) = m by omega] at this
  simp [List.getD, ← this]
theorem evAt_le {xs : List Int} {e : Int} {k : Nat} {L left : Int} (h : EvAt xs e k L left) (hk : k < (srt xs).length) : 0 ≤ L ∧ L ≤ (srt xs)[k] :=
  ⟨h.1.2.2.2.1, h.1.2.2.2.2 _ (by rw [List.drop_eq_getElem_cons hk]; exact List.mem_cons_self)⟩

/-- What a function that hands even awards, their level, and whether they are whole, back leaves. -/
def RetEven (w : World) (xs : List Int) (e : Int) (en : Ending) (w' : World) : Prop :=
  ∃ A c, en = .returned (.tuple #[.slice A (evenOf xs e).length c, .int .i64 (evenLev xs e), .bool (evenOk xs e)]) ∧ Own w' w.heap.size w'.heap.size A (evenOf xs e) ∧ Below w.heap.size w w'

theorem ret_three {w w' : World} {xs : List Int} {e a : Int} {b : Bool} {G : Nat} (hG : w.heap.size ≤ G) (how : Own w' G w'.heap.size (some ⟨G, 0, none⟩) (evenOf xs e)) (hb : Below w.heap.size w w') (h1 : evenLev xs e = a) (h2 : evenOk xs e = b) :
    RetEven w xs e (.returned (.tuple #[.slice (some ⟨G, 0, none⟩) xs.length xs.length, .int .i64 a, .bool b])) w' :=
  ⟨some ⟨G, 0, none⟩, xs.length, by rw [h1, h2, evenOf_length], how.more hG (Nat.le_refl _), hb⟩

set_option maxRecDepth 10000 in
set_option maxHeartbeats 4000000 in
theorem l2Even_any (A : Option Addr) (c : Nat) (xs : List Int) (e : Int) (w : World) (lo hi : Nat) (h : Ints w lo hi A xs) (hh : hi ≤ w.heap.size) (hp : partB xs = true) (h0 : 0 ≤ e) (h1 : e ≤ xs.sum) :
    Calls Try.prog 68 #[.slice A xs.length c, .int .i64 e] w (RetEven w xs e) := by
  obtain ⟨i0, hi0, hq0, hq1, hq2⟩ := info_parts info_int
  have HP := Lib.hid hp
  have hbd := (partB_iff xs).1 hp
  have hn : 0 < xs.length := hbd.1
  have hn4 : xs.length ≤ 4 := hbd.2.1
  have hat := evAt_0 hp h0 h1
  have HL := Lib.hid (srt_length xs)
  clear hbd hp
  go_enter Try.func68, Try.ntmps68
  go_wp2_with (at_make; refine wpList_make_full _ rfl _ _ _ rfl w.heap.size 3 i0 _ 1 Try.underlying29 hi0 hq0 hq1 .i64 .i64 xs.length xs.length xs.length rfl rfl rfl rfl (by rw [hq2]; omega) (by unfold maxLen; omega) (Nat.le_refl _) ?_; intro wm hownm hgrowm; have bm : Below w.heap.size w wm := (Below.refl _ _).grown hgrowm (Nat.le_refl _) (by intro k hk; cases hk); clear hgrowm; have zm := bm.size)
  have zG : w.heap.size < wm.heap.size := (hownm.lt _ rfl).2
  refine (l2Sorted_is A c xs wm lo hi (h.below bm hh) (by omega) (by omega)).mono ?_
  rintro en w2 ⟨A2, c2, ps, rfl, ho2, hps, hb2⟩
  have hown2 := placed_start (xs := lrow (srt xs) e) (ys := ofN ps) (own_below hownm hb2)
  have z2 := hb2.size
  have hlt := Lib.hid (fun j (hj : j < xs.length) => hps.lt j hj)
  have HPS := Lib.hid hps
  have hoN : (ofN ps).length = xs.length := by rw [ofN_length, hps.len]
  have HON := Lib.hid hoN
  have k2 := (h.below bm hh).below hb2 (by omega)
  have q2 := ho2.ints
  have HB2 := Lib.hid (bm.trans (hb2.mono (by omega)))
  clear hownm bm hb2 ho2 h hps hoN h0 h1
  go_wp2
  go_loopw [9, 10, 11] (fun lf lv i wr => ∃ k : Nat, ∃ L left : Int, k ≤ xs.length ∧ i = .int .i64 k ∧ lf = .int .i64 left ∧ lv = .int .i64 L ∧ EvAt xs e k L left ∧ wr.ownsRow w.heap.size 3 1 (.slice (some ⟨w.heap.size, 0, none⟩) xs.length xs.length) xs.length (ints (placed (lrow (srt xs) e) (ofN ps) xs.length k)) ∧ Chg w.heap.size (w.heap.size + 1) w2 wr) (fun _ _ i _ => xs.length - (intOf i).toNat)
  case atStart => exact ⟨0, 0, e, Nat.zero_le _, rfl, rfl, rfl, hat, hown2, Chg.refl _ _ _⟩
  case round =>
    obtain ⟨k, L, left, hk, rfl, rfl, rfl, hL, hown, hch⟩ := hrel
    obtain ⟨wo, rfl⟩ : ∃ x, x = wr := ⟨_, rfl⟩
    clear hat hown2
    have zr := hch.size
    by_cases hlk : k < xs.length
    · have hlS : k < (srt xs).length := by rw [HL.out]; exact hlk
      obtain ⟨b, o, rfl, hb1, hb2, hcx⟩ := (k2.chg hch (by omega) (.inl (by omega))) (by omega)
      obtain ⟨b', o', rfl, hb1', hb2', hco⟩ := (q2.chg hch (Nat.le_refl _) (.inr (by omega))) (by rw [HON.out]; omega)
      have hp0 := hlt.out k hlk
      have HCX := Lib.hid hcx
      have HCO := Lib.hid hco
      have ck := hco k (by rw [HON.out]; exact hlk)
      rw [ofN_getD ps k (by rw [HPS.out.len]; exact hlk)] at ck
      have cx := hcx (ps.getD k 0) hp0
      rw [← srt_at HPS.out k hlS] at cx
      have hv := srt_rg HP.out k hlS
      have hm := prod_bd (srt xs)[k] xs.length k hv.1 hv.2 hlk hn4
      have hle := evAt_le hL hlS
      have hl0 := hL.1.2.1
      have hl1 := hL.1.2.2.1
      clear hcx hco
      have hk0 : (0 : Int) ≤ (k : Int) := by omega
      have hk1 : (k : Int) < (xs.length : Int) := by omega
      have hp1 : ((ps.getD k 0 : Nat) : Int) < (xs.length : Int) := by omega
      have hp2 : (0 : Int) ≤ ((ps.getD k 0 : Nat) : Int) := by omega
      by_cases hg : left < (srt xs)[k] * ((xs.length : Int) - (k : Int))
      · have HS := Lib.hid (evAt_stop hL hlS (by rw [HL.out]; exact hg))
        have HE := Lib.hid (levAt_end hL.1 hlS (by rw [HL.out]; exact hg))
        clear hL
        generalize (srt xs)[k] = v at cx hv hm hg hle
        generalize hpe : ps.getD k 0 = p at hp0 ck cx hp1 hp2
        clear hpe
        have hne : ((xs.length : Int) - (k : Int) == 0) = false := beq_eq_false_iff_ne.2 (by omega)
        have hpo : 0 < (xs.length : Int) - (k : Int) := by omega
        have hne2 : ((xs.length : Int) - (k : Int) = 0) = False := eq_false (by omega)
        have hq : IntKind.i64.wrap (left.tdiv ((xs.length : Int) - (k : Int))) = left / ((xs.length : Int) - (k : Int)) := by
          rw [Int.tdiv_eq_ediv_of_nonneg hl0]
          have := Int.ediv_nonneg hl0 (Int.le_of_lt hpo)
          have := Int.ediv_le_self ((xs.length : Int) - (k : Int)) hl0
          exact IntWalk.i64_in _ (by omega)
        have hr : IntKind.i64.wrap (left.tmod ((xs.length : Int) - (k : Int))) = left % ((xs.length : Int) - (k : Int)) := by
          rw [Int.tmod_eq_emod_of_nonneg hl0]
          have := Int.emod_nonneg left (by omega : (xs.length : Int) - (k : Int) ≠ 0)
          have := Int.emod_lt_of_pos left hpo
          exact IntWalk.i64_in _ (by omega)
        go_wp2
        go_loopw [13] (fun j wi => ∃ m : Nat, k ≤ m ∧ m ≤ xs.length ∧ j = .int .i64 m ∧ wi.ownsRow w.heap.size 3 1 (.slice (some ⟨w.heap.size, 0, none⟩) xs.length xs.length) xs.length (ints (placed (lrow (srt xs) e) (ofN ps) xs.length m)) ∧ Chg w.heap.size (w.heap.size + 1) w2 wi) (fun j _ => xs.length - (intOf j).toNat)
        case atStart => exact ⟨k, Nat.le_refl _, by omega, rfl, hown, hch⟩
        case round =>
          obtain ⟨m, hkm, hmn, rfl, hown3, hch3⟩ := hrel
          obtain ⟨wi, rfl⟩ : ∃ x, x = wr := ⟨_, rfl⟩
          clear hown ck cx
          by_cases hlm : m < xs.length
          · have hpm := hlt.out m hlm
            have cm : wi.cell? ⟨b', o' + m, none⟩ = some (.int .i64 ((ps.getD m 0 : Nat) : Int)) := by
              have e1 := HCO.out m (by rw [HON.out]; exact hlm)
              rw [ofN_getD ps m (by rw [HPS.out.len]; exact hlm)] at e1
              obtain ⟨b3, o3, e3, _, _, hco3⟩ := (q2.chg hch3 (Nat.le_refl _) (.inr (by omega))) (by rw [HON.out]; omega)
              cases e3
              have e4 := hco3 m (by rw [HON.out]; exact hlm)
              rw [ofN_getD ps m (by rw [HPS.out.len]; exact hlm)] at e4
              exact e4
            obtain ⟨u, hd, hf⟩ := placed_cell hown3 hpm
            have hst := placed_more hown3 (ofN_getD ps m (by rw [HPS.out.len]; exact hlm)) (left / ((xs.length : Int) - (k : Int))) (by rw [← HL.out]; exact HS.out m hkm (by rw [HL.out]; exact hlm))
            have hch4 := hch3.trans (Chg.setCell wi (lo := w.heap.size) (hi := w.heap.size + 1) (p := ⟨w.heap.size, ps.getD m 0, none⟩) ⟨Nat.le_refl _, Nat.lt_succ_self _⟩ (.int .i64 (left / ((xs.length : Int) - (k : Int)))))
            have H := Lib.hid (And.intro hst hch4)
            clear hst hch4 hown3 hch3
            have hm0 : (0 : Int) ≤ (m : Int) := by omega
            have hm1 : (m : Int) < (xs.length : Int) := by omega
            generalize ps.getD m 0 = pm at hpm cm hd hf H
            have hpm1 : (pm : Int) < (xs.length : Int) := by omega
            have hpm0 : (0 : Int) ≤ (pm : Int) := by omega
            go_wp2_with fail
            go_region_law (fail)
            all_goals
              go_wp2
              go_roundw
              case rel => exact ⟨m + 1, by omega, by omega, by go_num, H.out.1, by first | exact H.out.2 | exact chg_drew H.out.2⟩
              case measure => simp [intOf]; omega
          · obtain rfl : m = xs.length := by omega
            have how := placed_own hown3
            rw [put_even HPS.out] at how
            have H := Lib.hid (And.intro how (HB2.out.trans (hch3.below (B := w.heap.size) (Nat.le_refl _) HB2.out.size)))
            clear how hown3 hch3
            go_wp2
            go_quiet (fail)
            go_wp2
            go_ret3
            exact ret_three (Nat.le_refl _) H.out.1 (below_drewN H.out.2 _) (by rw [HE.out.1, HL.out]) (by rw [HE.out.2, HL.out])
      · have hN := evAt_next hL HP.out hlS (by rw [HL.out]; exact hg)
        have HN := Lib.hid hN.1
        obtain ⟨u, hd, hf⟩ := placed_cell hown hp0
        have hst := placed_more hown (ofN_getD ps k (by rw [HPS.out.len]; exact hlk)) ((srt xs)[k]) hN.2
        have hch4 := hch.trans (Chg.setCell wo (lo := w.heap.size) (hi := w.heap.size + 1) (p := ⟨w.heap.size, ps.getD k 0, none⟩) ⟨Nat.le_refl _, Nat.lt_succ_self _⟩ (.int .i64 ((srt xs)[k])))
        have H := Lib.hid (And.intro hst hch4)
        clear hst hch4 hown hch hL hN
        generalize hvv : (srt xs)[k] = v at cx hv hm hg hle H HN
        generalize ps.getD k 0 = p at hp0 ck cx hp1 hp2 hd hf H
        have hbG : b ≠ w.heap.size := by omega
        have hbG' : b' ≠ w.heap.size := by omega
        have cx' : (wo.drew.setCell ⟨w.heap.size, p, none⟩ (.int .i64 v)).cell? ⟨b, o + p, none⟩ = some (.int .i64 v) := (World.cell?_setCell_other _ _ _ _ (by intro h'; injection h' with h' _; exact hbG h'.symm)).trans cx
        have ck' : (wo.drew.setCell ⟨w.heap.size, p, none⟩ (.int .i64 v)).cell? ⟨b', o' + k, none⟩ = some (.int .i64 (p : Int)) := (World.cell?_setCell_other _ _ _ _ (by intro h'; injection h' with h' _; exact hbG' h'.symm)).trans ck
        go_wp2_with fail
        go_region_held3 (fun w' => w'.cell? ⟨b', o' + k, none⟩ = some (.int .i64 (p : Int)) ∧ w'.cell? ⟨b, o + p, none⟩ = some (.int .i64 v)) (first | exact ⟨ck', cx'⟩ | go_keep) (fail)
        go_wp2
        go_roundw
        case rel => exact ⟨k + 1, v, left - v, by omega, by go_num, by first | rfl | go_num, congrArg (Value.int .i64) (by first | omega | (split <;> omega)), HN.out, H.out.1, by first | exact H.out.2 | exact chg_drew H.out.2⟩
        case measure => simp [intOf]; omega
    · obtain rfl : k = xs.length := by omega
      have how := placed_own hown
      rw [put_even HPS.out] at how
      have hL' : EvAt xs e (srt xs).length L left := by rw [HL.out]; exact hL
      have HE := Lib.hid (levAt_all hL'.1)
      have H := Lib.hid (And.intro how (HB2.out.trans (hch.below (B := w.heap.size) (Nat.le_refl _) HB2.out.size)))
      clear how hown hch hL hL'
      go_wp2
      go_ret3
      exact ret_three (Nat.le_refl _) H.out.1 H.out.2 HE.out.1 HE.out.2

end Go.Proofs.Ytbegdcnljafloaa
namespace Go.Proofs.Ytbegdcnljafloaa
open Go.RowKit

set_option maxRecDepth 10000 in
set_option maxHeartbeats 800000 in
theorem l2Parts_any (A : Option Addr) (c : Nat) (xs : List Int) (w : World) (lo hi : Nat) (h : Ints w lo hi A xs) (hh : hi ≤ w.heap.size) (hs : Small xs) :
    Calls Try.prog 69 #[.slice A xs.length c, .int .i64 48] w (RetInts w (inP xs)) := by
  obtain ⟨i0, hi0, hz0, hz1, hz2⟩ := info_parts info_int
  have hl := hs.1
  have HRl := Lib.hid (inP_length xs)
  have hB0 : (w.alloc (.cells #[] 3)).ownsRow w.heap.size 3 1 (.slice (some ⟨w.heap.size, 0, none⟩) 0 0) ((inP xs).take 0).length (ints ((inP xs).take 0)) := World.ownsRow_made w #[] 0 (Nat.le_refl _) (by unfold maxLen; omega) rfl
  have hb0 := (Below.refl w.heap.size w).alloc (Nat.le_refl _) (.cells #[] 3)
  go_enter Try.func69, Try.ntmps69
  go_wp2
  go_loopw [5, 6] (fun v i wr => ∃ k : Nat, k ≤ xs.length ∧ i = .int .i64 k ∧ wr.ownsRow w.heap.size 3 1 v ((inP xs).take k).length (ints ((inP xs).take k)) ∧ Below w.heap.size w wr) (fun _ i _ => xs.length - (intOf i).toNat)
  case atStart => exact ⟨0, Nat.zero_le _, rfl, hB0, hb0⟩
  case round =>
    obtain ⟨k, hk, rfl, hown, hbel⟩ := hrel
    clear hB0 hb0
    have hbs := hbel.size
    by_cases hlt : k < xs.length
    · obtain ⟨b, o, rfl, _, hbh, hc0⟩ := h.at_ hlt
      have hc : wr.cell? ⟨b, o + k, none⟩ = some (.int .i64 xs[k]) := (hbel.cell (by show b < _; omega)).trans hc0
      have hv := small_at xs hs k hlt
      have hlen : ((inP xs).take k).length = k := by rw [List.length_take, HRl.out]; omega
      rw [hlen] at hown
      clear hlen hc0
      have HV := Lib.hid (inP_at xs k hlt)
      have hA := hown.alloc (.cells #[.int .i64 (xs[k] * 48)] 3)
      go_wp2_with (at_builtin; refine wpList_append_own _ rfl _ _ 29 rfl w.heap.size 3 i0 (.int .i64 0) 1 8 Try.underlying29 hi0 hz0 hz1 hz2 rfl (by decide) _ _ _ rfl hA ⟨wr.heap.size, 0, none⟩ 1 1 [.int .i64 (xs[k] * 48)] rfl rfl (news_one _ _ _) (one_cell _) (by unfold maxLen; omega) (by omega) (by simp; omega) ?_; intro v1 w1 hown1 hgrow1 _)
      have hn := append_one (R := inP xs) (k := k) (by rw [HRl.out]; exact hlt) _ (HV.out.trans (Int.mul_comm _ _)) rfl hown1
      have hb1 := (hbel.alloc hbs (.cells #[.int .i64 (xs[k] * 48)] 3)).grown hgrow1 (by simp; omega) (fun g hg => ((hown.lt g hg).1))
      have H := Lib.hid (And.intro hn hb1)
      clear hn hb1 hown1 hgrow1 hown hA hbel
      go_wp2
      go_roundw
      case rel => exact ⟨k + 1, by omega, by go_num, H.out.1, H.out.2⟩
      case measure => simp [intOf]; omega
    · obtain rfl : k = xs.length := by omega
      have he : (inP xs).take xs.length = inP xs := by rw [← HRl.out]; exact List.take_length
      rw [he] at hown
      have H := Lib.hid (And.intro hown hbel)
      clear hown hbel he
      go_wp2
      go_ret
      obtain ⟨A', c', e1, _, ho⟩ := own_of_row H.out.1
      exact ⟨A', c', congrArg Ending.returned e1, ho, H.out.2⟩

theorem even_at_bd {E : Int} {xs : List Int} (h : caseOkB E xs = true) (k : Nat) (hk : k < xs.length) : (0 ≤ xs[k] ∧ xs[k] ≤ 12) ∧ 0 ≤ (evenAw (xs.sum - E) xs)[k]'(by rw [evenAw_length]; exact hk) ∧ (evenAw (xs.sum - E) xs)[k]'(by rw [evenAw_length]; exact hk) ≤ 576 := by
  have h1 := ((caseOk_iff E xs).1 h).2.2.1 _ (List.getElem_mem hk)
  have h2 := evenLv_bd (other_ok h)
  rw [evenAw_at _ xs k hk]
  omega
/-- What an append to the row at g leaves of what was there, where g is the row made first or one made later. -/
theorem chg_row {w3 W w' : World} {B g n c : Nat} (h : Chg B (B + 1) w3 W) (hg : W.grownBy w' (Value.ownBlock (.slice (some ⟨g, 0, none⟩) n c))) (hgg : g = B ∨ w3.heap.size ≤ g) : Chg B (B + 1) w3 w' :=
  ⟨hg.os.trans h.os, hg.tape.trans h.tape, hg.output.trans h.output, Nat.le_trans h.size hg.size, fun k hk hn => (hg.block k (Nat.lt_of_lt_of_le hk h.size) (fun e => by have e' : k = g := (Option.some.inj e).symm ▸ rfl; omega)).trans (h.block k hk hn)⟩

end Go.Proofs.Ytbegdcnljafloaa
