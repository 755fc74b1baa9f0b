/-
  A sorted copy of numbers is new memory, and is the numbers in order. No condition but that there are some, and a length that fits.
  The level up to which claims in parts are met, as the program finds it: whether they are claims in parts; a sorted copy; the level. No condition but that they are, and an estate that they cover.
  Even rows, as the program finds them: the row and true, or none and false. No condition but a length that fits.
  The greatest of some numbers, as the library returns it; of even awards it is the level. No condition but that there are some.
  EvenAwards, EvenLevel, EvenLosses and LossLevel of the program: what they return of each case, and of what is none; they make new memory only. No condition but a length that fits.
  The places of a row in ascending order of its numbers, in new memory. No condition but a row of at most a thousand numbers.
  Even awards of parts, as the given package finds them: the row, its level, and whether it is whole. No condition but claims in parts and an estate that they cover.
  EvenAwards, EvenLevel, EvenLosses and LossLevel of the given package: what they return of each case, and of what is none; they make new memory only. No condition but a length that fits.
-/
import Derived.Test.YtdbohnaohinieaaGB
import Derived.Test.YtdbohnaohinieaaGC
import Derived.Test.YtdbohnaohinieaaGA
import Derived.BigQuiet
import Derived.Deep.RegionHeld3
import Derived.Test.YtdbohnaohinieaaGD
import Derived.Deep.AppendLies
namespace Go.Proofs.Ytdbohnaohinieaa
open Go.RowKit

end Go.Proofs.Ytdbohnaohinieaa
namespace Go.Proofs.Ytdbohnaohinieaa
open Go.RowKit

/-- What the loop of the level keeps: the rest in order, what is left, the level so far. -/
def LevAt (xs : List Int) (e : Int) (k : Nat) (L left : Int) : Prop := lev ((srt xs).drop k) left L = lev (srt xs) e 0 ∧ 0 ≤ left ∧ left ≤ 2304 ∧ 0 ≤ L ∧ (∀ x ∈ (srt xs).drop k, L ≤ x)
theorem levAt_0 {xs : List Int} {e : Int} (h : partB xs = true) (h0 : 0 ≤ e) (h1 : e ≤ xs.sum) : LevAt xs e 0 0 e := by
  have := part_sum h
  exact ⟨by simp, h0, by omega, by omega, fun x hx => (((partB_iff xs).1 h).2.2 x (mem_srt.1 (by simpa using hx))).1⟩
theorem lev_drop (S : List Int) (k : Nat) (h : k < S.length) (left L : Int) : lev (S.drop k) left L =
    if left < S[k] * ((S.length : Int) - (k : Int)) then (left / ((S.length : Int) - (k : Int)), left % ((S.length : Int) - (k : Int)) == 0) else lev (S.drop (k + 1)) (left - S[k]) S[k] := by
  rw [List.drop_eq_getElem_cons h]
  have e : ((S.drop (k + 1)).length : Int) + 1 = (S.length : Int) - (k : Int) := by rw [List.length_drop]; omega
  show (if left < S[k] * (((S.drop (k + 1)).length : Int) + 1) then _ else _) = _
  rw [e]
theorem srt_rg {xs : List Int} (h : partB xs = true) (k : Nat) (hk : k < (srt xs).length) : 0 ≤ (srt xs)[k] ∧ (srt xs)[k] ≤ 576 := ((partB_iff xs).1 h).2.2 _ (mem_srt.1 (List.getElem_mem hk))
theorem prod_bd (v : Int) (n k : Nat) (h0 : 0 ≤ v) (h1 : v ≤ 576) (hk : k < n) (hn : n ≤ 4) : v ≤ v * ((n : Int) - (k : Int)) ∧ 0 ≤ v * ((n : Int) - (k : Int)) ∧ v * ((n : Int) - (k : Int)) ≤ 2304 := by
  rcases (show (n : Int) - (k : Int) = 1 ∨ (n : Int) - (k : Int) = 2 ∨ (n : Int) - (k : Int) = 3 ∨ (n : Int) - (k : Int) = 4 from by omega) with e | e | e | e <;> rw [e] <;> omega
theorem levAt_next {xs : List Int} {e : Int} {k : Nat} {L left : Int} (h : LevAt xs e k L left) (hp : partB xs = true) (hk : k < (srt xs).length) (hg : ¬ left < (srt xs)[k] * (((srt xs).length : Int) - (k : Int))) :
    LevAt xs e (k + 1) (srt xs)[k] (left - (srt xs)[k]) := by
  obtain ⟨h1, h2, h3, h4, h5⟩ := h
  have hv := srt_rg hp k hk
  have hn : (srt xs).length ≤ 4 := by rw [srt_length]; exact ((partB_iff xs).1 hp).2.1
  have hb := prod_bd (srt xs)[k] (srt xs).length k hv.1 hv.2 hk hn
  refine ⟨?_, by omega, by omega, hv.1, fun x hx => (sorted_take_le (srt_sorted xs) k hk).2 x hx⟩
  rw [lev_drop _ k hk, if_neg hg] at h1
  exact h1
theorem levAt_end {xs : List Int} {e : Int} {k : Nat} {L left : Int} (h : LevAt xs e k L left) (hk : k < (srt xs).length) (hg : left < (srt xs)[k] * (((srt xs).length : Int) - (k : Int))) :
    evenLev xs e = left / (((srt xs).length : Int) - (k : Int)) ∧ evenOk xs e = (left % (((srt xs).length : Int) - (k : Int)) == 0) := by
  have h1 := h.1
  rw [lev_drop _ k hk, if_pos hg] at h1
  exact ⟨by rw [evenLev, ← h1], by rw [evenOk, ← h1]⟩
theorem levAt_all {xs : List Int} {e : Int} {L left : Int} (h : LevAt xs e (srt xs).length L left) : evenLev xs e = L ∧ evenOk xs e = true := by
  have h1 := h.1
  rw [List.drop_length] at h1
  exact ⟨by rw [evenLev, ← h1]; rfl, by rw [evenOk, ← h1]; rfl⟩
theorem ret_pair {a b : Int} {p q : Bool} (h1 : a = b) (h2 : p = q) : Ending.returned (.tuple #[.int .i64 a, .bool p]) = .returned (.tuple #[.int .i64 b, .bool q]) := by rw [h1, h2]

end Go.Proofs.Ytdbohnaohinieaa
namespace Go.Proofs.Ytdbohnaohinieaa
open Go.RowKit

/-- What a function that hands a new slice of numbers and a bool back leaves. -/
def RetIntsB (w : World) (xs : List Int) (b : Bool) (e : Ending) (w' : World) : Prop :=
  ∃ A c, e = .returned (.tuple #[.slice A xs.length c, .bool b]) ∧ Own w' w.heap.size w'.heap.size A xs ∧ Below w.heap.size w w'
noncomputable def evenB (xs : List Int) (e : Int) : Bool := partB xs && (decide (0 ≤ e ∧ e ≤ xs.sum) && evenOk xs e)
noncomputable def evenXs (xs : List Int) (e : Int) : List Int := if evenB xs e = true then evenOf xs e else []
theorem evenB_iff (xs : List Int) (e : Int) : evenB xs e = true ↔ partB xs = true ∧ (0 ≤ e ∧ e ≤ xs.sum) ∧ evenOk xs e = true := by simp [evenB]
theorem evenOf_min (xs : List Int) (e : Int) (k : Nat) (h : k < xs.length) : (evenOf xs e)[k]'(by rw [evenOf_length]; exact h) = min xs[k] (evenLev xs e) := by simp [evenOf]
end Go.Proofs.Ytdbohnaohinieaa
namespace Go.Proofs.Ytdbohnaohinieaa
open Go.RowKit

end Go.Proofs.Ytdbohnaohinieaa
namespace Go.Proofs.Ytdbohnaohinieaa
open Go.RowKit

theorem even_part {E : Int} {xs : List Int} (h : caseOkB E xs = true) : partB (inP xs) = true := by
  have h1 := (caseOk_iff E xs).1 h
  exact (partB_iff _).2 ⟨by rw [inP_length]; exact h1.1, by rw [inP_length]; exact h1.2.1, inP_rg h⟩
theorem even_is {E : Int} {xs : List Int} (h : caseOkB E xs = true) : evenB (inP xs) (48 * E) = true := by
  have h1 := (caseOk_iff E xs).1 h
  exact (evenB_iff _ _).2 ⟨even_part h, ⟨by omega, by rw [inP_sum]; omega⟩, even_whole h⟩
def evenAws (E : Int) (xs : List Int) : List Int := if caseOkB E xs = true then evenAw E xs else []
def evenLvl (E : Int) (xs : List Int) : Int := if caseOkB E xs = true then evenLv E xs else -1
def evenLos (E : Int) (xs : List Int) : List Int := if caseOkB E xs = true then evenLo E xs else []
def lossLvl (E : Int) (xs : List Int) : Int := if caseOkB E xs = true then evenLv (xs.sum - E) xs else -1
theorem evenAws_len (E : Int) (xs : List Int) : (evenAws E xs).length ≤ xs.length := by unfold evenAws; split <;> simp [evenAw_length]
theorem evenLos_len (E : Int) (xs : List Int) : (evenLos E xs).length ≤ xs.length := by unfold evenLos; split <;> simp [evenLo_length]

end Go.Proofs.Ytdbohnaohinieaa
namespace Go.Proofs.Ytdbohnaohinieaa
open Go.RowKit

def ofN (ps : List Nat) : List Int := ps.map fun (p : Nat) => (p : Int)
theorem ofN_length (ps : List Nat) : (ofN ps).length = ps.length := by simp [ofN]
theorem ofN_getD (ps : List Nat) (j : Nat) (h : j < ps.length) : (ofN ps).getD j 0 = ((ps.getD j 0 : Nat) : Int) := by
  simp [ofN, List.getD, List.getElem?_eq_getElem h]
theorem ofN_cut (ps : List Nat) (a k : Nat) : ofN (ps.take a ++ [k] ++ ps.drop a) = (ofN ps).take a ++ [(k : Int)] ++ (ofN ps).drop a := by simp [ofN, List.map_take, List.map_drop]
/-- The numbers at places. -/
def valsAt (xs : List Int) (ps : List Nat) : List Int := ps.map fun p => xs.getD p 0
theorem valsAt_length (xs : List Int) (ps : List Nat) : (valsAt xs ps).length = ps.length := by simp [valsAt]
/-- The places 0 .. k - 1 in ascending order of the numbers there, equal ones by their places. -/
def SortTo (xs : List Int) (ps : List Nat) (k : Nat) : Prop := ps.Perm (List.range k) ∧ (valsAt xs ps).Pairwise (· ≤ ·) ∧ ps.Pairwise fun p q => xs.getD p 0 < xs.getD q 0 ∨ (xs.getD p 0 = xs.getD q 0 ∧ p < q)
theorem SortTo.len {xs : List Int} {ps : List Nat} {k : Nat} (h : SortTo xs ps k) : ps.length = k := by rw [h.1.length_eq, List.length_range]
theorem SortTo.lt {xs : List Int} {ps : List Nat} {k : Nat} (h : SortTo xs ps k) (j : Nat) (hj : j < k) : ps.getD j 0 < k := by
  have hj' : j < ps.length := by rw [h.len]; exact hj
  have e : ps.getD j 0 = ps[j] := by simp [List.getD, List.getElem?_eq_getElem hj']
  rw [e]
  exact List.mem_range.1 (h.1.mem_iff.1 (List.getElem_mem hj'))
theorem valsAt_getElem (xs : List Int) (ps : List Nat) (j : Nat) (h : j < ps.length) : (valsAt xs ps)[j]'(by rw [valsAt_length]; exact h) = xs.getD (ps.getD j 0) 0 := by
  simp [valsAt, List.getD, List.getElem?_eq_getElem h]
theorem SortTo.stable {xs : List Int} {ps : List Nat} {k a : Nat} (h : SortTo xs ps k) (ha : a ≤ k) (hgt : ∀ j, a ≤ j → j < k → xs.getD k 0 < xs.getD (ps.getD j 0) 0) (hle : 0 < a → xs.getD (ps.getD (a - 1) 0) 0 ≤ xs.getD k 0) :
    (ps.take a ++ k :: ps.drop a).Pairwise fun p q => xs.getD p 0 < xs.getD q 0 ∨ (xs.getD p 0 = xs.getD q 0 ∧ p < q) := by
  have hl := h.len
  have hs := h.2.2
  have hv := h.2.1
  have hm : ∀ x ∈ ps, x < k := fun x hx => List.mem_range.1 (h.1.mem_iff.1 hx)
  have ge : ∀ j (hj : j < ps.length), ps.getD j 0 = ps[j] := fun j hj => by simp [List.getD, List.getElem?_eq_getElem hj]
  have h1 : ∀ x ∈ ps.take a, xs.getD x 0 ≤ xs.getD k 0 ∧ x < k := fun x hx => by
    refine ⟨?_, hm x (List.mem_of_mem_take hx)⟩
    obtain ⟨j, hj, rfl⟩ := List.mem_iff_getElem.1 hx
    have hja : j < a := by rw [List.length_take] at hj; omega
    rw [List.getElem_take]
    have h2 := hle (by omega)
    rw [ge (a - 1) (by omega)] at h2
    rcases Nat.lt_or_ge j (a - 1) with h3 | h3
    · have h4 := (List.pairwise_iff_getElem.1 hs) j (a - 1) (by omega) (by omega) h3
      omega
    · obtain rfl : j = a - 1 := by omega
      exact h2
  have h2 : ∀ x ∈ ps.drop a, xs.getD k 0 < xs.getD x 0 := fun x hx => by
    obtain ⟨j, hj, rfl⟩ := List.mem_iff_getElem.1 hx
    rw [List.getElem_drop]
    rw [List.length_drop] at hj
    have h3 := hgt (a + j) (by omega) (by omega)
    rwa [ge (a + j) (by omega)] at h3
  rw [List.pairwise_append]
  refine ⟨hs.sublist (List.take_sublist _ _), List.pairwise_cons.2 ⟨fun x hx => .inl (h2 x hx), hs.sublist (List.drop_sublist _ _)⟩, fun x hx y hy => ?_⟩
  have hx1 := h1 x hx
  rcases List.mem_cons.1 hy with rfl | hy
  · rcases Int.lt_or_eq_of_le hx1.1 with h | h
    · exact .inl h
    · exact .inr ⟨h, hx1.2⟩
  · exact .inl (by have := h2 y hy; omega)
theorem SortTo.insert {xs : List Int} {ps : List Nat} {k a : Nat} (h : SortTo xs ps k) (ha : a ≤ k) (hgt : ∀ j, a ≤ j → j < k → xs.getD k 0 < xs.getD (ps.getD j 0) 0) (hle : 0 < a → xs.getD (ps.getD (a - 1) 0) 0 ≤ xs.getD k 0) :
    SortTo xs (ps.take a ++ [k] ++ ps.drop a) (k + 1) := by
  have hl := h.len
  constructor
  · have e : ps.take a ++ [k] ++ ps.drop a = ps.take a ++ k :: ps.drop a := by simp
    rw [e]
    refine List.perm_middle.trans ?_
    rw [List.take_append_drop, List.range_succ]
    exact (List.Perm.cons k h.1).trans (List.perm_append_singleton k _).symm
  refine ⟨?_, by simpa using h.stable ha hgt hle⟩
  · have hs := h.2.1
    have e : valsAt xs (ps.take a ++ [k] ++ ps.drop a) = (valsAt xs ps).take a ++ (xs.getD k 0 :: (valsAt xs ps).drop a) := by simp [valsAt, List.map_take, List.map_drop]
    rw [e, List.pairwise_append]
    have h1 : ∀ x ∈ (valsAt xs ps).take a, x ≤ xs.getD k 0 := fun x hx => by
      obtain ⟨j, hj, rfl⟩ := List.mem_iff_getElem.1 hx
      have hja : j < a := by rw [List.length_take] at hj; omega
      rw [List.getElem_take]
      have h2 := hle (by omega)
      have hv : a - 1 < (valsAt xs ps).length := by rw [valsAt_length]; omega
      rw [← valsAt_getElem xs ps (a - 1) (by omega)] at h2
      rcases Nat.lt_or_ge j (a - 1) with h3 | h3
      · have := (List.pairwise_iff_getElem.1 hs) j (a - 1) (by rw [valsAt_length]; omega) hv h3
        omega
      · obtain rfl : j = a - 1 := by omega
        exact h2
    have h2 : ∀ x ∈ (valsAt xs ps).drop a, xs.getD k 0 ≤ x := fun x hx => by
      obtain ⟨j, hj, rfl⟩ := List.mem_iff_getElem.1 hx
      rw [List.getElem_drop]
      have hj' : a + j < ps.length := by rw [List.length_drop, valsAt_length] at hj; omega
      rw [valsAt_getElem xs ps (a + j) hj']
      have := hgt (a + j) (by omega) (by omega)
      omega
    refine ⟨hs.sublist (List.take_sublist _ _), List.pairwise_cons.2 ⟨h2, hs.sublist (List.drop_sublist _ _)⟩, fun x hx y hy => ?_⟩
    rcases List.mem_cons.1 hy with hy | hy
    · subst hy; exact h1 x hx
    · have := h1 x hx; have := h2 y hy; omega
/-- What the sorting leaves. -/
def SortedTo (w : World) (xs : List Int) (e : Ending) (w' : World) : Prop :=
  ∃ A' c', ∃ ps : List Nat, e = .returned (.slice A' ps.length c') ∧ Own w' w.heap.size w'.heap.size A' (ofN ps) ∧ SortTo xs ps xs.length ∧ Below w.heap.size w w'
/-- What holds between the places that are put in order. -/
def SMid (w : World) (xs : List Int) (k : Nat) (v : Value) (wr : World) : Prop :=
  ∃ g cap, ∃ ps : List Nat, v = .slice (some ⟨g, 0, none⟩) k cap ∧ SortTo xs ps k ∧ k ≤ cap ∧ wr.ownsRow w.heap.size 3 1 (.slice (some ⟨g, 0, none⟩) k cap) k (ints (ofN ps)) ∧ Below w.heap.size w wr
theorem below_grow {w u u' : World} {gv n' c' : Nat} (h : Below w.heap.size w u) (hg : u.grownBy u' (Value.ownBlock (.slice (some ⟨gv, 0, none⟩) n' c'))) (hgv : w.heap.size ≤ gv) : Below w.heap.size w u' :=
  h.grown hg h.size (fun e he => by have e' : gv = e := Option.some.inj he; omega)
theorem append_keep' {w w' : World} {g k cap B : Nat} {os : List Int} {o : Obj} {n' c' gv : Nat} (own : w.ownsRow B 3 1 (.slice (some ⟨g, 0, none⟩) k cap) k (ints os))
    (hgr : (w.alloc o).grownBy w' (Value.ownBlock (.slice (some ⟨gv, 0, none⟩) n' c'))) (hne : g ≠ gv) :
    w'.ownsRow B 3 1 (.slice (some ⟨g, 0, none⟩) k cap) k (ints os) ∧ w.heap.size + 1 ≤ w'.heap.size := by
  have z := hgr.size
  rw [hsz] at z
  exact ⟨(own.alloc o).kept hgr (.inr (fun e => hne (Option.some.inj e))), z⟩
theorem sort_step {w w2 w3 w4 w5 : World} {k a n5 g1 g2 g3 cap3 n1 c1 n2 c2 : Nat} {xs : List Int} {ps : List Nat} {o o' : Obj} (hps : SortTo xs ps k) (hak : a ≤ k) (hgt : ∀ j, a ≤ j → j < k → xs.getD k 0 < xs.getD (ps.getD j 0) 0) (hle : 0 < a → xs.getD (ps.getD (a - 1) 0) 0 ≤ xs.getD k 0) (hn5 : n5 = k + 1)
    (hown5 : w5.ownsRow w2.heap.size 3 1 (.slice (some ⟨g3, 0, none⟩) n5 cap3) n5 (ints ((ofN ps).take a) ++ [.int .i64 (k : Int)] ++ ints ((ofN ps).drop a))) (hcp3 : n5 ≤ cap3) (hB : Below w.heap.size w w2)
    (hgrow3 : (w2.alloc o).grownBy w3 (Value.ownBlock (.slice (some ⟨w2.heap.size, 0, none⟩) 0 0))) (hgrow4 : (w3.alloc o').grownBy w4 (Value.ownBlock (.slice (some ⟨g1, 0, none⟩) n1 c1))) (hgrow5 : w4.grownBy w5 (Value.ownBlock (.slice (some ⟨g2, 0, none⟩) n2 c2))) (hg1 : w2.heap.size ≤ g1) (hg2 : w2.heap.size ≤ g2) :
    SMid w xs (k + 1) (.slice (some ⟨g3, 0, none⟩) n5 cap3) w5 := by
  subst hn5
  have z := hB.size
  refine ⟨g3, cap3, ps.take a ++ [k] ++ ps.drop a, rfl, hps.insert hak hgt hle, hcp3, ?_, ?_⟩
  · have e : ints (ofN (ps.take a ++ [k] ++ ps.drop a)) = ints ((ofN ps).take a) ++ [.int .i64 (k : Int)] ++ ints ((ofN ps).drop a) := by rw [ofN_cut]; simp [ints]
    rw [e]
    exact own_lower hown5 z
  · have b3 := below_grow (hB.alloc z o) hgrow3 z
    have b4 := below_grow (b3.alloc b3.size o') hgrow4 (by omega)
    exact below_grow b4 hgrow5 (by omega)

end Go.Proofs.Ytdbohnaohinieaa
namespace Go.Proofs.Ytdbohnaohinieaa
open Go.RowKit

theorem vals_perm {xs : List Int} {ps : List Nat} (h : SortTo xs ps xs.length) : (valsAt xs ps).Perm xs := by
  have e : valsAt xs (List.range xs.length) = xs := by
    apply List.ext_getElem (by simp [valsAt])
    intro j hj hj'
    simp [valsAt, List.getD, List.getElem?_eq_getElem hj']
  have p : (valsAt xs ps).Perm (valsAt xs (List.range xs.length)) := h.1.map _
  rw [e] at p
  exact p
theorem vals_srt {xs : List Int} {ps : List Nat} (h : SortTo xs ps xs.length) : srt xs = valsAt xs ps := srt_of (vals_perm h) h.2.1
theorem srt_at {xs : List Int} {ps : List Nat} (h : SortTo xs ps xs.length) (k : Nat) (hk : k < (srt xs).length) : (srt xs)[k] = xs.getD (ps.getD k 0) 0 := by
  have hk' : k < ps.length := by rw [h.len, ← srt_length xs]; exact hk
  have e := vals_srt h
  have e2 := congrArg (fun l : List Int => l[k]?) e
  rw [List.getElem?_eq_getElem hk, List.getElem?_eq_getElem (by rw [valsAt_length]; exact hk')] at e2
  injection e2 with e2
  rw [e2, valsAt_getElem xs ps k hk']
theorem own_below {w w' : World} {B : Nat} {e : TypeId} {v : Value} {n : Nat} {xs : List Value} (h : w.ownsRow B e 1 v n xs) (hb : Below w.heap.size w w') : w'.ownsRow B e 1 v n xs :=
  h.kept (row := none) ⟨hb.os, hb.tape, hb.output, hb.size, fun i hi _ => hb.block i hi⟩ (by cases hv : v.ownBlock <;> simp)
/-- Places that are each once: a row that is filled there. -/
theorem put_at (T : List Int) (ps : List Nat) (n : Nat) (hn : ps.Nodup) : ∀ k, k ≤ ps.length → (∀ j, j < k → ps.getD j 0 < n) → ∀ j, j < k → (placed T (ofN ps) n k).getD (ps.getD j 0) 0 = T.getD j 0
  | k + 1, hk, hlt, j, hj => by
    have e : ((ofN ps).getD k 0).toNat = ps.getD k 0 := by rw [ofN_getD ps k (by omega), Int.toNat_natCast]
    rw [placed, e]
    by_cases ejk : j = k
    · subst ejk
      rw [getD_set_same _ _ _ _ (by rw [placed_length]; exact hlt j (by omega))]
    · have hne : ps.getD k 0 ≠ ps.getD j 0 := by
        intro e2
        have h1 : ps.getD k 0 = ps[k] := by simp [List.getD, List.getElem?_eq_getElem (show k < ps.length by omega)]
        have h2 : ps.getD j 0 = ps[j] := by simp [List.getD, List.getElem?_eq_getElem (show j < ps.length by omega)]
        rw [h1, h2] at e2
        exact ejk ((List.getElem_inj hn).1 e2).symm
      rw [getD_set_other _ _ _ _ _ hne]
      exact put_at T ps n hn k (by omega) (fun i hi => hlt i (by omega)) j (by omega)
theorem put_even {xs : List Int} {e : Int} {ps : List Nat} (h : SortTo xs ps xs.length) : placed (lrow (srt xs) e) (ofN ps) xs.length xs.length = evenOf xs e := by
  have hn : ps.Nodup := h.1.nodup_iff.2 List.nodup_range
  have hl := h.len
  apply List.ext_getElem (by rw [placed_length, evenOf_length])
  intro p hp hp'
  have hpx : p < xs.length := by rw [placed_length] at hp; exact hp
  obtain ⟨j, hj, rfl⟩ := List.mem_iff_getElem.1 (h.1.mem_iff.2 (List.mem_range.2 hpx))
  have hjn : j < xs.length := by omega
  have e1 := put_at (lrow (srt xs) e) ps xs.length hn xs.length (by omega) (fun i hi => h.lt i hi) j hjn
  have hjp : ps.getD j 0 = ps[j] := by simp [List.getD, List.getElem?_eq_getElem hj]
  rw [hjp, getD_at _ _ hp] at e1
  rw [e1]
  have hS : j < (srt xs).length := by rw [srt_length]; exact hjn
  have e2 : (lrow (srt xs) e).getD j 0 = min (srt xs)[j] (evenLev xs e) := by
    rw [lrow_eq _ _ 0 (srt_sorted xs)]
    simp only [List.getD, List.getElem?_map, List.getElem?_eq_getElem hS, Option.map_some, Option.getD_some]
    rfl
  rw [e2, srt_at h j hS, hjp, getD_at _ _ hpx]
  simp [evenOf]

/-- What the loop keeps: as the program's, and what the others get. -/
def EvAt (xs : List Int) (e : Int) (k : Nat) (L left : Int) : Prop := LevAt xs e k L left ∧ lrow ((srt xs).drop k) left = (lrow (srt xs) e).drop k
theorem chg_drew {lo hi : Nat} {a b : World} (h : Chg lo hi a b) : Chg lo hi a b.drew := ⟨h.os, h.tape, h.output, h.size, h.block⟩
theorem evAt_0 {xs : List Int} {e : Int} (h : partB xs = true) (h0 : 0 ≤ e) (h1 : e ≤ xs.sum) : EvAt xs e 0 0 e := ⟨levAt_0 h h0 h1, by simp⟩
theorem drop_getD (T : List Int) (k : Nat) (v : Int) (vs : List Int) (h : T.drop k = v :: vs) : T.getD k 0 = v ∧ T.drop (k + 1) = vs := by
  constructor
  · have := congrArg (fun l : List Int => l[0]?) h
    simp only [List.getElem?_drop, Nat.add_zero, List.getElem?_cons_zero] at this
    simp [List.getD, this]
  · rw [← List.drop_drop, h]; rfl
theorem lrow_drop (S : List Int) (k : Nat) (h : k < S.length) (left : Int) : lrow (S.drop k) left =
    if left < S[k] * ((S.length : Int) - (k : Int)) then List.replicate (S.length - k) (left / ((S.length : Int) - (k : Int))) else S[k] :: lrow (S.drop (k + 1)) (left - S[k]) := by
  rw [List.drop_eq_getElem_cons h]
  have e : ((S.drop (k + 1)).length : Int) + 1 = (S.length : Int) - (k : Int) := by rw [List.length_drop]; omega
  have e' : (S.drop (k + 1)).length + 1 = S.length - k := by rw [List.length_drop]; omega
  show (if left < S[k] * (((S.drop (k + 1)).length : Int) + 1) then List.replicate ((S.drop (k + 1)).length + 1) (left / (((S.drop (k + 1)).length : Int) + 1)) else _) = _
  rw [e, e']
theorem evAt_next {xs : List Int} {e : Int} {k : Nat} {L left : Int} (h : EvAt xs e k L left) (hp : partB xs = true) (hk : k < (srt xs).length) (hg : ¬ left < (srt xs)[k] * (((srt xs).length : Int) - (k : Int))) :
    EvAt xs e (k + 1) (srt xs)[k] (left - (srt xs)[k]) ∧ (lrow (srt xs) e).getD k 0 = (srt xs)[k] := by
  have h2 := h.2
  rw [lrow_drop _ k hk, if_neg hg] at h2
  obtain ⟨h3, h4⟩ := drop_getD _ _ _ _ h2.symm
  exact ⟨⟨levAt_next h.1 hp hk hg, h4.symm⟩, h3⟩
theorem evAt_stop {xs : List Int} {e : Int} {k : Nat} {L left : Int} (h : EvAt xs e k L left) (hk : k < (srt xs).length) (hg : left < (srt xs)[k] * (((srt xs).length : Int) - (k : Int))) :
    ∀ m, k ≤ m → m < (srt xs).length → (lrow (srt xs) e).getD m 0 = left / (((srt xs).length : Int) - (k : Int)) := fun m h1 h3 => by
  have h2 := h.2
  rw [lrow_drop _ k hk, if_pos hg] at h2
  have := congrArg (fun l : List Int => l[m - k]?) h2
  simp only [List.getElem?_drop, List.getElem?_replicate, if_pos (show m - k < (srt xs).length - k by omega), show k + (m - k) = m by omega] at this
  simp [List.getD, ← this]
theorem evAt_le {xs : List Int} {e : Int} {k : Nat} {L left : Int} (h : EvAt xs e k L left) (hk : k < (srt xs).length) : 0 ≤ L ∧ L ≤ (srt xs)[k] :=
  ⟨h.1.2.2.2.1, h.1.2.2.2.2 _ (by rw [List.drop_eq_getElem_cons hk]; exact List.mem_cons_self)⟩

/-- What a function that hands even awards, their level, and whether they are whole, back leaves. -/
def RetEven (w : World) (xs : List Int) (e : Int) (en : Ending) (w' : World) : Prop :=
  ∃ A c, en = .returned (.tuple #[.slice A (evenOf xs e).length c, .int .i64 (evenLev xs e), .bool (evenOk xs e)]) ∧ Own w' w.heap.size w'.heap.size A (evenOf xs e) ∧ Below w.heap.size w w'

theorem ret_three {w w' : World} {xs : List Int} {e a : Int} {b : Bool} {G : Nat} (hG : w.heap.size ≤ G) (how : Own w' G w'.heap.size (some ⟨G, 0, none⟩) (evenOf xs e)) (hb : Below w.heap.size w w') (h1 : evenLev xs e = a) (h2 : evenOk xs e = b) :
    RetEven w xs e (.returned (.tuple #[.slice (some ⟨G, 0, none⟩) xs.length xs.length, .int .i64 a, .bool b])) w' :=
  ⟨some ⟨G, 0, none⟩, xs.length, by rw [h1, h2, evenOf_length], how.more hG (Nat.le_refl _), hb⟩

end Go.Proofs.Ytdbohnaohinieaa
namespace Go.Proofs.Ytdbohnaohinieaa
open Go.RowKit

theorem even_at_bd {E : Int} {xs : List Int} (h : caseOkB E xs = true) (k : Nat) (hk : k < xs.length) : (0 ≤ xs[k] ∧ xs[k] ≤ 12) ∧ 0 ≤ (evenAw (xs.sum - E) xs)[k]'(by rw [evenAw_length]; exact hk) ∧ (evenAw (xs.sum - E) xs)[k]'(by rw [evenAw_length]; exact hk) ≤ 576 := by
  have h1 := ((caseOk_iff E xs).1 h).2.2.1 _ (List.getElem_mem hk)
  have h2 := evenLv_bd (other_ok h)
  rw [evenAw_at _ xs k hk]
  omega
/-- What an append to the row at g leaves of what was there, where g is the row made first or one made later. -/
theorem chg_row {w3 W w' : World} {B g n c : Nat} (h : Chg B (B + 1) w3 W) (hg : W.grownBy w' (Value.ownBlock (.slice (some ⟨g, 0, none⟩) n c))) (hgg : g = B ∨ w3.heap.size ≤ g) : Chg B (B + 1) w3 w' :=
  ⟨hg.os.trans h.os, hg.tape.trans h.tape, hg.output.trans h.output, Nat.le_trans h.size hg.size, fun k hk hn => (hg.block k (Nat.lt_of_lt_of_le hk h.size) (fun e => by have e' : k = g := (Option.some.inj e).symm ▸ rfl; omega)).trans (h.block k hk hn)⟩

end Go.Proofs.Ytdbohnaohinieaa
