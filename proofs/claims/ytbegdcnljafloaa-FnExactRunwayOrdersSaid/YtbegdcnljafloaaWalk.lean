/-
  All orders of some people, one after the other, as a function visits them that calls itself and a function value: the orders, what they add up to, what such a walk may turn in memory. No condition.
-/
import Derived.Test.YtbegdcnljafloaaGame7J
namespace Go.Proofs.Ytbegdcnljafloaa
open Go.RowKit

/-! The orders that begin with os, d more people to come. -/
def ords (n : Nat) : Nat → List Int → List (List Int)
  | 0, os => [os]
  | d + 1, os => (List.range n).flatMap fun (q : Nat) => if os.contains (q : Int) then [] else ords n d (os ++ [(q : Int)])
/-- Those of them that go on with the people below p. -/
def ordsTo (n d : Nat) (os : List Int) (p : Nat) : List (List Int) := (List.range p).flatMap fun (q : Nat) => if os.contains (q : Int) then [] else ords n d (os ++ [(q : Int)])
theorem ordsTo_zero (n d : Nat) (os : List Int) : ordsTo n d os 0 = [] := rfl
theorem ordsTo_succ (n d : Nat) (os : List Int) (p : Nat) : ordsTo n d os (p + 1) = ordsTo n d os p ++ (if os.contains (p : Int) then [] else ords n d (os ++ [(p : Int)])) := by
  simp [ordsTo, List.range_succ]
theorem ordsTo_yes {n d : Nat} {os : List Int} {p : Nat} (h : os.contains (p : Int) = true) : ordsTo n d os (p + 1) = ordsTo n d os p := by rw [ordsTo_succ, if_pos h, List.append_nil]
theorem ordsTo_no {n d : Nat} {os : List Int} {p : Nat} (h : os.contains (p : Int) = false) : ordsTo n d os (p + 1) = ordsTo n d os p ++ ords n d (os ++ [(p : Int)]) := by rw [ordsTo_succ, if_neg (by rw [h]; simp)]
theorem ordsTo_all (n d : Nat) (os : List Int) : ordsTo n d os n = ords n (d + 1) os := rfl
theorem ordsTo_mono (n d : Nat) (os : List Int) {p : Nat} : ∀ k, (ordsTo n d os p).length ≤ (ordsTo n d os (p + k)).length
  | 0 => Nat.le_refl _
  | k + 1 => by
    refine Nat.le_trans (ordsTo_mono n d os k) ?_
    show _ ≤ (ordsTo n d os (p + k + 1)).length
    rw [ordsTo_succ, List.length_append]; omega
theorem ordsTo_le {n d : Nat} {os : List Int} {p q : Nat} (h : p ≤ q) : (ordsTo n d os p).length ≤ (ordsTo n d os q).length := by
  have e := ordsTo_mono n d os (p := p) (q - p)
  rwa [show p + (q - p) = q from by omega] at e
theorem ords_in {n d p : Nat} {os o : List Int} (hp : p < n) (hc : os.contains (p : Int) = false) (h : o ∈ ords n d (os ++ [(p : Int)])) : o ∈ ords n (d + 1) os := by
  show o ∈ (List.range n).flatMap _
  refine List.mem_flatMap.2 ⟨p, List.mem_range.2 hp, ?_⟩
  rw [if_neg (by rw [hc]; simp)]; exact h
theorem ords_perm : ∀ n, n ≤ 4 → (ords n n []).isPerm (perms n) = true
  | 0, _ => by decide
  | 1, _ => by decide
  | 2, _ => by decide +kernel
  | 3, _ => by decide +kernel
  | 4, _ => by decide +kernel
  | k + 5, h => by omega
theorem ords_few {n : Nat} (h : n ≤ 4) : (ords n n []).length ≤ 24 := by
  rw [(List.isPerm_iff.1 (ords_perm n h)).length_eq]; exact (perms_few n h).2
theorem ords_ok {n : Nat} (h : n ≤ 4) {o : List Int} (ho : o ∈ ords n n []) : orderB n o = true := perms_order h ((List.isPerm_iff.1 (ords_perm n h)).mem_iff.1 ho)
/-- What has been added up for i, behind the orders of l. -/
def addL (E : Int) (xs : List Int) (T : Nat → Int) (l : List (List Int)) (i : Nat) : Int := T i + (l.map fun o => (ordAw E xs o).getD i 0).sum
theorem addL_nil (E : Int) (xs : List Int) (T : Nat → Int) : addL E xs T [] = T := by funext i; simp [addL]
theorem addL_append (E : Int) (xs : List Int) (T : Nat → Int) (l m : List (List Int)) : addL E xs (addL E xs T l) m = addL E xs T (l ++ m) := by funext i; simp [addL, Int.add_assoc]
theorem addL_one (E : Int) (xs : List Int) (T : Nat → Int) (o : List Int) : addL E xs T [o] = fun i => T i + (ordAw E xs o).getD i 0 := by funext i; simp [addL]
theorem addL_rg {E : Int} {xs : List Int} (h : caseOkB E xs = true) (T : Nat → Int) (i : Nat) : ∀ l : List (List Int), T i ≤ addL E xs T l i ∧ addL E xs T l i ≤ T i + 2304 * l.length
  | [] => by simp [addL]
  | o :: l => by
    have e := addL_rg h T i l
    have e2 := ordAw_rg (os := o) h i
    simp only [addL, List.map_cons, List.sum_cons, List.length_cons] at *
    rw [Int.natCast_add, Int.mul_add]
    omega
theorem addL_all {E : Int} {xs : List Int} (h : caseOkB E xs = true) {i : Nat} (hi : i < xs.length) : addL E xs (fun _ => 0) (ords xs.length xs.length []) i / fac xs.length = arrAt E xs i := by
  have hb := caseOk_bd h
  have e := ord_mean (E := E) (xs := xs) (by omega) (by omega) hi
  rw [perms_fac (by omega)] at e
  rw [← e]
  simp only [addL, Int.zero_add]
  rw [sum_perm ((List.isPerm_iff.1 (ords_perm xs.length (by omega))).map _)]

/-! What such a walk may turn. -/
/-- Of the blocks that were there only G and the block at whose start D lies may have turned. -/
structure Wk (G : Nat) (D : Option Addr) (w w' : World) : Prop where
  os : w'.os = w.os
  tape : w'.tape = w.tape
  output : w'.output = w.output
  size : w.heap.size ≤ w'.heap.size
  block : ∀ k, k < w.heap.size → ¬ k = G → ¬ D = some ⟨k, 0, none⟩ → w'.heap[k]? = w.heap[k]?
section
variable {G : Nat} {D : Option Addr} {w w' w'' : World}
theorem Wk.refl (G : Nat) (D : Option Addr) (w : World) : Wk G D w w := ⟨rfl, rfl, rfl, Nat.le_refl _, fun _ _ _ _ => rfl⟩
theorem Wk.trans (h : Wk G D w w') (k : Wk G D w' w'') : Wk G D w w'' :=
  ⟨k.os.trans h.os, k.tape.trans h.tape, k.output.trans h.output, Nat.le_trans h.size k.size, fun i h1 h2 h3 => (k.block i (Nat.lt_of_lt_of_le h1 h.size) h2 h3).trans (h.block i h1 h2 h3)⟩
theorem Wk.of_chg (h : Chg G (G + 1) w w') : Wk G D w w' := ⟨h.os, h.tape, h.output, h.size, fun k h1 h2 _ => h.block k h1 (by omega)⟩
theorem Wk.of_own {g : Nat} (h : Chg g (g + 1) w w') (e : D = some ⟨g, 0, none⟩) : Wk G D w w' :=
  ⟨h.os, h.tape, h.output, h.size, fun k h1 _ h3 => h.block k h1 (fun q => h3 (by rw [e, show g = k by omega]))⟩
theorem Wk.of_below (h : Below w.heap.size w w') : Wk G D w w' := ⟨h.os, h.tape, h.output, h.size, fun k h1 _ _ => h.block k h1⟩
theorem Wk.of_new {g : Nat} (h : Wk G (some ⟨g, 0, none⟩) w' w'') (b : Wk G D w w') (hg : w.heap.size ≤ g) : Wk G D w w'' :=
  ⟨h.os.trans b.os, h.tape.trans b.tape, h.output.trans b.output, Nat.le_trans b.size h.size, fun k h1 h2 h3 => (h.block k (Nat.lt_of_lt_of_le h1 b.size) h2 (fun e => by injection e with e; injection e with e; omega)).trans (b.block k h1 h2 h3)⟩
theorem Wk.chg (h : Wk G none w w') : Chg G (G + 1) w w' := ⟨h.os, h.tape, h.output, h.size, fun k h1 h2 => h.block k h1 (by omega) (by simp)⟩
theorem Wk.cell (h : Wk G D w w') {b o : Nat} (hb : b < w.heap.size) (h1 : ¬ b = G) (h2 : ¬ D = some ⟨b, 0, none⟩) : w'.cell? ⟨b, o, none⟩ = w.cell? ⟨b, o, none⟩ := World.cell?_of_block (w := w) (a := ⟨b, o, none⟩) (h.block b hb h1 h2)
theorem Wk.ints {lo hi : Nat} {A : Option Addr} {xs : List Int} (h : Wk G D w w') (hi' : Ints w lo hi A xs) (hs : hi ≤ w.heap.size) (h1 : hi ≤ G) (h2 : ∀ k, k < hi → ¬ D = some ⟨k, 0, none⟩) : Ints w' lo hi A xs := fun hn => by
  obtain ⟨b, o, e, a1, a2, hc⟩ := hi' hn
  exact ⟨b, o, e, a1, a2, fun j hj => (h.cell (by omega) (by omega) (h2 b a2)).trans (hc j hj)⟩
theorem Wk.grow {g c : Nat} {xs : List Int} (h : Wk G D w w') (hg : Grow w g c xs) (h1 : ¬ g = G) (h2 : ¬ D = some ⟨g, 0, none⟩) : Grow w' g c xs := by
  have e := h.block g hg.lt h1 h2
  refine ⟨⟨hg.1.1, ?_⟩, Nat.lt_of_lt_of_le hg.2 h.size⟩
  rcases hg.1.2 with ⟨e', _⟩ | ⟨g', cap, cur, e', hb, hh, r⟩
  · cases e'
  · have e'' := e'
    injection e' with e1 _ _
    injection e1 with e1
    injection e1 with e1 _ _
    subst e1
    exact .inr ⟨g, cap, cur, e'', hb, e.trans hh, r⟩
/-- Of a grown row its beginning is one, with the same room. -/
theorem grow_first {g c : Nat} {xs : List Int} {x : Int} (h : Grow w g c (xs ++ [x])) : Grow w g c xs := by
  refine ⟨⟨by simp [ints_length], ?_⟩, h.2⟩
  rcases h.1.2 with ⟨e, _⟩ | ⟨g', cap, cur, e, hb, hh, h1, h2, h3, h4⟩
  · cases e
  · injection e with e1 _ e3
    injection e1 with e1
    injection e1 with e1 _ _
    subst e1; subst e3
    refine .inr ⟨g, c, cur, rfl, hb, hh, by rw [List.length_append] at h1; omega, h2, h3, ?_⟩
    have e4 := congrArg (List.take xs.length) h4
    rw [List.take_take] at e4
    have e5 : (xs ++ [x]).length * 1 = xs.length + 1 := by rw [Nat.mul_one, List.length_append]; rfl
    rw [e5, show min xs.length (xs.length + 1) = xs.length by omega] at e4
    rw [Nat.mul_one, e4, show ints (xs ++ [x]) = ints xs ++ ints [x] from by simp [ints], List.take_left' (by rw [ints_length])]
end
end Go.Proofs.Ytbegdcnljafloaa
