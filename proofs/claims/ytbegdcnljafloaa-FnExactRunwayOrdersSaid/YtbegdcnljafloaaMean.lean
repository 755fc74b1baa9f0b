/-
  What a function of orders adds up over all orders of some people: words for it, and what its calls leave. No condition.
-/
import Derived.Test.YtbegdcnljafloaaWalkA
import Derived.Shelf.Abstract
namespace Go.Proofs.Ytbegdcnljafloaa
open Go.RowKit

/-- What has been added up for i, behind the orders of l, if F gives a row for each order. -/
def addF (F : List Int → List Int) (T : Nat → Int) (l : List (List Int)) (i : Nat) : Int := T i + (l.map fun o => (F o).getD i 0).sum
theorem addF_nil (F : List Int → List Int) (T : Nat → Int) : addF F T [] = T := by funext i; simp [addF]
theorem addF_append (F : List Int → List Int) (T : Nat → Int) (l m : List (List Int)) : addF F (addF F T l) m = addF F T (l ++ m) := by funext i; simp [addF, Int.add_assoc]
theorem addF_one (F : List Int → List Int) (T : Nat → Int) (o : List Int) : addF F T [o] = fun i => T i + (F o).getD i 0 := by funext i; simp [addF]
theorem addF_rg {F : List Int → List Int} (h : ∀ o k, 0 ≤ (F o).getD k 0 ∧ (F o).getD k 0 ≤ 20000) (T : Nat → Int) (i : Nat) : ∀ l : List (List Int), T i ≤ addF F T l i ∧ addF F T l i ≤ T i + 20000 * l.length
  | [] => by simp [addF]
  | o :: l => by
    have e := addF_rg h T i l
    have e2 := h o i
    simp only [addF, List.map_cons, List.sum_cons, List.length_cons] at *
    rw [Int.natCast_add, Int.mul_add]
    omega
/-- The mean over all orders of n people. -/
def meanF (F : List Int → List Int) (n i : Nat) : Int := addF F (fun _ => 0) (ords n n []) i / fac n
def meanRow (F : List Int → List Int) (n : Nat) : List Int := fnRow n (meanF F n)
theorem addF_perms {F : List Int → List Int} {n : Nat} (h : n ≤ 4) (i : Nat) : addF F (fun _ => 0) (ords n n []) i = ((perms n).map fun o => (F o).getD i 0).sum := by
  simp only [addF, Int.zero_add]
  rw [sum_perm ((List.isPerm_iff.1 (ords_perm n h)).map _)]
/-- A row to whose first j numbers those of another are added. -/
def addsTo (T : Nat → Int) (O : List Int) (j : Nat) (i : Nat) : Int := if i < j then T i + O.getD i 0 else T i
theorem addsTo_zero (T : Nat → Int) (O : List Int) (n : Nat) : fnRow n (addsTo T O 0) = fnRow n T := fnRow_congr fun _ _ => if_neg (by omega)
theorem addsTo_all (T : Nat → Int) (O : List Int) (n : Nat) : fnRow n (addsTo T O n) = fnRow n (fun i => T i + O.getD i 0) := fnRow_congr fun _ hi => if_pos hi
theorem addsTo_step {T : Nat → Int} {O : List Int} {n j : Nat} (hj : j < n) {v u : Int} (hv : v = (fnRow n (addsTo T O j)).getD j 0) (hu : u = O.getD j 0) : (fnRow n (addsTo T O j)).set j (v + u) = fnRow n (addsTo T O (j + 1)) := by
  refine fnRow_set (fun i _ hn => ?_) ?_
  · unfold addsTo
    by_cases e : i < j
    · rw [if_pos e, if_pos (by omega)]
    · rw [if_neg e, if_neg (by omega)]
  · rw [hv, fnRow_getD _ hj, hu]
    unfold addsTo
    rw [if_neg (by omega), if_pos (by omega)]
theorem addsTo_rg {O : List Int} (h : ∀ k, 0 ≤ O.getD k 0 ∧ O.getD k 0 ≤ 20000) {T : Nat → Int} (hT : ∀ i, 0 ≤ T i ∧ T i ≤ 600000) {n j k : Nat} (hk : k < n) : 0 ≤ (fnRow n (addsTo T O j)).getD k 0 ∧ (fnRow n (addsTo T O j)).getD k 0 ≤ 700000 := by
  rw [fnRow_getD _ hk]
  have e := hT k
  have e2 := h k
  unfold addsTo
  split <;> omega
/-- The row of which the first q numbers are divided. -/
def meanTo (F : List Int → List Int) (n q i : Nat) : Int := if i < q then meanF F n i else addF F (fun _ => 0) (ords n n []) i
theorem meanTo_zero (F : List Int → List Int) (n : Nat) : fnRow n (meanTo F n 0) = fnRow n (addF F (fun _ => 0) (ords n n [])) := fnRow_congr fun _ _ => if_neg (by omega)
theorem meanTo_all (F : List Int → List Int) (n : Nat) : fnRow n (meanTo F n n) = meanRow F n := fnRow_congr fun _ hi => if_pos hi
theorem meanTo_step {F : List Int → List Int} {n q : Nat} (hq : q < n) {v f : Int} (hv : v = (fnRow n (meanTo F n q)).getD q 0) (hF : fac n = f) : (fnRow n (meanTo F n q)).set q (v / f) = fnRow n (meanTo F n (q + 1)) := by
  refine fnRow_set (fun i _ hn => ?_) ?_
  · unfold meanTo
    by_cases e : i < q
    · rw [if_pos e, if_pos (by omega)]
    · rw [if_neg e, if_neg (by omega)]
  · rw [hv, fnRow_getD _ hq, ← hF]
    unfold meanTo
    rw [if_neg (by omega), if_pos (by omega)]
    rfl
theorem meanTo_rg {F : List Int → List Int} (h : ∀ o k, 0 ≤ (F o).getD k 0 ∧ (F o).getD k 0 ≤ 20000) {n : Nat} (h4 : n ≤ 4) {q k : Nat} (hk : k < n) (hq : q ≤ k) : 0 ≤ (fnRow n (meanTo F n q)).getD k 0 ∧ (fnRow n (meanTo F n q)).getD k 0 ≤ 600000 := by
  have hf := ords_few h4
  have e := addF_rg h (fun _ => 0) k (ords n n [])
  rw [fnRow_getD _ hk]
  unfold meanTo
  rw [if_neg (by omega)]
  constructor <;> omega
/-- A function value that captures one variable gives such a row for each order, in whatever world that has kept the blocks of w0. -/
def RowOf (K : FuncId) (v1 : Value) (n : Nat) (F : List Int → List Int) (w0 : World) : Prop :=
  ∀ (D : Option Addr) (d : Nat) (os : List Int) (w : World) (lo hi : Nat), Below w0.heap.size w0 w → Ints w lo hi D os → hi ≤ w.heap.size → orderB n os = true → Calls Try.prog K #[.slice D n d, v1] w (RetInts w (F os))
/-- What such a walk may turn leaves the blocks of w0. -/
theorem Wk.below {G L : Nat} {D : Option Addr} {w0 w w' : World} (h : Wk G D w w') (b : Below L w0 w) (hL : L ≤ w0.heap.size) (hG : L ≤ G) (hD : ∀ k, k < L → ¬ D = some ⟨k, 0, none⟩) : Below L w0 w' :=
  ⟨h.os.trans b.os, h.tape.trans b.tape, h.output.trans b.output, Nat.le_trans b.size h.size, fun k hk => (h.block k (Nat.lt_of_lt_of_le hk (Nat.le_trans hL b.size)) (by omega) (hD k hk)).trans (b.block k hk)⟩

end Go.Proofs.Ytbegdcnljafloaa
