/-
  Awards by an order, in plain mathematics: at each place of the order what that person gets behind those before; all orders of at most four people; their mean is the row of arrivals. No condition but those of a case and an order.
-/
import Derived.Test.YtbegdcnljafloaaArr
import Derived.Test.YtbegdcnljafloaaGC
namespace Go.Proofs.Ytbegdcnljafloaa
open Go.RowKit

/-- What those at the first places of an order claim. -/
def bef (xs os : List Int) : Nat → Int
  | 0 => 0
  | p + 1 => bef xs os p + xs.getD (os.getD p 0).toNat 0
/-- What the one at a place of an order gets. -/
def posAt (E : Int) (xs os : List Int) (p : Nat) : Int := 48 * mar E (xs.getD (os.getD p 0).toNat 0) (bef xs os p)
def posRow (E : Int) (xs os : List Int) : List Int := (List.range os.length).map (posAt E xs os)
/-- Awards by an order. -/
def ordAw (E : Int) (xs os : List Int) : List Int := placed (posRow E xs os) os xs.length os.length
/-- All orders of so many people. -/
def perms : Nat → List (List Int)
  | 0 => [[]]
  | 1 => [[0]]
  | 2 => [[1, 0], [0, 1]]
  | 3 => [[2, 1, 0], [1, 2, 0], [1, 0, 2], [2, 0, 1], [0, 2, 1], [0, 1, 2]]
  | 4 => [[3, 2, 1, 0], [2, 3, 1, 0], [2, 1, 3, 0], [2, 1, 0, 3], [3, 1, 2, 0], [1, 3, 2, 0], [1, 2, 3, 0], [1, 2, 0, 3], [3, 1, 0, 2], [1, 3, 0, 2], [1, 0, 3, 2], [1, 0, 2, 3], [3, 2, 0, 1], [2, 3, 0, 1], [2, 0, 3, 1], [2, 0, 1, 3], [3, 0, 2, 1], [0, 3, 2, 1], [0, 2, 3, 1], [0, 2, 1, 3], [3, 0, 1, 2], [0, 3, 1, 2], [0, 1, 3, 2], [0, 1, 2, 3]]
  | _ => []
theorem ordTo_dec (ys : List Int) (n : Nat) : ∀ k, OrdTo ys n k ↔ (List.range k).all (fun j => decide (0 ≤ ys.getD j 0 ∧ ys.getD j 0 < n ∧ (seenAt ys n j).getD (ys.getD j 0).toNat false = false)) = true := fun k => by
  simp only [List.all_eq_true, List.mem_range, decide_eq_true_eq]
  exact Iff.rfl
theorem perms_fin1 : ∀ x0 : Fin 1, (List.range 1).all (fun j => decide (0 ≤ ([(x0.val : Int)] : List Int).getD j 0 ∧ ([(x0.val : Int)] : List Int).getD j 0 < (1 : Nat) ∧ (seenAt [(x0.val : Int)] 1 j).getD (([(x0.val : Int)] : List Int).getD j 0).toNat false = false)) = true → ([(x0.val : Int)] : List Int) ∈ perms 1 := by decide +kernel
theorem perms_fin2 : ∀ x0 x1 : Fin 2, (List.range 2).all (fun j => decide (0 ≤ ([(x0.val : Int), (x1.val : Int)] : List Int).getD j 0 ∧ ([(x0.val : Int), (x1.val : Int)] : List Int).getD j 0 < (2 : Nat) ∧ (seenAt [(x0.val : Int), (x1.val : Int)] 2 j).getD (([(x0.val : Int), (x1.val : Int)] : List Int).getD j 0).toNat false = false)) = true → ([(x0.val : Int), (x1.val : Int)] : List Int) ∈ perms 2 := by decide +kernel
theorem perms_fin3 : ∀ x0 x1 x2 : Fin 3, (List.range 3).all (fun j => decide (0 ≤ ([(x0.val : Int), (x1.val : Int), (x2.val : Int)] : List Int).getD j 0 ∧ ([(x0.val : Int), (x1.val : Int), (x2.val : Int)] : List Int).getD j 0 < (3 : Nat) ∧ (seenAt [(x0.val : Int), (x1.val : Int), (x2.val : Int)] 3 j).getD (([(x0.val : Int), (x1.val : Int), (x2.val : Int)] : List Int).getD j 0).toNat false = false)) = true → ([(x0.val : Int), (x1.val : Int), (x2.val : Int)] : List Int) ∈ perms 3 := by decide +kernel
theorem perms_fin4 : ∀ x0 x1 x2 x3 : Fin 4, (List.range 4).all (fun j => decide (0 ≤ ([(x0.val : Int), (x1.val : Int), (x2.val : Int), (x3.val : Int)] : List Int).getD j 0 ∧ ([(x0.val : Int), (x1.val : Int), (x2.val : Int), (x3.val : Int)] : List Int).getD j 0 < (4 : Nat) ∧ (seenAt [(x0.val : Int), (x1.val : Int), (x2.val : Int), (x3.val : Int)] 4 j).getD (([(x0.val : Int), (x1.val : Int), (x2.val : Int), (x3.val : Int)] : List Int).getD j 0).toNat false = false)) = true → ([(x0.val : Int), (x1.val : Int), (x2.val : Int), (x3.val : Int)] : List Int) ∈ perms 4 := by decide +kernel
theorem order_in {n : Nat} {os : List Int} (h1 : 1 ≤ n) (h4 : n ≤ 4) (h : orderB n os = true) : os ∈ perms n := by
  obtain ⟨hl, ho⟩ := order_iff h
  have hr := fun j hj => (ho j hj)
  have nat : ∀ j, j < os.length → ∃ y : Fin n, os.getD j 0 = (y.val : Int) := fun j hj => by
    have e := ho j hj
    exact ⟨⟨(os.getD j 0).toNat, by have := e.1; have := e.2.1; omega⟩, by have := e.1; show _ = (((os.getD j 0).toNat : Nat) : Int); omega⟩
  have ho2 := (ordTo_dec os n os.length).1 ho
  rw [hl] at ho2
  rcases (show n = 1 ∨ n = 2 ∨ n = 3 ∨ n = 4 from by omega) with rfl | rfl | rfl | rfl
  · match os, hl, nat, ho2 with
    | [x0], _, nat, ho2 =>
      obtain ⟨y0, e0⟩ := nat 0 (by simp)
      simp only [List.getD_cons_zero] at e0
      subst e0
      exact perms_fin1 y0 ho2
  · match os, hl, nat, ho2 with
    | [x0, x1], _, nat, ho2 =>
      obtain ⟨y0, e0⟩ := nat 0 (by simp)
      obtain ⟨y1, e1⟩ := nat 1 (by simp)
      simp only [List.getD_cons_zero, List.getD_cons_succ] at e0 e1
      subst e0 e1
      exact perms_fin2 y0 y1 ho2
  · match os, hl, nat, ho2 with
    | [x0, x1, x2], _, nat, ho2 =>
      obtain ⟨y0, e0⟩ := nat 0 (by simp)
      obtain ⟨y1, e1⟩ := nat 1 (by simp)
      obtain ⟨y2, e2⟩ := nat 2 (by simp)
      simp only [List.getD_cons_zero, List.getD_cons_succ] at e0 e1 e2
      subst e0 e1 e2
      exact perms_fin3 y0 y1 y2 ho2
  · match os, hl, nat, ho2 with
    | [x0, x1, x2, x3], _, nat, ho2 =>
      obtain ⟨y0, e0⟩ := nat 0 (by simp)
      obtain ⟨y1, e1⟩ := nat 1 (by simp)
      obtain ⟨y2, e2⟩ := nat 2 (by simp)
      obtain ⟨y3, e3⟩ := nat 3 (by simp)
      simp only [List.getD_cons_zero, List.getD_cons_succ] at e0 e1 e2 e3
      subst e0 e1 e2 e3
      exact perms_fin4 y0 y1 y2 y3 ho2

theorem posRow_length (E : Int) (xs os : List Int) : (posRow E xs os).length = os.length := by simp [posRow]
theorem posRow_getD (E : Int) (xs os : List Int) (p : Nat) (h : p < os.length) : (posRow E xs os).getD p 0 = posAt E xs os p := by
  rw [getD_of_lt _ p (by rw [posRow_length]; exact h)]; simp [posRow]
theorem ordAw_length (E : Int) (xs os : List Int) : (ordAw E xs os).length = xs.length := placed_length _ _ _ _
/-- Who stands at a place of the order gets what is said there. -/
theorem ordAw_at {E : Int} {xs os : List Int} {p j : Nat} (ho : OrdTo os xs.length os.length) (hp : p < os.length) (hj : (os.getD p 0).toNat = j) : (ordAw E xs os).getD j 0 = posAt E xs os p := by
  rw [← hj, ordAw, placed_at _ _ _ _ ho p hp, posRow_getD E xs os p hp]
theorem ordTot_10 {E a : Int} : ((perms 1).map fun os => (ordAw E [a] os).getD 0 0).sum = 48 * shp E a ([] : List Int) 0 0 0 := by
  have t0 : (ordAw E [a] [0]).getD 0 0 = 48 * mar E a (0) := ordAw_at (p := 0) ((ordTo_dec [0] 1 1).2 (by decide)) (by decide) rfl
  simp only [perms, List.map_cons, List.map_nil, List.sum_cons, List.sum_nil, shp, t0]
  simp only [fac_0]
  omega
theorem ordTot_20 {E a b : Int} : ((perms 2).map fun os => (ordAw E [a, b] os).getD 0 0).sum = 48 * shp E a ([b] : List Int) 0 0 0 := by
  have t0 : (ordAw E [a, b] [1, 0]).getD 0 0 = 48 * mar E a (0 + b) := ordAw_at (p := 1) ((ordTo_dec [1, 0] 2 2).2 (by decide)) (by decide) rfl
  have t1 : (ordAw E [a, b] [0, 1]).getD 0 0 = 48 * mar E a (0) := ordAw_at (p := 0) ((ordTo_dec [0, 1] 2 2).2 (by decide)) (by decide) rfl
  simp only [perms, List.map_cons, List.map_nil, List.sum_cons, List.sum_nil, shp, t0, t1]
  simp only [Nat.zero_add, fac_0, fac_1]
  omega
theorem ordTot_21 {E a b : Int} : ((perms 2).map fun os => (ordAw E [a, b] os).getD 1 0).sum = 48 * shp E b ([a] : List Int) 0 0 0 := by
  have t0 : (ordAw E [a, b] [1, 0]).getD 1 0 = 48 * mar E b (0) := ordAw_at (p := 0) ((ordTo_dec [1, 0] 2 2).2 (by decide)) (by decide) rfl
  have t1 : (ordAw E [a, b] [0, 1]).getD 1 0 = 48 * mar E b (0 + a) := ordAw_at (p := 1) ((ordTo_dec [0, 1] 2 2).2 (by decide)) (by decide) rfl
  simp only [perms, List.map_cons, List.map_nil, List.sum_cons, List.sum_nil, shp, t0, t1]
  simp only [Nat.zero_add, fac_0, fac_1]
  omega
theorem ordTot_30 {E a b c : Int} : ((perms 3).map fun os => (ordAw E [a, b, c] os).getD 0 0).sum = 48 * shp E a ([b, c] : List Int) 0 0 0 := by
  have t0 : (ordAw E [a, b, c] [2, 1, 0]).getD 0 0 = 48 * mar E a (0 + c + b) := ordAw_at (p := 2) ((ordTo_dec [2, 1, 0] 3 3).2 (by decide)) (by decide) rfl
  have t1 : (ordAw E [a, b, c] [1, 2, 0]).getD 0 0 = 48 * mar E a (0 + b + c) := ordAw_at (p := 2) ((ordTo_dec [1, 2, 0] 3 3).2 (by decide)) (by decide) rfl
  have t2 : (ordAw E [a, b, c] [1, 0, 2]).getD 0 0 = 48 * mar E a (0 + b) := ordAw_at (p := 1) ((ordTo_dec [1, 0, 2] 3 3).2 (by decide)) (by decide) rfl
  have t3 : (ordAw E [a, b, c] [2, 0, 1]).getD 0 0 = 48 * mar E a (0 + c) := ordAw_at (p := 1) ((ordTo_dec [2, 0, 1] 3 3).2 (by decide)) (by decide) rfl
  have t4 : (ordAw E [a, b, c] [0, 2, 1]).getD 0 0 = 48 * mar E a (0) := ordAw_at (p := 0) ((ordTo_dec [0, 2, 1] 3 3).2 (by decide)) (by decide) rfl
  have t5 : (ordAw E [a, b, c] [0, 1, 2]).getD 0 0 = 48 * mar E a (0) := ordAw_at (p := 0) ((ordTo_dec [0, 1, 2] 3 3).2 (by decide)) (by decide) rfl
  have r0 : 0 + c + b = 0 + b + c := by omega
  simp only [perms, List.map_cons, List.map_nil, List.sum_cons, List.sum_nil, shp, t0, t1, t2, t3, t4, t5, r0]
  simp only [Nat.zero_add, Nat.reduceAdd, fac_0, fac_1, fac_2]
  omega
theorem ordTot_31 {E a b c : Int} : ((perms 3).map fun os => (ordAw E [a, b, c] os).getD 1 0).sum = 48 * shp E b ([a, c] : List Int) 0 0 0 := by
  have t0 : (ordAw E [a, b, c] [2, 1, 0]).getD 1 0 = 48 * mar E b (0 + c) := ordAw_at (p := 1) ((ordTo_dec [2, 1, 0] 3 3).2 (by decide)) (by decide) rfl
  have t1 : (ordAw E [a, b, c] [1, 2, 0]).getD 1 0 = 48 * mar E b (0) := ordAw_at (p := 0) ((ordTo_dec [1, 2, 0] 3 3).2 (by decide)) (by decide) rfl
  have t2 : (ordAw E [a, b, c] [1, 0, 2]).getD 1 0 = 48 * mar E b (0) := ordAw_at (p := 0) ((ordTo_dec [1, 0, 2] 3 3).2 (by decide)) (by decide) rfl
  have t3 : (ordAw E [a, b, c] [2, 0, 1]).getD 1 0 = 48 * mar E b (0 + c + a) := ordAw_at (p := 2) ((ordTo_dec [2, 0, 1] 3 3).2 (by decide)) (by decide) rfl
  have t4 : (ordAw E [a, b, c] [0, 2, 1]).getD 1 0 = 48 * mar E b (0 + a + c) := ordAw_at (p := 2) ((ordTo_dec [0, 2, 1] 3 3).2 (by decide)) (by decide) rfl
  have t5 : (ordAw E [a, b, c] [0, 1, 2]).getD 1 0 = 48 * mar E b (0 + a) := ordAw_at (p := 1) ((ordTo_dec [0, 1, 2] 3 3).2 (by decide)) (by decide) rfl
  have r0 : 0 + c + a = 0 + a + c := by omega
  simp only [perms, List.map_cons, List.map_nil, List.sum_cons, List.sum_nil, shp, t0, t1, t2, t3, t4, t5, r0]
  simp only [Nat.zero_add, Nat.reduceAdd, fac_0, fac_1, fac_2]
  omega
theorem ordTot_32 {E a b c : Int} : ((perms 3).map fun os => (ordAw E [a, b, c] os).getD 2 0).sum = 48 * shp E c ([a, b] : List Int) 0 0 0 := by
  have t0 : (ordAw E [a, b, c] [2, 1, 0]).getD 2 0 = 48 * mar E c (0) := ordAw_at (p := 0) ((ordTo_dec [2, 1, 0] 3 3).2 (by decide)) (by decide) rfl
  have t1 : (ordAw E [a, b, c] [1, 2, 0]).getD 2 0 = 48 * mar E c (0 + b) := ordAw_at (p := 1) ((ordTo_dec [1, 2, 0] 3 3).2 (by decide)) (by decide) rfl
  have t2 : (ordAw E [a, b, c] [1, 0, 2]).getD 2 0 = 48 * mar E c (0 + b + a) := ordAw_at (p := 2) ((ordTo_dec [1, 0, 2] 3 3).2 (by decide)) (by decide) rfl
  have t3 : (ordAw E [a, b, c] [2, 0, 1]).getD 2 0 = 48 * mar E c (0) := ordAw_at (p := 0) ((ordTo_dec [2, 0, 1] 3 3).2 (by decide)) (by decide) rfl
  have t4 : (ordAw E [a, b, c] [0, 2, 1]).getD 2 0 = 48 * mar E c (0 + a) := ordAw_at (p := 1) ((ordTo_dec [0, 2, 1] 3 3).2 (by decide)) (by decide) rfl
  have t5 : (ordAw E [a, b, c] [0, 1, 2]).getD 2 0 = 48 * mar E c (0 + a + b) := ordAw_at (p := 2) ((ordTo_dec [0, 1, 2] 3 3).2 (by decide)) (by decide) rfl
  have r0 : 0 + b + a = 0 + a + b := by omega
  simp only [perms, List.map_cons, List.map_nil, List.sum_cons, List.sum_nil, shp, t0, t1, t2, t3, t4, t5, r0]
  simp only [Nat.zero_add, Nat.reduceAdd, fac_0, fac_1, fac_2]
  omega
theorem ordTot_40 {E a b c d : Int} : ((perms 4).map fun os => (ordAw E [a, b, c, d] os).getD 0 0).sum = 48 * shp E a ([b, c, d] : List Int) 0 0 0 := by
  have t0 : (ordAw E [a, b, c, d] [3, 2, 1, 0]).getD 0 0 = 48 * mar E a (0 + d + c + b) := ordAw_at (p := 3) ((ordTo_dec [3, 2, 1, 0] 4 4).2 (by decide)) (by decide) rfl
  have t1 : (ordAw E [a, b, c, d] [2, 3, 1, 0]).getD 0 0 = 48 * mar E a (0 + c + d + b) := ordAw_at (p := 3) ((ordTo_dec [2, 3, 1, 0] 4 4).2 (by decide)) (by decide) rfl
  have t2 : (ordAw E [a, b, c, d] [2, 1, 3, 0]).getD 0 0 = 48 * mar E a (0 + c + b + d) := ordAw_at (p := 3) ((ordTo_dec [2, 1, 3, 0] 4 4).2 (by decide)) (by decide) rfl
  have t3 : (ordAw E [a, b, c, d] [2, 1, 0, 3]).getD 0 0 = 48 * mar E a (0 + c + b) := ordAw_at (p := 2) ((ordTo_dec [2, 1, 0, 3] 4 4).2 (by decide)) (by decide) rfl
  have t4 : (ordAw E [a, b, c, d] [3, 1, 2, 0]).getD 0 0 = 48 * mar E a (0 + d + b + c) := ordAw_at (p := 3) ((ordTo_dec [3, 1, 2, 0] 4 4).2 (by decide)) (by decide) rfl
  have t5 : (ordAw E [a, b, c, d] [1, 3, 2, 0]).getD 0 0 = 48 * mar E a (0 + b + d + c) := ordAw_at (p := 3) ((ordTo_dec [1, 3, 2, 0] 4 4).2 (by decide)) (by decide) rfl
  have t6 : (ordAw E [a, b, c, d] [1, 2, 3, 0]).getD 0 0 = 48 * mar E a (0 + b + c + d) := ordAw_at (p := 3) ((ordTo_dec [1, 2, 3, 0] 4 4).2 (by decide)) (by decide) rfl
  have t7 : (ordAw E [a, b, c, d] [1, 2, 0, 3]).getD 0 0 = 48 * mar E a (0 + b + c) := ordAw_at (p := 2) ((ordTo_dec [1, 2, 0, 3] 4 4).2 (by decide)) (by decide) rfl
  have t8 : (ordAw E [a, b, c, d] [3, 1, 0, 2]).getD 0 0 = 48 * mar E a (0 + d + b) := ordAw_at (p := 2) ((ordTo_dec [3, 1, 0, 2] 4 4).2 (by decide)) (by decide) rfl
  have t9 : (ordAw E [a, b, c, d] [1, 3, 0, 2]).getD 0 0 = 48 * mar E a (0 + b + d) := ordAw_at (p := 2) ((ordTo_dec [1, 3, 0, 2] 4 4).2 (by decide)) (by decide) rfl
  have t10 : (ordAw E [a, b, c, d] [1, 0, 3, 2]).getD 0 0 = 48 * mar E a (0 + b) := ordAw_at (p := 1) ((ordTo_dec [1, 0, 3, 2] 4 4).2 (by decide)) (by decide) rfl
  have t11 : (ordAw E [a, b, c, d] [1, 0, 2, 3]).getD 0 0 = 48 * mar E a (0 + b) := ordAw_at (p := 1) ((ordTo_dec [1, 0, 2, 3] 4 4).2 (by decide)) (by decide) rfl
  have t12 : (ordAw E [a, b, c, d] [3, 2, 0, 1]).getD 0 0 = 48 * mar E a (0 + d + c) := ordAw_at (p := 2) ((ordTo_dec [3, 2, 0, 1] 4 4).2 (by decide)) (by decide) rfl
  have t13 : (ordAw E [a, b, c, d] [2, 3, 0, 1]).getD 0 0 = 48 * mar E a (0 + c + d) := ordAw_at (p := 2) ((ordTo_dec [2, 3, 0, 1] 4 4).2 (by decide)) (by decide) rfl
  have t14 : (ordAw E [a, b, c, d] [2, 0, 3, 1]).getD 0 0 = 48 * mar E a (0 + c) := ordAw_at (p := 1) ((ordTo_dec [2, 0, 3, 1] 4 4).2 (by decide)) (by decide) rfl
  have t15 : (ordAw E [a, b, c, d] [2, 0, 1, 3]).getD 0 0 = 48 * mar E a (0 + c) := ordAw_at (p := 1) ((ordTo_dec [2, 0, 1, 3] 4 4).2 (by decide)) (by decide) rfl
  have t16 : (ordAw E [a, b, c, d] [3, 0, 2, 1]).getD 0 0 = 48 * mar E a (0 + d) := ordAw_at (p := 1) ((ordTo_dec [3, 0, 2, 1] 4 4).2 (by decide)) (by decide) rfl
  have t17 : (ordAw E [a, b, c, d] [0, 3, 2, 1]).getD 0 0 = 48 * mar E a (0) := ordAw_at (p := 0) ((ordTo_dec [0, 3, 2, 1] 4 4).2 (by decide)) (by decide) rfl
  have t18 : (ordAw E [a, b, c, d] [0, 2, 3, 1]).getD 0 0 = 48 * mar E a (0) := ordAw_at (p := 0) ((ordTo_dec [0, 2, 3, 1] 4 4).2 (by decide)) (by decide) rfl
  have t19 : (ordAw E [a, b, c, d] [0, 2, 1, 3]).getD 0 0 = 48 * mar E a (0) := ordAw_at (p := 0) ((ordTo_dec [0, 2, 1, 3] 4 4).2 (by decide)) (by decide) rfl
  have t20 : (ordAw E [a, b, c, d] [3, 0, 1, 2]).getD 0 0 = 48 * mar E a (0 + d) := ordAw_at (p := 1) ((ordTo_dec [3, 0, 1, 2] 4 4).2 (by decide)) (by decide) rfl
  have t21 : (ordAw E [a, b, c, d] [0, 3, 1, 2]).getD 0 0 = 48 * mar E a (0) := ordAw_at (p := 0) ((ordTo_dec [0, 3, 1, 2] 4 4).2 (by decide)) (by decide) rfl
  have t22 : (ordAw E [a, b, c, d] [0, 1, 3, 2]).getD 0 0 = 48 * mar E a (0) := ordAw_at (p := 0) ((ordTo_dec [0, 1, 3, 2] 4 4).2 (by decide)) (by decide) rfl
  have t23 : (ordAw E [a, b, c, d] [0, 1, 2, 3]).getD 0 0 = 48 * mar E a (0) := ordAw_at (p := 0) ((ordTo_dec [0, 1, 2, 3] 4 4).2 (by decide)) (by decide) rfl
  have r0 : 0 + c + d + b = 0 + b + c + d := by omega
  have r1 : 0 + c + b = 0 + b + c := by omega
  have r2 : 0 + b + d + c = 0 + b + c + d := by omega
  have r3 : 0 + d + b = 0 + b + d := by omega
  have r4 : 0 + d + c = 0 + c + d := by omega
  simp only [perms, List.map_cons, List.map_nil, List.sum_cons, List.sum_nil, shp, t0, t1, t2, t3, t4, t5, t6, t7, t8, t9, t10, t11, t12, t13, t14, t15, t16, t17, t18, t19, t20, t21, t22, t23, r0, r1, r2, r3, r4]
  simp only [Nat.zero_add, Nat.reduceAdd, fac_0, fac_1, fac_2, fac_3]
  omega
theorem ordTot_41 {E a b c d : Int} : ((perms 4).map fun os => (ordAw E [a, b, c, d] os).getD 1 0).sum = 48 * shp E b ([a, c, d] : List Int) 0 0 0 := by
  have t0 : (ordAw E [a, b, c, d] [3, 2, 1, 0]).getD 1 0 = 48 * mar E b (0 + d + c) := ordAw_at (p := 2) ((ordTo_dec [3, 2, 1, 0] 4 4).2 (by decide)) (by decide) rfl
  have t1 : (ordAw E [a, b, c, d] [2, 3, 1, 0]).getD 1 0 = 48 * mar E b (0 + c + d) := ordAw_at (p := 2) ((ordTo_dec [2, 3, 1, 0] 4 4).2 (by decide)) (by decide) rfl
  have t2 : (ordAw E [a, b, c, d] [2, 1, 3, 0]).getD 1 0 = 48 * mar E b (0 + c) := ordAw_at (p := 1) ((ordTo_dec [2, 1, 3, 0] 4 4).2 (by decide)) (by decide) rfl
  have t3 : (ordAw E [a, b, c, d] [2, 1, 0, 3]).getD 1 0 = 48 * mar E b (0 + c) := ordAw_at (p := 1) ((ordTo_dec [2, 1, 0, 3] 4 4).2 (by decide)) (by decide) rfl
  have t4 : (ordAw E [a, b, c, d] [3, 1, 2, 0]).getD 1 0 = 48 * mar E b (0 + d) := ordAw_at (p := 1) ((ordTo_dec [3, 1, 2, 0] 4 4).2 (by decide)) (by decide) rfl
  have t5 : (ordAw E [a, b, c, d] [1, 3, 2, 0]).getD 1 0 = 48 * mar E b (0) := ordAw_at (p := 0) ((ordTo_dec [1, 3, 2, 0] 4 4).2 (by decide)) (by decide) rfl
  have t6 : (ordAw E [a, b, c, d] [1, 2, 3, 0]).getD 1 0 = 48 * mar E b (0) := ordAw_at (p := 0) ((ordTo_dec [1, 2, 3, 0] 4 4).2 (by decide)) (by decide) rfl
  have t7 : (ordAw E [a, b, c, d] [1, 2, 0, 3]).getD 1 0 = 48 * mar E b (0) := ordAw_at (p := 0) ((ordTo_dec [1, 2, 0, 3] 4 4).2 (by decide)) (by decide) rfl
  have t8 : (ordAw E [a, b, c, d] [3, 1, 0, 2]).getD 1 0 = 48 * mar E b (0 + d) := ordAw_at (p := 1) ((ordTo_dec [3, 1, 0, 2] 4 4).2 (by decide)) (by decide) rfl
  have t9 : (ordAw E [a, b, c, d] [1, 3, 0, 2]).getD 1 0 = 48 * mar E b (0) := ordAw_at (p := 0) ((ordTo_dec [1, 3, 0, 2] 4 4).2 (by decide)) (by decide) rfl
  have t10 : (ordAw E [a, b, c, d] [1, 0, 3, 2]).getD 1 0 = 48 * mar E b (0) := ordAw_at (p := 0) ((ordTo_dec [1, 0, 3, 2] 4 4).2 (by decide)) (by decide) rfl
  have t11 : (ordAw E [a, b, c, d] [1, 0, 2, 3]).getD 1 0 = 48 * mar E b (0) := ordAw_at (p := 0) ((ordTo_dec [1, 0, 2, 3] 4 4).2 (by decide)) (by decide) rfl
  have t12 : (ordAw E [a, b, c, d] [3, 2, 0, 1]).getD 1 0 = 48 * mar E b (0 + d + c + a) := ordAw_at (p := 3) ((ordTo_dec [3, 2, 0, 1] 4 4).2 (by decide)) (by decide) rfl
  have t13 : (ordAw E [a, b, c, d] [2, 3, 0, 1]).getD 1 0 = 48 * mar E b (0 + c + d + a) := ordAw_at (p := 3) ((ordTo_dec [2, 3, 0, 1] 4 4).2 (by decide)) (by decide) rfl
  have t14 : (ordAw E [a, b, c, d] [2, 0, 3, 1]).getD 1 0 = 48 * mar E b (0 + c + a + d) := ordAw_at (p := 3) ((ordTo_dec [2, 0, 3, 1] 4 4).2 (by decide)) (by decide) rfl
  have t15 : (ordAw E [a, b, c, d] [2, 0, 1, 3]).getD 1 0 = 48 * mar E b (0 + c + a) := ordAw_at (p := 2) ((ordTo_dec [2, 0, 1, 3] 4 4).2 (by decide)) (by decide) rfl
  have t16 : (ordAw E [a, b, c, d] [3, 0, 2, 1]).getD 1 0 = 48 * mar E b (0 + d + a + c) := ordAw_at (p := 3) ((ordTo_dec [3, 0, 2, 1] 4 4).2 (by decide)) (by decide) rfl
  have t17 : (ordAw E [a, b, c, d] [0, 3, 2, 1]).getD 1 0 = 48 * mar E b (0 + a + d + c) := ordAw_at (p := 3) ((ordTo_dec [0, 3, 2, 1] 4 4).2 (by decide)) (by decide) rfl
  have t18 : (ordAw E [a, b, c, d] [0, 2, 3, 1]).getD 1 0 = 48 * mar E b (0 + a + c + d) := ordAw_at (p := 3) ((ordTo_dec [0, 2, 3, 1] 4 4).2 (by decide)) (by decide) rfl
  have t19 : (ordAw E [a, b, c, d] [0, 2, 1, 3]).getD 1 0 = 48 * mar E b (0 + a + c) := ordAw_at (p := 2) ((ordTo_dec [0, 2, 1, 3] 4 4).2 (by decide)) (by decide) rfl
  have t20 : (ordAw E [a, b, c, d] [3, 0, 1, 2]).getD 1 0 = 48 * mar E b (0 + d + a) := ordAw_at (p := 2) ((ordTo_dec [3, 0, 1, 2] 4 4).2 (by decide)) (by decide) rfl
  have t21 : (ordAw E [a, b, c, d] [0, 3, 1, 2]).getD 1 0 = 48 * mar E b (0 + a + d) := ordAw_at (p := 2) ((ordTo_dec [0, 3, 1, 2] 4 4).2 (by decide)) (by decide) rfl
  have t22 : (ordAw E [a, b, c, d] [0, 1, 3, 2]).getD 1 0 = 48 * mar E b (0 + a) := ordAw_at (p := 1) ((ordTo_dec [0, 1, 3, 2] 4 4).2 (by decide)) (by decide) rfl
  have t23 : (ordAw E [a, b, c, d] [0, 1, 2, 3]).getD 1 0 = 48 * mar E b (0 + a) := ordAw_at (p := 1) ((ordTo_dec [0, 1, 2, 3] 4 4).2 (by decide)) (by decide) rfl
  have r0 : 0 + d + c = 0 + c + d := by omega
  have r1 : 0 + c + d + a = 0 + a + c + d := by omega
  have r2 : 0 + c + a = 0 + a + c := by omega
  have r3 : 0 + a + d + c = 0 + a + c + d := by omega
  have r4 : 0 + d + a = 0 + a + d := by omega
  simp only [perms, List.map_cons, List.map_nil, List.sum_cons, List.sum_nil, shp, t0, t1, t2, t3, t4, t5, t6, t7, t8, t9, t10, t11, t12, t13, t14, t15, t16, t17, t18, t19, t20, t21, t22, t23, r0, r1, r2, r3, r4]
  simp only [Nat.zero_add, Nat.reduceAdd, fac_0, fac_1, fac_2, fac_3]
  omega
theorem ordTot_42 {E a b c d : Int} : ((perms 4).map fun os => (ordAw E [a, b, c, d] os).getD 2 0).sum = 48 * shp E c ([a, b, d] : List Int) 0 0 0 := by
  have t0 : (ordAw E [a, b, c, d] [3, 2, 1, 0]).getD 2 0 = 48 * mar E c (0 + d) := ordAw_at (p := 1) ((ordTo_dec [3, 2, 1, 0] 4 4).2 (by decide)) (by decide) rfl
  have t1 : (ordAw E [a, b, c, d] [2, 3, 1, 0]).getD 2 0 = 48 * mar E c (0) := ordAw_at (p := 0) ((ordTo_dec [2, 3, 1, 0] 4 4).2 (by decide)) (by decide) rfl
  have t2 : (ordAw E [a, b, c, d] [2, 1, 3, 0]).getD 2 0 = 48 * mar E c (0) := ordAw_at (p := 0) ((ordTo_dec [2, 1, 3, 0] 4 4).2 (by decide)) (by decide) rfl
  have t3 : (ordAw E [a, b, c, d] [2, 1, 0, 3]).getD 2 0 = 48 * mar E c (0) := ordAw_at (p := 0) ((ordTo_dec [2, 1, 0, 3] 4 4).2 (by decide)) (by decide) rfl
  have t4 : (ordAw E [a, b, c, d] [3, 1, 2, 0]).getD 2 0 = 48 * mar E c (0 + d + b) := ordAw_at (p := 2) ((ordTo_dec [3, 1, 2, 0] 4 4).2 (by decide)) (by decide) rfl
  have t5 : (ordAw E [a, b, c, d] [1, 3, 2, 0]).getD 2 0 = 48 * mar E c (0 + b + d) := ordAw_at (p := 2) ((ordTo_dec [1, 3, 2, 0] 4 4).2 (by decide)) (by decide) rfl
  have t6 : (ordAw E [a, b, c, d] [1, 2, 3, 0]).getD 2 0 = 48 * mar E c (0 + b) := ordAw_at (p := 1) ((ordTo_dec [1, 2, 3, 0] 4 4).2 (by decide)) (by decide) rfl
  have t7 : (ordAw E [a, b, c, d] [1, 2, 0, 3]).getD 2 0 = 48 * mar E c (0 + b) := ordAw_at (p := 1) ((ordTo_dec [1, 2, 0, 3] 4 4).2 (by decide)) (by decide) rfl
  have t8 : (ordAw E [a, b, c, d] [3, 1, 0, 2]).getD 2 0 = 48 * mar E c (0 + d + b + a) := ordAw_at (p := 3) ((ordTo_dec [3, 1, 0, 2] 4 4).2 (by decide)) (by decide) rfl
  have t9 : (ordAw E [a, b, c, d] [1, 3, 0, 2]).getD 2 0 = 48 * mar E c (0 + b + d + a) := ordAw_at (p := 3) ((ordTo_dec [1, 3, 0, 2] 4 4).2 (by decide)) (by decide) rfl
  have t10 : (ordAw E [a, b, c, d] [1, 0, 3, 2]).getD 2 0 = 48 * mar E c (0 + b + a + d) := ordAw_at (p := 3) ((ordTo_dec [1, 0, 3, 2] 4 4).2 (by decide)) (by decide) rfl
  have t11 : (ordAw E [a, b, c, d] [1, 0, 2, 3]).getD 2 0 = 48 * mar E c (0 + b + a) := ordAw_at (p := 2) ((ordTo_dec [1, 0, 2, 3] 4 4).2 (by decide)) (by decide) rfl
  have t12 : (ordAw E [a, b, c, d] [3, 2, 0, 1]).getD 2 0 = 48 * mar E c (0 + d) := ordAw_at (p := 1) ((ordTo_dec [3, 2, 0, 1] 4 4).2 (by decide)) (by decide) rfl
  have t13 : (ordAw E [a, b, c, d] [2, 3, 0, 1]).getD 2 0 = 48 * mar E c (0) := ordAw_at (p := 0) ((ordTo_dec [2, 3, 0, 1] 4 4).2 (by decide)) (by decide) rfl
  have t14 : (ordAw E [a, b, c, d] [2, 0, 3, 1]).getD 2 0 = 48 * mar E c (0) := ordAw_at (p := 0) ((ordTo_dec [2, 0, 3, 1] 4 4).2 (by decide)) (by decide) rfl
  have t15 : (ordAw E [a, b, c, d] [2, 0, 1, 3]).getD 2 0 = 48 * mar E c (0) := ordAw_at (p := 0) ((ordTo_dec [2, 0, 1, 3] 4 4).2 (by decide)) (by decide) rfl
  have t16 : (ordAw E [a, b, c, d] [3, 0, 2, 1]).getD 2 0 = 48 * mar E c (0 + d + a) := ordAw_at (p := 2) ((ordTo_dec [3, 0, 2, 1] 4 4).2 (by decide)) (by decide) rfl
  have t17 : (ordAw E [a, b, c, d] [0, 3, 2, 1]).getD 2 0 = 48 * mar E c (0 + a + d) := ordAw_at (p := 2) ((ordTo_dec [0, 3, 2, 1] 4 4).2 (by decide)) (by decide) rfl
  have t18 : (ordAw E [a, b, c, d] [0, 2, 3, 1]).getD 2 0 = 48 * mar E c (0 + a) := ordAw_at (p := 1) ((ordTo_dec [0, 2, 3, 1] 4 4).2 (by decide)) (by decide) rfl
  have t19 : (ordAw E [a, b, c, d] [0, 2, 1, 3]).getD 2 0 = 48 * mar E c (0 + a) := ordAw_at (p := 1) ((ordTo_dec [0, 2, 1, 3] 4 4).2 (by decide)) (by decide) rfl
  have t20 : (ordAw E [a, b, c, d] [3, 0, 1, 2]).getD 2 0 = 48 * mar E c (0 + d + a + b) := ordAw_at (p := 3) ((ordTo_dec [3, 0, 1, 2] 4 4).2 (by decide)) (by decide) rfl
  have t21 : (ordAw E [a, b, c, d] [0, 3, 1, 2]).getD 2 0 = 48 * mar E c (0 + a + d + b) := ordAw_at (p := 3) ((ordTo_dec [0, 3, 1, 2] 4 4).2 (by decide)) (by decide) rfl
  have t22 : (ordAw E [a, b, c, d] [0, 1, 3, 2]).getD 2 0 = 48 * mar E c (0 + a + b + d) := ordAw_at (p := 3) ((ordTo_dec [0, 1, 3, 2] 4 4).2 (by decide)) (by decide) rfl
  have t23 : (ordAw E [a, b, c, d] [0, 1, 2, 3]).getD 2 0 = 48 * mar E c (0 + a + b) := ordAw_at (p := 2) ((ordTo_dec [0, 1, 2, 3] 4 4).2 (by decide)) (by decide) rfl
  have r0 : 0 + d + b = 0 + b + d := by omega
  have r1 : 0 + b + d + a = 0 + a + b + d := by omega
  have r2 : 0 + b + a = 0 + a + b := by omega
  have r3 : 0 + d + a = 0 + a + d := by omega
  have r4 : 0 + a + d + b = 0 + a + b + d := by omega
  simp only [perms, List.map_cons, List.map_nil, List.sum_cons, List.sum_nil, shp, t0, t1, t2, t3, t4, t5, t6, t7, t8, t9, t10, t11, t12, t13, t14, t15, t16, t17, t18, t19, t20, t21, t22, t23, r0, r1, r2, r3, r4]
  simp only [Nat.zero_add, Nat.reduceAdd, fac_0, fac_1, fac_2, fac_3]
  omega
theorem ordTot_43 {E a b c d : Int} : ((perms 4).map fun os => (ordAw E [a, b, c, d] os).getD 3 0).sum = 48 * shp E d ([a, b, c] : List Int) 0 0 0 := by
  have t0 : (ordAw E [a, b, c, d] [3, 2, 1, 0]).getD 3 0 = 48 * mar E d (0) := ordAw_at (p := 0) ((ordTo_dec [3, 2, 1, 0] 4 4).2 (by decide)) (by decide) rfl
  have t1 : (ordAw E [a, b, c, d] [2, 3, 1, 0]).getD 3 0 = 48 * mar E d (0 + c) := ordAw_at (p := 1) ((ordTo_dec [2, 3, 1, 0] 4 4).2 (by decide)) (by decide) rfl
  have t2 : (ordAw E [a, b, c, d] [2, 1, 3, 0]).getD 3 0 = 48 * mar E d (0 + c + b) := ordAw_at (p := 2) ((ordTo_dec [2, 1, 3, 0] 4 4).2 (by decide)) (by decide) rfl
  have t3 : (ordAw E [a, b, c, d] [2, 1, 0, 3]).getD 3 0 = 48 * mar E d (0 + c + b + a) := ordAw_at (p := 3) ((ordTo_dec [2, 1, 0, 3] 4 4).2 (by decide)) (by decide) rfl
  have t4 : (ordAw E [a, b, c, d] [3, 1, 2, 0]).getD 3 0 = 48 * mar E d (0) := ordAw_at (p := 0) ((ordTo_dec [3, 1, 2, 0] 4 4).2 (by decide)) (by decide) rfl
  have t5 : (ordAw E [a, b, c, d] [1, 3, 2, 0]).getD 3 0 = 48 * mar E d (0 + b) := ordAw_at (p := 1) ((ordTo_dec [1, 3, 2, 0] 4 4).2 (by decide)) (by decide) rfl
  have t6 : (ordAw E [a, b, c, d] [1, 2, 3, 0]).getD 3 0 = 48 * mar E d (0 + b + c) := ordAw_at (p := 2) ((ordTo_dec [1, 2, 3, 0] 4 4).2 (by decide)) (by decide) rfl
  have t7 : (ordAw E [a, b, c, d] [1, 2, 0, 3]).getD 3 0 = 48 * mar E d (0 + b + c + a) := ordAw_at (p := 3) ((ordTo_dec [1, 2, 0, 3] 4 4).2 (by decide)) (by decide) rfl
  have t8 : (ordAw E [a, b, c, d] [3, 1, 0, 2]).getD 3 0 = 48 * mar E d (0) := ordAw_at (p := 0) ((ordTo_dec [3, 1, 0, 2] 4 4).2 (by decide)) (by decide) rfl
  have t9 : (ordAw E [a, b, c, d] [1, 3, 0, 2]).getD 3 0 = 48 * mar E d (0 + b) := ordAw_at (p := 1) ((ordTo_dec [1, 3, 0, 2] 4 4).2 (by decide)) (by decide) rfl
  have t10 : (ordAw E [a, b, c, d] [1, 0, 3, 2]).getD 3 0 = 48 * mar E d (0 + b + a) := ordAw_at (p := 2) ((ordTo_dec [1, 0, 3, 2] 4 4).2 (by decide)) (by decide) rfl
  have t11 : (ordAw E [a, b, c, d] [1, 0, 2, 3]).getD 3 0 = 48 * mar E d (0 + b + a + c) := ordAw_at (p := 3) ((ordTo_dec [1, 0, 2, 3] 4 4).2 (by decide)) (by decide) rfl
  have t12 : (ordAw E [a, b, c, d] [3, 2, 0, 1]).getD 3 0 = 48 * mar E d (0) := ordAw_at (p := 0) ((ordTo_dec [3, 2, 0, 1] 4 4).2 (by decide)) (by decide) rfl
  have t13 : (ordAw E [a, b, c, d] [2, 3, 0, 1]).getD 3 0 = 48 * mar E d (0 + c) := ordAw_at (p := 1) ((ordTo_dec [2, 3, 0, 1] 4 4).2 (by decide)) (by decide) rfl
  have t14 : (ordAw E [a, b, c, d] [2, 0, 3, 1]).getD 3 0 = 48 * mar E d (0 + c + a) := ordAw_at (p := 2) ((ordTo_dec [2, 0, 3, 1] 4 4).2 (by decide)) (by decide) rfl
  have t15 : (ordAw E [a, b, c, d] [2, 0, 1, 3]).getD 3 0 = 48 * mar E d (0 + c + a + b) := ordAw_at (p := 3) ((ordTo_dec [2, 0, 1, 3] 4 4).2 (by decide)) (by decide) rfl
  have t16 : (ordAw E [a, b, c, d] [3, 0, 2, 1]).getD 3 0 = 48 * mar E d (0) := ordAw_at (p := 0) ((ordTo_dec [3, 0, 2, 1] 4 4).2 (by decide)) (by decide) rfl
  have t17 : (ordAw E [a, b, c, d] [0, 3, 2, 1]).getD 3 0 = 48 * mar E d (0 + a) := ordAw_at (p := 1) ((ordTo_dec [0, 3, 2, 1] 4 4).2 (by decide)) (by decide) rfl
  have t18 : (ordAw E [a, b, c, d] [0, 2, 3, 1]).getD 3 0 = 48 * mar E d (0 + a + c) := ordAw_at (p := 2) ((ordTo_dec [0, 2, 3, 1] 4 4).2 (by decide)) (by decide) rfl
  have t19 : (ordAw E [a, b, c, d] [0, 2, 1, 3]).getD 3 0 = 48 * mar E d (0 + a + c + b) := ordAw_at (p := 3) ((ordTo_dec [0, 2, 1, 3] 4 4).2 (by decide)) (by decide) rfl
  have t20 : (ordAw E [a, b, c, d] [3, 0, 1, 2]).getD 3 0 = 48 * mar E d (0) := ordAw_at (p := 0) ((ordTo_dec [3, 0, 1, 2] 4 4).2 (by decide)) (by decide) rfl
  have t21 : (ordAw E [a, b, c, d] [0, 3, 1, 2]).getD 3 0 = 48 * mar E d (0 + a) := ordAw_at (p := 1) ((ordTo_dec [0, 3, 1, 2] 4 4).2 (by decide)) (by decide) rfl
  have t22 : (ordAw E [a, b, c, d] [0, 1, 3, 2]).getD 3 0 = 48 * mar E d (0 + a + b) := ordAw_at (p := 2) ((ordTo_dec [0, 1, 3, 2] 4 4).2 (by decide)) (by decide) rfl
  have t23 : (ordAw E [a, b, c, d] [0, 1, 2, 3]).getD 3 0 = 48 * mar E d (0 + a + b + c) := ordAw_at (p := 3) ((ordTo_dec [0, 1, 2, 3] 4 4).2 (by decide)) (by decide) rfl
  have r0 : 0 + c + b = 0 + b + c := by omega
  have r1 : 0 + b + c + a = 0 + a + b + c := by omega
  have r2 : 0 + b + a = 0 + a + b := by omega
  have r3 : 0 + c + a = 0 + a + c := by omega
  have r4 : 0 + a + c + b = 0 + a + b + c := by omega
  simp only [perms, List.map_cons, List.map_nil, List.sum_cons, List.sum_nil, shp, t0, t1, t2, t3, t4, t5, t6, t7, t8, t9, t10, t11, t12, t13, t14, t15, t16, t17, t18, t19, t20, t21, t22, t23, r0, r1, r2, r3, r4]
  simp only [Nat.zero_add, Nat.reduceAdd, fac_0, fac_1, fac_2, fac_3]
  omega

end Go.Proofs.Ytbegdcnljafloaa
