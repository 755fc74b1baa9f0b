/-
  Chapter 6, the given package's functions: what a set is worth, the core, misses, orders of rows. Premises: lengths that fit.
-/
import Derived.Test.YtbegdcnljafloaaGB
import Derived.Test.YtbegdcnljafloaaGrow
import Derived.BigQuiet
import Derived.Deep.Cut
namespace Go.Proofs.Ytbegdcnljafloaa
open Go.RowKit

/-- What the people outside a set claim, of the first k; and what those of a set have. -/
def outSum (xs : List Int) (s : Int) : Nat → Int
  | 0 => 0
  | k + 1 => outSum xs s k + (if s / 2 ^ k % 2 = 0 then xs.getD k 0 else 0)
def inSum (xs : List Int) (s : Int) : Nat → Int
  | 0 => 0
  | k + 1 => inSum xs s k + (if s / 2 ^ k % 2 = 1 then xs.getD k 0 else 0)
/-- What a set is worth. -/
def worth (E : Int) (xs : List Int) (s : Int) : Int := max (E - outSum xs s xs.length) 0
theorem part_bd (M : Int) (hM : 0 ≤ M) (xs : List Int) (f : Nat → Int) (hf : ∀ k, k < xs.length → (f (k + 1) = f k + xs.getD k 0 ∨ f (k + 1) = f k)) (h0 : f 0 = 0) (hx : ∀ k, k < xs.length → -M ≤ xs.getD k 0 ∧ xs.getD k 0 ≤ M) : ∀ k, k ≤ xs.length → -(M * k) ≤ f k ∧ f k ≤ M * k
  | 0, _ => by simp [h0]
  | k + 1, h => by
    have e := part_bd M hM xs f hf h0 hx k (by omega)
    have e1 := hx k (by omega)
    have e2 : M * ((k + 1 : Nat) : Int) = M * k + M := by rw [Int.natCast_add, Int.mul_add]; simp
    rw [e2]
    rcases hf k (by omega) with e3 | e3 <;> rw [e3] <;> omega
theorem pow_bd2 {n : Nat} (h : 1 ≤ n) : 2 ≤ (2 : Int) ^ n := by
  obtain ⟨m, rfl⟩ : ∃ m, n = m + 1 := ⟨n - 1, by omega⟩
  rw [Int.pow_succ]
  have e : 0 < (2 : Int) ^ m := Int.pow_pos (by omega)
  omega
theorem case_getD {E : Int} {xs : List Int} (h : caseOkB E xs = true) (k : Nat) (hk : k < xs.length) : -2400 ≤ xs.getD k 0 ∧ xs.getD k 0 ≤ 2400 := by
  rw [getD_of_lt xs k hk]; have e := case_at h k hk; omega
theorem pow_bd {n : Nat} (h : n ≤ 4) : 1 ≤ (2 : Int) ^ n ∧ (2 : Int) ^ n ≤ 16 := by
  rcases (show n = 0 ∨ n = 1 ∨ n = 2 ∨ n = 3 ∨ n = 4 from by omega) with rfl | rfl | rfl | rfl | rfl <;> simp
theorem outSum_bd {xs : List Int} (h4 : xs.length ≤ 5) (hx : ∀ k, k < xs.length → -2400 ≤ xs.getD k 0 ∧ xs.getD k 0 ≤ 2400) (s : Int) (k : Nat) (hk : k ≤ xs.length) : -12000 ≤ outSum xs s k ∧ outSum xs s k ≤ 12000 := by
  have e := part_bd 2400 (by omega) xs (outSum xs s) (fun k _ => by simp only [outSum]; split <;> simp) rfl hx k hk
  omega
theorem inSum_bd {xs : List Int} (h4 : xs.length ≤ 5) (hx : ∀ k, k < xs.length → -2400 ≤ xs.getD k 0 ∧ xs.getD k 0 ≤ 2400) (s : Int) (k : Nat) (hk : k ≤ xs.length) : -12000 ≤ inSum xs s k ∧ inSum xs s k ≤ 12000 := by
  have e := part_bd 2400 (by omega) xs (inSum xs s) (fun k _ => by simp only [inSum]; split <;> simp) rfl hx k hk
  omega


/-- What WorthOf returns. -/
def worthOf (E : Int) (xs : List Int) (s : Int) : Int := if caseOkB E xs = true ∧ 0 ≤ s ∧ s < 2 ^ xs.length then worth E xs s else -1

/-- A row that no set can better. -/
def CoreAt (E : Int) (xs ys : List Int) (s : Nat) : Prop := 48 * worth E xs (s : Int) ≤ inSum ys (s : Int) ys.length
def InRow (M : Int) (ys : List Int) (k : Nat) : Prop := 0 ≤ ys.getD k 0 ∧ ys.getD k 0 ≤ M
def Core (E : Int) (xs ys : List Int) : Prop := caseOkB E xs = true ∧ ys.length = xs.length ∧ (∀ k, k < ys.length → InRow (48 * xs.sum) ys k) ∧ (∀ s : Nat, (s : Int) < 2 ^ ys.length → CoreAt E xs ys s) ∧ ys.sum = 48 * E
noncomputable def coreB (E : Int) (xs ys : List Int) : Bool := @decide (Core E xs ys) (Classical.propDecidable _)
theorem coreB_iff (E : Int) (xs ys : List Int) : coreB E xs ys = true ↔ Core E xs ys := by simp [coreB]
theorem coreB_no {E : Int} {xs ys : List Int} (h : ¬ Core E xs ys) : coreB E xs ys = false := by simp [coreB, h]
theorem inrow_bd {E : Int} {xs ys : List Int} (h : ∀ j, j < ys.length → InRow (48 * xs.sum) ys j) (hb : 0 < xs.length ∧ xs.length ≤ 4 ∧ 0 ≤ E ∧ E ≤ xs.sum ∧ xs.sum ≤ 48) : ∀ k, k < ys.length → -2400 ≤ ys.getD k 0 ∧ ys.getD k 0 ≤ 2400 := fun k hk => by
  have e := h k hk; unfold InRow at e; omega
theorem inrow_small {ys : List Int} (h4 : ys.length ≤ 4) (h : ∀ k, k < ys.length → -2400 ≤ ys.getD k 0 ∧ ys.getD k 0 ≤ 2400) : Small ys := ⟨by omega, fun y hy => by
  obtain ⟨j, hj, rfl⟩ := List.getElem_of_mem hy
  have e := h j hj; rw [getD_of_lt ys j hj] at e; omega⟩
theorem worth_bd {E : Int} {xs : List Int} (h : caseOkB E xs = true) (s : Int) : 0 ≤ worth E xs s ∧ worth E xs s ≤ 48 := by
  have h1 := caseOk_bd h
  have h2 : ∀ k, k ≤ xs.length → 0 ≤ outSum xs s k := fun k => by
    induction k with
    | zero => intro _; exact Int.le_refl _
    | succ k ih =>
      intro hk
      have e := ih (by omega)
      have e1 := case_at h k (by omega)
      simp only [outSum]
      split
      · rw [getD_of_lt xs k (by omega)]; omega
      · omega
  have h3 := h2 xs.length (Nat.le_refl _)
  unfold worth; omega

/-- The first k numbers are alike. -/
def AlikeTo (xs ys : List Int) (k : Nat) : Prop := ∀ j, j < k → xs.getD j 0 = ys.getD j 0
def ordTo (xs ys : List Int) : Nat → Int
  | 0 => 0
  | k + 1 => if ordTo xs ys k = 0 then (if xs.getD k 0 < ys.getD k 0 then -1 else if ys.getD k 0 < xs.getD k 0 then 1 else 0) else ordTo xs ys k
/-- What RowOrder returns. -/
def rowOrd (xs ys : List Int) : Int := if xs.length = ys.length ∧ xs.length ≤ 16 then ordTo xs ys xs.length else 2
theorem ordTo_stay {xs ys : List Int} {k : Nat} (h : ¬ ordTo xs ys k = 0) : ∀ m, k ≤ m → ordTo xs ys m = ordTo xs ys k := fun m hm => by
  induction m with
  | zero => obtain rfl : k = 0 := by omega
            rfl
  | succ m ih =>
    by_cases e : k = m + 1
    · subst e; rfl
    · have e1 := ih (by omega)
      simp only [ordTo, e1, if_neg h]

/-- What the sets are worth, in the order of their numbers. -/
def worthTo (E : Int) (xs : List Int) (m : Nat) : List Int := (List.range m).map fun (s : Nat) => worth E xs (s : Int)
theorem worthTo_length (E : Int) (xs : List Int) (m : Nat) : (worthTo E xs m).length = m := by simp [worthTo]
theorem worthTo_succ (E : Int) (xs : List Int) (m : Nat) : worthTo E xs (m + 1) = worthTo E xs m ++ [worth E xs (m : Int)] := by simp [worthTo, List.range_succ]
def worthRow (E : Int) (xs : List Int) : List Int := if caseOkB E xs = true then worthTo E xs (2 ^ xs.length) else []

/-- A number put into a row from the greatest one on, behind equal ones. -/
def insD (x : Int) : List Int → List Int
  | [] => [x]
  | y :: ys => if y < x then x :: y :: ys else y :: insD x ys
theorem insD_at {x : Int} : ∀ (l : List Int) (j : Nat), j ≤ l.length → (∀ i, i < j → x ≤ l.getD i 0) → (j < l.length → l.getD j 0 < x) → insD x l = l.take j ++ [x] ++ l.drop j
  | [], j, hj, _, _ => by
    obtain rfl : j = 0 := by simpa using hj
    rfl
  | y :: ys, 0, _, _, h => by
    have e := h (by simp)
    simp only [List.getD_cons_zero] at e
    simp [insD, e]
  | y :: ys, j + 1, hj, h1, h2 => by
    have e := h1 0 (by omega)
    simp only [List.getD_cons_zero] at e
    have r := insD_at ys j (by simpa using hj) (fun i hi => by have e2 := h1 (i + 1) (by omega); simpa using e2) (fun h => by have e2 := h2 (by simpa using h); simpa using e2)
    simp only [insD, if_neg (show ¬ y < x by omega), r, List.take_succ_cons, List.drop_succ_cons, List.cons_append]
theorem insD_length (x : Int) : ∀ l : List Int, (insD x l).length = l.length + 1
  | [] => rfl
  | y :: ys => by
    simp only [insD]; split
    · simp
    · simp [insD_length x ys]
/-- From the greatest one on. -/
def Desc : List Int → Prop
  | [] => True
  | y :: ys => (∀ z ∈ ys, z ≤ y) ∧ Desc ys
theorem insD_mem (x : Int) : ∀ (l : List Int) (z : Int), z ∈ insD x l ↔ z = x ∨ z ∈ l
  | [], z => by simp [insD]
  | y :: ys, z => by
    simp only [insD]; split
    · simp
    · simp only [List.mem_cons, insD_mem x ys z]
      constructor <;> rintro (h | h | h) <;> simp [h]
theorem insD_desc (x : Int) : ∀ l : List Int, Desc l → Desc (insD x l)
  | [], _ => ⟨by simp, trivial⟩
  | y :: ys, h => by
    simp only [insD]; split
    · rename_i hx
      exact ⟨fun z hz => by
        rcases List.mem_cons.1 hz with e | e
        · omega
        · have := h.1 z e; omega, h⟩
    · rename_i hx
      exact ⟨fun z hz => by
        rcases (insD_mem x ys z).1 hz with e | e
        · omega
        · exact h.1 z e, insD_desc x ys h.2⟩
theorem desc_at : ∀ (l : List Int), Desc l → ∀ i j, i ≤ j → j < l.length → l.getD j 0 ≤ l.getD i 0
  | [], _, _, _, _, h => absurd h (by simp)
  | y :: ys, h, 0, 0, _, _ => Int.le_refl _
  | y :: ys, h, 0, j + 1, _, hj => by
    have hj' : j < ys.length := by simpa using hj
    simp only [List.getD_cons_zero, List.getD_cons_succ]
    rw [getD_of_lt ys j hj']
    exact h.1 _ (List.getElem_mem hj')
  | y :: ys, h, i + 1, 0, hij, _ => by omega
  | y :: ys, h, i + 1, j + 1, hij, hj => by
    simp only [List.getD_cons_succ]
    exact desc_at ys h.2 i j (by omega) (by simpa using hj)
/-- What a set misses. -/
def missOf (E : Int) (xs ys : List Int) (s : Nat) : Int := 48 * worth E xs (s : Int) - inSum ys (s : Int) ys.length
/-- What the sets from 1 on and below m miss, from the greatest miss on. -/
def missTo (E : Int) (xs ys : List Int) : Nat → List Int
  | 0 => []
  | m + 1 => if m = 0 then [] else insD (missOf E xs ys m) (missTo E xs ys m)
theorem missTo_length (E : Int) (xs ys : List Int) : ∀ m, (missTo E xs ys m).length = m - 1
  | 0 => rfl
  | m + 1 => by
    simp only [missTo]; split
    · subst_vars; rfl
    · rw [insD_length, missTo_length E xs ys m]; omega
theorem missTo_desc (E : Int) (xs ys : List Int) : ∀ m, Desc (missTo E xs ys m)
  | 0 => trivial
  | m + 1 => by
    simp only [missTo]; split
    · trivial
    · exact insD_desc _ _ (missTo_desc E xs ys m)
noncomputable def missRow (E : Int) (xs ys : List Int) : List Int := if awardsB E xs ys = true then missTo E xs ys (2 ^ ys.length - 1) else []

end Go.Proofs.Ytbegdcnljafloaa
