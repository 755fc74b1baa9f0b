/-
  Passes, the pure mathematics: what each pass brings, what sets of houses are worth, what the orders give. No condition but that the visits are some.
-/
import Derived.Test.YtdbohnaohinieaaRun
namespace Go.Proofs.Ytdbohnaohinieaa
open Go.RowKit

/-- Visits of so many houses. -/
def visB (N : Int) (vs : List Int) : Bool := decide (1 ≤ N ∧ N ≤ 4 ∧ vs.length ≤ 6 ∧ ∀ v ∈ vs, 0 ≤ v ∧ v < 2 ^ N.toNat)
theorem visB_iff (N : Int) (vs : List Int) : visB N vs = true ↔ (1 ≤ N ∧ N ≤ 4 ∧ vs.length ≤ 6 ∧ ∀ v ∈ vs, 0 ≤ v ∧ v < 2 ^ N.toNat) := by simp [visB]
theorem pow16 {n : Nat} (h : n ≤ 4) : 1 ≤ 2 ^ n ∧ 2 ^ n ≤ 16 := by
  rcases (show n = 0 ∨ n = 1 ∨ n = 2 ∨ n = 3 ∨ n = 4 from by omega) with rfl | rfl | rfl | rfl | rfl <;> decide
theorem powI {n : Nat} : ((2 ^ n : Nat) : Int) = (2 : Int) ^ n := by rw [Int.natCast_pow]; rfl
theorem vis_rg {n : Nat} {vs : List Int} (h : visB (n : Int) vs = true) (k : Nat) : 0 ≤ vs.getD k 0 ∧ vs.getD k 0 < 2 ^ n := by
  have e := (visB_iff _ vs).1 h
  have q := pow16 (n := n) (by omega)
  have q2 := powI (n := n)
  by_cases hk : k < vs.length
  · rw [getD_of_lt vs k hk]
    have e2 := e.2.2.2 _ (List.getElem_mem hk)
    rw [Int.toNat_natCast] at e2; exact e2
  · rw [getD_far vs (by omega)]; omega
/-- The houses of a pass. -/
def visAt (vs : List Int) (k : Nat) : Nat := (vs.getD k 0).toNat
theorem visAt_is {n : Nat} {vs : List Int} (h : visB (n : Int) vs = true) (k : Nat) : vs.getD k 0 = (visAt vs k : Int) := by
  have e := vis_rg h k
  unfold visAt; omega
theorem visAt_lt {n : Nat} {vs : List Int} (h : visB (n : Int) vs = true) (k : Nat) : visAt vs k < 2 ^ n := by
  have e := vis_rg h k
  have q2 := powI (n := n)
  unfold visAt; omega
theorem vis_n {n : Nat} {vs : List Int} (h : visB (n : Int) vs = true) : 1 ≤ n ∧ n ≤ 4 ∧ vs.length ≤ 6 := by
  have e := (visB_iff _ vs).1 h; omega

/-! One pass. -/
theorem pop_up (m : Nat) {j : Nat} (hb : m.testBit j = true) : ∀ {n : Nat}, j < n → 1 ≤ pop m n
  | 0, h => absurd h (by omega)
  | n + 1, h => by
    simp only [pop]
    by_cases q : j = n
    · subst q; rw [if_pos hb]; omega
    · have e := pop_up m hb (n := n) (by omega); omega
theorem pop_some {m n : Nat} (h : m < 2 ^ n) (h0 : ¬ m = 0) : 1 ≤ pop m n := by
  obtain ⟨j, hj⟩ := Nat.exists_testBit_of_ne_zero h0
  refine pop_up m hj (Classical.byContradiction fun q => ?_)
  rw [Nat.testBit_lt_two_pow (Nat.lt_of_lt_of_le h (Nat.pow_le_pow_right (by omega) (by omega : n ≤ j)))] at hj
  cases hj
theorem part_p (p : Int) {m : Int} (h1 : 1 ≤ m) (h4 : m ≤ 4) : m * (48 * p / m) = 48 * p := by
  rcases (show m = 1 ∨ m = 2 ∨ m = 3 ∨ m = 4 from by omega) with e | e | e | e <;> subst e <;> omega
theorem part_two (p : Int) {m : Int} (h1 : 1 ≤ m) (h4 : m ≤ 4) : 48 * (2 * p) / m = 2 * (48 * p / m) := by
  rcases (show m = 1 ∨ m = 2 ∨ m = 3 ∨ m = 4 from by omega) with e | e | e | e <;> subst e <;> omega
theorem part_rg {p : Int} (hp : 0 ≤ p ∧ p ≤ 24) {m : Int} (h1 : 1 ≤ m) (h4 : m ≤ 4) : 0 ≤ 48 * p / m ∧ 48 * p / m ≤ 1152 := by
  rcases (show m = 1 ∨ m = 2 ∨ m = 3 ∨ m = 4 from by omega) with e | e | e | e <;> subst e <;> omega
/-- What a pass brings a house. -/
def passOf (p : Int) (n m j : Nat) : Int := if m.testBit j then 48 * p / (pop m n : Int) else 0
theorem passOf_yes {p : Int} {n m j : Nat} (h : m.testBit j = true) : passOf p n m j = 48 * p / (pop m n : Int) := if_pos h
theorem passOf_no {p : Int} {n m j : Nat} (h : m.testBit j = false) : passOf p n m j = 0 := if_neg (by rw [h]; simp)
theorem passOf_rg {p : Int} (hp : 0 ≤ p ∧ p ≤ 24) {n m j : Nat} (hn : n ≤ 4) (hj : j < n) : 0 ≤ passOf p n m j ∧ passOf p n m j ≤ 1152 := by
  by_cases h : m.testBit j = true
  · rw [passOf_yes h]; have e := pop_le m n; have e2 := pop_up m h hj; exact part_rg hp (by omega) (by omega)
  · rw [passOf_no (by simpa using h)]; omega
theorem pop_sum (c : Int) (m : Nat) : ∀ n, sumN (fun j => if m.testBit j then c else 0) n = (pop m n : Int) * c
  | 0 => by simp [sumN, pop]
  | n + 1 => by
    simp only [sumN, pop, pop_sum c m n]
    split
    · rw [Int.natCast_add, Int.add_mul]; simp
    · simp
theorem pass_total {p : Int} {n m : Nat} (hn : n ≤ 4) (hm : m < 2 ^ n) : sumN (passOf p n m) n = if m = 0 then 0 else 48 * p := by
  show sumN (fun j => if m.testBit j then 48 * p / (pop m n : Int) else 0) n = _
  rw [pop_sum]
  by_cases h : m = 0
  · subst h
    rw [if_pos rfl]
    have e : ∀ k, pop 0 k = 0 := fun k => by
      induction k with
      | zero => rfl
      | succ k ih => simp [pop, ih]
    rw [e]; simp
  · rw [if_neg h]; have e := pop_le m n; have e2 := pop_some hm h; exact part_p p (by omega) (by omega)
/-- Whether a pass has visits, all of a set. -/
def inSet (m s : Nat) : Int := if ¬ m = 0 ∧ m &&& s = m then 1 else 0
theorem inSet_rg (m s : Nat) : 0 ≤ inSet m s ∧ inSet m s ≤ 1 := by unfold inSet; split <;> omega
theorem inSet_none (m : Nat) : inSet m 0 = 0 := by
  unfold inSet; rw [if_neg (fun h => h.1 (by have e := h.2; simp at e; omega))]
theorem inSet_fin : ∀ m s t : Fin 16, inSet m.val s.val + inSet m.val t.val ≤ inSet m.val (s.val ||| t.val) + inSet m.val (s.val &&& t.val) := by decide +kernel
theorem inSet_super {m s t : Nat} (hm : m < 16) (hs : s < 16) (ht : t < 16) : inSet m s + inSet m t ≤ inSet m (s ||| t) + inSet m (s &&& t) := inSet_fin ⟨m, hm⟩ ⟨s, hs⟩ ⟨t, ht⟩
theorem inSet_bit {m s j : Nat} (h : inSet m s = 1) (hb : m.testBit j = true) : s.testBit j = true := by
  unfold inSet at h
  split at h
  · rename_i q
    have e : (m &&& s).testBit j = true := by rw [q.2]; exact hb
    rw [Nat.testBit_and, hb] at e; simpa using e
  · omega
theorem inSet_all {m n : Nat} (hm : m < 2 ^ n) : inSet m (2 ^ n - 1) = if m = 0 then 0 else 1 := by
  unfold inSet
  rw [Nat.and_two_pow_sub_one_eq_mod, Nat.mod_eq_of_lt hm]
  by_cases h : m = 0
  · rw [if_neg (fun q => q.1 h), if_pos h]
  · rw [if_pos ⟨h, rfl⟩, if_neg h]
theorem in_set {p : Int} (hp : 0 ≤ p ∧ p ≤ 24) {n m s : Nat} (hn : n ≤ 4) (hm : m < 2 ^ n) : 48 * p * inSet m s ≤ sumN (fun j => if s.testBit j then passOf p n m j else 0) n := by
  have hr := inSet_rg m s
  rcases (show inSet m s = 0 ∨ inSet m s = 1 from by omega) with e | e
  · rw [e, Int.mul_zero]
    exact sumN_nonneg fun j hj => by have q := passOf_rg hp (m := m) hn hj; split <;> omega
  · rw [e, Int.mul_one]
    have h0 : ¬ m = 0 := fun z => by subst z; unfold inSet at e; rw [if_neg (fun q => q.1 rfl)] at e; omega
    have q := pass_total (p := p) hn hm
    rw [if_neg h0] at q
    rw [← q]
    refine Int.le_of_eq (sumN_congr fun j _ => ?_)
    by_cases hb : m.testBit j = true
    · rw [if_pos (inSet_bit e hb)]
    · rw [passOf_no (by simpa using hb)]; split <;> rfl

theorem fnRow_sum' (f : Nat → Int) (n : Nat) : (fnRow n f).sum = sumN f n := by
  rw [list_sumN, fnRow_length]; exact sumN_congr fun k hk => fnRow_getD _ hk

/-! All passes. -/
def passAt (vs : List Int) (p : Int) (n j : Nat) : Int := sumN (fun k => passOf p n (visAt vs k) j) vs.length
def passTo (vs : List Int) (p : Int) (n m j : Nat) : Int := sumN (fun k => passOf p n (visAt vs k) j) m
theorem passTo_rg {vs : List Int} {p : Int} (hp : 0 ≤ p ∧ p ≤ 24) {n j : Nat} (hn : n ≤ 4) (hj : j < n) : ∀ m : Nat, 0 ≤ passTo vs p n m j ∧ passTo vs p n m j ≤ 1152 * m
  | 0 => by simp [passTo, sumN]
  | m + 1 => by
    have e := passTo_rg (vs := vs) hp hn hj m
    have e2 := passOf_rg hp (m := visAt vs m) hn hj
    unfold passTo at e ⊢
    simp only [sumN]; omega
def passR (n : Nat) (vs : List Int) (p : Int) : List Int := fnRow n (passAt vs p n)
theorem passR_length (n : Nat) (vs : List Int) (p : Int) : (passR n vs p).length = n := fnRow_length _ _
def worthP (vs : List Int) (s : Nat) : Int := sumN (fun k => inSet (visAt vs k) s) vs.length
def worthTo' (vs : List Int) (s m : Nat) : Int := sumN (fun k => inSet (visAt vs k) s) m
theorem worthTo'_rg (vs : List Int) (s : Nat) : ∀ m : Nat, 0 ≤ worthTo' vs s m ∧ worthTo' vs s m ≤ m
  | 0 => by simp [worthTo', sumN]
  | m + 1 => by
    have e := worthTo'_rg vs s m
    have e2 := inSet_rg (visAt vs m) s
    unfold worthTo' at e ⊢
    simp only [sumN]; omega
theorem worthP_rg {n : Nat} {vs : List Int} (h : visB (n : Int) vs = true) (s : Nat) : 0 ≤ worthP vs s ∧ worthP vs s ≤ 6 := by
  have e := worthTo'_rg vs s vs.length
  have e2 := vis_n h
  unfold worthTo' at e; unfold worthP; omega
theorem worthP_none (vs : List Int) : worthP vs 0 = 0 := by
  unfold worthP; rw [sumN_congr (g := fun _ => 0) fun k _ => inSet_none _]; exact sumN_zero _
theorem worthP_super {n : Nat} {vs : List Int} (h : visB (n : Int) vs = true) {s t : Nat} (hs : s < 16) (ht : t < 16) : worthP vs s + worthP vs t ≤ worthP vs (s ||| t) + worthP vs (s &&& t) := by
  unfold worthP
  rw [← sumN_add, ← sumN_add]
  refine sumN_each fun k _ => inSet_super ?_ hs ht
  have e := visAt_lt h k
  have e2 := pow16 (n := n) (by have q := vis_n h; omega)
  omega
theorem pass_sum {n : Nat} {vs : List Int} (h : visB (n : Int) vs = true) (p : Int) : (passR n vs p).sum = 48 * p * worthP vs (2 ^ n - 1) := by
  have hn := vis_n h
  unfold passR
  rw [fnRow_sum']
  unfold passAt worthP
  rw [sumN_swap, ← sumN_mul]
  refine sumN_congr fun k _ => ?_
  have e := pass_total (p := p) (n := n) (m := visAt vs k) (by omega) (visAt_lt h k)
  rw [show sumN (fun j => passOf p n (visAt vs k) j) n = sumN (passOf p n (visAt vs k)) n from rfl, e, inSet_all (visAt_lt h k)]
  split <;> omega
theorem inSum_fn (f : Nat → Int) (n s : Nat) : ∀ k, k ≤ n → inSum (fnRow n f) (s : Int) k = sumN (fun j => if s.testBit j then f j else 0) k
  | 0, _ => rfl
  | k + 1, h => by
    rw [in_succ, inSum_fn f n s k (by omega), fnRow_getD _ (by omega)]; rfl
theorem sumN_if (c : Bool) (f : Nat → Int) (m : Nat) : (if c = true then sumN f m else 0) = sumN (fun k => if c = true then f k else 0) m := by
  cases c
  · simp [sumN_zero]
  · simp
theorem pass_set {n : Nat} {vs : List Int} (h : visB (n : Int) vs = true) {p : Int} (hp : 0 ≤ p ∧ p ≤ 24) (s : Nat) : 48 * p * worthP vs s ≤ inSum (passR n vs p) (s : Int) n := by
  have hn := vis_n h
  unfold passR
  rw [inSum_fn _ n s n (Nat.le_refl _)]
  have e : sumN (fun j => if s.testBit j = true then passAt vs p n j else 0) n = sumN (fun k => sumN (fun j => if s.testBit j = true then passOf p n (visAt vs k) j else 0) n) vs.length := by
    rw [← sumN_swap]
    refine sumN_congr fun j _ => ?_
    unfold passAt; exact sumN_if _ _ _
  rw [e]
  unfold worthP
  rw [← sumN_mul]
  exact sumN_each fun k _ => in_set hp (by omega) (visAt_lt h k)
theorem pass_same {vs : List Int} {p : Int} {n k j : Nat} (h : ∀ i, i < vs.length → (visAt vs i).testBit k = (visAt vs i).testBit j) : passAt vs p n k = passAt vs p n j := by
  unfold passAt
  refine sumN_congr fun i hi => ?_
  unfold passOf; rw [h i hi]
theorem pass_twice {vs : List Int} {p : Int} {n j : Nat} (hn : n ≤ 4) (hj : j < n) : passAt vs (2 * p) n j = 2 * passAt vs p n j := by
  unfold passAt
  rw [← sumN_mul]
  refine sumN_congr fun k _ => ?_
  by_cases h : (visAt vs k).testBit j = true
  · rw [passOf_yes h, passOf_yes h]; have e := pop_le (visAt vs k) n; have e2 := pop_up _ h hj; exact part_two p (by omega) (by omega)
  · rw [passOf_no (by simpa using h), passOf_no (by simpa using h)]; rfl
theorem pass_wide (vs : List Int) (p : Int) (n j : Nat) : passAt (vs ++ [0]) p n j = passAt vs p n j := by
  unfold passAt
  rw [List.length_append]
  show sumN _ (vs.length + 1) = _
  simp only [sumN]
  rw [sumN_congr (g := fun k => passOf p n (visAt vs k) j) fun k hk => by rw [show visAt (vs ++ [0]) k = visAt vs k from by unfold visAt; simp only [List.getD]; rw [List.getElem?_append_left hk]]]
  rw [show visAt (vs ++ [0]) vs.length = 0 from by unfold visAt; simp [List.getD], passOf_no (by simp)]; omega
theorem pass_one (v p : Int) (n j : Nat) : passAt [v] p n j = passOf p n v.toNat j := by
  show sumN _ 1 = _
  simp only [sumN]
  rw [show visAt [v] 0 = v.toNat from rfl]; omega

/-! All orders. -/
/-- The set of the first q of an order. -/
def setTo (os : List Int) : Nat → Nat
  | 0 => 0
  | q + 1 => setTo os q ||| 2 ^ (os.getD q 0).toNat
/-- How often i makes a pass whole, of the first q. -/
def joins (m : Nat) (os : List Int) (i : Nat) : Nat → Int
  | 0 => 0
  | q + 1 => joins m os i q + if (os.getD q 0).toNat = i then inSet m (setTo os (q + 1)) - inSet m (setTo os q) else 0
theorem join_fin : ∀ n : Fin 5, ∀ m : Fin 16, ∀ i : Fin 4, i.val < n.val → m.val < 2 ^ n.val → ((perms n.val).map fun os => joins m.val os i.val n.val).sum = if m.val.testBit i.val then fac n.val / (pop m.val n.val : Int) else 0 := by decide +kernel
theorem join_count {n m i : Nat} (hn : n ≤ 4) (hm : m < 2 ^ n) (hi : i < n) : ((perms n).map fun os => joins m os i n).sum = if m.testBit i then fac n / (pop m n : Int) else 0 :=
  join_fin ⟨n, by omega⟩ ⟨m, by have e := pow16 hn; omega⟩ ⟨i, by omega⟩ hi hm
/-- What one brings of the first q of an order. -/
def bringTo (vs : List Int) (p : Int) (os : List Int) (i : Nat) : Nat → Int
  | 0 => 0
  | q + 1 => bringTo vs p os i q + if (os.getD q 0).toNat = i then 48 * p * (worthP vs (setTo os (q + 1)) - worthP vs (setTo os q)) else 0
theorem bring_joins (vs : List Int) (p : Int) (os : List Int) (i : Nat) : ∀ q, bringTo vs p os i q = 48 * p * sumN (fun k => joins (visAt vs k) os i q) vs.length
  | 0 => by simp [bringTo, joins, sumN_zero]
  | q + 1 => by
    simp only [bringTo, joins]
    rw [bring_joins vs p os i q]
    by_cases h : (os.getD q 0).toNat = i
    · rw [if_pos h, ← Int.mul_add]
      congr 1
      unfold worthP
      rw [← sumN_sub, ← sumN_add]
      exact sumN_congr fun k _ => by rw [if_pos h]
    · rw [if_neg h, Int.add_zero]
      congr 1
      exact sumN_congr fun k _ => by rw [if_neg h, Int.add_zero]
theorem fac_passOf {n m j : Nat} (p : Int) (hn : n ≤ 4) (hj : j < n) : 48 * p * (if m.testBit j then fac n / (pop m n : Int) else 0) = fac n * passOf p n m j := by
  by_cases h : m.testBit j = true
  · rw [if_pos h, passOf_yes h]
    have e := pop_le m n
    have e2 := pop_up m h hj
    have e3 : (fac n / (pop m n : Int)) * (pop m n : Int) = fac n := by
      generalize pop m n = M at *
      rcases (show M = 1 ∨ M = 2 ∨ M = 3 ∨ M = 4 from by omega) with rfl | rfl | rfl | rfl <;>
        rcases (show n = 1 ∨ n = 2 ∨ n = 3 ∨ n = 4 from by omega) with rfl | rfl | rfl | rfl <;> first | (exfalso; omega) | decide
    have e4 := part_p p (m := (pop m n : Int)) (by omega) (by omega)
    generalize (pop m n : Int) = M at *
    generalize fac n / M = D at *
    generalize 48 * p / M = C at *
    rw [← e4, ← e3, Int.mul_comm, Int.mul_assoc]
  · rw [if_neg h, passOf_no (by simpa using h)]; simp
theorem bring_total {n : Nat} {vs : List Int} (h : visB (n : Int) vs = true) (p : Int) {i : Nat} (hi : i < n) : ((perms n).map fun os => bringTo vs p os i n).sum = fac n * passAt vs p n i := by
  have hn := vis_n h
  rw [List.map_congr_left (g := fun os => 48 * p * sumN (fun k => joins (visAt vs k) os i n) vs.length) fun os _ => bring_joins vs p os i n]
  rw [list_mul, list_swap (fun os k => joins (visAt vs k) os i n)]
  unfold passAt
  rw [← sumN_mul, ← sumN_mul]
  refine sumN_congr fun k _ => ?_
  rw [join_count (by omega) (visAt_lt h k) hi]
  exact fac_passOf p (by omega) hi
theorem bring_mean {n : Nat} {vs : List Int} (h : visB (n : Int) vs = true) (p : Int) {i : Nat} (hi : i < n) : ((perms n).map fun os => bringTo vs p os i n).sum / ((perms n).length : Int) = passAt vs p n i := by
  have e := fac_pos n
  rw [bring_total h p hi, perms_fac (by have q := vis_n h; omega), Int.mul_ediv_cancel_left _ (by omega)]

end Go.Proofs.Ytdbohnaohinieaa
